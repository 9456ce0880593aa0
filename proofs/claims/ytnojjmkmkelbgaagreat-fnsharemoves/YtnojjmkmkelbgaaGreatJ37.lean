/- The share's goroutines, 8: the names of those of whom something holds (picked). -/
import Derived.Test.YtnojjmkmkelbgaaGreatJ34
import Derived.Test.YtnojjmkmkelbgaaGreatJ26
import Derived.Test.YtnojjmkmkelbgaaGreatKp7
import Derived.Test.YtnojjmkmkelbgaaGreatJ31
namespace Go.Proofs.YtnojjmkmkelbgaaGreat
open Go.Conc Go.ConcN Go.RowKit Go.Conc.Lib Go.ConcR.Gen Go.ConcN.Gen
open Go.ConcR (KK wgBlock WgAt stA smA rd wr mk Payload DC0)

theorem sum_bit (hb : Nat → Bool) : ∀ n k, k < n → (sumTo n (fun j => if hb j then 2 ^ j else 0)).testBit k = hb k
  | 0, k, h => by omega
  | n + 1, k, h => by
    have hlt := sum_bits hb n
    simp only [sumTo]
    by_cases hk : k = n
    · subst hk
      cases hb k with
      | true => rw [Nat.add_comm]; simp [Nat.testBit_two_pow_add_eq, Nat.testBit_lt_two_pow hlt]
      | false => simp [Nat.testBit_lt_two_pow hlt]
    · rw [← sum_bit hb n k (by omega)]
      cases hb n with
      | true => simp only [if_true]; rw [Nat.add_comm, Nat.testBit_two_pow_add_gt (by omega)]
      | false => simp

theorem enterN (a b : Value) : Frame.enter Tryz.prog 40 #[a, b] .normal = bN.at ⟨#[a, b, undef, undef, undef, undef, undef, undef, undef, undef, undef, undef, undef, undef, undef, undef, undef], []⟩ [.code bodyN] := by
  simp [Frame.enter, Frame.at, Tryz.func40, bN, base, bodyN, Tryz.f40]
theorem evL_low {Shun : Loc → Prop} {a : Addr} {B0 : Nat} (hM : a.block < B0) (hs : ¬ Shun (.cell a)) : EvL Shun B0 ⟨.cell a, false, false⟩ := by
  refine ⟨fun x hx h => ?_, by simp, by simp, hM⟩
  simp only [Go.ConcR.ofEvent_cell, MemAct.touch?, Option.some.injEq] at hx
  subst hx
  exact absurd h hs

noncomputable def bP : Frame := base 20
noncomputable def ops1P : Array Oper := match bodyP with | .seq _ (.seq (.region _ o _) _) => o | _ => #[]
def slP (tb : Nat) (fv x5 x9 x10 x11 x12 x13 x14 x15 : Value) : Array Value := #[.pointer (some ⟨tb, 0, none⟩), fv, undef, undef, .slice none 0 0, x5, undef, undef, undef, x9, x10, x11, x12, x13, x14, x15, undef, undef, undef, undef, undef, undef, undef, undef, undef, undef, undef, undef, undef, undef, undef, undef, undef, undef, undef, undef, undef, undef]

section
variable {X : Nat → Prop} {Shun : Loc → Prop} {W : World} {tb n cap : Nat} {ra : Option Addr} {f : FuncId} {bd cp : Array Value} {c : Frame} {cs : List Frame}
set_option maxRecDepth 100000 in
theorem intoP (hX : ShIn Shun X) {τ : Nat → Question → Nat} {d : Nat} (hc : (pzT X W τ d).cell? ⟨tb, 0, none⟩ = some (.slice ra n cap)) :
    Goes Tryz.prog true AtRel (DE (EvL Shun W.heap.size)) (fun g w => ∃ x9 x10 x11 x12 x13 x14, g = G (Frame.enter Tryz.prog 40 #[.int .i64 n, .func (.func f) bd cp] .normal) (bP.at ⟨slP tb (.func (.func f) bd cp) undef x9 x10 x11 x12 x13 x14 undef, []⟩ (.inRegion ops1P [6, 7] :: [.code RP]) :: c :: cs) ∧ AtRel W w) 30
      (G (Frame.enter Tryz.prog 20 #[.pointer (some ⟨tb, 0, none⟩), .func (.func f) bd cp] .normal) (c :: cs)) W := by
  obtain ⟨hc, hx⟩ := pz_cell hc
  have hlt := World.block_lt_of_cell? W _ hc
  have hns : ¬ Shun (.cell ⟨tb, 0, none⟩) := fun h => by obtain ⟨a, e, ha⟩ := hX _ h; cases e; exact hx ha
  have e : Frame.enter Tryz.prog 20 #[.pointer (some ⟨tb, 0, none⟩), .func (.func f) bd cp] .normal = bP.at ⟨#[.pointer (some ⟨tb, 0, none⟩), .func (.func f) bd cp, undef, undef, undef, undef, undef, undef, undef, undef, undef, undef, undef, undef, undef, undef, undef, undef, undef, undef, undef, undef, undef, undef, undef, undef, undef, undef, undef, undef, undef, undef, undef, undef, undef, undef, undef, undef], []⟩ [.code bodyP] := by
    simp [Frame.enter, Frame.at, Tryz.func20, bP, base, bodyP, Tryz.f20]
  rw [e]
  simp only [slP, ops1P, RP, bodyP, Tryz.f20, Option.getD_some]
  have rl : ∀ {V w w₁ : World}, AtRel V w → AtRel w w₁ → AtRel V w₁ := fun h r => atRel_trans _ _ _ h r
  have hF : AtRel W W := atRel_refl W
  u_c stepG_seq rl hF
  u_reg rl hF
  u_op rl hF
  u_c stepG_region_end rl hF
  u_c stepG_seq rl hF
  u_reg rl hF
  u_op rl hF
  u_op rl hF
  u_op rl hF
  u_in rl hF
  refine goes_oper_k rfl rfl (by k_ne) (fun K hK => ?_)
  have hc' : (‹World›).cell? ⟨tb, 0, none⟩ = some (.slice ra n cap) := by obtain ⟨d, rfl⟩ := hF; exact hc
  go_simp
  refine hK _ _ ⟨fun e he => ?_, ?_⟩
  · have hm := mem_listed he
    simp [go_sem, *] at hm
    subst hm
    exact evL_low hlt hns
  clear hK K hc'
  try walk_nrm
  u_op rl hF
  u_op rl hF
  u_in rl hF
  refine goes_call rfl rfl (by k_ne) rfl Tryz.func40 (by kernel_rfl) rfl ⟨fun e he => by simp at he, ?_⟩
  walk_nrmf Tryz.f40
  refine Goes.stop fun w₁ r => ⟨.pointer (some ⟨tb, 0, none⟩), .pointer (some ⟨tb, 0, none⟩), .pointer (some ⟨tb, 0, none⟩), .slice ra n cap, .int .i64 n, .func (.func f) bd cp, ?_, rl hF r⟩
  rw [enterN]
  simp only [bodyN, Tryz.f40, Option.getD_some]
  rfl

set_option maxRecDepth 100000 in
theorem outP {fv x9 x10 x11 x12 x13 x14 s : Value} (w : World) :
    Goes Tryz.prog true AtRel (DE fun _ => False) (fun g w' => g = G (bP.at ⟨slP tb fv s x9 x10 x11 x12 x13 x14 s, []⟩ [.code RP]) (c :: cs) ∧ AtRel w w') 5
      (G (bP.at ((⟨slP tb fv undef x9 x10 x11 x12 x13 x14 undef, []⟩ : Act).put ((ops1P[6]?).bind (·.dst)) s) (.inRegion ops1P [7] :: [.code RP])) (c :: cs)) w := by
  simp only [slP, ops1P, RP, bodyP, Tryz.f20, Option.getD_some]
  have rl : ∀ {V w w₁ : World}, AtRel V w → AtRel w w₁ → AtRel V w₁ := fun h r => atRel_trans _ _ _ h r
  have hF : AtRel w w := atRel_refl w
  walk_nrm
  u_op rl hF
  u_c stepG_region_end rl hF
  exact Goes.stop fun w₁ r => ⟨rfl, rl hF r⟩
end

theorem setNo : SetOk Tryz.prog (fun g => ([] : List Nat).contains g) := setOk_of (by kernel_rfl)
theorem asked_at {Shun : Loc → Prop} {W : World} {n : Nat} {hb : Nat → Bool} {fv : Value} (h : Asked Shun W n hb fv) (d : Nat) : Asked Shun (W.at d) n hb fv :=
  fun p h1 h2 h3 h4 h5 h6 h7 h8 h9 j hj C w hC hW => h p h1 h2 h3 h4 h5 h6 h7 h8 h9 j hj C w hC ⟨hW.tk, hW.low⟩
theorem Aft.below {X : Nat → Prop} {W w : World} (h : Aft X W w) (τ : Nat → Question → Nat) (d : Nat) : Below W.heap.size (pzT X W τ d) (pzT (fun b => X b ∨ b = W.heap.size + 1 ∨ b = W.heap.size + 2) w τ d) :=
  below_pz h.os h.output (by have := h.size; omega) h.low (fun b hb => ⟨fun hx => by rcases hx with hx | hx | hx <;> first | exact hx | omega, .inl⟩) τ d

theorem picked_g {X : Nat → Prop} {Shun : Loc → Prop} {W : World} {tb : Nat} {things : List ByteArray} {ts : List Tr} {hb : Nat → Bool} {f : FuncId} {bd cp : Array Value} (hX : ShIn Shun X) (hbW : Base X W) (hT : ∀ τ d, Tab (pzT X W τ d) tb things ts) (h5 : ts.length ≤ 5) (HW : Asked Shun W ts.length hb (.func (.func f) bd cp)) :
    GCalls Tryz.prog 20 #[.pointer (some ⟨tb, 0, none⟩), .func (.func f) bd cp] X Shun W fun v u => OwnT u W.heap.size v (pk hb (ts.map (·.1.nm)) ts.length) := by
  intro Post c cs gs sl t hh k
  obtain ⟨ra, rc, hc⟩ : ∃ ra rc, (pzT X W (fun _ _ => 0) 0).cell? ⟨tb, 0, none⟩ = some (.slice ra ts.length rc) := by
    obtain ⟨rv, hC, hown⟩ := hT (fun _ _ => 0) 0
    have t0 := hC.1 0 _ rfl
    rcases hown.2 with ⟨h0, h1⟩ | ⟨g, cap, cur, hv, _⟩
    · exact ⟨none, 0, by rw [t0, h0, h1]⟩
    · exact ⟨_, _, by rw [t0, hv]⟩
  refine ends_walk (D := DE (EvL Shun W.heap.size)) (B0 := W.heap.size) (fun _ _ _ h => h) hh (intoP hX hc) fun gs1 a1 w1 sl1 t1 hh1 hst => ?_
  obtain ⟨x9, x10, x11, x12, x13, x14, rfl, d1, rfl⟩ := hst
  refine noted_ends hX (W := W.at d1) (hbW.at d1) h5 (asked_at HW d1) hh1 fun gs2 w2 sl2 t2 hh2 ha => ?_
  refine ends_walk (D := DE fun _ => False) (B0 := 0) (fun _ _ _ h e he => (h e he).elim) hh2 (outP w2) fun gs3 a3 w3 sl3 t3 hh3 hst3 => ?_
  obtain ⟨rfl, d3, rfl⟩ := hst3
  have hX' : ShIn (fun l => Shun l ∨ ShN (W.heap.size + 2) l ∨ ShN (W.heap.size + 1) l) (fun b => X b ∨ b = W.heap.size + 1 ∨ b = W.heap.size + 2) := fun l hl => by
    rcases hl with h | ⟨a, rfl, e⟩ | ⟨a, rfl, e⟩
    · obtain ⟨a, e, h1⟩ := hX l h; exact ⟨a, e, .inl h1⟩
    · exact ⟨a, rfl, .inr (.inr e)⟩
    · exact ⟨a, rfl, .inr (.inl e)⟩
  have hbe : ∀ τ d, Below W.heap.size (pzT X W τ d) (pzT (fun b => X b ∨ b = W.heap.size + 1 ∨ b = W.heap.size + 2) w2 τ d) := fun τ d => ha.below τ d
  have hsz : W.heap.size ≤ w2.heap.size := by have := ha.size; simp only [World.at] at this; omega
  have hs1 := sum_bits hb ts.length
  have hs2 : 2 ^ ts.length ≤ 2 ^ 5 := Nat.pow_le_pow_right (by omega) h5
  have hpk : pk (fun k => (sumTo ts.length (fun j => if hb j then 2 ^ j else 0)).testBit k) (ts.map (·.1.nm)) ts.length = pk hb (ts.map (·.1.nm)) ts.length := pk_congr _ _ fun k hk => sum_bit hb _ k hk
  refine ends_run (X := fun b => X b ∨ b = W.heap.size + 1 ∨ b = W.heap.size + 2) hX' hh3 (tail_back setNo (b := bP) ⟨rfl, _, Tryz.func20⟩ rfl (by kernel_rfl) Tryz.func20 (Base.at ha.base d3) (R := fun v u => ∃ τ d, OwnT u W.heap.size v (pk hb (ts.map (·.1.nm)) ts.length) ∧ Below W.heap.size (pzT X W τ d) u) (fun τ d => held_of (Base.at ha.base d3) (fun τ d => ?_) τ d) c cs) fun gs4 a4 w4 sl4 t4 hh4 hst4 => ?_
  · refine pickTail tb things ts _ _ _ _ _ _ _ _ _ _ ?_ h5 (by omega) (fun v w' h1 h2 => ⟨τ, d, ?_, ?_⟩)
    · exact Tab.up (hT τ d) (by rw [pz_size]; exact hbe τ d)
    · rw [hpk] at h1
      exact own_low h1 (by rw [pz_size]; exact hsz)
    · rw [pz_size] at h2
      exact (hbe τ d).trans (h2.mono hsz)
  · obtain ⟨v, rfl, hb4, hR⟩ := hst4
    exact k _ _ gs4 w4 sl4 t4 v hX' (fun b hb => by rcases hb with h | h | h <;> first | exact .inl h | exact .inr (by omega)) hh4 hb4 fun τ d => below_held (fun u τ d h => h) (hR τ d)
end Go.Proofs.YtnojjmkmkelbgaaGreat

/- The share's goroutines: what the two questions have in common (out of Sn9, Sna, Snd). -/
namespace Go.Proofs.YtnojjmkmkelbgaaGreat
open Go.Conc Go.ConcN Go.RowKit Go.Conc.Lib Go.ConcR.Gen Go.ConcN.Gen

/-- What batch j has, what batch j needs, as bits. -/
def haW (b : Bk) (j : Nat) : Nat := bitsN b.things (memS ((b.bs[j]?.map (·.has)).getD []))
def neW (b : Bk) (j : Nat) : Nat := bitsN b.things (memS ((b.bs[j]?.map (·.needs)).getD []))
theorem enterP (x y : Value) : Frame.enter Tryz.prog 20 #[x, y] .normal = bP.at ⟨#[x, y, undef, undef, undef, undef, undef, undef, undef, undef, undef, undef, undef, undef, undef, undef, undef, undef, undef, undef, undef, undef, undef, undef, undef, undef, undef, undef, undef, undef, undef, undef, undef, undef, undef, undef, undef, undef], []⟩ [.code bodyP] := by
  simp [Frame.enter, Frame.at, Tryz.func20, bP, base, bodyP, Tryz.f20]
theorem ts0_names (bs : List Ba) : (ts0 bs bs.length).map (·.1.nm) = nms bs := by
  rw [ts0, List.take_length, List.map_map]; rfl
theorem ts0_get {bs : List Ba} {i : Nat} (h : i < bs.length) : (ts0 bs bs.length)[i]? = some (bs[i], false) := by
  rw [ts0, List.take_length, List.getElem?_map, List.getElem?_eq_getElem h]; rfl
theorem Held.imp {Q Q' : World → Prop} {u : World} (h : Held Q u) (k : ∀ u, Q u → Q' u) : Held Q' u := let ⟨u0, h1, h2⟩ := h; ⟨u0, k _ h1, h2⟩
theorem own_nil (u : World) (base : Nat) : OwnT u base (.slice none 0 0) [] := ⟨by simp, .inl ⟨rfl, rfl⟩⟩
theorem tab_tl (tb : Nat) (things : List ByteArray) (ts : List Tr) : Tapeless (fun u => Tab u tb things ts) := fun _ _ _ h => h
theorem nm_small {w : World} {v : Value} {b : Bk} (h : BkV w v b) : ∀ s ∈ nms b.bs, s.size ≤ maxLen := fun s hs => by
  obtain ⟨tv, bv, rfl, -, a, c, rfl, -, hpos⟩ := h
  obtain ⟨x, hx, rfl⟩ := List.mem_map.1 hs
  obtain ⟨i, hi, rfl⟩ := List.getElem_of_mem hx
  obtain ⟨b, o, rfl, hS, hb⟩ := hpos (by omega)
  exact (hS.at hi).batch
end Go.Proofs.YtnojjmkmkelbgaaGreat

/- The share's goroutines, 7: on whom one waits, asked of each. -/
namespace Go.Proofs.YtnojjmkmkelbgaaGreat
open Go.Conc Go.ConcN Go.RowKit Go.Conc.Lib Go.ConcR.Gen Go.ConcN.Gen
open Go.ConcR (KK wgBlock WgAt stA smA rd wr mk Payload DC0)

section
variable {X : Nat → Prop} {Shun : Loc → Prop} {W : World}
set_option maxRecDepth 100000 in
theorem asked_waits (hX : ∀ l, Shun l → ∃ a, l = .cell a ∧ X a.block) (hbW : Base X W) {own n oB tB tb g cap nb : Nat} {ha : Nat → Nat} (hon : own < n) (hn : n ≤ 5)
    (c0 : W.cell? ⟨oB, 0, none⟩ = some (.int .i64 own)) (x0 : ¬ X oB) (c1 : W.cell? ⟨tB, 0, none⟩ = some (.pointer (some ⟨tb, 0, none⟩))) (x1 : ¬ X tB) (c2 : W.cell? ⟨tb, 0, none⟩ = some (.slice (some ⟨g, 0, none⟩) n cap)) (x2 : ¬ X tb) (x3 : ¬ X g)
    (c3 : ∀ i, i < n → W.cell? ⟨g, i * 4 + 1, none⟩ = some (.int .u64 (ha i))) (c4 : W.cell? ⟨g, own * 4 + 2, none⟩ = some (.int .u64 nb)) :
    Asked Shun W n (fun j => j != own && (bits .and .u64 (ha j : Int) (nb : Int) != 0)) (.func (.func 29) #[] #[.pointer (some ⟨oB, 0, none⟩), .pointer (some ⟨tB, 0, none⟩)]) := by
  intro p hp hty htS o hL hWg hS hSh hbit j hj C w hCL hW
  have lt : ∀ {a : Addr} {v : Value}, W.cell? a = some v → a.block < W.heap.size + 1 := fun {a v} hc => by have := World.block_lt_of_cell? W a hc; omega
  have L : ∀ {a : Addr} {v : Value}, W.cell? a = some v → ¬ X a.block → LowA p a := fun hc hx => low_a hX hL hWg hS hSh (lt hc) hx
  have hhB : LowA p ⟨W.heap.size, 0, none⟩ := low_a hX hL hWg hS hSh (Nat.lt_succ_self _) (fun h => Nat.lt_irrefl _ (hbW.old _ h))
  by_cases hio : j = own
  · obtain ⟨nf, hcal⟩ := waitsNo (p := p) (W := VC W (.func (.func 29) #[] #[.pointer (some ⟨oB, 0, none⟩), .pointer (some ⟨tB, 0, none⟩)])) (M := One C) (C := C) (tB := tB) rfl hio (L c0 x0) (vc_cell c0)
    refine ⟨0, 28 + nf + 3 + 9, by omega, fun _ => by rw [hbit, hio]; simp, ?_⟩
    unfold Wk
    rw [hp]
    refine askW hp o (M := One C) rfl hCL hhB vc_fv Tryz.func29 (by kernel_rfl) rfl (r := false) hcal (fun w' hw' => ?_) w hW
    have := tailNo (p := p) (M := One C) (C := C) (i := j) (hB := W.heap.size) hp hty rfl (.func (.func 29) #[] #[.pointer (some ⟨oB, 0, none⟩), .pointer (some ⟨tB, 0, none⟩)]) w' hw'.tk
    unfold Wk at this
    rw [hp] at this
    exact this
  · obtain ⟨nf, hcal⟩ := waitsYes (p := p) (W := VC W (.func (.func 29) #[] #[.pointer (some ⟨oB, 0, none⟩), .pointer (some ⟨tB, 0, none⟩)])) (M := One C) (C := C) rfl hio hj hon (L c0 x0) (vc_cell c0) (L c1 x1) (vc_cell c1) (L c2 x2) (vc_cell c2) (L (c3 j hj) x3) (vc_cell (c3 j hj)) (L c4 x3) (vc_cell c4)
    have hjo : (j != own) = true := by simpa using hio
    by_cases hr : (bits .and .u64 (ha j : Int) (nb : Int) != 0) = true
    · refine ⟨1, 40 + nf + 3 + 9, by omega, fun h => by omega, ?_⟩
      have hb1 : p.bit j = 2 ^ j := by rw [hbit]; simp [hjo, hr]
      rw [hr] at hcal
      unfold Wk
      rw [hp]
      refine askW hp o (M := One C) rfl hCL hhB vc_fv Tryz.func29 (by kernel_rfl) rfl (r := true) hcal (fun w' hw' => ?_) w hW
      have := tailYes (p := p) (M := One C) (C := C) (i := j) (hB := W.heap.size) hp hty htS o rfl hCL (by omega) hb1 (.func (.func 29) #[] #[.pointer (some ⟨oB, 0, none⟩), .pointer (some ⟨tB, 0, none⟩)]) w' hw'.tk
      unfold Wk at this
      rw [hp] at this
      exact this
    · refine ⟨0, 28 + nf + 3 + 9, by omega, fun _ => by rw [hbit]; simp only [hjo, Bool.true_and]; rw [if_neg hr], ?_⟩
      rw [Bool.not_eq_true] at hr
      rw [hr] at hcal
      unfold Wk
      rw [hp]
      refine askW hp o (M := One C) rfl hCL hhB vc_fv Tryz.func29 (by kernel_rfl) rfl (r := false) hcal (fun w' hw' => ?_) w hW
      have := tailNo (p := p) (M := One C) (C := C) (i := j) (hB := W.heap.size) hp hty rfl (.func (.func 29) #[] #[.pointer (some ⟨oB, 0, none⟩), .pointer (some ⟨tB, 0, none⟩)]) w' hw'.tk
      unfold Wk at this
      rw [hp] at this
      exact this
end
end Go.Proofs.YtnojjmkmkelbgaaGreat
