/- The share's goroutines, 6: shareNoted, whole. -/
import Derived.Test.YtafgabakhaipnaaSn5
namespace Go.Proofs.Ytafgabakhaipnaa
open Go.Conc Go.ConcN Go.RowKit Go.Conc.Lib Go.ConcR.Gen Go.ConcN.Gen
open Go.ConcR (KK wgBlock WgAt stA smA rd wr mk Payload DC0)

theorem at_alloc {V w : World} (h : AtRel V w) (ob : Obj) : AtRel (V.alloc ob) (w.alloc ob) ∧ w.heap.size = V.heap.size := by obtain ⟨d, rfl⟩ := h; exact ⟨⟨d, rfl⟩, rfl⟩

noncomputable def VA (W : World) (fv : Value) : World := W.alloc (.cells #[fv] 47)
noncomputable def VB (W : World) (fv : Value) : World := (VA W fv).alloc (.cells #[.int .u32 0] 82)
noncomputable def VC (W : World) (fv : Value) : World := (VB W fv).alloc (.cells #[.int .u64 0, .int .u32 0] 89)

section
variable {p : Ph} {W : World} {cs : List Frame} {f : FuncId} {bd cap : Array Value} {fv : Value}
theorem va_size : (VA W fv).heap.size = W.heap.size + 1 := World.size_alloc W _
theorem vb_size : (VB W fv).heap.size = W.heap.size + 2 := (World.size_alloc _ _).trans (by rw [va_size])
theorem vc_size : (VC W fv).heap.size = W.heap.size + 3 := (World.size_alloc _ _).trans (by rw [vb_size])

set_option maxRecDepth 100000 in
theorem intoN (hfv : fv = .func (.func f) bd cap) (hS : p.S = W.heap.size + 1) (hWg : p.Wg = W.heap.size + 2) :
    Goes Try.prog true AtRel (DE fun _ => False) (fun g w => HeadN p W.heap.size 0 cs g ∧ AtRel (VC W fv) w) 30 (G (Frame.enter Try.prog 38 #[.int .i64 p.n, fv] .normal) cs) W := by
  have e : Frame.enter Try.prog 38 #[.int .i64 p.n, fv] .normal = bN.at ⟨#[.int .i64 p.n, fv, undef, undef, undef, undef, undef, undef, undef, undef, undef, undef, undef, undef, undef, undef, undef], []⟩ [.code bodyN] := by
    simp [Frame.enter, Frame.at, Try.func38, bN, base, bodyN, Try.f38]
  rw [e]
  simp only [bodyN, Try.f38, Option.getD_some]
  have rl : ∀ {V w w₁ : World}, AtRel V w → AtRel w w₁ → AtRel V w₁ := fun h r => atRel_trans _ _ _ h r
  have hF : AtRel W W := atRel_refl W
  u_c stepG_seq rl hF
  u_reg rl hF
  subst hfv
  u_in rl hF; refine goes_oper_k rfl rfl (by k_ne) (fun K hK => ?_); go_simp; refine hK _ _ ⟨fun e he => (by have hm := mem_listed he; simp [go_sem, *] at hm), ?_⟩; clear hK K; replace hF := at_alloc hF (.cells #[.func (.func f) bd cap] 47); rw [hF.2]; replace hF := hF.1
  u_op rl hF
  u_c stepG_region_end rl hF
  u_c stepG_seq rl hF
  u_reg rl hF
  u_in rl hF; refine goes_oper_k rfl rfl (by k_ne) (fun K hK => ?_); go_simp; refine hK _ _ ⟨fun e he => (by have hm := mem_listed he; simp [go_sem, *] at hm), ?_⟩; clear hK K; replace hF := at_alloc hF (.cells #[.int .u32 0] 82); rw [hF.2]; replace hF := hF.1
  u_c stepG_region_end rl hF
  u_c stepG_seq rl hF
  u_reg rl hF
  u_in rl hF; refine goes_oper_k rfl rfl (by k_ne) (fun K hK => ?_); go_simp; refine hK _ _ ⟨fun e he => (by have hm := mem_listed he; simp [go_sem, *] at hm), ?_⟩; clear hK K; replace hF := at_alloc hF (.cells #[.int .u64 0, .int .u32 0] 89); rw [hF.2]; replace hF := hF.1
  u_c stepG_region_end rl hF
  u_c stepG_seq rl hF
  u_c stepG_seq rl hF
  u_reg rl hF
  u_op rl hF
  u_op rl hF
  u_c stepG_region_end rl hF
  u_c stepG_block rl hF
  u_c stepG_loop rl hF
  exact Goes.stop fun w₁ r => ⟨⟨_, rfl, by simp, by simp, by simp [hS], by simp [hWg], by simp, by simp⟩, rl hF r⟩
end

theorem sum_bits (hb : Nat → Bool) : ∀ n, sumTo n (fun j => if hb j then 2 ^ j else 0) < 2 ^ n
  | 0 => by simp [sumTo]
  | n + 1 => by
    have := sum_bits hb n
    simp only [sumTo, Nat.pow_succ]
    split <;> omega

/-- What stands behind a phase that began in W: two blocks are shunned besides; what lay there is as it was. -/
structure Aft (X : Nat → Prop) (W w : World) : Prop where
  tape : w.tape = W.tape
  os : w.os = W.os
  output : w.output = W.output
  base : Base (fun b => X b ∨ b = W.heap.size + 1 ∨ b = W.heap.size + 2) w
  size : W.heap.size + 3 ≤ w.heap.size
  low : ∀ b, b < W.heap.size → w.heap[b]? = W.heap[b]?

/-- What one asks a worker for: of any phase that begins in W. -/
def Asked (Shun : Loc → Prop) (W : World) (n : Nat) (hb : Nat → Bool) (fv : Value) : Prop :=
  ∀ p : Ph, p.P = Try.prog → p.ty = 89 → p.tS = 82 → p.Ok → p.Low = W.heap.size + 3 → p.Wg = W.heap.size + 2 → p.S = W.heap.size + 1 → p.Shun = Shun → (∀ j, p.bit j = if hb j then 2 ^ j else 0) →
    ∀ j, j < n → ∀ C w, p.Low ≤ C → WKn p (VC W fv) C j w → ∃ e m, e ≤ 2 ∧ (e = 0 → p.bit j = 0) ∧ Wk p j C (.int .i64 j) e (One C) m (born Try.prog (callW p.Wg W.heap.size C p.S)) w

theorem noted_ends {X : Nat → Prop} {Shun : Loc → Prop} {Post : Value → World → Prop} (hX : ∀ l, Shun l → ∃ a, l = .cell a ∧ X a.block) {W : World} (hbW : Base X W) {n : Nat} (hn : n ≤ 5) {hb : Nat → Bool} {f : FuncId} {bd cap : Array Value}
    (HW : Asked Shun W n hb (.func (.func f) bd cap))
    {gs : Array Goroutine} {sl : Option (Nat × Nat)} {t : Trace} {b₀ : Frame} {a₀ : Act} {ops₀ : Array Oper} {i₀ : Nat} {rest₀ : List Nat} {k₀ : List Item} {cs : List Frame}
    (hh : Here Try.prog Shun gs (G (Frame.enter Try.prog 38 #[.int .i64 n, .func (.func f) bd cap] .normal) (b₀.at a₀ (.inRegion ops₀ (i₀ :: rest₀) :: k₀) :: cs)) t)
    (k : ∀ gs' w' sl' t', Here Try.prog (fun l => Shun l ∨ ShN (W.heap.size + 2) l ∨ ShN (W.heap.size + 1) l) gs' (G (b₀.at (a₀.put ((ops₀[i₀]?).bind (·.dst)) (.int .u32 ((sumTo n (fun j => if hb j then 2 ^ j else 0) : Nat) : Int))) (.inRegion ops₀ rest₀ :: k₀)) cs) t' → Aft X W w' → EndsG Try.prog Post (crowd gs' w' sl') t') :
    EndsG Try.prog Post (crowd gs W sl) t := by
  let p0 : Trace → Nat → Ph := fun t0 m0 => { P := Try.prog, ty := 89, tS := 82, Wg := W.heap.size + 2, S := W.heap.size + 1, Low := W.heap.size + 3, m0, n, bit := fun j => if hb j then 2 ^ j else 0, Shun, t0 }
  refine ends_walk (B0 := 0) (fun _ _ _ h e he => (h e he).elim) hh (intoN (p := p0 #[] 0) (f := f) (bd := bd) (cap := cap) rfl rfl rfl) fun gs1 a1 w1 sl1 t1 hh1 hst => ?_
  obtain ⟨hhead, hat⟩ := hst
  obtain ⟨q1, hL1⟩ := hh1.leave
  obtain ⟨B1, hF1⟩ := hh1.fr
  have hsz0 : 0 < gs1.size := (Array.getElem?_eq_some_iff.1 hh1.zero).1
  obtain ⟨p, hpe⟩ : ∃ p, p = p0 t1 gs1.size := ⟨_, rfl⟩
  have hhead' : HeadN p W.heap.size 0 (b₀.at a₀ (.inRegion ops₀ (i₀ :: rest₀) :: k₀) :: cs) a1 := by rw [hpe]; exact hhead
  have o : p.Ok := by
    subst hpe
    refine ⟨by simp [p0], by simp [p0], by simp [p0], hsz0, fun l hl => ?_, by simp only [p0]; omega, ?_⟩
    · obtain ⟨a, rfl, ha⟩ := hX l hl
      have := hbW.old _ ha
      exact ⟨a, rfl, by simp only [p0]; omega, by simp only [p0]; omega, by simp only [p0]; omega⟩
    · have h1 := sum_bits hb n
      have h2 : 2 ^ n ≤ 2 ^ 5 := Nat.pow_le_pow_right (by omega) hn
      show sumTo n (fun j => if hb j then 2 ^ j else 0) < 4294967296
      omega
  have hV : ∀ b, b < W.heap.size → (VC W (.func (.func f) bd cap)).heap[b]? = W.heap[b]? := fun b hb => by
    unfold VC VB VA
    rw [Below.heap_alloc _ _ _ (by rw [World.size_alloc, World.size_alloc]; omega), Below.heap_alloc _ _ _ (by rw [World.size_alloc]; omega), Below.heap_alloc _ _ _ hb]
  have vS : (VC W (.func (.func f) bd cap)).heap[W.heap.size + 1]? = some (.cells #[.int .u32 0] 82) := by
    unfold VC
    rw [Below.heap_alloc _ _ _ (by rw [vb_size]; omega)]
    unfold VB
    have := heap_alloc_new (VA W (.func (.func f) bd cap)) (.cells #[.int .u32 0] 82)
    rwa [va_size] at this
  have vW : (VC W (.func (.func f) bd cap)).heap[W.heap.size + 2]? = some (.cells #[.int .u64 0, .int .u32 0] 89) := by
    unfold VC
    have := heap_alloc_new (VB W (.func (.func f) bd cap)) (.cells #[.int .u64 0, .int .u32 0] 89)
    rwa [vb_size] at this
  have vN : NV (VC W (.func (.func f) bd cap)) := by
    unfold VC VB VA
    exact (grownS_alloc _ _ _).nv ((grownS_alloc _ _ _).nv ((grownS_alloc _ _ _).nv hbW.pend))
  have hsk : SK p (VC W (.func (.func f) bd cap)) w1 ∧ WgLive p.ty p.Wg w1 := by
    obtain ⟨d, rfl⟩ := hat
    subst hpe
    exact ⟨⟨rfl, rfl, rfl, vN, Nat.le_of_eq vc_size.symm, fun _ _ _ _ => rfl, ⟨0, vS⟩⟩, ⟨0, 0, vW⟩⟩
  have hsum : SumAt p w1 0 := by obtain ⟨d, rfl⟩ := hat; subst hpe; exact vS
  have hwg : Go.ConcR.WgAt p.ty p.Wg w1 0 0 := by obtain ⟨d, rfl⟩ := hat; subst hpe; exact vW
  obtain ⟨m, hm⟩ := spawnsN (p := p) (W := VC W (.func (.func f) bd cap)) (hB := W.heap.size) (cs := b₀.at a₀ (.inRegion ops₀ (i₀ :: rest₀) :: k₀) :: cs) (by rw [hpe]) o (by rw [hpe]; show n ≤ 100; omega)
    (fun j hj => HW p (by rw [hpe]) (by rw [hpe]) (by rw [hpe]) o (by rw [hpe]) (by rw [hpe]) (by rw [hpe]) (by rw [hpe]) (by rw [hpe]; intro j; rfl) j (by rw [hpe] at hj; exact hj)) p.n 0 (by omega)
  have hsp : Sp p (AnN p (VC W (.func (.func f) bd cap)) W.heap.size (b₀.at a₀ (.inRegion ops₀ (i₀ :: rest₀) :: k₀) :: cs)) p.n a1 w1 := (sp_iff _ _ _ _ _).2 ⟨m, by
    have := hm a1 w1 hhead' hsk
    rw [show p.P = Try.prog by rw [hpe]]
    exact this⟩
  have ht0 : p.t0 = t1 := by rw [hpe]
  obtain ⟨N, m', t', hr, gs2, a2, w2, sl2, q2, B2, rfl, hsz2, h02, hfin, hsum2, hL2, hF2⟩ := phase (p := p) (Fin := FinS p (StpN p (VC W (.func (.func f) bd cap)) W.heap.size (b₀.at a₀ (.inRegion ops₀ (i₀ :: rest₀) :: k₀) :: cs))) o (fun g w h => anN_run h) (fun g w h => anN_round (by rw [hpe]) o g w h) (B := B1) (by rw [hpe]; exact hF1) (gs := gs1) (a := a1) (w := w1) (sl := sl1) (q := q1) (by rw [hpe]) hh1.zero (by rw [hpe]; exact hL1)
    hsk.1.size hwg hsum hsp
  rw [show p.P = Try.prog by rw [hpe], ht0] at hr
  refine EndsG.of_run hr ?_
  have hh2 : Here Try.prog p.Sh gs2 a2 t' := ⟨h02, ⟨q2, by rw [show Try.prog = p.P by rw [hpe]]; exact hL2⟩, ⟨B2, hF2⟩⟩
  obtain ⟨m2, hm2⟩ := hfin _ hsum2
  rw [show p.P = Try.prog by rw [hpe]] at hm2
  refine ends_walk (B0 := 0) (fun _ _ _ h e he => by rw [h.2] at he; simp at he) hh2 hm2 fun gs3 a3 w3 sl3 t3 hh3 hst3 => ?_
  refine ends_walk (D := DE (EvL p.Sh (p.S + 1))) (B0 := p.S + 1) (fun _ _ _ h => h) hh3 (outN (by rw [hpe]) (Nat.lt_succ_self _) hst3) fun gs4 a4 w4 sl4 t4 hh4 hst4 => ?_
  obtain ⟨rfl, hsk4, hlv4, hsum4⟩ := hst4
  have hSh : p.Sh = (fun l => Shun l ∨ ShN (W.heap.size + 2) l ∨ ShN (W.heap.size + 1) l) := by subst hpe; rfl
  have hbit : sumTo p.n p.bit = sumTo n (fun j => if hb j then 2 ^ j else 0) := by subst hpe; rfl
  have hLow : p.Low = W.heap.size + 3 := by rw [hpe]
  have hWg : p.Wg = W.heap.size + 2 := by rw [hpe]
  have hS : p.S = W.heap.size + 1 := by rw [hpe]
  rw [hSh, hbit] at hh4
  refine k gs4 w4 sl4 t4 hh4 ⟨hsk4.tape, hsk4.os, hsk4.output, ⟨fun b hb => ?_, fun b hb => ?_, hsk4.nv⟩, by have := hsk4.size; omega, fun b hb => (hsk4.low b (by omega) (by omega) (by omega)).trans (hV b hb)⟩
  · have := hsk4.size
    rcases hb with hb | hb | hb
    · have := hbW.old b hb; omega
    · omega
    · omega
  · rcases hb with hb | rfl | rfl
    · have hlt := hbW.old b hb
      obtain ⟨c, e, hc⟩ := hbW.cov b hb
      exact ⟨c, e, ((hsk4.low b (by omega) (by omega) (by omega)).trans (hV b hlt)).trans hc⟩
    · rw [← hS]; exact ⟨_, _, hsum4⟩
    · obtain ⟨st, sm, hx⟩ := hlv4
      rw [← hWg]; exact ⟨_, _, hx⟩
end Go.Proofs.Ytafgabakhaipnaa

/- The share's goroutines: what lies low ahead of a phase (out of Sn7). -/
namespace Go.Proofs.Ytafgabakhaipnaa
open Go.Conc Go.ConcN Go.RowKit Go.Conc.Lib Go.ConcR.Gen Go.ConcN.Gen

section
variable {X : Nat → Prop} {Shun : Loc → Prop} {W : World} {fv : Value}
theorem low_a (hX : ∀ l, Shun l → ∃ a, l = .cell a ∧ X a.block) {p : Ph} (hL : p.Low = W.heap.size + 3) (hWg : p.Wg = W.heap.size + 2) (hS : p.S = W.heap.size + 1) (hSh : p.Shun = Shun) {a : Addr} (hlt : a.block < W.heap.size + 1) (hx : ¬ X a.block) : LowA p a := by
  refine ⟨by omega, fun h => ?_⟩
  rcases h with h | ⟨b, e, hb⟩ | ⟨b, e, hb⟩
  · rw [hSh] at h
    obtain ⟨b, e, hb⟩ := hX _ h
    cases e; exact hx hb
  · cases e; omega
  · cases e; omega
theorem vc_cell {a : Addr} {v : Value} (hc : W.cell? a = some v) : (VC W fv).cell? a = some v := by
  have hlt := World.block_lt_of_cell? W a hc
  unfold VC VB VA
  rw [World.cell?_alloc_lt _ _ _ (by rw [World.size_alloc, World.size_alloc]; omega), World.cell?_alloc_lt _ _ _ (by rw [World.size_alloc]; omega), World.cell?_alloc_lt _ _ _ hlt, hc]
theorem vc_fv : (VC W fv).cell? ⟨W.heap.size, 0, none⟩ = some fv := by
  unfold VC VB
  rw [World.cell?_alloc_lt _ _ _ (show W.heap.size < _ by rw [World.size_alloc, va_size]; omega), World.cell?_alloc_lt _ _ _ (show W.heap.size < _ by rw [va_size]; omega)]
  unfold VA
  have := heap_alloc_new W (.cells #[fv] 47)
  unfold World.cell?
  simp only []
  rw [this]
  rfl
end
end Go.Proofs.Ytafgabakhaipnaa
