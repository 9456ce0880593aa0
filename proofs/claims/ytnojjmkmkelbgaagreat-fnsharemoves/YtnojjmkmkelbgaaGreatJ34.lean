/- A code that can be read, opened. -/
import Derived.Test.YtnojjmkmkelbgaaGreatJ26
import Derived.Test.YtnojjmkmkelbgaaGreatJ11
import Derived.OpenShut
import Derived.Deep.MidRow
import Derived.Conc.CrowdRun
import Derived.Test.YtnojjmkmkelbgaaGreatJ31
import Derived.Test.YtnojjmkmkelbgaaGreatJ22
namespace Go.Proofs.YtnojjmkmkelbgaaGreat
open Go.ChangeShapes Go.WideShapes Go.ChangeAt Go.RowKit

theorem cellsByte : Tryz.prog.cellsOf 5 = 1 := by kernel_rfl
theorem bytes_of_trod {H : Type} {enc : TypeId × Value → H} {W : World} {base : Nat} {sp : Nat → Bool} {held : Bool} {v : Value} {d : DataW H} {p : List MemPlace} (hv : ∃ a l c, v = .slice a l c)
    (h : DataW.Trod enc Tryz.prog W base sp held 22 v d p) : ∃ (a : Option Addr) (l c : Nat), v = .slice a l c ∧ BytesAt W W.heap.size (.slice a l c) l ∧ l ≤ c ∧ c ≤ maxLen := by
  obtain ⟨a0, l0, k0, rfl⟩ := hv
  obtain ⟨fuel, hf⟩ := h
  rcases open_ints Tryz.underlying22 Tryz.underlying5 cellsByte hf with ⟨hcs, _⟩ | ⟨a, len, cap, zs, hcs, _, hl, hm, hz, _, hcell, hwf⟩
  · have : Value.slice a0 l0 k0 = .slice none 0 0 := by simpa [Value.cells] using hcs
    rw [this]
    exact ⟨none, 0, 0, rfl, ⟨none, 0, rfl, .inl rfl⟩, Nat.le_refl _, Nat.zero_le _⟩
  · have : Value.slice a0 l0 k0 = .slice (some a) len cap := by simpa [Value.cells] using hcs
    rw [this]
    refine ⟨some a, len, cap, rfl, ⟨some a, cap, rfl, ?_⟩, hl, hm⟩
    rcases Nat.eq_zero_or_pos len with h0 | h0
    · exact .inl h0
    · have hlz : len ≤ zs.length := by rw [hz]; split <;> omega
      obtain ⟨b, o, spot⟩ := a
      have c0 := hcell 0 (by omega)
      have hs : spot = none := by simpa [Addr.add] using World.cell?_spot c0
      subst hs
      refine .inr ⟨b, o, fun i => zs.getD i 0, rfl, World.block_lt_of_cell? W _ c0, fun i hi => ⟨?_, ?_⟩⟩
      · have := hcell i (by omega)
        rwa [Addr.add_mid] at this
      · have := range_u8 hwf i
        simpa [List.getD_eq_getElem?_getD] using this
end Go.Proofs.YtnojjmkmkelbgaaGreat

/- Walks of goroutine 0: into a call, the callee left as it is. -/
namespace Go.Proofs.YtnojjmkmkelbgaaGreat
open Go.Conc

section
variable {P : Program} {main : Bool} {b : Frame} {a : Act} {k : List Item} {cs : List Frame} {w : World}
theorem goes_callE {ops : Array Oper} {i : Nat} {rest : List Nat} {o : Oper} {K : Goroutine → World → Array Event → Prop} {f : FuncId} {fn : Func} {args : Array Operand} {ats : Array TypeId} (vs : Array Value)
    (ho : ops[i]? = some o) (hw : Region.wanted o (yielded ops a.tmps) = true) (hk : b.kind ≠ .early) (hop : o.op = .call { callee := .value (.func f), args, argTypes := ats })
    (hf : P.funcs[f]? = some fn) (hname : (fn.name == "runtime.NumGoroutine") = false) (hb : fn.body.isNone = false) (hvs : args.map a.eval = vs)
    (h : K (G (Frame.enter P f vs .normal) (b.at a (.inRegion ops (i :: rest) :: k) :: cs)) w #[]) :
    (stepG P main (G (b.at a (.inRegion ops (i :: rest) :: k)) cs) w).goes K := by
  subst hvs
  rw [stepG_enter ho hw hk (run_call_body hop hf hname hb)]
  have : listed P b.fn a o w = #[] := by unfold listed; rw [events_call_body hop hf hname hb]; exact seen_none P _
  rw [this]
  exact h
end
end Go.Proofs.YtnojjmkmkelbgaaGreat

/- The share's goroutines, 6: shareNoted, whole. -/
namespace Go.Proofs.YtnojjmkmkelbgaaGreat
open Go.Conc Go.ConcN Go.RowKit Go.Conc.Lib Go.ConcR.Gen Go.ConcN.Gen
open Go.ConcR (KK wgBlock WgAt stA smA rd wr mk Payload DC0)

theorem at_alloc {V w : World} (h : AtRel V w) (ob : Obj) : AtRel (V.alloc ob) (w.alloc ob) ∧ w.heap.size = V.heap.size := by obtain ⟨d, rfl⟩ := h; exact ⟨⟨d, rfl⟩, rfl⟩

noncomputable def VA (W : World) (fv : Value) : World := W.alloc (.cells #[fv] 44)
noncomputable def VB (W : World) (fv : Value) : World := (VA W fv).alloc (.cells #[.int .u32 0] 92)
noncomputable def VC (W : World) (fv : Value) : World := (VB W fv).alloc (.cells #[.int .u64 0, .int .u32 0] 99)

section
variable {p : Ph} {W : World} {cs : List Frame} {f : FuncId} {bd cap : Array Value} {fv : Value}
theorem va_size : (VA W fv).heap.size = W.heap.size + 1 := World.size_alloc W _
theorem vb_size : (VB W fv).heap.size = W.heap.size + 2 := (World.size_alloc _ _).trans (by rw [va_size])
theorem vc_size : (VC W fv).heap.size = W.heap.size + 3 := (World.size_alloc _ _).trans (by rw [vb_size])

set_option maxRecDepth 100000 in
theorem intoN (hfv : fv = .func (.func f) bd cap) (hS : p.S = W.heap.size + 1) (hWg : p.Wg = W.heap.size + 2) :
    Goes Tryz.prog true AtRel (DE fun _ => False) (fun g w => HeadN p W.heap.size 0 cs g ∧ AtRel (VC W fv) w) 30 (G (Frame.enter Tryz.prog 40 #[.int .i64 p.n, fv] .normal) cs) W := by
  have e : Frame.enter Tryz.prog 40 #[.int .i64 p.n, fv] .normal = bN.at ⟨#[.int .i64 p.n, fv, undef, undef, undef, undef, undef, undef, undef, undef, undef, undef, undef, undef, undef, undef, undef], []⟩ [.code bodyN] := by
    simp [Frame.enter, Frame.at, Tryz.func40, bN, base, bodyN, Tryz.f40]
  rw [e]
  simp only [bodyN, Tryz.f40, Option.getD_some]
  have rl : ∀ {V w w₁ : World}, AtRel V w → AtRel w w₁ → AtRel V w₁ := fun h r => atRel_trans _ _ _ h r
  have hF : AtRel W W := atRel_refl W
  u_c stepG_seq rl hF
  u_reg rl hF
  subst hfv
  u_in rl hF; refine goes_oper_k rfl rfl (by k_ne) (fun K hK => ?_); go_simp; refine hK _ _ ⟨fun e he => (by have hm := mem_listed he; simp [go_sem, *] at hm), ?_⟩; clear hK K; replace hF := at_alloc hF (.cells #[.func (.func f) bd cap] 44); rw [hF.2]; replace hF := hF.1
  u_op rl hF
  u_c stepG_region_end rl hF
  u_c stepG_seq rl hF
  u_reg rl hF
  u_in rl hF; refine goes_oper_k rfl rfl (by k_ne) (fun K hK => ?_); go_simp; refine hK _ _ ⟨fun e he => (by have hm := mem_listed he; simp [go_sem, *] at hm), ?_⟩; clear hK K; replace hF := at_alloc hF (.cells #[.int .u32 0] 92); rw [hF.2]; replace hF := hF.1
  u_c stepG_region_end rl hF
  u_c stepG_seq rl hF
  u_reg rl hF
  u_in rl hF; refine goes_oper_k rfl rfl (by k_ne) (fun K hK => ?_); go_simp; refine hK _ _ ⟨fun e he => (by have hm := mem_listed he; simp [go_sem, *] at hm), ?_⟩; clear hK K; replace hF := at_alloc hF (.cells #[.int .u64 0, .int .u32 0] 99); rw [hF.2]; replace hF := hF.1
  u_c stepG_region_end rl hF
  u_c stepG_seq rl hF
  u_c stepG_seq rl hF
  u_reg rl hF
  u_op rl hF
  u_op rl hF
  u_c stepG_region_end rl hF
  u_c stepG_block rl hF
  u_c stepG_loop rl hF
  exact Goes.stop fun w₁ r => ⟨⟨_, rfl, by simp, by simp, by simp [hS], by simp [hWg], by simp, by simp⟩, rl hF r⟩
end

theorem sum_bits (hb : Nat → Bool) : ∀ n, sumTo n (fun j => if hb j then 2 ^ j else 0) < 2 ^ n
  | 0 => by simp [sumTo]
  | n + 1 => by
    have := sum_bits hb n
    simp only [sumTo, Nat.pow_succ]
    split <;> omega

/-- What stands behind a phase that began in W: two blocks are shunned besides; what lay there is as it was. -/
structure Aft (X : Nat → Prop) (W w : World) : Prop where
  tape : w.tape = W.tape
  os : w.os = W.os
  output : w.output = W.output
  base : Base (fun b => X b ∨ b = W.heap.size + 1 ∨ b = W.heap.size + 2) w
  size : W.heap.size + 3 ≤ w.heap.size
  low : ∀ b, b < W.heap.size → w.heap[b]? = W.heap[b]?

/-- What one asks a worker for: of any phase that begins in W. -/
def Asked (Shun : Loc → Prop) (W : World) (n : Nat) (hb : Nat → Bool) (fv : Value) : Prop :=
  ∀ p : Ph, p.P = Tryz.prog → p.ty = 99 → p.tS = 92 → p.Ok → p.Low = W.heap.size + 3 → p.Wg = W.heap.size + 2 → p.S = W.heap.size + 1 → p.Shun = Shun → (∀ j, p.bit j = if hb j then 2 ^ j else 0) →
    ∀ j, j < n → ∀ C w, p.Low ≤ C → WKn p (VC W fv) C j w → ∃ e m, e ≤ 2 ∧ (e = 0 → p.bit j = 0) ∧ Wk p j C (.int .i64 j) e (One C) m (born Tryz.prog (callW p.Wg W.heap.size C p.S)) w

theorem noted_ends {X : Nat → Prop} {Shun : Loc → Prop} {Post : Value → World → Prop} (hX : ∀ l, Shun l → ∃ a, l = .cell a ∧ X a.block) {W : World} (hbW : Base X W) {n : Nat} (hn : n ≤ 5) {hb : Nat → Bool} {f : FuncId} {bd cap : Array Value}
    (HW : Asked Shun W n hb (.func (.func f) bd cap))
    {gs : Array Goroutine} {sl : Option (Nat × Nat)} {t : Trace} {b₀ : Frame} {a₀ : Act} {ops₀ : Array Oper} {i₀ : Nat} {rest₀ : List Nat} {k₀ : List Item} {cs : List Frame}
    (hh : Here Tryz.prog Shun gs (G (Frame.enter Tryz.prog 40 #[.int .i64 n, .func (.func f) bd cap] .normal) (b₀.at a₀ (.inRegion ops₀ (i₀ :: rest₀) :: k₀) :: cs)) t)
    (k : ∀ gs' w' sl' t', Here Tryz.prog (fun l => Shun l ∨ ShN (W.heap.size + 2) l ∨ ShN (W.heap.size + 1) l) gs' (G (b₀.at (a₀.put ((ops₀[i₀]?).bind (·.dst)) (.int .u32 ((sumTo n (fun j => if hb j then 2 ^ j else 0) : Nat) : Int))) (.inRegion ops₀ rest₀ :: k₀)) cs) t' → Aft X W w' → EndsG Tryz.prog Post (crowd gs' w' sl') t') :
    EndsG Tryz.prog Post (crowd gs W sl) t := by
  let p0 : Trace → Nat → Ph := fun t0 m0 => { P := Tryz.prog, ty := 99, tS := 92, Wg := W.heap.size + 2, S := W.heap.size + 1, Low := W.heap.size + 3, m0, n, bit := fun j => if hb j then 2 ^ j else 0, Shun, t0 }
  refine ends_walk (B0 := 0) (fun _ _ _ h e he => (h e he).elim) hh (intoN (p := p0 #[] 0) (f := f) (bd := bd) (cap := cap) rfl rfl rfl) fun gs1 a1 w1 sl1 t1 hh1 hst => ?_
  obtain ⟨hhead, hat⟩ := hst
  obtain ⟨q1, hL1⟩ := hh1.leave
  obtain ⟨B1, hF1⟩ := hh1.fr
  have hsz0 : 0 < gs1.size := (Array.getElem?_eq_some_iff.1 hh1.zero).1
  obtain ⟨p, hpe⟩ : ∃ p, p = p0 t1 gs1.size := ⟨_, rfl⟩
  have hhead' : HeadN p W.heap.size 0 (b₀.at a₀ (.inRegion ops₀ (i₀ :: rest₀) :: k₀) :: cs) a1 := by rw [hpe]; exact hhead
  have o : p.Ok := by
    subst hpe
    refine ⟨by simp [p0], by simp [p0], by simp [p0], hsz0, fun l hl => ?_, by simp only [p0]; omega, ?_⟩
    · obtain ⟨a, rfl, ha⟩ := hX l hl
      have := hbW.old _ ha
      exact ⟨a, rfl, by simp only [p0]; omega, by simp only [p0]; omega, by simp only [p0]; omega⟩
    · have h1 := sum_bits hb n
      have h2 : 2 ^ n ≤ 2 ^ 5 := Nat.pow_le_pow_right (by omega) hn
      show sumTo n (fun j => if hb j then 2 ^ j else 0) < 4294967296
      omega
  have hV : ∀ b, b < W.heap.size → (VC W (.func (.func f) bd cap)).heap[b]? = W.heap[b]? := fun b hb => by
    unfold VC VB VA
    rw [Below.heap_alloc _ _ _ (by rw [World.size_alloc, World.size_alloc]; omega), Below.heap_alloc _ _ _ (by rw [World.size_alloc]; omega), Below.heap_alloc _ _ _ hb]
  have vS : (VC W (.func (.func f) bd cap)).heap[W.heap.size + 1]? = some (.cells #[.int .u32 0] 92) := by
    unfold VC
    rw [Below.heap_alloc _ _ _ (by rw [vb_size]; omega)]
    unfold VB
    have := heap_alloc_new (VA W (.func (.func f) bd cap)) (.cells #[.int .u32 0] 92)
    rwa [va_size] at this
  have vW : (VC W (.func (.func f) bd cap)).heap[W.heap.size + 2]? = some (.cells #[.int .u64 0, .int .u32 0] 99) := by
    unfold VC
    have := heap_alloc_new (VB W (.func (.func f) bd cap)) (.cells #[.int .u64 0, .int .u32 0] 99)
    rwa [vb_size] at this
  have vN : NV (VC W (.func (.func f) bd cap)) := by
    unfold VC VB VA
    exact (grownS_alloc _ _ _).nv ((grownS_alloc _ _ _).nv ((grownS_alloc _ _ _).nv hbW.pend))
  have hsk : SK p (VC W (.func (.func f) bd cap)) w1 ∧ WgLive p.ty p.Wg w1 := by
    obtain ⟨d, rfl⟩ := hat
    subst hpe
    exact ⟨⟨rfl, rfl, rfl, vN, Nat.le_of_eq vc_size.symm, fun _ _ _ _ => rfl, ⟨0, vS⟩⟩, ⟨0, 0, vW⟩⟩
  have hsum : SumAt p w1 0 := by obtain ⟨d, rfl⟩ := hat; subst hpe; exact vS
  have hwg : Go.ConcR.WgAt p.ty p.Wg w1 0 0 := by obtain ⟨d, rfl⟩ := hat; subst hpe; exact vW
  obtain ⟨m, hm⟩ := spawnsN (p := p) (W := VC W (.func (.func f) bd cap)) (hB := W.heap.size) (cs := b₀.at a₀ (.inRegion ops₀ (i₀ :: rest₀) :: k₀) :: cs) (by rw [hpe]) o (by rw [hpe]; show n ≤ 100; omega)
    (fun j hj => HW p (by rw [hpe]) (by rw [hpe]) (by rw [hpe]) o (by rw [hpe]) (by rw [hpe]) (by rw [hpe]) (by rw [hpe]) (by rw [hpe]; intro j; rfl) j (by rw [hpe] at hj; exact hj)) p.n 0 (by omega)
  have hsp : Sp p (AnN p (VC W (.func (.func f) bd cap)) W.heap.size (b₀.at a₀ (.inRegion ops₀ (i₀ :: rest₀) :: k₀) :: cs)) p.n a1 w1 := (sp_iff _ _ _ _ _).2 ⟨m, by
    have := hm a1 w1 hhead' hsk
    rw [show p.P = Tryz.prog by rw [hpe]]
    exact this⟩
  have ht0 : p.t0 = t1 := by rw [hpe]
  obtain ⟨N, m', t', hr, gs2, a2, w2, sl2, q2, B2, rfl, hsz2, h02, hfin, hsum2, hL2, hF2⟩ := phase (p := p) (Fin := FinS p (StpN p (VC W (.func (.func f) bd cap)) W.heap.size (b₀.at a₀ (.inRegion ops₀ (i₀ :: rest₀) :: k₀) :: cs))) o (fun g w h => anN_run h) (fun g w h => anN_round (by rw [hpe]) o g w h) (B := B1) (by rw [hpe]; exact hF1) (gs := gs1) (a := a1) (w := w1) (sl := sl1) (q := q1) (by rw [hpe]) hh1.zero (by rw [hpe]; exact hL1)
    hsk.1.size hwg hsum hsp
  rw [show p.P = Tryz.prog by rw [hpe], ht0] at hr
  refine EndsG.of_run hr ?_
  have hh2 : Here Tryz.prog p.Sh gs2 a2 t' := ⟨h02, ⟨q2, by rw [show Tryz.prog = p.P by rw [hpe]]; exact hL2⟩, ⟨B2, hF2⟩⟩
  obtain ⟨m2, hm2⟩ := hfin _ hsum2
  rw [show p.P = Tryz.prog by rw [hpe]] at hm2
  refine ends_walk (B0 := 0) (fun _ _ _ h e he => by rw [h.2] at he; simp at he) hh2 hm2 fun gs3 a3 w3 sl3 t3 hh3 hst3 => ?_
  refine ends_walk (D := DE (EvL p.Sh (p.S + 1))) (B0 := p.S + 1) (fun _ _ _ h => h) hh3 (outN (by rw [hpe]) (Nat.lt_succ_self _) hst3) fun gs4 a4 w4 sl4 t4 hh4 hst4 => ?_
  obtain ⟨rfl, hsk4, hlv4, hsum4⟩ := hst4
  have hSh : p.Sh = (fun l => Shun l ∨ ShN (W.heap.size + 2) l ∨ ShN (W.heap.size + 1) l) := by subst hpe; rfl
  have hbit : sumTo p.n p.bit = sumTo n (fun j => if hb j then 2 ^ j else 0) := by subst hpe; rfl
  have hLow : p.Low = W.heap.size + 3 := by rw [hpe]
  have hWg : p.Wg = W.heap.size + 2 := by rw [hpe]
  have hS : p.S = W.heap.size + 1 := by rw [hpe]
  rw [hSh, hbit] at hh4
  refine k gs4 w4 sl4 t4 hh4 ⟨hsk4.tape, hsk4.os, hsk4.output, ⟨fun b hb => ?_, fun b hb => ?_, hsk4.nv⟩, by have := hsk4.size; omega, fun b hb => (hsk4.low b (by omega) (by omega) (by omega)).trans (hV b hb)⟩
  · have := hsk4.size
    rcases hb with hb | hb | hb
    · have := hbW.old b hb; omega
    · omega
    · omega
  · rcases hb with hb | rfl | rfl
    · have hlt := hbW.old b hb
      obtain ⟨c, e, hc⟩ := hbW.cov b hb
      exact ⟨c, e, ((hsk4.low b (by omega) (by omega) (by omega)).trans (hV b hlt)).trans hc⟩
    · rw [← hS]; exact ⟨_, _, hsum4⟩
    · obtain ⟨st, sm, hx⟩ := hlv4
      rw [← hWg]; exact ⟨_, _, hx⟩
end Go.Proofs.YtnojjmkmkelbgaaGreat

/- The names of those who are noted: what picked does behind shareNoted (chapter 14). -/
namespace Go.Proofs.YtnojjmkmkelbgaaGreat
open Go.RowKit

/-- Of a list's first k those whose place is noted. -/
def pk (hb : Nat → Bool) (l : List ByteArray) : Nat → List ByteArray
  | 0 => []
  | k + 1 => pk hb l k ++ if hb k = true then [l.getD k ByteArray.empty] else []
theorem pk_congr {hb hb' : Nat → Bool} (l : List ByteArray) : ∀ n, (∀ k, k < n → hb k = hb' k) → pk hb l n = pk hb' l n
  | 0, _ => rfl
  | n + 1, h => by rw [pk, pk, pk_congr l n fun k hk => h k (by omega), h n (by omega)]
theorem pk_length (hb : Nat → Bool) (l : List ByteArray) : ∀ n, (pk hb l n).length ≤ n
  | 0 => by simp [pk]
  | n + 1 => by have := pk_length hb l n; rw [pk, List.length_append]; split <;> simp <;> omega
theorem pk_mem {hb : Nat → Bool} {l : List ByteArray} : ∀ {n : Nat}, n ≤ l.length → ∀ s ∈ pk hb l n, s ∈ l
  | 0, _, s, h => by simp [pk] at h
  | n + 1, hn, s, h => by
    rw [pk, List.mem_append] at h
    rcases h with h | h
    · exact pk_mem (by omega) s h
    · split at h
      · simp at h; subst h; rw [List.getElem?_eq_getElem (by omega)]; exact List.getElem_mem _
      · simp at h

noncomputable def bodyP : Code := Tryz.f20.body.getD .skip
theorem bit_u32 {s : Nat} (hs : s < 4294967296) (k : Nat) : (bits .and .u32 ((s : Int) / 2 ^ k) 1 == 1) = s.testBit k := by
  have h1 : ((s : Int) / 2 ^ k) = ((s / 2 ^ k : Nat) : Int) := by simp
  have h2 : s / 2 ^ k < 4294967296 := Nat.lt_of_le_of_lt (Nat.div_le_self _ _) hs
  rw [h1, show (1 : Int) = ((1 : Nat) : Int) from rfl, u32_and_nat _ _ h2 (by omega), Nat.and_one_is_mod, Nat.testBit_eq_decide_div_mod_eq]
  rw [Bool.eq_iff_iff]
  simp only [beq_iff_eq, decide_eq_true_eq]
  omega

/-- What comes behind the noting. -/
noncomputable def RP : Code := match bodyP with | .seq _ (.seq _ r) => r | _ => .skip

set_option maxRecDepth 20000 in
set_option maxHeartbeats 4000000 in
theorem pickTail (tb : Nat) (things : List ByteArray) (ts : List Tr) (s : Nat) (fv : Value) (x9 x10 x11 x12 x13 x14 x15 : Value) (w : World) (h : Tab w tb things ts) (h5 : ts.length ≤ 5) (hs : s < 4294967296) {R : Value → World → Prop} (HR : Hid (∀ v w', OwnT w' w.heap.size v (pk (fun k => s.testBit k) (ts.map (·.1.nm)) ts.length) → Below w.heap.size w w' → R v w')) :
    RP.wp Tryz.prog (bodyPost Tryz.prog Tryz.f20 fun e w' => ∃ v, e = .returned v ∧ R v w')
      ⟨#[.pointer (some ⟨tb, 0, none⟩), fv, undef, undef, .slice none 0 0, .int .u32 s, undef, undef, undef, x9, x10, x11, x12, x13, x14, x15, undef, undef, undef, undef, undef, undef, undef, undef, undef, undef, undef, undef, undef, undef, undef, undef, undef, undef, undef, undef, undef, undef], []⟩ w := by
  obtain ⟨rv, hC, hown⟩ := h
  obtain ⟨t0, t1⟩ := hC.c2'
  obtain ⟨ii, hi, iz0, iz1, iz2⟩ := info_parts infoStr
  have htl := hC.2.2
  obtain ⟨ra, rc, rfl⟩ : ∃ ra rc, rv = .slice ra ts.length rc := by
    rcases hown.2 with ⟨h0, h1⟩ | ⟨g, cap, cur, hv, _⟩
    · exact ⟨none, 0, by rw [h0, h1]⟩
    · exact ⟨_, _, hv⟩
  simp only [RP, bodyP, Tryz.f20, Option.getD_some]
  go_wp2_with fail
  go_loopw [6, 7, 8, 21] (fun u _ _ i w' => ∃ k : Nat, k ≤ ts.length ∧ i = .int .i64 k ∧ OwnT w' w.heap.size u (pk (fun k => s.testBit k) (ts.map (·.1.nm)) k) ∧ Below w.heap.size w w') (fun _ _ _ i _ => ts.length - (intOf i).toNat)
  case atStart => exact ⟨0, by omega, rfl, ⟨by simp [pk], .inl ⟨rfl, rfl⟩⟩, Below.refl _ _⟩
  case round =>
    obtain ⟨k, hk, rfl, hown2, hB⟩ := hrel
    by_cases hp : k < ts.length
    · obtain ⟨p, hpt⟩ : ∃ p, ts[k]? = some p := ⟨_, List.getElem?_eq_getElem hp⟩
      obtain ⟨g, cap, hv⟩ := own_ptr2 hown (by omega)
      cases hv
      obtain ⟨r0, r1, r2, r3⟩ := row_cells (own_up hown hB) hpt
      have Hn : Hid ((ts.map (·.1.nm)).getD k ByteArray.empty = p.1.nm) := by
        show _ = _
        rw [List.getD_eq_getElem?_getD, List.getElem?_map, hpt]; rfl
      have Hl := pk_length (fun k => s.testBit k) (ts.map (·.1.nm)) k
      generalize p.1.nm = nm at *
      generalize bitsN things (memS p.1.has) = hb at *
      generalize bitsN things (memS p.1.needs) = nb at *
      generalize p.2 = gone at *
      obtain ⟨W1, hW1, kX, hB1, hs1⟩ : ∃ W1, wr.alloc (.cells #[.string nm, .int .u64 (hb : Nat), .int .u64 (nb : Nat), .bool gone] 55) = W1 ∧ CB W1 wr.heap.size [.string nm, .int .u64 (hb : Nat), .int .u64 (nb : Nat), .bool gone] ∧ Below wr.heap.size wr W1 ∧ W1.heap.size = wr.heap.size + 1 := ⟨_, rfl, cb1 wr _ _⟩
      clear hown hC t0 t1
      go_upto_region 6 with fail
      try rw [hW1]
      clear hW1 r0 r1 r2 r3
      have hneg : ¬ ((k : Int) < 0) := by omega
      have hbit := bit_u32 hs k
      have HB1 : Hid (Below w.heap.size w W1) := hB.trans (hB1.mono hB.size)
      have hown1 : OwnT W1 w.heap.size u6 (pk (fun k => s.testBit k) (ts.map (·.1.nm)) k) := OwnT.up hown2 hB1
      clear hown2
      cases ht : s.testBit k with
      | false =>
        rw [ht] at hbit
        have Hpk : Hid (pk (fun k => s.testBit k) (ts.map (·.1.nm)) (k + 1) = pk (fun k => s.testBit k) (ts.map (·.1.nm)) k) := by
          show _ = _
          rw [pk]; simp [ht]
        clear ht
        go_wp2_with fail
        go_roundw
        case rel => exact ⟨k + 1, by omega, by go_num, by rw [Hpk.out]; exact hown1, HB1.out⟩
        case measure => simp [intOf]; omega
      | true =>
        rw [ht] at hbit
        have Hpk : Hid (pk (fun k => s.testBit k) (ts.map (·.1.nm)) (k + 1) = pk (fun k => s.testBit k) (ts.map (·.1.nm)) k ++ [nm]) := by
          show _ = _
          rw [pk]; simp only [ht, if_true]; rw [Hn.out]
        clear ht Hn
        clear hs1
        have e0 := kX.1 0 _ rfl
        generalize pk (fun k => s.testBit k) (ts.map (·.1.nm)) k = pl at *
        have hown3 := own_up hown1 ((Below.refl W1.heap.size W1).alloc (Nat.le_refl _) (.cells #[.string nm] 9))
        have HB2 : Hid (Below w.heap.size w (W1.alloc (.cells #[.string nm] 9))) := HB1.out.alloc HB1.out.size (.cells #[.string nm] 9)
        go_wp2_with (at_builtin; refine wpList_append_own _ rfl _ _ 23 rfl w.heap.size 9 ii _ 1 16 Tryz.underlying23 hi iz0 iz1 iz2 rfl (by decide) _ _ _ rfl hown3 ⟨W1.heap.size, 0, none⟩ 1 1 [.string nm] rfl rfl (one_new _ _ _) (oneV _) (by unfold maxLen; omega) (by omega) HB2.out.size ?_)
        intro v1 w1 hown4 hgrow4 _
        have HB3 : Hid (Below w.heap.size w w1) := below_own HB2.out hown3 hgrow4 (Nat.le_refl _)
        clear hown1 hown3 hgrow4 e0 kX
        have Ho4 : Hid (OwnT w1 w.heap.size v1 (pk (fun k => s.testBit k) (ts.map (·.1.nm)) (k + 1))) := by
          show OwnT _ _ _ _
          rw [Hpk.out]; unfold OwnT; rw [List.length_append, List.map_append]; exact hown4
        clear hown4
        go_wp2_with fail
        go_roundw
        case rel => exact ⟨k + 1, by omega, by go_num, Ho4.out, HB3.out⟩
        case measure => simp [intOf]; omega
    · have Ho : Hid (∀ u, OwnT wr w.heap.size u (pk (fun k => s.testBit k) (ts.map (·.1.nm)) k) → OwnT wr w.heap.size u (pk (fun k => s.testBit k) (ts.map (·.1.nm)) ts.length)) := fun u h => by
        obtain rfl : k = ts.length := by omega
        exact h
      go_wp2_with fail
      go_ret
      exact ⟨_, rfl, HR.out _ _ (Ho.out _ hown2) hB⟩
end Go.Proofs.YtnojjmkmkelbgaaGreat

/- The share's goroutines: what lies low ahead of a phase (out of Sn7). -/
namespace Go.Proofs.YtnojjmkmkelbgaaGreat
open Go.Conc Go.ConcN Go.RowKit Go.Conc.Lib Go.ConcR.Gen Go.ConcN.Gen

section
variable {X : Nat → Prop} {Shun : Loc → Prop} {W : World} {fv : Value}
theorem low_a (hX : ∀ l, Shun l → ∃ a, l = .cell a ∧ X a.block) {p : Ph} (hL : p.Low = W.heap.size + 3) (hWg : p.Wg = W.heap.size + 2) (hS : p.S = W.heap.size + 1) (hSh : p.Shun = Shun) {a : Addr} (hlt : a.block < W.heap.size + 1) (hx : ¬ X a.block) : LowA p a := by
  refine ⟨by omega, fun h => ?_⟩
  rcases h with h | ⟨b, e, hb⟩ | ⟨b, e, hb⟩
  · rw [hSh] at h
    obtain ⟨b, e, hb⟩ := hX _ h
    cases e; exact hx hb
  · cases e; omega
  · cases e; omega
theorem vc_cell {a : Addr} {v : Value} (hc : W.cell? a = some v) : (VC W fv).cell? a = some v := by
  have hlt := World.block_lt_of_cell? W a hc
  unfold VC VB VA
  rw [World.cell?_alloc_lt _ _ _ (by rw [World.size_alloc, World.size_alloc]; omega), World.cell?_alloc_lt _ _ _ (by rw [World.size_alloc]; omega), World.cell?_alloc_lt _ _ _ hlt, hc]
theorem vc_fv : (VC W fv).cell? ⟨W.heap.size, 0, none⟩ = some fv := by
  unfold VC VB
  rw [World.cell?_alloc_lt _ _ _ (show W.heap.size < _ by rw [World.size_alloc, va_size]; omega), World.cell?_alloc_lt _ _ _ (show W.heap.size < _ by rw [va_size]; omega)]
  unfold VA
  have := heap_alloc_new W (.cells #[fv] 44)
  unfold World.cell?
  simp only []
  rw [this]
  rfl
end
end Go.Proofs.YtnojjmkmkelbgaaGreat
