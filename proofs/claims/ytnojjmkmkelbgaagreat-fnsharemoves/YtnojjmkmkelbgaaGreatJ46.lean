/- The law of promises 14 and 15, 1: what its test asks, the going calls in it. -/
import Derived.Test.YtnojjmkmkelbgaaGreatJ44
import Derived.Test.YtnojjmkmkelbgaaGreatJ43
import Derived.Test.YtnojjmkmkelbgaaGreatJ45
import Derived.Test.YtnojjmkmkelbgaaGreatJ40
namespace Go.Proofs.YtnojjmkmkelbgaaGreat
open Go.Conc Go.ConcN Go.RowKit Go.Conc.Lib Go.ConcR.Gen Go.ConcN.Gen
open Go.ConcR (KK wgBlock WgAt stA smA rd wr mk Payload DC0)

noncomputable def bL : Frame := base 3
theorem frL : FrB Tryz.prog bL := ⟨rfl, _, Tryz.func3⟩
noncomputable def ops5 : Array Oper := match tL 4 with | .seq (.seq (.region _ o _) _) _ => o | _ => #[]
noncomputable def cond5 : Code := match tL 4 with | .seq (.seq _ c) _ => c | _ => .skip
theorem tL4 : tL 4 = .seq (.seq (.region 5 ops5 true) cond5) (tL 5) := rfl
theorem cond5_eq : ∃ x, cond5 = .cond (.tmp 44) x .skip := ⟨_, rfl⟩
theorem o5_0 : ∃ o, ops5[0]? = some o ∧ o.op = .move (.tmp 6) ∧ o.dst = some 25 ∧ o.guard = none := ⟨_, rfl, rfl, rfl, rfl⟩
theorem o5_1 : ∃ o, ops5[1]? = some o ∧ o.op = .load 26 (.tmp 5) ∧ o.dst = some 26 ∧ o.guard = none := ⟨_, rfl, rfl, rfl, rfl⟩
theorem o5_2 : ∃ o, ops5[2]? = some o ∧ (∃ ats, o.op = .call { callee := .value (.func 7), args := #[.tmp 26], argTypes := ats }) ∧ o.dst = some 27 ∧ o.guard = none := ⟨_, rfl, ⟨_, rfl⟩, rfl, rfl⟩
theorem o5_3 : ∃ o, ops5[3]? = some o ∧ (∃ ats, o.op = .call { callee := .value (.func 6), args := #[.tmp 25, .tmp 27], argTypes := ats }) ∧ o.dst = some 28 ∧ o.guard = none := ⟨_, rfl, ⟨_, rfl⟩, rfl, rfl⟩
theorem o5_4 : ∃ o, ops5[4]? = some o ∧ (∃ ty, o.op = .unOp .not ty (.tmp 28)) ∧ o.dst = some 29 ∧ o.guard = none := ⟨_, rfl, ⟨_, rfl⟩, rfl, rfl⟩
theorem o5_5 : ∃ o, ops5[5]? = some o ∧ o.op = .move (.tmp 29) ∧ o.dst = some 30 ∧ o.guard = none := ⟨_, rfl, rfl, rfl, rfl⟩
theorem o5_6 : ∃ o, ops5[6]? = some o ∧ o.op = .load 26 (.tmp 5) ∧ o.dst = some 31 ∧ o.guard = some (5, false) := ⟨_, rfl, rfl, rfl, rfl⟩
theorem o5_7 : ∃ o, ops5[7]? = some o ∧ (∃ ats, o.op = .call { callee := .value (.func 8), args := #[.tmp 31], argTypes := ats }) ∧ o.dst = some 32 ∧ o.guard = some (5, false) := ⟨_, rfl, ⟨_, rfl⟩, rfl, rfl⟩
theorem o5_8 : ∃ o, ops5[8]? = some o ∧ o.op = .load 26 (.tmp 5) ∧ o.dst = some 33 ∧ o.guard = some (5, false) := ⟨_, rfl, rfl, rfl, rfl⟩
theorem o5_9 : ∃ o, ops5[9]? = some o ∧ (∃ ats, o.op = .call { callee := .value (.func 9), args := #[.tmp 33], argTypes := ats }) ∧ o.dst = some 34 ∧ o.guard = some (5, false) := ⟨_, rfl, ⟨_, rfl⟩, rfl, rfl⟩
theorem o5_10 : ∃ o, ops5[10]? = some o ∧ (∃ ty ty2, o.op = .binOp .neq ty (.tmp 32) (.tmp 34) ty2 ∧ ty = 4) ∧ o.dst = some 35 ∧ o.guard = some (5, false) := ⟨_, rfl, ⟨_, _, rfl, rfl⟩, rfl, rfl⟩
theorem o5_11 : ∃ o, ops5[11]? = some o ∧ o.op = .pick (.tmp 30) (.const (.bool true)) (.tmp 35) ∧ o.dst = some 36 ∧ o.guard = none := ⟨_, rfl, rfl, rfl, rfl⟩
theorem o5_12 : ∃ o, ops5[12]? = some o ∧ o.op = .move (.tmp 36) ∧ o.dst = some 37 ∧ o.guard = none := ⟨_, rfl, rfl, rfl, rfl⟩
theorem o5_13 : ∃ o, ops5[13]? = some o ∧ o.op = .load 26 (.tmp 5) ∧ o.dst = some 38 ∧ o.guard = some (12, false) := ⟨_, rfl, rfl, rfl, rfl⟩
theorem o5_14 : ∃ o, ops5[14]? = some o ∧ (∃ ats, o.op = .call { callee := .value (.func 8), args := #[.tmp 38], argTypes := ats }) ∧ o.dst = some 39 ∧ o.guard = some (12, false) := ⟨_, rfl, ⟨_, rfl⟩, rfl, rfl⟩
theorem o5_15 : ∃ o, ops5[15]? = some o ∧ o.op = .move (.tmp 39) ∧ o.dst = some 40 ∧ o.guard = some (12, false) := ⟨_, rfl, rfl, rfl, rfl⟩
theorem o5_16 : ∃ o, ops5[16]? = some o ∧ o.op = .load 26 (.tmp 5) ∧ o.dst = some 41 ∧ o.guard = some (15, true) := ⟨_, rfl, rfl, rfl, rfl⟩
theorem o5_17 : ∃ o, ops5[17]? = some o ∧ (∃ ats, o.op = .call { callee := .value (.func 10), args := #[.tmp 41], argTypes := ats }) ∧ o.dst = some 42 ∧ o.guard = some (15, true) := ⟨_, rfl, ⟨_, rfl⟩, rfl, rfl⟩
theorem o5_18 : ∃ o, ops5[18]? = some o ∧ o.op = .pick (.tmp 40) (.tmp 42) (.const (.bool false)) ∧ o.dst = some 43 ∧ o.guard = some (12, false) := ⟨_, rfl, rfl, rfl, rfl⟩
theorem o5_19 : ∃ o, ops5[19]? = some o ∧ o.op = .pick (.tmp 37) (.const (.bool true)) (.tmp 43) ∧ o.dst = some 44 ∧ o.guard = none := ⟨_, rfl, rfl, rfl, rfl⟩

def nine : List (List Nat) := [[0, 1, 2, 3, 4, 5, 6, 7, 8, 9, 10, 11, 12, 13, 14, 15, 16, 17, 18, 19], [0, 1, 2, 3, 4, 5, 6, 8, 7, 9, 10, 11, 12, 13, 14, 15, 16, 17, 18, 19], [0, 1, 2, 3, 4, 5, 8, 6, 7, 9, 10, 11, 12, 13, 14, 15, 16, 17, 18, 19], [1, 0, 2, 3, 4, 5, 6, 7, 8, 9, 10, 11, 12, 13, 14, 15, 16, 17, 18, 19], [1, 0, 2, 3, 4, 5, 6, 8, 7, 9, 10, 11, 12, 13, 14, 15, 16, 17, 18, 19], [1, 0, 2, 3, 4, 5, 8, 6, 7, 9, 10, 11, 12, 13, 14, 15, 16, 17, 18, 19], [1, 2, 0, 3, 4, 5, 6, 7, 8, 9, 10, 11, 12, 13, 14, 15, 16, 17, 18, 19], [1, 2, 0, 3, 4, 5, 6, 8, 7, 9, 10, 11, 12, 13, 14, 15, 16, 17, 18, 19], [1, 2, 0, 3, 4, 5, 8, 6, 7, 9, 10, 11, 12, 13, 14, 15, 16, 17, 18, 19]]
theorem ords5 (x : Nat) : Region.schedule (Tryz.prog.follows .mixedOrders) ops5 x ∈ nine := by
  have h : (Ords .any ops5 ops5.size (Array.replicate ops5.size false)).all (fun l => nine.contains l) = true := by kernel_rfl
  have := List.all_eq_true.1 h _ (sched_mem (P := Tryz.prog) (by kernel_rfl) ops5 x)
  simpa using this
end Go.Proofs.YtnojjmkmkelbgaaGreat

/- The law of promises 14 and 15, 2: what is held between its steps; the test. -/
namespace Go.Proofs.YtnojjmkmkelbgaaGreat
open Go.Conc Go.ConcN Go.RowKit Go.Conc.Lib Go.ConcR.Gen Go.ConcN.Gen
open Go.ConcR (KK wgBlock WgAt stA smA rd wr mk Payload DC0)

abbrev t0 : Nat → Question → Nat := fun _ _ => 0
/-- What is held: the book in its box, the list of those who move. -/
structure InvL (W0 : World) (b : Bk) (bx : Nat) (x1 x2 : Value) (lg : Nat) (lv : Value) (X : Nat → Prop) (Shun : Loc → Prop) (V : World) : Prop where
  hX : ShIn Shun X
  base : Base X V
  cb : CB (pzT X V t0 0) bx [x1, x2]
  bk : BkV (pzT X V t0 0) (.agg #[x1, x2]) b
  own : OwnT (pzT X V t0 0) lg lv (movesS b)
  old : OldW W0 (pzT X V t0 0)
  far : ∀ k, X k → W0.heap.size ≤ k

section
variable {W0 : World} {b : Bk} {bx : Nat} {x1 x2 : Value} {lg : Nat} {lv : Value} {X : Nat → Prop} {Shun : Loc → Prop} {V : World}
theorem InvL.at (h : InvL W0 b bx x1 x2 lg lv X Shun V) (d : Nat) : InvL W0 b bx x1 x2 lg lv X Shun (V.at d) := ⟨h.hX, h.base.at d, h.cb, h.bk, h.own, h.old, h.far⟩
theorem InvL.size (h : InvL W0 b bx x1 x2 lg lv X Shun V) : W0.heap.size ≤ V.heap.size := by
  obtain ⟨w0, ⟨τ, rfl⟩, hb⟩ := h.old
  have := hb.size
  rwa [pz_size] at this
theorem InvL.up {X' : Nat → Prop} {Shun' : Loc → Prop} {w' : World} (h : InvL W0 b bx x1 x2 lg lv X Shun V) (hX : ShIn Shun' X') (hb : Base X' w') (hW : ∀ k, X' k → X k ∨ V.heap.size ≤ k) (hB : ∀ τ d, Below V.heap.size (pzT X V τ d) (pzT X' w' τ d)) : InvL W0 b bx x1 x2 lg lv X' Shun' w' := by
  have hB' : Below (pzT X V t0 0).heap.size (pzT X V t0 0) (pzT X' w' t0 0) := by rw [pz_size]; exact hB _ _
  exact ⟨hX, hb, h.cb.up hB' h.cb.2.2, h.bk.up hB', h.own.up hB', h.old.up hB', fun k hk => (hW k hk).elim (h.far k) (fun hk => Nat.le_trans h.size hk)⟩
theorem InvL.c0 (h : InvL W0 b bx x1 x2 lg lv X Shun V) : V.cell? ⟨bx, 0, none⟩ = some x1 := (pz_cell (h.cb.1 0 _ rfl)).1
theorem InvL.c1 (h : InvL W0 b bx x1 x2 lg lv X Shun V) : V.cell? ⟨bx, 1, none⟩ = some x2 := (pz_cell (h.cb.1 1 _ rfl)).1
theorem InvL.lt (h : InvL W0 b bx x1 x2 lg lv X Shun V) : bx < V.heap.size := World.block_lt_of_cell? V ⟨bx, 0, none⟩ h.c0
theorem InvL.ns (h : InvL W0 b bx x1 x2 lg lv X Shun V) (o : Nat) : ¬ Shun (.cell ⟨bx, o, none⟩) := fun hs => by
  obtain ⟨a, e, ha⟩ := h.hX _ hs
  cases e
  exact (pz_cell (h.cb.1 0 _ rfl)).2 ha

variable {Post : Value → World → Prop} {f : Frame} {a : Act} {k : List Item} {cs : List Frame} {gs : Array Goroutine} {sl : Option (Nat × Nat)} {t : Trace}
/-- The book is looked at. -/
theorem e_book {ops : Array Oper} {i : Nat} {rest : List Nat} {o : Oper} {x : Operand} {dst : Option Tmp} (hI : InvL W0 b bx x1 x2 lg lv X Shun V) (hh : Here Tryz.prog Shun gs (G (f.at a (.inRegion ops (i :: rest) :: k)) cs) t) (ho : ops[i]? = some o) (hw : Region.wanted o (yielded ops a.tmps) = true) (hk : f.kind = .normal) (hdst : o.dst = dst) (hop : o.op = .load 26 x) (hx : a.eval x = .pointer (some ⟨bx, 0, none⟩))
    (kk : ∀ gs' sl' t' d, Here Tryz.prog Shun gs' (G (f.at (a.put dst (.agg #[x1, x2])) (.inRegion ops rest :: k)) cs) t' → EndsG Tryz.prog Post (crowd gs' (V.at d) sl') t') : EndsG Tryz.prog Post (crowd gs V sl) t := by
  refine e_val V.heap.size hh ho hw hk hdst (fun d => ?_) (fun d e he => ?_) kk
  · have c0 : (V.at d).cell? ⟨bx, 0, none⟩ = some x1 := hI.c0
    have c1 : (V.at d).cell? ⟨bx, 1, none⟩ = some x2 := hI.c1
    unfold execOp
    rw [hop]
    simp only [hx]
    simp [go_sem, c0, c1]
  · have c0 : (V.at d).cell? ⟨bx, 0, none⟩ = some x1 := hI.c0
    have c1 : (V.at d).cell? ⟨bx, 1, none⟩ = some x2 := hI.c1
    unfold execOp at he
    rw [hop] at he
    simp only [hx] at he
    simp [go_sem, c0, c1] at he
    rcases he with rfl | rfl <;> exact evL_low hI.lt (hI.ns _)
theorem h_book {n : Nat} {T : Array Value} {l : List (Nat × Value)} {ops : Array Oper} {i : Nat} {rest : List Nat} {o : Oper} {x : Operand} {d : Nat} (hI : InvL W0 b bx x1 x2 lg lv X Shun V) (hh : Here Tryz.prog Shun gs (G (f.at ⟨T, []⟩ (.inRegion ops (i :: rest) :: k)) cs) t) (hT : Has n T l) (ho : ops[i]? = some o) (hw : Region.wanted o (yielded ops T) = true) (hk : f.kind = .normal) (hdst : o.dst = some d) (hop : o.op = .load 26 x) (hx : (⟨T, []⟩ : Act).eval x = .pointer (some ⟨bx, 0, none⟩)) (hd : d < n) (hn : ∀ p ∈ l, p.1 ≠ d)
    (kk : ∀ gs' sl' t' x T', Here Tryz.prog Shun gs' (G (f.at ⟨T', []⟩ (.inRegion ops rest :: k)) cs) t' → Has n T' ((d, .agg #[x1, x2]) :: l) → EndsG Tryz.prog Post (crowd gs' (V.at x) sl') t') : EndsG Tryz.prog Post (crowd gs V sl) t :=
  e_book hI hh ho hw hk hdst hop hx fun gs' sl' t' x hh' => kk gs' sl' t' x (T.setIfInBounds d (.agg #[x1, x2])) hh' (hT.put d _ hd hn)
end
end Go.Proofs.YtnojjmkmkelbgaaGreat

/- The law of promises 14 and 15, 3: its test, walked. -/
namespace Go.Proofs.YtnojjmkmkelbgaaGreat
open Go.Conc Go.ConcN Go.RowKit Go.Conc.Lib Go.ConcR.Gen Go.ConcN.Gen
open Go.ConcR (KK wgBlock WgAt stA smA rd wr mk Payload DC0)

theorem wantT {ops : Array Oper} {T : Array Value} {o : Oper} {n j s : Nat} {t t' : Bool} {l : List (Nat × Value)} (hg : o.guard = some (j, t)) (hj : ∃ oj, ops[j]? = some oj ∧ oj.dst = some s) (hT : Has n T l) (hm : (s, .bool t') ∈ l) : Region.wanted o (yielded ops T) = (t' == t) :=
  let ⟨_, h1, h2⟩ := hj
  want1 hg h1 h2 (hT.get s _ hm)
set_option maxRecDepth 100000 in
theorem neq_ev (w : World) (x y : Bool) : (binOp .neq 4 (.bool x) (.bool y)).events Tryz.prog w #[] = #[] := by
  cases x <;> cases y <;> first | kernel_rfl | rfl
theorem d5 : ∃ oj, ops5[5]? = some oj ∧ oj.dst = some 30 := ⟨_, rfl, rfl⟩
theorem d12 : ∃ oj, ops5[12]? = some oj ∧ oj.dst = some 37 := ⟨_, rfl, rfl⟩
theorem d15 : ∃ oj, ops5[15]? = some oj ∧ oj.dst = some 40 := ⟨_, rfl, rfl⟩

section
variable {W0 : World} {b : Bk} {bx : Nat} {x1 x2 : Value} {lg : Nat} {lv : Value} {X : Nat → Prop} {Shun : Loc → Prop} {V : World} {Post : Value → World → Prop} {gs : Array Goroutine} {sl : Option (Nat × Nat)} {t : Trace} {T : Array Value} {v1 : Value}
/-- The last of it: who is stuck is not safe. -/
theorem r5_c (hI : InvL W0 b bx x1 x2 lg lv X Shun V) (hT : Has 96 T ((37, .bool false) :: [(1, v1), (5, .pointer (some ⟨bx, 0, none⟩)), (6, lv)])) (hh : Here Tryz.prog Shun gs (G (bL.at ⟨T, []⟩ (.inRegion ops5 [13, 14, 15, 16, 17, 18, 19] :: [.code cond5, .code (tL 5)])) []) t) (kk : ∀ X Shun gs V sl t T, InvL W0 b bx x1 x2 lg lv X Shun V → Here Tryz.prog Shun gs (G (bL.at ⟨T, []⟩ [.code (tL 5)]) []) t → Has 96 T [(1, v1), (5, .pointer (some ⟨bx, 0, none⟩)), (6, lv)] → EndsG Tryz.prog Post (crowd gs V sl) t) : EndsG Tryz.prog Post (crowd gs V sl) t := by
  have last : ∀ {X Shun gs V sl t T}, InvL W0 b bx x1 x2 lg lv X Shun V → Has 96 T ((43, .bool false) :: (37, .bool false) :: [(1, v1), (5, .pointer (some ⟨bx, 0, none⟩)), (6, lv)]) → Here Tryz.prog Shun gs (G (bL.at ⟨T, []⟩ (.inRegion ops5 [19] :: [.code cond5, .code (tL 5)])) []) t → EndsG Tryz.prog Post (crowd gs V sl) t := by
    intro X Shun gs V sl t T hI hT hh
    obtain ⟨o, ho, hop, hdst, hg⟩ := o5_19
    refine h_val (v := .bool false) 0 hh hT ho (want0 hg _) rfl hdst (by omega) (by simp) (fun d => ?_) (fun d e he => ?_) fun gs sl t dd T hh hT => ?_
    · unfold execOp; rw [hop]; simp only [hT.ev 37 (.bool false) (by simp), hT.ev 43 (.bool false) (by simp)]; simp [go_sem]
    · unfold execOp at he; rw [hop] at he; simp only [hT.ev 37 (.bool false) (by simp)] at he; simp [go_sem] at he
    replace hI := hI.at dd
    refine e_ctl hh rfl (fun w => stepG_region_end) fun gs sl t dd hh => ?_
    replace hI := hI.at dd
    obtain ⟨x, hx⟩ := cond5_eq
    rw [hx] at hh
    refine e_ctl hh rfl (fun w => stepG_cond (t := false) (hT.ev 44 (.bool false) (by simp))) fun gs sl t dd hh => ?_
    replace hI := hI.at dd
    refine e_ctl hh rfl (fun w => stepG_skip) fun gs sl t dd hh => ?_
    exact kk _ _ _ _ _ _ _ (hI.at dd) hh (hT.sub (by simp))
  obtain ⟨o, ho, hop, hdst, hg⟩ := o5_13; refine h_book hI hh hT ho (by rw [wantT hg d12 hT (t' := false) (by simp)]; rfl) rfl hdst hop (hT.ev 5 (.pointer (some ⟨bx, 0, none⟩)) (by simp)) (by omega) (by simp) fun gs sl t dd T hh hT => ?_; replace hI := hI.at dd; clear hop ho hdst hg o
  obtain ⟨o, ho, hop, hdst, hg⟩ := o5_14
  obtain ⟨ats, hop⟩ := hop
  refine h_go (X := X) #[.agg #[x1, x2]] hh hT ho (by rw [wantT hg d12 hT (t' := false) (by simp)]; rfl) rfl hdst hop Tryz.func8 (by kernel_rfl) rfl (by simp [hT.ev 38 (.agg #[x1, x2]) (by simp)]) (by omega) (by simp) (fun d => stuck_g (b := b) hI.hX (hI.base.at d) (fun τ d => hI.bk)) fun X' Shun' gs V' sl t v T hX' hW' hh hT hb' hR => ?_
  obtain rfl := (hR t0 0).1
  have hI' := hI.up hX' hb' hW' fun τ d => (hR τ d).2
  clear hI hR hW' hb' hX' hop ho hdst hg o
  have hI := hI'
  clear hI'
  obtain ⟨o, ho, hop, hdst, hg⟩ := o5_15; refine h_move hh hT ho (by rw [wantT hg d12 hT (t' := false) (by simp)]; rfl) rfl hdst (.inl hop) (hT.ev 39 (.bool (stuckB b)) (by simp)) (by omega) (by simp) fun gs sl t dd T hh hT => ?_; replace hI := hI.at dd; clear hop ho hdst hg o
  cases hs : stuckB b with
  | false =>
    rw [hs] at hT
    obtain ⟨o, ho, hop, hdst, hg⟩ := o5_16; refine h_skip hh hT ho (by rw [wantT hg d15 hT (t' := false) (by simp)]; rfl) hdst (by omega) (by simp) fun gs sl t dd T hh hT => ?_; replace hI := hI.at dd; clear hop ho hdst hg o
    obtain ⟨o, ho, hop, hdst, hg⟩ := o5_17; refine h_skip hh hT ho (by rw [wantT hg d15 hT (t' := false) (by simp)]; rfl) hdst (by omega) (by simp) fun gs sl t dd T hh hT => ?_; replace hI := hI.at dd; clear hop ho hdst hg o
    obtain ⟨o, ho, hop, hdst, hg⟩ := o5_18
    refine h_val (v := .bool false) 0 hh hT ho (by rw [wantT hg d12 hT (t' := false) (by simp)]; rfl) rfl hdst (by omega) (by simp) (fun d => ?_) (fun d e he => ?_) fun gs sl t dd T hh hT => ?_
    · unfold execOp; rw [hop]; simp only [hT.ev 40 (.bool false) (by simp)]; simp [go_sem]
    · unfold execOp at he; rw [hop] at he; simp only [hT.ev 40 (.bool false) (by simp)] at he; simp [go_sem] at he
    exact last (hI.at dd) (hT.sub (by simp)) hh
  | true =>
    rw [hs] at hT
    have hs' : bookB b = true ∧ 0 < b.bs.length ∧ (movesS b).length = 0 := by
      rw [stuckB, Bool.and_eq_true, Bool.and_eq_true, decide_eq_true_eq, decide_eq_true_eq] at hs
      exact hs
    obtain ⟨o, ho, hop, hdst, hg⟩ := o5_16; refine h_book hI hh hT ho (by rw [wantT hg d15 hT (t' := true) (by simp)]; rfl) rfl hdst hop (hT.ev 5 (.pointer (some ⟨bx, 0, none⟩)) (by simp)) (by omega) (by simp) fun gs sl t dd T hh hT => ?_; replace hI := hI.at dd; clear hop ho hdst hg o
    obtain ⟨o, ho, hop, hdst, hg⟩ := o5_17
    obtain ⟨ats, hop⟩ := hop
    refine h_go (X := X') #[.agg #[x1, x2]] hh hT ho (by rw [wantT hg d15 hT (t' := true) (by simp)]; rfl) rfl hdst hop Tryz.func10 (by kernel_rfl) rfl (by simp [hT.ev 41 (.agg #[x1, x2]) (by simp)]) (by omega) (by simp) (fun d => safe0_g (b := b) hI.hX (hI.base.at d) (fun τ d => hI.bk) hs'.1 hs'.2.1 hs'.2.2) fun X2 Shun2 gs V2 sl t v T hX2 hW2 hh hT hb2 hR => ?_
    obtain rfl := (hR t0 0).1
    have hI' := hI.up hX2 hb2 hW2 fun τ d => (hR τ d).2
    clear hop ho hdst hg o
    obtain ⟨o, ho, hop, hdst, hg⟩ := o5_18
    refine h_val (v := .bool false) 0 hh hT ho (by rw [wantT hg d12 hT (t' := false) (by simp)]; rfl) rfl hdst (by omega) (by simp) (fun d => ?_) (fun d e he => ?_) fun gs sl t dd T hh hT => ?_
    · unfold execOp; rw [hop]; simp only [hT.ev 40 (.bool true) (by simp), hT.ev 42 (.bool false) (by simp)]; simp [go_sem]
    · unfold execOp at he; rw [hop] at he; simp only [hT.ev 40 (.bool true) (by simp)] at he; simp [go_sem] at he
    exact last (hI'.at dd) (hT.sub (by simp)) hh
/-- The second of it: both say alike who is stuck. -/
theorem r5_b2 (hI : InvL W0 b bx x1 x2 lg lv X Shun V) (hT : Has 96 T ((33, .agg #[x1, x2]) :: (32, .bool (stuckB b)) :: (30, .bool false) :: [(1, v1), (5, .pointer (some ⟨bx, 0, none⟩)), (6, lv)])) (hh : Here Tryz.prog Shun gs (G (bL.at ⟨T, []⟩ (.inRegion ops5 [9, 10, 11, 12, 13, 14, 15, 16, 17, 18, 19] :: [.code cond5, .code (tL 5)])) []) t) (kk : ∀ X Shun gs V sl t T, InvL W0 b bx x1 x2 lg lv X Shun V → Here Tryz.prog Shun gs (G (bL.at ⟨T, []⟩ [.code (tL 5)]) []) t → Has 96 T [(1, v1), (5, .pointer (some ⟨bx, 0, none⟩)), (6, lv)] → EndsG Tryz.prog Post (crowd gs V sl) t) : EndsG Tryz.prog Post (crowd gs V sl) t := by
  obtain ⟨o, ho, hop, hdst, hg⟩ := o5_9
  obtain ⟨ats, hop⟩ := hop
  refine h_call setW hI.hX hI.base #[.agg #[x1, x2]] hh hT ho (by rw [wantT hg d5 hT (t' := false) (by simp)]; rfl) rfl hdst hop Tryz.func9 (by kernel_rfl) rfl (by kernel_rfl) (by simp [hT.ev 33 (.agg #[x1, x2]) (by simp)]) (by omega) (by simp) (R := fun v _ => v = .bool (stuckB b)) (fun _ _ _ _ h => h) (fun τ d => (specStuck_any b _ (pzT X V τ d) hI.bk).mono ?_) fun gs V' sl t v T hh hT hb' hR => ?_
  · rintro e u' ⟨rfl, hb⟩
    exact ⟨⟨_, rfl, rfl⟩, hb⟩
  obtain rfl := (hR t0 0).1
  replace hI := hI.up hI.hX hb' (fun k hk => .inl hk) fun τ d => (hR τ d).2
  clear hop ho hdst hg o hR hb'
  obtain ⟨o, ho, hop, hdst, hg⟩ := o5_10
  obtain ⟨ty, ty2, hop, hty⟩ := hop
  subst hty
  refine h_val (v := .bool false) 0 hh hT ho (by rw [wantT hg d5 hT (t' := false) (by simp)]; rfl) rfl hdst (by omega) (by simp) (fun d => ?_) (fun d e he => ?_) fun gs sl t dd T hh hT => ?_
  · unfold execOp; rw [hop]; simp only [hT.ev 32 (.bool (stuckB b)) (by simp), hT.ev 34 (.bool (stuckB b)) (by simp)]; simp [go_sem]
  · unfold execOp at he; rw [hop] at he; simp only [hT.ev 32 (.bool (stuckB b)) (by simp), hT.ev 34 (.bool (stuckB b)) (by simp)] at he; simp [go_sem] at he; rw [neq_ev] at he; simp at he
  replace hI := hI.at dd
  clear hop ho hdst hg o
  obtain ⟨o, ho, hop, hdst, hg⟩ := o5_11
  refine h_val (v := .bool false) 0 hh hT ho (want0 hg _) rfl hdst (by omega) (by simp) (fun d => ?_) (fun d e he => ?_) fun gs sl t dd T hh hT => ?_
  · unfold execOp; rw [hop]; simp only [hT.ev 30 (.bool false) (by simp), hT.ev 35 (.bool false) (by simp)]; simp [go_sem]
  · unfold execOp at he; rw [hop] at he; simp only [hT.ev 30 (.bool false) (by simp)] at he; simp [go_sem] at he
  replace hI := hI.at dd
  clear hop ho hdst hg o
  obtain ⟨o, ho, hop, hdst, hg⟩ := o5_12; refine h_move hh hT ho (want0 hg _) rfl hdst (.inl hop) (hT.ev 36 (.bool false) (by simp)) (by omega) (by simp) fun gs sl t dd T hh hT => ?_; replace hI := hI.at dd; clear hop ho hdst hg o
  exact r5_c hI (hT.sub (by simp)) hh kk
theorem r5_b (hI : InvL W0 b bx x1 x2 lg lv X Shun V) (hT : Has 96 T ((30, .bool false) :: [(1, v1), (5, .pointer (some ⟨bx, 0, none⟩)), (6, lv)])) {l2 : List Nat} (hl : l2 ∈ [[6, 7, 8, 9], [6, 8, 7, 9], [8, 6, 7, 9]]) (hh : Here Tryz.prog Shun gs (G (bL.at ⟨T, []⟩ (.inRegion ops5 (l2 ++ [10, 11, 12, 13, 14, 15, 16, 17, 18, 19]) :: [.code cond5, .code (tL 5)])) []) t) (kk : ∀ X Shun gs V sl t T, InvL W0 b bx x1 x2 lg lv X Shun V → Here Tryz.prog Shun gs (G (bL.at ⟨T, []⟩ [.code (tL 5)]) []) t → Has 96 T [(1, v1), (5, .pointer (some ⟨bx, 0, none⟩)), (6, lv)] → EndsG Tryz.prog Post (crowd gs V sl) t) : EndsG Tryz.prog Post (crowd gs V sl) t := by
  simp only [List.mem_cons, List.not_mem_nil, or_false] at hl
  rcases hl with rfl | rfl | rfl
  · obtain ⟨o, ho, hop, hdst, hg⟩ := o5_6; refine h_book hI hh hT ho (by rw [wantT hg d5 hT (t' := false) (by simp)]; rfl) rfl hdst hop (hT.ev 5 (.pointer (some ⟨bx, 0, none⟩)) (by simp)) (by omega) (by simp) fun gs sl t dd T hh hT => ?_; replace hI := hI.at dd; clear hop ho hdst hg o
    obtain ⟨o, ho, hop, hdst, hg⟩ := o5_7; obtain ⟨ats, hop⟩ := hop; refine h_go (X := X) #[.agg #[x1, x2]] hh hT ho (by rw [wantT hg d5 hT (t' := false) (by simp)]; rfl) rfl hdst hop Tryz.func8 (by kernel_rfl) rfl (by simp [hT.ev 31 (.agg #[x1, x2]) (by simp)]) (by omega) (by simp) (fun d => stuck_g (b := b) hI.hX (hI.base.at d) (fun τ d => hI.bk)) fun X' Shun' gs V' sl t v T hX' hW' hh hT hb' hR => ?_; obtain rfl := (hR t0 0).1; have hI' := hI.up hX' hb' hW' fun τ d => (hR τ d).2; clear hI hR hW' hb' hX' hop ho hdst hg o; have hI := hI'; clear hI'
    obtain ⟨o, ho, hop, hdst, hg⟩ := o5_8; refine h_book hI hh hT ho (by rw [wantT hg d5 hT (t' := false) (by simp)]; rfl) rfl hdst hop (hT.ev 5 (.pointer (some ⟨bx, 0, none⟩)) (by simp)) (by omega) (by simp) fun gs sl t dd T hh hT => ?_; replace hI := hI.at dd; clear hop ho hdst hg o
    exact r5_b2 hI (hT.sub (by simp)) hh kk
  · obtain ⟨o, ho, hop, hdst, hg⟩ := o5_6; refine h_book hI hh hT ho (by rw [wantT hg d5 hT (t' := false) (by simp)]; rfl) rfl hdst hop (hT.ev 5 (.pointer (some ⟨bx, 0, none⟩)) (by simp)) (by omega) (by simp) fun gs sl t dd T hh hT => ?_; replace hI := hI.at dd; clear hop ho hdst hg o
    obtain ⟨o, ho, hop, hdst, hg⟩ := o5_8; refine h_book hI hh hT ho (by rw [wantT hg d5 hT (t' := false) (by simp)]; rfl) rfl hdst hop (hT.ev 5 (.pointer (some ⟨bx, 0, none⟩)) (by simp)) (by omega) (by simp) fun gs sl t dd T hh hT => ?_; replace hI := hI.at dd; clear hop ho hdst hg o
    obtain ⟨o, ho, hop, hdst, hg⟩ := o5_7; obtain ⟨ats, hop⟩ := hop; refine h_go (X := X) #[.agg #[x1, x2]] hh hT ho (by rw [wantT hg d5 hT (t' := false) (by simp)]; rfl) rfl hdst hop Tryz.func8 (by kernel_rfl) rfl (by simp [hT.ev 31 (.agg #[x1, x2]) (by simp)]) (by omega) (by simp) (fun d => stuck_g (b := b) hI.hX (hI.base.at d) (fun τ d => hI.bk)) fun X' Shun' gs V' sl t v T hX' hW' hh hT hb' hR => ?_; obtain rfl := (hR t0 0).1; have hI' := hI.up hX' hb' hW' fun τ d => (hR τ d).2; clear hI hR hW' hb' hX' hop ho hdst hg o; have hI := hI'; clear hI'
    exact r5_b2 hI (hT.sub (by simp)) hh kk
  · obtain ⟨o, ho, hop, hdst, hg⟩ := o5_8; refine h_book hI hh hT ho (by rw [wantT hg d5 hT (t' := false) (by simp)]; rfl) rfl hdst hop (hT.ev 5 (.pointer (some ⟨bx, 0, none⟩)) (by simp)) (by omega) (by simp) fun gs sl t dd T hh hT => ?_; replace hI := hI.at dd; clear hop ho hdst hg o
    obtain ⟨o, ho, hop, hdst, hg⟩ := o5_6; refine h_book hI hh hT ho (by rw [wantT hg d5 hT (t' := false) (by simp)]; rfl) rfl hdst hop (hT.ev 5 (.pointer (some ⟨bx, 0, none⟩)) (by simp)) (by omega) (by simp) fun gs sl t dd T hh hT => ?_; replace hI := hI.at dd; clear hop ho hdst hg o
    obtain ⟨o, ho, hop, hdst, hg⟩ := o5_7; obtain ⟨ats, hop⟩ := hop; refine h_go (X := X) #[.agg #[x1, x2]] hh hT ho (by rw [wantT hg d5 hT (t' := false) (by simp)]; rfl) rfl hdst hop Tryz.func8 (by kernel_rfl) rfl (by simp [hT.ev 31 (.agg #[x1, x2]) (by simp)]) (by omega) (by simp) (fun d => stuck_g (b := b) hI.hX (hI.base.at d) (fun τ d => hI.bk)) fun X' Shun' gs V' sl t v T hX' hW' hh hT hb' hR => ?_; obtain rfl := (hR t0 0).1; have hI' := hI.up hX' hb' hW' fun τ d => (hR τ d).2; clear hI hR hW' hb' hX' hop ho hdst hg o; have hI := hI'; clear hI'
    exact r5_b2 hI (hT.sub (by simp)) hh kk
/-- The first of it: both lists are one. -/
theorem r5_a2 (hI : InvL W0 b bx x1 x2 lg lv X Shun V) {lo : Nat} {u : Value} (ho2 : OwnT (pzT X V t0 0) lo u (movesS b)) (hT : Has 96 T ((27, u) :: (25, lv) :: [(1, v1), (5, .pointer (some ⟨bx, 0, none⟩)), (6, lv)])) {l2 : List Nat} (hl : l2 ∈ [[6, 7, 8, 9], [6, 8, 7, 9], [8, 6, 7, 9]]) (hh : Here Tryz.prog Shun gs (G (bL.at ⟨T, []⟩ (.inRegion ops5 (3 :: 4 :: 5 :: (l2 ++ [10, 11, 12, 13, 14, 15, 16, 17, 18, 19])) :: [.code cond5, .code (tL 5)])) []) t) (kk : ∀ X Shun gs V sl t T, InvL W0 b bx x1 x2 lg lv X Shun V → Here Tryz.prog Shun gs (G (bL.at ⟨T, []⟩ [.code (tL 5)]) []) t → Has 96 T [(1, v1), (5, .pointer (some ⟨bx, 0, none⟩)), (6, lv)] → EndsG Tryz.prog Post (crowd gs V sl) t) : EndsG Tryz.prog Post (crowd gs V sl) t := by
  have hsz := moves_small hI.bk
  obtain ⟨o, ho, hop, hdst, hg⟩ := o5_3
  obtain ⟨ats, hop⟩ := hop
  refine h_call setW hI.hX hI.base #[lv, u] hh hT ho (want0 hg _) rfl hdst hop Tryz.func6 (by kernel_rfl) rfl (by kernel_rfl) (by simp [hT.ev 25 lv (by simp), hT.ev 27 u (by simp)]) (by omega) (by simp) (R := fun v _ => v = .bool true) (fun _ _ _ _ h => h) (fun τ d => (whTexts_any (movesS b) _ _ (pzT X V τ d) (hI.own.lst.ls hsz) (ho2.lst.ls hsz)).mono ?_) fun gs V' sl t v T hh hT hb' hR => ?_
  · rintro e u' ⟨rfl, hb⟩
    exact ⟨⟨_, rfl, rfl⟩, hb⟩
  obtain rfl := (hR t0 0).1
  replace hI := hI.up hI.hX hb' (fun k hk => .inl hk) fun τ d => (hR τ d).2
  clear hop ho hdst hg o hR hb' ho2
  obtain ⟨o, ho, hop, hdst, hg⟩ := o5_4
  obtain ⟨ty, hop⟩ := hop
  refine h_val (v := .bool false) 0 hh hT ho (want0 hg _) rfl hdst (by omega) (by simp) (fun d => ?_) (fun d e he => ?_) fun gs sl t dd T hh hT => ?_
  · unfold execOp; rw [hop]; simp only [hT.ev 28 (.bool true) (by simp)]; simp [go_sem]
  · unfold execOp at he; rw [hop] at he; simp only [hT.ev 28 (.bool true) (by simp)] at he; simp [go_sem] at he
  replace hI := hI.at dd
  clear hop ho hdst hg o
  obtain ⟨o, ho, hop, hdst, hg⟩ := o5_5; refine h_move hh hT ho (want0 hg _) rfl hdst (.inl hop) (hT.ev 29 (.bool false) (by simp)) (by omega) (by simp) fun gs sl t dd T hh hT => ?_; replace hI := hI.at dd; clear hop ho hdst hg o
  exact r5_b hI (hT.sub (by simp)) hl hh kk
theorem r5 (hI : InvL W0 b bx x1 x2 lg lv X Shun V) (hT : Has 96 T [(1, v1), (5, .pointer (some ⟨bx, 0, none⟩)), (6, lv)]) (hh : Here Tryz.prog Shun gs (G (bL.at ⟨T, []⟩ [.code (tL 4)]) []) t) (kk : ∀ X Shun gs V sl t T, InvL W0 b bx x1 x2 lg lv X Shun V → Here Tryz.prog Shun gs (G (bL.at ⟨T, []⟩ [.code (tL 5)]) []) t → Has 96 T [(1, v1), (5, .pointer (some ⟨bx, 0, none⟩)), (6, lv)] → EndsG Tryz.prog Post (crowd gs V sl) t) : EndsG Tryz.prog Post (crowd gs V sl) t := by
  rw [tL4] at hh
  refine e_ctl hh rfl (fun w => stepG_seq) fun gs sl t dd hh => ?_
  replace hI := hI.at dd
  refine e_ctl hh rfl (fun w => stepG_seq) fun gs sl t dd hh => ?_
  replace hI := hI.at dd
  refine e_draw hh fun gs sl t dd x hh => ?_
  replace hI := hI.at dd
  obtain ⟨l1, l2, e, hl1, hl2⟩ : ∃ l1 l2 : List Nat, Region.schedule (Tryz.prog.follows .mixedOrders) ops5 x = l1 ++ 4 :: 5 :: (l2 ++ [10, 11, 12, 13, 14, 15, 16, 17, 18, 19]) ∧ l1 ∈ [[0, 1, 2, 3], [1, 0, 2, 3], [1, 2, 0, 3]] ∧ l2 ∈ [[6, 7, 8, 9], [6, 8, 7, 9], [8, 6, 7, 9]] := by
    have h := ords5 x
    simp only [nine, List.mem_cons, List.not_mem_nil, or_false] at h
    rcases h with h | h | h | h | h | h | h | h | h <;> rw [h]
    · exact ⟨[0, 1, 2, 3], [6, 7, 8, 9], rfl, by simp, by simp⟩
    · exact ⟨[0, 1, 2, 3], [6, 8, 7, 9], rfl, by simp, by simp⟩
    · exact ⟨[0, 1, 2, 3], [8, 6, 7, 9], rfl, by simp, by simp⟩
    · exact ⟨[1, 0, 2, 3], [6, 7, 8, 9], rfl, by simp, by simp⟩
    · exact ⟨[1, 0, 2, 3], [6, 8, 7, 9], rfl, by simp, by simp⟩
    · exact ⟨[1, 0, 2, 3], [8, 6, 7, 9], rfl, by simp, by simp⟩
    · exact ⟨[1, 2, 0, 3], [6, 7, 8, 9], rfl, by simp, by simp⟩
    · exact ⟨[1, 2, 0, 3], [6, 8, 7, 9], rfl, by simp, by simp⟩
    · exact ⟨[1, 2, 0, 3], [8, 6, 7, 9], rfl, by simp, by simp⟩
  rw [e] at hh
  clear e
  simp only [List.mem_cons, List.not_mem_nil, or_false] at hl1
  rcases hl1 with rfl | rfl | rfl
  · obtain ⟨o, ho, hop, hdst, hg⟩ := o5_0; refine h_move hh hT ho (want0 hg _) rfl hdst (.inl hop) (hT.ev 6 lv (by simp)) (by omega) (by simp) fun gs sl t dd T hh hT => ?_; replace hI := hI.at dd; clear hop ho hdst hg o
    obtain ⟨o, ho, hop, hdst, hg⟩ := o5_1; refine h_book hI hh hT ho (want0 hg _) rfl hdst hop (hT.ev 5 (.pointer (some ⟨bx, 0, none⟩)) (by simp)) (by omega) (by simp) fun gs sl t dd T hh hT => ?_; replace hI := hI.at dd; clear hop ho hdst hg o
    obtain ⟨o, ho, hop, hdst, hg⟩ := o5_2; obtain ⟨ats, hop⟩ := hop; refine h_call setW hI.hX hI.base #[.agg #[x1, x2]] hh hT ho (want0 hg _) rfl hdst hop Tryz.func7 (by kernel_rfl) rfl (by kernel_rfl) (by simp [hT.ev 26 (.agg #[x1, x2]) (by simp)]) (by omega) (by simp) (R := fun v u => ∃ lo, OwnT u lo v (movesS b)) (fun _ _ _ _ h => h) (fun τ d => (specMoves_any b _ (pzT X V τ d) hI.bk).mono (by rintro e u' ⟨⟨v, rfl, hv⟩, hb⟩; exact ⟨⟨v, rfl, _, hv⟩, hb⟩)) fun gs V' sl t v T hh hT hb' hR => ?_; obtain ⟨lo, hv⟩ := (hR t0 0).1; replace hI := hI.up hI.hX hb' (fun k hk => .inl hk) fun τ d => (hR τ d).2; clear hop ho hdst hg o hR hb'
    exact r5_a2 hI hv (hT.sub (by simp)) hl2 hh kk
  · obtain ⟨o, ho, hop, hdst, hg⟩ := o5_1; refine h_book hI hh hT ho (want0 hg _) rfl hdst hop (hT.ev 5 (.pointer (some ⟨bx, 0, none⟩)) (by simp)) (by omega) (by simp) fun gs sl t dd T hh hT => ?_; replace hI := hI.at dd; clear hop ho hdst hg o
    obtain ⟨o, ho, hop, hdst, hg⟩ := o5_0; refine h_move hh hT ho (want0 hg _) rfl hdst (.inl hop) (hT.ev 6 lv (by simp)) (by omega) (by simp) fun gs sl t dd T hh hT => ?_; replace hI := hI.at dd; clear hop ho hdst hg o
    obtain ⟨o, ho, hop, hdst, hg⟩ := o5_2; obtain ⟨ats, hop⟩ := hop; refine h_call setW hI.hX hI.base #[.agg #[x1, x2]] hh hT ho (want0 hg _) rfl hdst hop Tryz.func7 (by kernel_rfl) rfl (by kernel_rfl) (by simp [hT.ev 26 (.agg #[x1, x2]) (by simp)]) (by omega) (by simp) (R := fun v u => ∃ lo, OwnT u lo v (movesS b)) (fun _ _ _ _ h => h) (fun τ d => (specMoves_any b _ (pzT X V τ d) hI.bk).mono (by rintro e u' ⟨⟨v, rfl, hv⟩, hb⟩; exact ⟨⟨v, rfl, _, hv⟩, hb⟩)) fun gs V' sl t v T hh hT hb' hR => ?_; obtain ⟨lo, hv⟩ := (hR t0 0).1; replace hI := hI.up hI.hX hb' (fun k hk => .inl hk) fun τ d => (hR τ d).2; clear hop ho hdst hg o hR hb'
    exact r5_a2 hI hv (hT.sub (by simp)) hl2 hh kk
  · obtain ⟨o, ho, hop, hdst, hg⟩ := o5_1; refine h_book hI hh hT ho (want0 hg _) rfl hdst hop (hT.ev 5 (.pointer (some ⟨bx, 0, none⟩)) (by simp)) (by omega) (by simp) fun gs sl t dd T hh hT => ?_; replace hI := hI.at dd; clear hop ho hdst hg o
    obtain ⟨o, ho, hop, hdst, hg⟩ := o5_2; obtain ⟨ats, hop⟩ := hop; refine h_call setW hI.hX hI.base #[.agg #[x1, x2]] hh hT ho (want0 hg _) rfl hdst hop Tryz.func7 (by kernel_rfl) rfl (by kernel_rfl) (by simp [hT.ev 26 (.agg #[x1, x2]) (by simp)]) (by omega) (by simp) (R := fun v u => ∃ lo, OwnT u lo v (movesS b)) (fun _ _ _ _ h => h) (fun τ d => (specMoves_any b _ (pzT X V τ d) hI.bk).mono (by rintro e u' ⟨⟨v, rfl, hv⟩, hb⟩; exact ⟨⟨v, rfl, _, hv⟩, hb⟩)) fun gs V' sl t v T hh hT hb' hR => ?_; obtain ⟨lo, hv⟩ := (hR t0 0).1; replace hI := hI.up hI.hX hb' (fun k hk => .inl hk) fun τ d => (hR τ d).2; clear hop ho hdst hg o hR hb'
    obtain ⟨o, ho, hop, hdst, hg⟩ := o5_0; refine h_move hh hT ho (want0 hg _) rfl hdst (.inl hop) (hT.ev 6 lv (by simp)) (by omega) (by simp) fun gs sl t dd T hh hT => ?_; replace hI := hI.at dd; clear hop ho hdst hg o
    exact r5_a2 hI hv (hT.sub (by simp)) hl2 hh kk
end
end Go.Proofs.YtnojjmkmkelbgaaGreat
