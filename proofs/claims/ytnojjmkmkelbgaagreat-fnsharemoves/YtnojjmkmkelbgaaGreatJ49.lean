/- The law of promises 14 and 15, 5: who moves waits on nobody: the test of its loop. -/
import Derived.Test.YtnojjmkmkelbgaaGreatLs4
import Derived.Test.YtnojjmkmkelbgaaGreatJ44
namespace Go.Proofs.YtnojjmkmkelbgaaGreat
open Go.Conc Go.ConcN Go.RowKit Go.Conc.Lib Go.ConcR.Gen Go.ConcN.Gen
open Go.ConcR (KK wgBlock WgAt stA smA rd wr mk Payload DC0)

theorem oq_0 : ∃ o, ops11[0]? = some o ∧ o.op = .move (.tmp 6) ∧ o.dst = some 62 ∧ o.guard = none := ⟨_, rfl, rfl, rfl, rfl⟩
theorem oq_1 : ∃ o, ops11[1]? = some o ∧ o.op = .move (.tmp 8) ∧ o.dst = some 63 ∧ o.guard = none := ⟨_, rfl, rfl, rfl, rfl⟩
theorem oq_2 : ∃ o, ops11[2]? = some o ∧ (∃ ats, o.op = .call { callee := .value (.func 12), args := #[.tmp 62, .tmp 63], argTypes := ats }) ∧ o.dst = some 64 ∧ o.guard = none := ⟨_, rfl, ⟨_, rfl⟩, rfl, rfl⟩
theorem oq_3 : ∃ o, ops11[3]? = some o ∧ o.op = .load 26 (.tmp 5) ∧ o.dst = some 65 ∧ o.guard = none := ⟨_, rfl, rfl, rfl, rfl⟩
theorem oq_4 : ∃ o, ops11[4]? = some o ∧ o.op = .move (.tmp 8) ∧ o.dst = some 66 ∧ o.guard = none := ⟨_, rfl, rfl, rfl, rfl⟩
theorem oq_5 : ∃ o, ops11[5]? = some o ∧ (∃ ats, o.op = .call { callee := .value (.func 13), args := #[.tmp 65, .tmp 66], argTypes := ats }) ∧ o.dst = some 67 ∧ o.guard = none := ⟨_, rfl, ⟨_, rfl⟩, rfl, rfl⟩
theorem oq_6 : ∃ o, ops11[6]? = some o ∧ o.op = .call { callee := .builtin .len, args := #[.tmp 67], argTypes := #[23] } ∧ o.dst = some 68 ∧ o.guard = none := ⟨_, rfl, rfl, rfl, rfl⟩
theorem oq_7 : ∃ o, ops11[7]? = some o ∧ o.op = .binOp .eql 3 (.tmp 68) (.const (.int .i64 0)) 3 ∧ o.dst = some 69 ∧ o.guard = none := ⟨_, rfl, rfl, rfl, rfl⟩
theorem oq_8 : ∃ o, ops11[8]? = some o ∧ o.op = .binOp .neq 4 (.tmp 64) (.tmp 69) 4 ∧ o.dst = some 70 ∧ o.guard = none := ⟨_, rfl, rfl, rfl, rfl⟩

/-- The orders: what only looks, in any order, around the first call. -/
def okOrd (l : List Nat) : Bool :=
  let pre := l.takeWhile (· != 2)
  let post := (l.drop (pre.length + 1)).takeWhile (· != 5)
  (l == pre ++ 2 :: (post ++ [5, 6, 7, 8])) && pre.all (fun i => i == 0 || i == 1 || i == 3 || i == 4) && post.all (fun i => i == 3 || i == 4) && pre.contains 0 && pre.contains 1 && (pre.contains 3 || post.contains 3) && (pre.contains 4 || post.contains 4)
theorem ords11 (x : Nat) : ∃ pre post : List Nat, Region.schedule (Tryz.prog.follows .mixedOrders) ops11 x = pre ++ 2 :: (post ++ [5, 6, 7, 8]) ∧ (∀ i ∈ pre, i = 0 ∨ i = 1 ∨ i = 3 ∨ i = 4) ∧ (∀ i ∈ post, i = 3 ∨ i = 4) ∧ 0 ∈ pre ∧ 1 ∈ pre ∧ (3 ∈ pre ∨ 3 ∈ post) ∧ (4 ∈ pre ∨ 4 ∈ post) := by
  have h : (Ords .any ops11 ops11.size (Array.replicate ops11.size false)).all okOrd = true := by kernel_rfl
  have h2 := List.all_eq_true.1 h _ (sched_mem (P := Tryz.prog) (by kernel_rfl) ops11 x)
  generalize Region.schedule (Tryz.prog.follows .mixedOrders) ops11 x = l at h2
  simp only [okOrd, Bool.and_eq_true, beq_iff_eq, List.all_eq_true, Bool.or_eq_true, List.contains_iff_mem] at h2
  obtain ⟨⟨⟨⟨⟨⟨e, h3⟩, h4⟩, h5⟩, h6⟩, h7⟩, h8⟩ := h2
  exact ⟨_, _, e, fun i hi => by have := h3 i hi; omega, fun i hi => by have := h4 i hi; omega, h5, h6, h7, h8⟩

section
variable {W0 : World} {b : Bk} {bx : Nat} {x1 x2 : Value} {lg : Nat} {lv : Value} {X : Nat → Prop} {Shun : Loc → Prop} {V : World} {Post : Value → World → Prop} {gs : Array Goroutine} {sl : Option (Nat × Nat)} {t : Trace} {v1 : Value} {k : List Item}
/-- What each of those that look leaves, and where. -/
def dq : Nat → Nat | 0 => 62 | 1 => 63 | 3 => 65 | _ => 66
def vq (lv : Value) (nm : ByteArray) (x1 x2 : Value) : Nat → Value | 0 => lv | 1 => .string nm | 3 => .agg #[x1, x2] | _ => .string nm
/-- The slots: the base, and what has been looked at. -/
def Lk (lv : Value) (nm : ByteArray) (x1 x2 : Value) (l : List (Nat × Value)) (D : List Nat) (T : Array Value) : Prop := Has 96 T l ∧ ∀ i ∈ D, T[dq i]? = some (vq lv nm x1 x2 i)
theorem Lk.put {nm : ByteArray} {l : List (Nat × Value)} {D : List Nat} {T : Array Value} (h : Lk lv nm x1 x2 l D T) {d : Nat} {v : Value} (hd : d < 96) (hn : ∀ p ∈ l, p.1 ≠ d) (hD : ∀ i ∈ D, dq i = d → vq lv nm x1 x2 i = v) : Lk lv nm x1 x2 ((d, v) :: l) D (T.setIfInBounds d v) := by
  refine ⟨h.1.put d v hd hn, fun i hi => ?_⟩
  by_cases e : dq i = d
  · rw [e, hD i hi e]
    simp [h.1.1, hd]
  · rw [Array.getElem?_setIfInBounds_ne (Ne.symm e)]
    exact h.2 i hi
theorem Lk.look {nm : ByteArray} {l : List (Nat × Value)} {D : List Nat} {T : Array Value} (h : Lk lv nm x1 x2 l D T) {i : Nat} (hi : i = 0 ∨ i = 1 ∨ i = 3 ∨ i = 4) (hn : ∀ p ∈ l, p.1 ≠ dq i) (hq : ∀ j ∈ D, j = 0 ∨ j = 1 ∨ j = 3 ∨ j = 4) : Lk lv nm x1 x2 l (i :: D) (T.setIfInBounds (dq i) (vq lv nm x1 x2 i)) := by
  have hd : dq i < 96 := by rcases hi with rfl | rfl | rfl | rfl <;> decide
  refine ⟨(h.1.put _ _ hd hn).sub fun p hp => List.mem_cons_of_mem _ hp, fun j hj => ?_⟩
  by_cases e : dq j = dq i
  · have : j = i := by
      rcases List.mem_cons.1 hj with rfl | hj
      · rfl
      · rcases hq j hj with rfl | rfl | rfl | rfl <;> rcases hi with rfl | rfl | rfl | rfl <;> first | rfl | (simp [dq] at e)
    subst this
    simp [h.1.1, hd]
  · rw [Array.getElem?_setIfInBounds_ne (Ne.symm e)]
    rcases List.mem_cons.1 hj with rfl | hj
    · exact absurd rfl e
    · exact h.2 j hj

theorem quiet11 {nm : ByteArray} {i : Nat} {rest : List Nat} : ∀ (pre : List Nat), (∀ j ∈ pre, j = 0 ∨ j = 1 ∨ j = 3 ∨ j = 4) → ∀ {l : List (Nat × Value)} {D : List Nat} {T : Array Value} {V : World} {gs : Array Goroutine} {sl : Option (Nat × Nat)} {t : Trace}, (∀ p ∈ ((8, .string nm) :: (7, .int .i64 i) :: [(1, v1), (5, .pointer (some ⟨bx, 0, none⟩)), (6, lv)]), p ∈ l) → (∀ p ∈ l, p.1 ≠ 62 ∧ p.1 ≠ 63 ∧ p.1 ≠ 65 ∧ p.1 ≠ 66) → InvL W0 b bx x1 x2 lg lv X Shun V → Lk lv nm x1 x2 l D T → (∀ j ∈ D, j = 0 ∨ j = 1 ∨ j = 3 ∨ j = 4) →
    Here Tryz.prog Shun gs (G (bL.at ⟨T, []⟩ (.inRegion ops11 (pre ++ rest) :: k)) []) t →
    (∀ gs sl t d T D', Here Tryz.prog Shun gs (G (bL.at ⟨T, []⟩ (.inRegion ops11 rest :: k)) []) t → Lk lv nm x1 x2 l D' T → (∀ j ∈ D', j = 0 ∨ j = 1 ∨ j = 3 ∨ j = 4) → (∀ j, j ∈ pre ∨ j ∈ D → j ∈ D') → EndsG Tryz.prog Post (crowd gs (V.at d) sl) t) → EndsG Tryz.prog Post (crowd gs V sl) t
  | [], _, l, D, T, V, gs, sl, t, _, _, hI, hT, hD, hh, kk => by
    have := kk gs sl t V.drawn T D hh hT hD (fun j hj => by simpa using hj)
    exact this
  | j :: pre, hp, l, D, T, V, gs, sl, t, hl, hn, hI, hT, hD, hh, kk => by
    have hj := hp j (by simp)
    have key : ∀ gs' sl' t' d T', Here Tryz.prog Shun gs' (G (bL.at ⟨T', []⟩ (.inRegion ops11 (pre ++ rest) :: k)) []) t' → Lk lv nm x1 x2 l (j :: D) T' → EndsG Tryz.prog Post (crowd gs' (V.at d) sl') t' := fun gs' sl' t' d T' hh' hT' =>
      quiet11 pre (fun m hm => hp m (by simp [hm])) hl hn (hI.at d) hT' (fun m hm => (List.mem_cons.1 hm).elim (fun e => e ▸ hj) (hD m)) hh' fun gs'' sl'' t'' d' T'' D'' h1 h2 h3 h4 => kk gs'' sl'' t'' d' T'' D'' h1 h2 h3 fun m hm => h4 m (by
        rcases hm with hm | hm
        · rcases List.mem_cons.1 hm with rfl | hm
          · exact .inr (by simp)
          · exact .inl hm
        · exact .inr (by simp [hm]))
    have hd : ∀ p ∈ l, p.1 ≠ dq j := fun p hp => by
      obtain ⟨h1, h2, h3, h4⟩ := hn p hp
      rcases hj with rfl | rfl | rfl | rfl <;> assumption
    have put := hT.look hj hd hD
    have e6 := hT.1.ev (ds := []) 6 lv (hl _ (by simp))
    have e8 := hT.1.ev (ds := []) 8 (.string nm) (hl _ (by simp))
    have e5 := hT.1.ev (ds := []) 5 (.pointer (some ⟨bx, 0, none⟩)) (hl _ (by simp))
    rcases hj with rfl | rfl | rfl | rfl
    · obtain ⟨o, ho, hop, hdst, hg⟩ := oq_0
      exact e_move hh ho (want0 hg _) rfl hdst (.inl hop) e6 fun gs' sl' t' d hh' => key _ _ _ _ _ hh' put
    · obtain ⟨o, ho, hop, hdst, hg⟩ := oq_1
      exact e_move hh ho (want0 hg _) rfl hdst (.inl hop) e8 fun gs' sl' t' d hh' => key _ _ _ _ _ hh' put
    · obtain ⟨o, ho, hop, hdst, hg⟩ := oq_3
      exact e_book hI hh ho (want0 hg _) rfl hdst hop e5 fun gs' sl' t' d hh' => key _ _ _ _ _ hh' put
    · obtain ⟨o, ho, hop, hdst, hg⟩ := oq_4
      exact e_move hh ho (want0 hg _) rfl hdst (.inl hop) e8 fun gs' sl' t' d hh' => key _ _ _ _ _ hh' put
end
end Go.Proofs.YtnojjmkmkelbgaaGreat

/- The law of promises 14 and 15, 6: its loop. -/
namespace Go.Proofs.YtnojjmkmkelbgaaGreat
open Go.Conc Go.ConcN Go.RowKit Go.Conc.Lib Go.ConcR.Gen Go.ConcN.Gen
open Go.ConcR (KK wgBlock WgAt stA smA rd wr mk Payload DC0)

set_option maxRecDepth 100000 in
theorem eql_ev (w : World) (m : Nat) : (binOp .eql 3 (.int .i64 m) (.int .i64 0)).events Tryz.prog w #[] = #[] := by
  simp [go_sem]
theorem r9_eq : ∃ o0 o1 o2, r9L = .region 9 #[o0, o1, o2] false ∧ (o0.op = .move (.tmp 7) ∧ o0.dst = some 54 ∧ o0.guard = none) ∧ (o1.op = .binOp .add 3 (.tmp 54) (.const (.int .i64 1)) 3 ∧ o1.dst = some 55 ∧ o1.guard = none) ∧ (o2.op = .assign (.tmp 55) ∧ o2.dst = some 7 ∧ o2.guard = none) := ⟨_, _, _, rfl, ⟨rfl, rfl, rfl⟩, ⟨rfl, rfl, rfl⟩, ⟨rfl, rfl, rfl⟩⟩

section
variable {W0 : World} {b : Bk} {bx : Nat} {a1 a2 : Option Addr} {c1 c2 : Nat} {lg : Nat} {lv : Value} {X : Nat → Prop} {Shun : Loc → Prop} {V : World} {Post : Value → World → Prop} {gs : Array Goroutine} {sl : Option (Nat × Nat)} {t : Trace} {v1 : Value} {T : Array Value}
abbrev InvT (W0 : World) (b : Bk) (bx : Nat) (a1 : Option Addr) (c1 : Nat) (a2 : Option Addr) (c2 lg : Nat) (lv : Value) (X : Nat → Prop) (Shun : Loc → Prop) (V : World) : Prop := InvL W0 b bx (.slice a1 b.things.length c1) (.slice a2 b.bs.length c2) lg lv X Shun V

/-- A piece of the loop, the world grown. -/
theorem piece_ends {r : Code} {k : List Item} {l : List (Nat × Value)} (hr : codeOk Tryz.prog (fun g => fsW.contains g) r = true) (hI : InvT W0 b bx a1 c1 a2 c2 lg lv X Shun V) (hw : ∀ τ d, r.wp Tryz.prog (fun e a u' => e = .normal ∧ QH l (pzT X V τ d) a u') ⟨T, []⟩ (pzT X V τ d)) (hh : Here Tryz.prog Shun gs (G (bL.at ⟨T, []⟩ (.code r :: k)) []) t)
    (kk : ∀ gs V sl t T, InvT W0 b bx a1 c1 a2 c2 lg lv X Shun V → Here Tryz.prog Shun gs (G (bL.at ⟨T, []⟩ k) []) t → Has 96 T l → EndsG Tryz.prog Post (crowd gs V sl) t) : EndsG Tryz.prog Post (crowd gs V sl) t := by
  refine ends_run hI.hX hh (piece_run setW hr frL rfl hI.base (Q := fun a u => ∃ τ d, (∃ T', a = ⟨T', []⟩ ∧ Has 96 T' l) ∧ Below V.heap.size (pzT X V τ d) u) (fun τ d => held_of hI.base (fun τ d => wp_mono (hw τ d) fun e a u' ⟨h1, T', h2, h3, h4⟩ => ⟨h1, τ, d, ⟨T', h2, h3⟩, by rw [pz_size] at h4; exact h4⟩) τ d) k []) fun gs1 g1 w1 sl1 t1 hh1 hst => ?_
  obtain ⟨a, rfl, hd, hb1, hQ⟩ := hst
  obtain ⟨u0, ⟨τ0, d0, ⟨T', rfl, hT'⟩, -⟩, -⟩ := hQ t0 0
  have hB : ∀ τ d, Below V.heap.size (pzT X V τ d) (pzT X w1 τ d) := fun τ d => (below_held (Q := fun _ => True) (fun _ _ _ h => h) ((hQ τ d).imp fun u h => let ⟨τ, d, _, h2⟩ := h; ⟨τ, d, trivial, h2⟩)).2
  exact kk _ _ _ _ _ (hI.up hI.hX hb1 (fun k hk => .inl hk) hB) hh1 hT'

theorem ok8 : codeOk Tryz.prog (fun g => fsW.contains g) r8L = true := by kernel_rfl
theorem ok10 : codeOk Tryz.prog (fun g => fsW.contains g) r10L = true := by kernel_rfl

/-- The test in a round. -/
theorem round11 {i : Nat} {x : Ba} {k : List Item} (hbk : bookB b = true) (hx : b.bs[i]? = some x) (hI : InvT W0 b bx a1 c1 a2 c2 lg lv X Shun V) (hT : Has 96 T ((8, .string x.nm) :: (7, .int .i64 i) :: [(1, v1), (5, .pointer (some ⟨bx, 0, none⟩)), (6, lv)])) (hh : Here Tryz.prog Shun gs (G (bL.at ⟨T, []⟩ (.code (.seq (.region 11 ops11 true) cond11) :: k)) []) t)
    (kk : ∀ X Shun gs V sl t T, InvT W0 b bx a1 c1 a2 c2 lg lv X Shun V → Here Tryz.prog Shun gs (G (bL.at ⟨T, []⟩ k) []) t → Has 96 T ((7, .int .i64 i) :: [(1, v1), (5, .pointer (some ⟨bx, 0, none⟩)), (6, lv)]) → EndsG Tryz.prog Post (crowd gs V sl) t) : EndsG Tryz.prog Post (crowd gs V sl) t := by
  obtain ⟨nm, hnm⟩ : ∃ nm, x.nm = nm := ⟨_, rfl⟩
  rw [hnm] at hT
  refine e_ctl hh rfl (fun w => stepG_seq) fun gs sl t dd hh => ?_; replace hI := hI.at dd
  refine e_draw hh fun gs sl t dd y hh => ?_
  replace hI := hI.at dd
  obtain ⟨pre, post, e, hp, hq, m0, m1, m3, m4⟩ := ords11 y
  rw [e] at hh
  clear e
  refine quiet11 pre hp (l := ((8, .string nm) :: (7, .int .i64 i) :: [(1, v1), (5, .pointer (some ⟨bx, 0, none⟩)), (6, lv)])) (D := []) (fun p hp => hp) (by simp) hI ⟨hT, fun _ h => by cases h⟩ (by simp) hh fun gs sl t dd T D hh hT hD hm => ?_
  replace hI := hI.at dd
  have e62 : (⟨T, []⟩ : Act).eval (.tmp 62) = lv := by have := hT.2 0 (hm 0 (.inl m0)); simp [Act.eval, dq, vq] at this ⊢; simp [this]
  have e63 : (⟨T, []⟩ : Act).eval (.tmp 63) = .string nm := by have := hT.2 1 (hm 1 (.inl m1)); simp [Act.eval, dq, vq] at this ⊢; simp [this]
  have hsz := moves_small hI.bk
  obtain ⟨o, ho, hop, hdst, hg⟩ := oq_2
  obtain ⟨ats, hop⟩ := hop
  refine e_call setW hI.hX hI.base (vs := #[lv, .string nm]) hh ho (want0 hg _) rfl hdst hop Tryz.func12 (by kernel_rfl) rfl (by kernel_rfl) (by simp [e62, e63]) (R := fun v _ => v = .bool (memS (movesS b) nm)) (fun _ _ _ _ h => h) (fun τ d => (whHas_any (movesS b) _ nm (pzT X _ τ d) (hI.own.lst.ls hsz)).mono ?_) fun gs V' sl t v hh hb' hR => ?_
  · rintro e u' ⟨rfl, rfl⟩
    exact ⟨⟨_, rfl, rfl⟩, Below.refl _ _⟩
  obtain rfl := (hR t0 0).1
  replace hI := hI.up hI.hX hb' (fun k hk => .inl hk) fun τ d => (hR τ d).2
  clear hop ho hdst hg o hR hb' e62 e63
  have hT := hT.put (d := 64) (v := .bool (memS (movesS b) nm)) (by omega) (by simp) (fun j hj e => by rcases hD j hj with rfl | rfl | rfl | rfl <;> simp [dq] at e)
  refine quiet11 post (fun j hj => by have := hq j hj; omega) (l := (64, .bool (memS (movesS b) nm)) :: ((8, .string nm) :: (7, .int .i64 i) :: [(1, v1), (5, .pointer (some ⟨bx, 0, none⟩)), (6, lv)])) (D := D) (i := i) (fun p hp => List.mem_cons_of_mem _ hp) (by simp) hI hT hD hh fun gs sl t dd T D2 hh hT hD2 hm2 => ?_
  replace hI := hI.at dd
  have i3 : 3 ∈ D2 := m3.elim (fun h => hm2 3 (.inr (hm 3 (.inl h)))) (fun h => hm2 3 (.inl h))
  have i4 : 4 ∈ D2 := m4.elim (fun h => hm2 4 (.inr (hm 4 (.inl h)))) (fun h => hm2 4 (.inl h))
  have e65 : (⟨T, []⟩ : Act).eval (.tmp 65) = .agg #[.slice a1 b.things.length c1, .slice a2 b.bs.length c2] := by have := hT.2 3 i3; simp [Act.eval, dq, vq] at this ⊢; simp [this]
  have e66 : (⟨T, []⟩ : Act).eval (.tmp 66) = .string nm := by have := hT.2 4 i4; simp [Act.eval, dq, vq] at this ⊢; simp [this]
  obtain ⟨o, ho, hop, hdst, hg⟩ := oq_5
  obtain ⟨ats, hop⟩ := hop
  refine h_go (X := X) #[.agg #[.slice a1 b.things.length c1, .slice a2 b.bs.length c2], .string nm] hh hT.1 ho (want0 hg _) rfl hdst hop Tryz.func13 (by kernel_rfl) rfl (by simp [e65, e66]) (by omega) (by simp) (R := fun v u => OwnT u V'.heap.size v (waitsL b nm)) (fun d => waits_g (b := b) (nm := nm) hI.hX (hI.base.at d) (fun τ d => hI.bk)) fun X' Shun' gs V' sl t v T hX' hW' hh hT hb' hR => ?_
  rw [waits_eq] at hR
  obtain ⟨av, cv, rfl⟩ := (hR t0 0).1.lst.shape
  have hI' := hI.up hX' hb' hW' fun τ d => (hR τ d).2
  clear hI hR hW' hb' hX' hop ho hdst hg o e65 e66
  have hI := hI'
  clear hI'
  obtain ⟨o, ho, hop, hdst, hg⟩ := oq_6
  refine h_val (v := .int .i64 (waitsS b nm).length) 0 hh hT ho (want0 hg _) rfl hdst (by omega) (by simp) (fun d => ?_) (fun d e he => ?_) fun gs sl t dd T hh hT => ?_
  · unfold execOp; rw [hop]; simp [go_sem, resolve, invoke, Builtin.len_, hT.get 67 (.slice av (waitsS b nm).length cv) (by simp)]
  · unfold execOp at he; rw [hop] at he; simp [go_sem, resolve, invoke, Builtin.len_, hT.get 67 (.slice av (waitsS b nm).length cv) (by simp)] at he
  replace hI := hI.at dd
  clear hop ho hdst hg o
  obtain ⟨o, ho, hop, hdst, hg⟩ := oq_7
  refine h_val (v := .bool ((((waitsS b nm).length : Nat) : Int) == 0)) 0 hh hT ho (want0 hg _) rfl hdst (by omega) (by simp) (fun d => ?_) (fun d e he => ?_) fun gs sl t dd T hh hT => ?_
  · unfold execOp; rw [hop]; simp only [hT.ev 68 (.int .i64 (waitsS b nm).length) (by simp)]; simp [go_sem, Act.eval]
  · unfold execOp at he; rw [hop] at he; simp only [hT.ev 68 (.int .i64 (waitsS b nm).length) (by simp)] at he; simp [go_sem, Act.eval] at he
  replace hI := hI.at dd
  clear hop ho hdst hg o
  have hfact : memS (movesS b) nm = ((((waitsS b nm).length : Nat) : Int) == 0) := by
    have := moves_waits hbk hx
    rw [hnm] at this
    rw [this, Bool.eq_iff_iff, decide_eq_true_eq, beq_iff_eq]
    omega
  rw [hfact] at hT
  obtain ⟨o, ho, hop, hdst, hg⟩ := oq_8
  refine h_val (v := .bool false) 0 hh hT ho (want0 hg _) rfl hdst (by omega) (by simp) (fun d => ?_) (fun d e he => ?_) fun gs sl t dd T hh hT => ?_
  · unfold execOp; rw [hop]; simp only [hT.ev 64 (.bool ((((waitsS b nm).length : Nat) : Int) == 0)) (by simp), hT.ev 69 (.bool ((((waitsS b nm).length : Nat) : Int) == 0)) (by simp)]; simp [go_sem]
  · unfold execOp at he; rw [hop] at he; simp only [hT.ev 64 (.bool ((((waitsS b nm).length : Nat) : Int) == 0)) (by simp), hT.ev 69 (.bool ((((waitsS b nm).length : Nat) : Int) == 0)) (by simp)] at he; simp [go_sem] at he; rw [neq_ev] at he; simp at he
  replace hI := hI.at dd
  refine e_ctl hh rfl (fun w => stepG_region_end) fun gs sl t dd hh => ?_; replace hI := hI.at dd
  obtain ⟨y, hy⟩ := cond11_eq
  rw [hy] at hh
  refine e_ctl hh rfl (fun w => stepG_cond (t := false) (hT.ev 70 (.bool false) (by simp))) fun gs sl t dd hh => ?_; replace hI := hI.at dd
  refine e_ctl hh rfl (fun w => stepG_skip) fun gs sl t dd hh => ?_; replace hI := hI.at dd
  exact kk _ _ _ _ _ _ _ hI hh (hT.sub (by simp))
end
end Go.Proofs.YtnojjmkmkelbgaaGreat

/- The law of promises 14 and 15, 7: its loop, whole. -/
namespace Go.Proofs.YtnojjmkmkelbgaaGreat
open Go.Conc Go.ConcN Go.RowKit Go.Conc.Lib Go.ConcR.Gen Go.ConcN.Gen
open Go.ConcR (KK wgBlock WgAt stA smA rd wr mk Payload DC0)

theorem lb_step {a : Act} {k : List Item} {cs : List Frame} (w : World) : stepG Tryz.prog true (G (bL.at a (.code LB :: k)) cs) w = .go (G (bL.at a (.code (.seq r8L (.cond (.tmp 53) .skip (.exit 0))) :: .code (.seq (.block 1 (.seq r10L (.seq (.region 11 ops11 true) cond11))) r9L) :: k)) cs) w #[] := by
  rw [LB_eq]
  exact stepG_seq

section
variable {W0 : World} {b : Bk} {bx : Nat} {a1 a2 : Option Addr} {c1 c2 : Nat} {lg : Nat} {lv : Value} {Post : Value → World → Prop} {v1 : Value}
theorem loop_ends : ∀ (r i : Nat), i + r = b.bs.length → ∀ {X : Nat → Prop} {Shun : Loc → Prop} {V : World} {gs : Array Goroutine} {sl : Option (Nat × Nat)} {t : Trace} {T : Array Value}, InvT W0 b bx a1 c1 a2 c2 lg lv X Shun V → Has 96 T ((7, .int .i64 i) :: [(1, v1), (5, .pointer (some ⟨bx, 0, none⟩)), (6, lv)]) → Here Tryz.prog Shun gs (G (bL.at ⟨T, []⟩ [.code LB, .inLoop LB, .inBlock 0, .code (tL 6)]) []) t → (∀ X Shun gs V sl t T, InvT W0 b bx a1 c1 a2 c2 lg lv X Shun V → Here Tryz.prog Shun gs (G (bL.at ⟨T, []⟩ [.code (tL 6)]) []) t → Has 96 T [(1, v1), (5, .pointer (some ⟨bx, 0, none⟩)), (6, lv)] → EndsG Tryz.prog Post (crowd gs V sl) t) → EndsG Tryz.prog Post (crowd gs V sl) t := by
  intro r
  induction r with
  | zero =>
    intro i hi X Shun V gs sl t T hI hT hh kk
    refine e_ctl hh rfl (fun w => lb_step w) fun gs sl t dd hh => ?_; replace hI := hI.at dd
    refine e_ctl hh rfl (fun w => stepG_seq) fun gs sl t dd hh => ?_; replace hI := hI.at dd
    refine piece_ends ok8 hI (fun τ d => wp8 i (pzT X _ τ d) hT hI.cb hI.bk) hh fun gs V sl t T hI hh hT => ?_
    have hd : (decide (i < b.bs.length) && bookB b) = false := by rw [decide_eq_false (by omega)]; rfl
    rw [hd] at hT
    refine e_ctl hh rfl (fun w => stepG_cond (t := false) (hT.ev 53 (.bool false) (by simp))) fun gs sl t dd hh => ?_; replace hI := hI.at dd
    refine e_ctl hh rfl (fun w => stepG_exit (k' := [.code (tL 6)]) rfl) fun gs sl t dd hh => ?_; replace hI := hI.at dd
    exact kk _ _ _ _ _ _ _ hI hh (hT.sub (by simp))
  | succ r ih =>
    intro i hi X Shun V gs sl t T hI hT hh kk
    refine e_ctl hh rfl (fun w => lb_step w) fun gs sl t dd hh => ?_; replace hI := hI.at dd
    refine e_ctl hh rfl (fun w => stepG_seq) fun gs sl t dd hh => ?_; replace hI := hI.at dd
    refine piece_ends ok8 hI (fun τ d => wp8 i (pzT X _ τ d) hT hI.cb hI.bk) hh fun gs V sl t T hI hh hT => ?_
    cases hbk : bookB b with
    | false =>
      rw [hbk, Bool.and_false] at hT
      refine e_ctl hh rfl (fun w => stepG_cond (t := false) (hT.ev 53 (.bool false) (by simp))) fun gs sl t dd hh => ?_; replace hI := hI.at dd
      refine e_ctl hh rfl (fun w => stepG_exit (k' := [.code (tL 6)]) rfl) fun gs sl t dd hh => ?_; replace hI := hI.at dd
      exact kk _ _ _ _ _ _ _ hI hh (hT.sub (by simp))
    | true =>
      have hil : i < b.bs.length := by omega
      rw [hbk, decide_eq_true hil, Bool.true_and] at hT
      refine e_ctl hh rfl (fun w => stepG_cond (t := true) (hT.ev 53 (.bool true) (by simp))) fun gs sl t dd hh => ?_; replace hI := hI.at dd
      refine e_ctl hh rfl (fun w => stepG_skip) fun gs sl t dd hh => ?_; replace hI := hI.at dd
      refine e_ctl hh rfl (fun w => stepG_seq) fun gs sl t dd hh => ?_; replace hI := hI.at dd
      refine e_ctl hh rfl (fun w => stepG_block) fun gs sl t dd hh => ?_; replace hI := hI.at dd
      refine e_ctl hh rfl (fun w => stepG_seq) fun gs sl t dd hh => ?_; replace hI := hI.at dd
      refine piece_ends ok10 hI (fun τ d => wp10 i (pzT X _ τ d) (hT.sub (l' := (7, .int .i64 i) :: [(1, v1), (5, .pointer (some ⟨bx, 0, none⟩)), (6, lv)]) (by simp)) hI.cb hI.bk hil) hh fun gs V sl t T hI hh hT => ?_
      refine round11 hbk (List.getElem?_eq_getElem hil) hI hT hh fun X Shun gs V sl t T hI hh hT => ?_
      refine e_ctl hh rfl (fun w => stepG_inBlock) fun gs sl t dd hh => ?_; replace hI := hI.at dd
      obtain ⟨o0, o1, o2, e9, ⟨p0, d0, g0⟩, ⟨p1, d1, g1⟩, ⟨p2, d2, g2⟩⟩ := r9_eq
      rw [e9] at hh
      refine e_ctl hh rfl (fun w => stepG_region) fun gs sl t dd hh => ?_; replace hI := hI.at dd
      refine h_move (v := .int .i64 i) hh hT (o := o0) rfl (want0 g0 _) rfl d0 (.inl p0) (hT.ev 7 (.int .i64 i) (by simp)) (by omega) (by simp) fun gs sl t dd T hh hT => ?_
      replace hI := hI.at dd
      refine h_val (v := .int .i64 ((i + 1 : Nat) : Int)) 0 hh hT (o := o1) rfl (want0 g1 _) rfl d1 (by omega) (by simp) (fun d => ?_) (fun d e he => ?_) fun gs sl t dd T hh hT => ?_
      · have h5 : b.bs.length ≤ 5 := (pB_iff.1 hbk : BookOk b).2.1
        have hw1 : IntKind.i64.wrap ((i : Int) + 1) = ((i + 1 : Nat) : Int) := by rw [IntKind.wrap_i64]; omega
        unfold execOp; rw [p1]; simp only [hT.ev 54 (.int .i64 i) (by simp)]; simp [go_sem, Act.eval, hw1]
      · unfold execOp at he; rw [p1] at he; simp only [hT.ev 54 (.int .i64 i) (by simp)] at he; simp [go_sem, Act.eval] at he
      replace hI := hI.at dd
      refine h_move (v := .int .i64 ((i + 1 : Nat) : Int)) (l := (55, .int .i64 ((i + 1 : Nat) : Int)) :: [(1, v1), (5, .pointer (some ⟨bx, 0, none⟩)), (6, lv)]) hh (hT.sub (by simp)) (o := o2) rfl (want0 g2 _) rfl d2 (.inr p2) (hT.ev 55 (.int .i64 ((i + 1 : Nat) : Int)) (by simp)) (by omega) (by simp) fun gs sl t dd T hh hT => ?_
      replace hI := hI.at dd
      refine e_ctl hh rfl (fun w => stepG_region_end) fun gs sl t dd hh => ?_; replace hI := hI.at dd
      refine e_ctl hh rfl (fun w => stepG_inLoop) fun gs sl t dd hh => ?_; replace hI := hI.at dd
      exact ih (i + 1) (by omega) hI (hT.sub (by simp)) hh kk

theorem p5_ends {X : Nat → Prop} {Shun : Loc → Prop} {V : World} {gs : Array Goroutine} {sl : Option (Nat × Nat)} {t : Trace} {T : Array Value} (hI : InvT W0 b bx a1 c1 a2 c2 lg lv X Shun V) (hT : Has 96 T [(1, v1), (5, .pointer (some ⟨bx, 0, none⟩)), (6, lv)]) (hh : Here Tryz.prog Shun gs (G (bL.at ⟨T, []⟩ [.code (tL 5)]) []) t) (kk : (∀ X Shun gs V sl t T, InvT W0 b bx a1 c1 a2 c2 lg lv X Shun V → Here Tryz.prog Shun gs (G (bL.at ⟨T, []⟩ [.code (tL 6)]) []) t → Has 96 T [(1, v1), (5, .pointer (some ⟨bx, 0, none⟩)), (6, lv)] → EndsG Tryz.prog Post (crowd gs V sl) t)) : EndsG Tryz.prog Post (crowd gs V sl) t := by
  obtain ⟨o, e, hop, hdst, hg⟩ := tL5
  rw [e] at hh
  refine e_ctl hh rfl (fun w => stepG_seq) fun gs sl t dd hh => ?_; replace hI := hI.at dd
  refine e_ctl hh rfl (fun w => stepG_seq) fun gs sl t dd hh => ?_; replace hI := hI.at dd
  refine e_ctl hh rfl (fun w => stepG_region) fun gs sl t dd hh => ?_; replace hI := hI.at dd
  refine h_move (v := .int .i64 ((0 : Nat) : Int)) hh hT (o := o) rfl (want0 hg _) rfl hdst (.inr hop) rfl (by omega) (by simp) fun gs sl t dd T hh hT => ?_
  replace hI := hI.at dd
  refine e_ctl hh rfl (fun w => stepG_region_end) fun gs sl t dd hh => ?_; replace hI := hI.at dd
  refine e_ctl hh rfl (fun w => stepG_block) fun gs sl t dd hh => ?_; replace hI := hI.at dd
  refine e_ctl hh rfl (fun w => stepG_loop) fun gs sl t dd hh => ?_; replace hI := hI.at dd
  exact loop_ends b.bs.length 0 (by omega) hI hT hh kk
end
end Go.Proofs.YtnojjmkmkelbgaaGreat
