/- The program's chapter 13: what is asked is done, or refused. -/
import Derived.Test.YtkgbdjdgcacblaaGreatDoorKr8
import Derived.Test.YtkgbdjdgcacblaaGreatDoorEa2
namespace Go.Proofs.YtkgbdjdgcacblaaGreatDoor
open Go.RowKit

theorem BkF.up {w w' : World} {base : Nat} {v : Value} {b : Bk} (h : BkF w base v b) (hb : Below w.heap.size w w') : BkF w' base v b := by
  obtain ⟨a1, c1, a2, c2, ps, e, h1, h2, h3⟩ := h
  exact ⟨a1, c1, a2, c2, ps, e, h1.up hb, h2, h3.up hb⟩
theorem BkF.low {w : World} {base base' : Nat} {v : Value} {b : Bk} (h : BkF w base v b) (hb : base' ≤ base) : BkF w base' v b := by
  obtain ⟨a1, c1, a2, c2, ps, e, h1, h2, h3⟩ := h
  exact ⟨a1, c1, a2, c2, ps, e, h1.low hb, h2, h3.low hb⟩
theorem BkF.set {w : World} {base r j : Nat} {v u : Value} {b : Bk} (h : BkF w base v b) (hr : r < base) : BkF (w.setCell ⟨r, j, none⟩ u) base v b := by
  obtain ⟨a1, c1, a2, c2, ps, e, h1, h2, h3⟩ := h
  exact ⟨a1, c1, a2, c2, ps, e, h1.set hr, h2, h3.setLow hr j u⟩
theorem BkF.shape {w : World} {base : Nat} {v : Value} {b : Bk} (h : BkF w base v b) : ∃ a1 c1 a2 c2, v = .agg #[.slice a1 b.things.length c1, .slice a2 b.bs.length c2] := by
  obtain ⟨a1, c1, a2, c2, ps, e, -⟩ := h
  exact ⟨a1, c1, a2, c2, e⟩
theorem bkF_none (w : World) (base : Nat) : BkF w base (.agg #[.slice none 0 0, .slice none 0 0]) nobody := by
  refine ⟨none, 0, none, 0, [], rfl, ⟨World.ownsRow_nil _ _ _ _, fun p hp => by simp at hp⟩, rfl, ?_⟩
  exact (fam_nil w base none).mk1 (World.ownsRow_nil _ _ _ _)
/-- A refusal with who asked wrapped around it, or none. -/
def errV (nm : ByteArray) (c : Int) : Value := if c = 0 then .nilIface else .iface 84 (.agg #[.string nm, .iface 70 (.agg #[.int .i64 c])])
theorem errV_zero (nm : ByteArray) : errV nm 0 = .nilIface := rfl
theorem errV_some {nm : ByteArray} {c : Int} (h : c ≠ 0) : errV nm c = .iface 84 (.agg #[.string nm, .iface 70 (.agg #[.int .i64 c])]) := by simp [errV, h]
theorem ret_err {u v : Value} {nm : ByteArray} {c : Int} (h : errV nm c = v) : Ending.returned (.tuple #[u, v]) = .returned (.tuple #[u, errV nm c]) := by rw [h]
/-- The code and the book of what is asked: what a book that is ok is told (cR), and what is done then (bN). -/
noncomputable def askedC (b : Bk) (cR : Int) : Int := if bookB b = false then 1 else cR
noncomputable def askedB (b : Bk) (cR : Int) (bN : Bk) : Bk := if bookB b = false then nobody else if cR = 0 then bN else b
set_option maxRecDepth 20000 in
set_option maxHeartbeats 4000000 in
theorem try_any (b : Bk) (v : Value) (nm : ByteArray) (D : TypeId) (av : Value) (rF : FuncId) (cR : Int) (bN : Bk) (w : World) (h : BkV w v b)
    (hwho : ∀ n w, (Go.method (n + 1) D av "loop.example/maltrun/impl.who").run Tryz.prog w = .ok (112, .agg #[.string nm]) w)
    (href : ∀ n w, (Go.method (n + 1) D av "loop.example/maltrun/impl.refusal").run Tryz.prog w = .ok (rF, av) w)
    (hrun : ∀ (args : Array Value) (w : World), (callFunc rF args).run Tryz.prog w = .ok (.enter rF args) w)
    (Href : BookOk b → ∀ W, Below w.heap.size w W → Calls Tryz.prog rF #[av, v] W fun e w' => e = .returned (refV cR) ∧ Below W.heap.size W w')
    (Hdone : BookOk b → cR = 0 → ∀ W, Below w.heap.size w W → Calls Tryz.prog 42 #[v, .iface D av] W fun e w' => (∃ u, e = .returned u ∧ BkF w' W.heap.size u bN) ∧ Below W.heap.size W w') :
    Calls Tryz.prog 31 #[v, .iface D av] w fun e w' => (∃ u, e = .returned (.tuple #[u, errV nm (askedC b cR)]) ∧ BkF w' w.heap.size u (askedB b cR bN)) ∧ Below w.heap.size w w' := by
  obtain ⟨a1, c1, a2, c2, rfl, -, -⟩ := h.parts
  have HR : Hid (BookOk b → ∀ W, Below w.heap.size w W → Calls Tryz.prog rF #[av, .agg #[.slice a1 b.things.length c1, .slice a2 b.bs.length c2]] W fun e w' => e = .returned (refV cR) ∧ Below W.heap.size W w') := Href
  have HD : Hid (BookOk b → cR = 0 → ∀ W, Below w.heap.size w W → Calls Tryz.prog 42 #[.agg #[.slice a1 b.things.length c1, .slice a2 b.bs.length c2], .iface D av] W fun e w' => (∃ u, e = .returned u ∧ BkF w' W.heap.size u bN) ∧ Below W.heap.size W w') := Hdone
  clear Href Hdone
  obtain ⟨W1, hW1, kA, kR, hB1, hs1⟩ : ∃ W1, (w.alloc (.cells #[.slice a1 (b).things.length c1, .slice a2 (b).bs.length c2] 26)).alloc (.cells #[.slice none 0 0, .slice none 0 0] 26) = W1 ∧ CB W1 w.heap.size [.slice a1 b.things.length c1, .slice a2 b.bs.length c2] ∧ CB W1 (w.heap.size + 1) [.slice none 0 0, .slice none 0 0] ∧ Below w.heap.size w W1 ∧ W1.heap.size = w.heap.size + 2 := ⟨_, rfl, cb2 w _ _ _ _⟩
  go_enter Tryz.func31, Tryz.ntmps31
  go_upto_region 1 with fail
  try rw [hW1]
  clear hW1
  have hk := h.up hB1
  clear h
  obtain ⟨e0, e1⟩ := kA.c2'
  go_wp2_with fail
  refine (bookOk_any b _ _ hk).mono ?_
  rintro e w2 ⟨rfl, hb2⟩
  have hz2 := hb2.size
  have kA2 := kA.up hb2 (by omega)
  have kR2 := kR.up hb2 (by omega)
  have hk2 := hk.up hb2
  have hB2 := up_trans hB1 hb2
  clear e0 e1 kA kR hk hB1 hb2
  cases hok : bookB b
  · have HC : Hid (errV nm (askedC b cR) = .iface 84 (.agg #[.string nm, .iface 70 (.agg #[.int .i64 1])]) ∧ askedB b cR bN = nobody) := ⟨by simp [askedC, hok, errV], by simp [askedB, hok]⟩
    go_wp2_with fail
    refine (asker_any nm _).mono ?_
    rintro e w3 ⟨rfl, hb3⟩
    have kR3 := kR2.up hb3 (by omega)
    have hB3 := up_trans hB2 hb3
    obtain ⟨⟨y0, y1⟩, q0, q1⟩ := kR3.c2
    go_wp2_with fail
    refine end_cb2b Tryz.results31 Tryz.underlying26 rfl sizeBk1 kR3 rfl rfl ?_
    exact ⟨⟨_, ret_err HC.out.1, by rw [HC.out.2]; exact bkF_none _ _⟩, below_set2 hB3 (Nat.le_succ _) _ _⟩
  have hbk := book_ok hok
  obtain ⟨s1, s2, s3⟩ := ok_small hbk
  obtain ⟨e0, e1⟩ := kA2.c2'
  go_wp2_with fail
  refine (HR.out hbk _ hB2).mono ?_
  rintro e w3 ⟨rfl, hb3⟩
  have hz3 := hb3.size
  have kA3 := kA2.up hb3 (by omega)
  have kR3 := kR2.up hb3 (by omega)
  have hk3 := hk2.up hb3
  have hB3 := up_trans hB2 hb3
  clear e0 e1 kA2 kR2 hk2 hB2 hb3 HR
  obtain ⟨e0, e1⟩ := kA3.c2'
  by_cases hc : cR = 0
  · subst hc
    have HC : Hid (errV nm (askedC b 0) = .nilIface ∧ askedB b 0 bN = bN) := ⟨by simp [askedC, hok, errV], by simp [askedB, hok]⟩
    have HD0 := HD.out hbk rfl _ hB3
    clear HD
    rw [refV_zero]
    go_wp2_with fail
    refine HD0.mono ?_
    rintro e w4 ⟨⟨u, rfl, hu⟩, hb4⟩
    have kR4 := kR3.up hb4 (by omega)
    have hB4 := up_trans hB3 hb4
    obtain ⟨i1, j1, i2, j2, rfl⟩ := hu.shape
    clear e0 e1
    obtain ⟨⟨y0, y1⟩, q0, q1⟩ := kR4.c2
    go_wp2_with fail
    refine end_cb2b Tryz.results31 Tryz.underlying26 rfl sizeBk1 kR4 rfl rfl ?_
    exact ⟨⟨_, ret_err HC.out.1, by rw [HC.out.2]; exact ((hu.set (by omega)).set (by omega)).low (by omega)⟩, below_set2 hB4 (Nat.le_succ _) _ _⟩
  · have HC : Hid (errV nm (askedC b cR) = .iface 84 (.agg #[.string nm, .iface 70 (.agg #[.int .i64 cR])]) ∧ askedB b cR bN = b) := ⟨by simp [askedC, hok, errV, hc], by simp [askedB, hok, hc]⟩
    rw [refV_some hc]
    go_wp2_with fail
    refine (copyP_any b _ _ hk3 (by omega) (by omega) (fun y hy => by have := s3 y hy; omega)).mono ?_
    rintro e w4 ⟨hcp, hb4⟩
    have hz4 := hb4.size
    have kR4 := kR3.up hb4 (by omega)
    have hB4 := up_trans hB3 hb4
    clear e0 e1
    obtain ⟨i1, j1, i2, j2, ps, rfl, p1, p2, p3⟩ := hcp
    have hu : BkF w4 w3.heap.size (.agg #[.slice i1 b.things.length j1, .slice i2 b.bs.length j2]) b := ⟨i1, j1, i2, j2, ps, rfl, p1, p2, p3⟩
    clear p1 p2 p3
    go_wp2_with fail
    refine (asker_any nm _).mono ?_
    rintro e w5 ⟨rfl, hb5⟩
    have kR5 := kR4.up hb5 (by omega)
    have hB5 := up_trans hB4 hb5
    have hu5 := hu.up hb5
    obtain ⟨⟨y0, y1⟩, q0, q1⟩ := kR5.c2
    go_wp2_with fail
    refine end_cb2b Tryz.results31 Tryz.underlying26 rfl sizeBk1 kR5 rfl rfl ?_
    exact ⟨⟨_, ret_err HC.out.1, by rw [HC.out.2]; exact ((hu5.set (by omega)).set (by omega)).low (by omega)⟩, below_set2 hB5 (Nat.le_succ _) _ _⟩
end Go.Proofs.YtkgbdjdgcacblaaGreatDoor

/- The program's chapter 13: the answer and its code; ShareLeave. -/
namespace Go.Proofs.YtkgbdjdgcacblaaGreatDoor
open Go.RowKit

/-- The errors package knows what an error is. -/
def ErrT (w : World) : Prop := w.cell? ⟨0, 0, none⟩ = some (Value.iface 127 (.agg #[(Value.pointer (some ⟨1, 66, none⟩))]))
theorem ErrT.up {w w' : World} (h : ErrT w) (hb : Below w.heap.size w w') : ErrT w' := (hb.cell (p := ⟨0, 0, none⟩) (World.block_lt_of_cell? w ⟨0, 0, none⟩ h)).trans h
set_option maxRecDepth 20000 in
set_option maxHeartbeats 4000000 in
theorem answer_any (b : Bk) (v : Value) (nm : ByteArray) (D : TypeId) (av : Value) (cd : Int) (bk : Bk) (w : World) (h : BkV w v b) (hg : ErrT w)
    (Htry : ∀ W, Below w.heap.size w W → Calls Tryz.prog 31 #[v, .iface D av] W fun e w' => (∃ u, e = .returned (.tuple #[u, errV nm cd]) ∧ BkF w' W.heap.size u bk) ∧ Below W.heap.size W w') :
    Calls Tryz.prog 15 #[v, .iface D av] w fun e w' => (∃ u, e = .returned (.tuple #[u, .int .i64 cd]) ∧ BkF w' w.heap.size u bk) ∧ Below w.heap.size w w' := by
  obtain ⟨a1, c1, a2, c2, rfl, -, -⟩ := h.parts
  clear h
  obtain ⟨W1, hW1, kA, kR, hB1, hs1⟩ : ∃ W1, (w.alloc (.cells #[.slice a1 (b).things.length c1, .slice a2 (b).bs.length c2] 26)).alloc (.cells #[.slice none 0 0, .slice none 0 0] 26) = W1 ∧ CB W1 w.heap.size [.slice a1 b.things.length c1, .slice a2 b.bs.length c2] ∧ CB W1 (w.heap.size + 1) [.slice none 0 0, .slice none 0 0] ∧ Below w.heap.size w W1 ∧ W1.heap.size = w.heap.size + 2 := ⟨_, rfl, cb2 w _ _ _ _⟩
  have HT := Htry W1 hB1
  clear Htry
  have HG : Hid (ErrT w) := hg
  clear hg
  go_enter Tryz.func15, Tryz.ntmps15
  go_upto_region 1 with fail
  try rw [hW1]
  clear hW1
  obtain ⟨e0, e1⟩ := kA.c2'
  go_wp2_with fail
  refine HT.mono ?_
  rintro e w2 ⟨⟨u, rfl, hu⟩, hb2⟩
  have hz2 := hb2.size
  have kR2 := kR.up hb2 (by omega)
  have hB2 := up_trans hB1 hb2
  obtain ⟨i1, j1, i2, j2, rfl⟩ := hu.shape
  clear e0 e1 kA kR hB1 hb2 HT
  go_upto_region 3 with fail
  obtain ⟨W4, hW4, kX, kT, hb4, hs4⟩ : ∃ W4, (w2.alloc (.cells #[.slice i1 bk.things.length j1, .slice i2 bk.bs.length j2] 26)).alloc (.cells #[.int .i64 0] 70) = W4 ∧ CB W4 w2.heap.size [.slice i1 bk.things.length j1, .slice i2 bk.bs.length j2] ∧ CB W4 (w2.heap.size + 1) [.int .i64 0] ∧ Below w2.heap.size w2 W4 ∧ W4.heap.size = w2.heap.size + 2 := ⟨_, rfl, cb2 w2 _ _ _ _⟩
  try rw [hW4]
  clear hW4
  have kR4 := kR2.up hb4 (by omega)
  have hB4 := up_trans hB2 hb4
  have hu4 := hu.up hb4
  clear kR2 hB2
  by_cases hc : cd = 0
  · subst hc
    rw [errV_zero]
    go_wp2_with fail
    refine (as_nil _ _).mono ?_
    rintro e w5 ⟨rfl, hw5⟩
    obtain rfl := hw5.symm
    obtain ⟨⟨x0, x1⟩, -⟩ := kX.c2
    obtain ⟨⟨y0, y1⟩, q0, q1⟩ := kR4.c2
    go_wp2_with fail
    refine end_cb2b Tryz.results15 Tryz.underlying26 rfl sizeBk1 kR4 rfl rfl ?_
    exact ⟨⟨_, rfl, ((hu4.set (by omega)).set (by omega)).low (by omega)⟩, below_set2 hB4 (Nat.le_succ _) _ _⟩
  · rw [errV_some hc]
    have t0 : W4.cell? ⟨w2.heap.size + 1, 0, none⟩ = some (.int .i64 0) := kT.1 0 _ rfl
    have t1 : W4.frozen? ⟨w2.heap.size + 1, 0, none⟩ = false := (kT.2.1 0 (by simp)).2
    have HE : Hid (ErrT W4) := HG.out.up hB4
    go_wp2_with fail
    refine (as_refused nm cd _ _ _ HE.out t0 t1).mono ?_
    rintro e w5 ⟨rfl, W5, hb5, rfl⟩
    have kX5 := (kX.up hb5 (by omega)).other (q := w2.heap.size + 1) (j := 0) (u := .int .i64 cd) (by omega)
    have kR5 := (kR4.up hb5 (by omega)).other (q := w2.heap.size + 1) (j := 0) (u := .int .i64 cd) (by omega)
    have kT5 := (kT.up hb5 (by omega)).set (j := 0) (u := .int .i64 cd) (by simp)
    have hB5 : Below w.heap.size w (W5.setCell ⟨w2.heap.size + 1, 0, none⟩ (.int .i64 cd)) := (up_trans hB4 hb5).setCell (p := ⟨w2.heap.size + 1, 0, none⟩) (by show _ ≤ w2.heap.size + 1; omega) _
    have hu5 : BkF (W5.setCell ⟨w2.heap.size + 1, 0, none⟩ (.int .i64 cd)) W1.heap.size _ bk := hu.up ((up_trans hb4 hb5).setCell (p := ⟨w2.heap.size + 1, 0, none⟩) (by show _ ≤ w2.heap.size + 1; omega) _)
    clear kX kR4 kT hB4 hu4 hu t0 t1 HE hb4 hb5
    generalize W5.setCell ⟨w2.heap.size + 1, 0, none⟩ (.int .i64 cd) = W6 at *
    obtain ⟨⟨x0, x1⟩, -⟩ := kX5.c2
    obtain ⟨⟨y0, y1⟩, q0, q1⟩ := kR5.c2
    have t0 : W6.cell? ⟨w2.heap.size + 1, 0, none⟩ = some (.int .i64 cd) := kT5.1 0 _ rfl
    have kR6 := kR5.up (Below.refl _ _).drew kR5.2.2
    have hu6 := hu5.up (Below.refl _ _).drew
    go_wp2_with fail
    go_region
    all_goals
      go_wp2_with fail
      refine end_cb2b Tryz.results15 Tryz.underlying26 rfl sizeBk1 kR6 rfl rfl ?_
      exact ⟨⟨_, rfl, ((hu6.set (by omega)).set (by omega)).low (by omega)⟩, below_set2 hB5.drew (Nat.le_succ _) _ _⟩
end Go.Proofs.YtkgbdjdgcacblaaGreatDoor
