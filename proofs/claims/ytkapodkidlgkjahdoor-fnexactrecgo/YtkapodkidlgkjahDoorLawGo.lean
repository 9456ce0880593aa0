/- The law of RecGo: its walk. -/
import Derived.Test.YtkapodkidlgkjahDoorLawS
import Derived.Test.YtkapodkidlgkjahDoorLawRg
import Derived.Test.YtkapodkidlgkjahDoorWg2
import Derived.Test.YtkapodkidlgkjahDoorWg4
import Derived.Deep.RegionHeld
import Derived.Deep.DeepCutAuto
namespace Go.Proofs.YtkapodkidlgkjahDoor
open Go.RowKit

theorem hg_drew {W X : World} {q : Nat} {s : St} {y : Sy} (h : (Below (W).heap.size (W) (X) ∧ (X).cell? ⟨q, 0, none⟩ = some (.string s.nm) ∧ (X).cell? ⟨q, 1, none⟩ = some (.int .i64 s.now) ∧ (X).cell? ⟨q, 2, none⟩ = some (.int .i64 s.left) ∧ (X).cell? ⟨q + 1, 0, none⟩ = some (.int .i64 y.t) ∧ (X).cell? ⟨q + 1, 1, none⟩ = some (.bool y.well))) : (Below (W).heap.size (W) (X.drew) ∧ (X.drew).cell? ⟨q, 0, none⟩ = some (.string s.nm) ∧ (X.drew).cell? ⟨q, 1, none⟩ = some (.int .i64 s.now) ∧ (X.drew).cell? ⟨q, 2, none⟩ = some (.int .i64 s.left) ∧ (X.drew).cell? ⟨q + 1, 0, none⟩ = some (.int .i64 y.t) ∧ (X.drew).cell? ⟨q + 1, 1, none⟩ = some (.bool y.well)) := ⟨h.1.drew, h.2⟩
theorem hg_up {W X Y : World} {q : Nat} {s : St} {y : Sy} (hq : q + 1 < W.heap.size) (hb : Below X.heap.size X Y) (h : (Below (W).heap.size (W) (X) ∧ (X).cell? ⟨q, 0, none⟩ = some (.string s.nm) ∧ (X).cell? ⟨q, 1, none⟩ = some (.int .i64 s.now) ∧ (X).cell? ⟨q, 2, none⟩ = some (.int .i64 s.left) ∧ (X).cell? ⟨q + 1, 0, none⟩ = some (.int .i64 y.t) ∧ (X).cell? ⟨q + 1, 1, none⟩ = some (.bool y.well))) : (Below (W).heap.size (W) (Y) ∧ (Y).cell? ⟨q, 0, none⟩ = some (.string s.nm) ∧ (Y).cell? ⟨q, 1, none⟩ = some (.int .i64 s.now) ∧ (Y).cell? ⟨q, 2, none⟩ = some (.int .i64 s.left) ∧ (Y).cell? ⟨q + 1, 0, none⟩ = some (.int .i64 y.t) ∧ (Y).cell? ⟨q + 1, 1, none⟩ = some (.bool y.well)) := by
  have hz := h.1.size
  refine ⟨up_trans h.1 hb, ?_, ?_, ?_, ?_, ?_⟩
  · rw [hb.cell (p := ⟨q, 0, none⟩) (by show q < _; omega)]; exact h.2.1
  · rw [hb.cell (p := ⟨q, 1, none⟩) (by show q < _; omega)]; exact h.2.2.1
  · rw [hb.cell (p := ⟨q, 2, none⟩) (by show q < _; omega)]; exact h.2.2.2.1
  · rw [hb.cell (p := ⟨q + 1, 0, none⟩) (by show q + 1 < _; omega)]; exact h.2.2.2.2.1
  · rw [hb.cell (p := ⟨q + 1, 1, none⟩) (by show q + 1 < _; omega)]; exact h.2.2.2.2.2
theorem hg_alloc {W X : World} {q : Nat} {s : St} {y : Sy} {o : Obj} (hq : q + 1 < W.heap.size) (h : (Below (W).heap.size (W) (X) ∧ (X).cell? ⟨q, 0, none⟩ = some (.string s.nm) ∧ (X).cell? ⟨q, 1, none⟩ = some (.int .i64 s.now) ∧ (X).cell? ⟨q, 2, none⟩ = some (.int .i64 s.left) ∧ (X).cell? ⟨q + 1, 0, none⟩ = some (.int .i64 y.t) ∧ (X).cell? ⟨q + 1, 1, none⟩ = some (.bool y.well))) : (Below (W).heap.size (W) (X.alloc o) ∧ (X.alloc o).cell? ⟨q, 0, none⟩ = some (.string s.nm) ∧ (X.alloc o).cell? ⟨q, 1, none⟩ = some (.int .i64 s.now) ∧ (X.alloc o).cell? ⟨q, 2, none⟩ = some (.int .i64 s.left) ∧ (X.alloc o).cell? ⟨q + 1, 0, none⟩ = some (.int .i64 y.t) ∧ (X.alloc o).cell? ⟨q + 1, 1, none⟩ = some (.bool y.well)) :=
  hg_up hq ((Below.refl _ _).alloc (Nat.le_refl _) _) h
theorem hg_set {W X : World} {q r : Nat} {s : St} {y : Sy} {x0 x1 x2 : Value} (hq : q + 1 < W.heap.size) (hr : W.heap.size ≤ r) (h : (Below (W).heap.size (W) (X) ∧ (X).cell? ⟨q, 0, none⟩ = some (.string s.nm) ∧ (X).cell? ⟨q, 1, none⟩ = some (.int .i64 s.now) ∧ (X).cell? ⟨q, 2, none⟩ = some (.int .i64 s.left) ∧ (X).cell? ⟨q + 1, 0, none⟩ = some (.int .i64 y.t) ∧ (X).cell? ⟨q + 1, 1, none⟩ = some (.bool y.well))) :
    (Below (W).heap.size (W) (((X.setCell ⟨r, 0, none⟩ x0).setCell ⟨r, 1, none⟩ x1).setCell ⟨r, 2, none⟩ x2) ∧ (((X.setCell ⟨r, 0, none⟩ x0).setCell ⟨r, 1, none⟩ x1).setCell ⟨r, 2, none⟩ x2).cell? ⟨q, 0, none⟩ = some (.string s.nm) ∧ (((X.setCell ⟨r, 0, none⟩ x0).setCell ⟨r, 1, none⟩ x1).setCell ⟨r, 2, none⟩ x2).cell? ⟨q, 1, none⟩ = some (.int .i64 s.now) ∧ (((X.setCell ⟨r, 0, none⟩ x0).setCell ⟨r, 1, none⟩ x1).setCell ⟨r, 2, none⟩ x2).cell? ⟨q, 2, none⟩ = some (.int .i64 s.left) ∧ (((X.setCell ⟨r, 0, none⟩ x0).setCell ⟨r, 1, none⟩ x1).setCell ⟨r, 2, none⟩ x2).cell? ⟨q + 1, 0, none⟩ = some (.int .i64 y.t) ∧ (((X.setCell ⟨r, 0, none⟩ x0).setCell ⟨r, 1, none⟩ x1).setCell ⟨r, 2, none⟩ x2).cell? ⟨q + 1, 1, none⟩ = some (.bool y.well)) := by
  have hb : Below W.heap.size X (((X.setCell ⟨r, 0, none⟩ x0).setCell ⟨r, 1, none⟩ x1).setCell ⟨r, 2, none⟩ x2) := below_set3 (Below.refl _ _) hr _ _ _
  refine ⟨h.1.trans hb, ?_, ?_, ?_, ?_, ?_⟩
  · rw [hb.cell (p := ⟨q, 0, none⟩) (by show q < _; omega)]; exact h.2.1
  · rw [hb.cell (p := ⟨q, 1, none⟩) (by show q < _; omega)]; exact h.2.2.1
  · rw [hb.cell (p := ⟨q, 2, none⟩) (by show q < _; omega)]; exact h.2.2.2.1
  · rw [hb.cell (p := ⟨q + 1, 0, none⟩) (by show q + 1 < _; omega)]; exact h.2.2.2.2.1
  · rw [hb.cell (p := ⟨q + 1, 1, none⟩) (by show q + 1 < _; omega)]; exact h.2.2.2.2.2
theorem hg_re {W X : World} {q : Nat} {s : St} {y : Sy} {o o' : Obj} (hq : q + 1 < W.heap.size) (hB : Below W.heap.size W X) (h : (Below (W).heap.size (W) (X.alloc o) ∧ (X.alloc o).cell? ⟨q, 0, none⟩ = some (.string s.nm) ∧ (X.alloc o).cell? ⟨q, 1, none⟩ = some (.int .i64 s.now) ∧ (X.alloc o).cell? ⟨q, 2, none⟩ = some (.int .i64 s.left) ∧ (X.alloc o).cell? ⟨q + 1, 0, none⟩ = some (.int .i64 y.t) ∧ (X.alloc o).cell? ⟨q + 1, 1, none⟩ = some (.bool y.well))) : (Below (W).heap.size (W) (X.alloc o') ∧ (X.alloc o').cell? ⟨q, 0, none⟩ = some (.string s.nm) ∧ (X.alloc o').cell? ⟨q, 1, none⟩ = some (.int .i64 s.now) ∧ (X.alloc o').cell? ⟨q, 2, none⟩ = some (.int .i64 s.left) ∧ (X.alloc o').cell? ⟨q + 1, 0, none⟩ = some (.int .i64 y.t) ∧ (X.alloc o').cell? ⟨q + 1, 1, none⟩ = some (.bool y.well)) := by
  have hz := hB.size
  have e : ∀ b j, b < X.heap.size → (X.alloc o').cell? ⟨b, j, none⟩ = (X.alloc o).cell? ⟨b, j, none⟩ := fun b j hb => by
    rw [((Below.refl X.heap.size X).alloc (Nat.le_refl _) o').cell (p := ⟨b, j, none⟩) hb, ((Below.refl X.heap.size X).alloc (Nat.le_refl _) o).cell (p := ⟨b, j, none⟩) hb]
  exact ⟨hB.alloc hB.size _, (e _ _ (by omega)).trans h.2.1, (e _ _ (by omega)).trans h.2.2.1, (e _ _ (by omega)).trans h.2.2.2.1, (e _ _ (by omega)).trans h.2.2.2.2.1, (e _ _ (by omega)).trans h.2.2.2.2.2⟩


set_option maxHeartbeats 4000000 in
theorem lawGo_any (ps : List Ph) (v : Value) (s : St) (y : Sy) (w : World) (hE : Ends w) (h : Src w v ps) (hs : Sized ps) :
    Calls Tryd.prog 6 #[v, .agg #[.string (s).nm, .int .i64 (s).now, .int .i64 (s).left], .agg #[.int .i64 (y).t, .bool (y).well]] w fun e' w' => e' = .returned (.bool true) ∧ Below w.heap.size w w' := by
  go_enter Tryd.func6, Tryd.ntmps6
  go_wp2_with fail
  obtain ⟨W1, hW1, k1, k2, hB1, hs1⟩ : ∃ W1, (w.alloc (.cells #[.string s.nm, .int .i64 s.now, .int .i64 s.left] 35)).alloc (.cells #[.int .i64 y.t, .bool y.well] 37) = W1 ∧ CB W1 w.heap.size s.cells ∧ CB W1 (w.heap.size + 1) y.cellsI ∧ Below w.heap.size w W1 ∧ W1.heap.size = w.heap.size + 2 := ⟨_, rfl, cb2 w s.cells y.cellsI _ _⟩
  rw [hW1]
  clear hW1
  refine (szS_src ps v _ (h.up hB1) hs).mono ?_
  rintro e' w1 ⟨⟨x, rfl, hx0⟩, hb1⟩
  have hB := hB1.trans (hb1.mono (by omega))
  have k1 := k1.up hb1 k1.2.2
  have k2 := k2.up hb1 k2.2.2
  clear hB1 hb1 hs1
  by_cases hx : x < 0
  · go_wp2_with fail
    go_ret
    exact ⟨rfl, hB⟩
  have hn : ps.length ≤ 1048576 := hx0 (by omega)
  clear hx0
  obtain ⟨⟨a0, a1, a2⟩, -⟩ := k1.c3
  go_wp2_with fail
  refine (szState_any s x _).mono ?_
  rintro e' w2 ⟨⟨x2, rfl⟩, hb2⟩
  have hB := up_trans hB hb2
  have k1 := k1.up hb2 k1.2.2
  have k2 := k2.up hb2 k2.2.2
  clear a0 a1 a2 hb2 hx
  by_cases hx2 : x2 < 0
  · go_wp2_with fail
    go_ret
    exact ⟨rfl, hB⟩
  obtain ⟨⟨a0, a1, a2⟩, -⟩ := k1.c3
  obtain ⟨⟨b0, b1⟩, -⟩ := k2.c2
  have hq : w.heap.size + 1 < w2.heap.size := k2.2.2
  have hS0 : (Below (w2).heap.size (w2) (w2) ∧ (w2).cell? ⟨w.heap.size, 0, none⟩ = some (.string s.nm) ∧ (w2).cell? ⟨w.heap.size, 1, none⟩ = some (.int .i64 s.now) ∧ (w2).cell? ⟨w.heap.size, 2, none⟩ = some (.int .i64 s.left) ∧ (w2).cell? ⟨w.heap.size + 1, 0, none⟩ = some (.int .i64 y.t) ∧ (w2).cell? ⟨w.heap.size + 1, 1, none⟩ = some (.bool y.well)) := ⟨Below.refl _ _, a0, a1, a2, b0, b1⟩
  have HSrc : Hid (∀ w', Below w2.heap.size w2 w' → Src w' v ps) := fun w' hb' => h.up (up_trans hB hb')
  clear a0 a1 a2 b0 b1 k1 k2 h
  go_wp2_with fail
  go_cut [8, 9] (fun p8 b9 wc => ∃ r, p8 = .pointer (some ⟨r, 0, none⟩) ∧ b9 = .bool (goOk ps s) ∧ CB wc r (goS ps s y).cells ∧ w2.heap.size ≤ r ∧ (Below (w2).heap.size (w2) (wc) ∧ (wc).cell? ⟨w.heap.size, 0, none⟩ = some (.string s.nm) ∧ (wc).cell? ⟨w.heap.size, 1, none⟩ = some (.int .i64 s.now) ∧ (wc).cell? ⟨w.heap.size, 2, none⟩ = some (.int .i64 s.left) ∧ (wc).cell? ⟨w.heap.size + 1, 0, none⟩ = some (.int .i64 y.t) ∧ (wc).cell? ⟨w.heap.size + 1, 1, none⟩ = some (.bool y.well)))
  case first =>
    go_region_held (fun w' => (Below (w2).heap.size (w2) (w') ∧ (w').cell? ⟨w.heap.size, 0, none⟩ = some (.string s.nm) ∧ (w').cell? ⟨w.heap.size, 1, none⟩ = some (.int .i64 s.now) ∧ (w').cell? ⟨w.heap.size, 2, none⟩ = some (.int .i64 s.left) ∧ (w').cell? ⟨w.heap.size + 1, 0, none⟩ = some (.int .i64 y.t) ∧ (w').cell? ⟨w.heap.size + 1, 1, none⟩ = some (.bool y.well))) ((first | assumption | exact hg_drew hS0 | exact hg_alloc hq (by assumption) | exact hg_up hq (by assumption) (by assumption) | exact hg_re hq hB7 (by assumption) | exact hg_set hq (Nat.le_refl _) (by assumption) | exact hg_set hq (Below.size hB4) (by assumption) | exact hg_set hq (Below.size hB5) (by assumption) | exact hg_set hq (Below.size hB6) (by assumption)))
      (first
        | (go_at_call 10; refine (toS_src ps v _ (HSrc.out _ (And.left (by assumption))) hn).mono ?_; rintro e' w4 ⟨⟨b1, rfl, ho, -⟩, hb4⟩; (have hB4 : Below w2.heap.size w2 w4 := up_trans (And.left (by assumption)) hb4); (first | (have kz : CB _ w2.heap.size [.string ⟨#[]⟩, .int .i64 0, .int .i64 0] := (cb_alloc w2.drew [.string ⟨#[]⟩, .int .i64 0, .int .i64 0] 32).up hb4 (by simp); obtain ⟨⟨z0, z1, z2⟩, y0, y1, y2⟩ := kz.c3) | (have kz := (cb_alloc _ [.string ⟨#[]⟩, .int .i64 0, .int .i64 0] 32).up hb4 (by simp); obtain ⟨⟨z0, z1, z2⟩, y0, y1, y2⟩ := kz.c3) | (have kz := kz.up hb4 kz.2.2; obtain ⟨⟨z0, z1, z2⟩, y0, y1, y2⟩ := kz.c3) | skip))
        | (go_at_call 20; refine (toState_any s _).mono ?_; rintro e' w5 ⟨rfl, hb5⟩; (have hB5 : Below w2.heap.size w2 w5 := up_trans (And.left (by assumption)) hb5); (first | (have ho := ho.up hb5) | (have ho := (ho.up ((Below.refl _ _).alloc (Nat.le_refl _) _)).up hb5) | skip); (first | (have kz : CB _ w2.heap.size [.string ⟨#[]⟩, .int .i64 0, .int .i64 0] := (cb_alloc w2.drew [.string ⟨#[]⟩, .int .i64 0, .int .i64 0] 32).up hb5 (by simp); obtain ⟨⟨z0, z1, z2⟩, y0, y1, y2⟩ := kz.c3) | (have kz := (cb_alloc _ [.string ⟨#[]⟩, .int .i64 0, .int .i64 0] 32).up hb5 (by simp); obtain ⟨⟨z0, z1, z2⟩, y0, y1, y2⟩ := kz.c3) | (have kz := kz.up hb5 kz.2.2; obtain ⟨⟨z0, z1, z2⟩, y0, y1, y2⟩ := kz.c3) | skip))
        | (go_at_call 21; refine (toSay_any y _).mono ?_; rintro e' w6 ⟨rfl, hb6⟩; (have hB6 : Below w2.heap.size w2 w6 := up_trans (And.left (by assumption)) hb6); (first | (have ho := ho.up hb6) | (have ho := (ho.up ((Below.refl _ _).alloc (Nat.le_refl _) _)).up hb6) | skip); (first | (have kz : CB _ w2.heap.size [.string ⟨#[]⟩, .int .i64 0, .int .i64 0] := (cb_alloc w2.drew [.string ⟨#[]⟩, .int .i64 0, .int .i64 0] 32).up hb6 (by simp); obtain ⟨⟨z0, z1, z2⟩, y0, y1, y2⟩ := kz.c3) | (have kz := (cb_alloc _ [.string ⟨#[]⟩, .int .i64 0, .int .i64 0] 32).up hb6 (by simp); obtain ⟨⟨z0, z1, z2⟩, y0, y1, y2⟩ := kz.c3) | (have kz := kz.up hb6 kz.2.2; obtain ⟨⟨z0, z1, z2⟩, y0, y1, y2⟩ := kz.c3) | skip))
        | (go_at_call 19; (first | (have hoo := ho) | skip); (first | refine (specGo_any ps _ 0 _ s y _ hoo.1 hoo.2.2 hs hn).mono ?_ | refine (specGo_any ps _ 0 _ s y _ (hoo.up ((Below.refl _ _).alloc (Nat.le_refl _) _)).1 (hoo.up ((Below.refl _ _).alloc (Nat.le_refl _) _)).2.2 hs hn).mono ?_); rintro e' w7 ⟨rfl, hb7⟩; (have hB7 : Below w2.heap.size w2 w7 := up_trans (And.left (by assumption)) hb7); (first | (have kz : CB _ w2.heap.size [.string ⟨#[]⟩, .int .i64 0, .int .i64 0] := (cb_alloc w2.drew [.string ⟨#[]⟩, .int .i64 0, .int .i64 0] 32).up hb7 (by simp); obtain ⟨⟨z0, z1, z2⟩, y0, y1, y2⟩ := kz.c3) | (have kz := (cb_alloc _ [.string ⟨#[]⟩, .int .i64 0, .int .i64 0] 32).up hb7 (by simp); obtain ⟨⟨z0, z1, z2⟩, y0, y1, y2⟩ := kz.c3) | (have kz := kz.up hb7 kz.2.2; obtain ⟨⟨z0, z1, z2⟩, y0, y1, y2⟩ := kz.c3) | skip)))
    all_goals
      rename_i hHeld
      go_wp2_with fail
      go_meet
      case rel =>
        first
          | exact ⟨_, rfl, rfl, cb_alloc w7 (goS ps s y).cells _, hB7.size, hHeld⟩
          | exact ⟨_, rfl, rfl, kz.copy3 _ _ _, Nat.le_refl _, hHeld⟩
          | exact ⟨_, rfl, rfl, kz.copy3 _ _ _, hB4.size, hHeld⟩
          | exact ⟨_, rfl, rfl, kz.copy3 _ _ _, hB5.size, hHeld⟩
          | exact ⟨_, rfl, rfl, kz.copy3 _ _ _, hB6.size, hHeld⟩
  case rest =>
    obtain ⟨r, rfl, rfl, k1, hr, hS⟩ := hcut
    have HEnd : Hid (∀ w', Below w2.heap.size w2 w' → Ends w') := fun w' hb' => hE.up (up_trans hB hb')
    go_wp2_with fail
    refine (toS_src ps v _ (HSrc.out _ hS.1) hn).mono ?_
    rintro e' w8 ⟨⟨b2, rfl, ho2, -⟩, hb8⟩
    have hB8 := up_trans hS.1 hb8
    have hq8 : w.heap.size + 1 < w8.heap.size := Nat.lt_of_lt_of_le hq hB8.size
    have hS1 : (Below (w8).heap.size (w8) (w8) ∧ (w8).cell? ⟨w.heap.size, 0, none⟩ = some (.string s.nm) ∧ (w8).cell? ⟨w.heap.size, 1, none⟩ = some (.int .i64 s.now) ∧ (w8).cell? ⟨w.heap.size, 2, none⟩ = some (.int .i64 s.left) ∧ (w8).cell? ⟨w.heap.size + 1, 0, none⟩ = some (.int .i64 y.t) ∧ (w8).cell? ⟨w.heap.size + 1, 1, none⟩ = some (.bool y.well)) := ⟨Below.refl _ _, (hg_up hq hb8 hS).2⟩
    have k1 := k1.up hb8 k1.2.2
    have HO : Hid (∀ w', Below w8.heap.size w8 w' → Own w' b2 ps) := fun w' hb' => ho2.up hb'
    have HEnd8 : Hid (∀ w', Below w8.heap.size w8 w' → Ends w') := fun w' hb' => HEnd.out _ (up_trans hB8 hb')
    clear hS hb8 ho2 hS0
    go_wp2_with fail
    go_cut [11, 12] (fun p8 b9 wc => ∃ r, p8 = .pointer (some ⟨r, 0, none⟩) ∧ b9 = .bool (goOk ps s) ∧ CB wc r (goS ps s y).cells ∧ (Below (w8).heap.size (w8) (wc) ∧ (wc).cell? ⟨w.heap.size, 0, none⟩ = some (.string s.nm) ∧ (wc).cell? ⟨w.heap.size, 1, none⟩ = some (.int .i64 s.now) ∧ (wc).cell? ⟨w.heap.size, 2, none⟩ = some (.int .i64 s.left) ∧ (wc).cell? ⟨w.heap.size + 1, 0, none⟩ = some (.int .i64 y.t) ∧ (wc).cell? ⟨w.heap.size + 1, 1, none⟩ = some (.bool y.well)))
    case first =>
      go_region_held (fun w' => (Below (w8).heap.size (w8) (w') ∧ (w').cell? ⟨w.heap.size, 0, none⟩ = some (.string s.nm) ∧ (w').cell? ⟨w.heap.size, 1, none⟩ = some (.int .i64 s.now) ∧ (w').cell? ⟨w.heap.size, 2, none⟩ = some (.int .i64 s.left) ∧ (w').cell? ⟨w.heap.size + 1, 0, none⟩ = some (.int .i64 y.t) ∧ (w').cell? ⟨w.heap.size + 1, 1, none⟩ = some (.bool y.well))) ((first | assumption | exact hg_drew hS1 | exact hg_alloc hq8 (by assumption) | exact hg_up hq8 (by assumption) (by assumption) | exact hg_re hq8 hBb (by assumption) | exact hg_set hq8 (Nat.le_refl _) (by assumption) | exact hg_set hq8 (Below.size hB9) (by assumption) | exact hg_set hq8 (Below.size hBa) (by assumption)))
        (first
          | (go_at_call 20; refine (toState_any s _).mono ?_; rintro e' w9 ⟨rfl, hb9⟩; (have hB9 : Below w8.heap.size w8 w9 := up_trans (And.left (by assumption)) hb9); (first | (have kz : CB _ w8.heap.size [.string ⟨#[]⟩, .int .i64 0, .int .i64 0] := (cb_alloc w8.drew [.string ⟨#[]⟩, .int .i64 0, .int .i64 0] 32).up hb9 (by simp); obtain ⟨⟨z0, z1, z2⟩, y0, y1, y2⟩ := kz.c3) | (have kz := (cb_alloc _ [.string ⟨#[]⟩, .int .i64 0, .int .i64 0] 32).up hb9 (by simp); obtain ⟨⟨z0, z1, z2⟩, y0, y1, y2⟩ := kz.c3) | (have kz := kz.up hb9 kz.2.2; obtain ⟨⟨z0, z1, z2⟩, y0, y1, y2⟩ := kz.c3) | skip))
          | (go_at_call 21; refine (toSay_any y _).mono ?_; rintro e' wa ⟨rfl, hba⟩; (have hBa : Below w8.heap.size w8 wa := up_trans (And.left (by assumption)) hba); (first | (have kz : CB _ w8.heap.size [.string ⟨#[]⟩, .int .i64 0, .int .i64 0] := (cb_alloc w8.drew [.string ⟨#[]⟩, .int .i64 0, .int .i64 0] 32).up hba (by simp); obtain ⟨⟨z0, z1, z2⟩, y0, y1, y2⟩ := kz.c3) | (have kz := (cb_alloc _ [.string ⟨#[]⟩, .int .i64 0, .int .i64 0] 32).up hba (by simp); obtain ⟨⟨z0, z1, z2⟩, y0, y1, y2⟩ := kz.c3) | (have kz := kz.up hba kz.2.2; obtain ⟨⟨z0, z1, z2⟩, y0, y1, y2⟩ := kz.c3) | skip))
          | (go_at_call 22; refine (recGo_big ps _ 0 _ s y _ (HEnd8.out _ (And.left (by assumption))) (HO.out _ (And.left (by assumption))).1 (HO.out _ (And.left (by assumption))).2.2 hs (Nat.le_refl _) (by omega)).mono ?_; rintro e' wb ⟨rfl, hbb⟩; (have hBb : Below w8.heap.size w8 wb := up_trans (And.left (by assumption)) hbb); (first | (have kz : CB _ w8.heap.size [.string ⟨#[]⟩, .int .i64 0, .int .i64 0] := (cb_alloc w8.drew [.string ⟨#[]⟩, .int .i64 0, .int .i64 0] 32).up hbb (by simp); obtain ⟨⟨z0, z1, z2⟩, y0, y1, y2⟩ := kz.c3) | (have kz := (cb_alloc _ [.string ⟨#[]⟩, .int .i64 0, .int .i64 0] 32).up hbb (by simp); obtain ⟨⟨z0, z1, z2⟩, y0, y1, y2⟩ := kz.c3) | (have kz := kz.up hbb kz.2.2; obtain ⟨⟨z0, z1, z2⟩, y0, y1, y2⟩ := kz.c3) | skip)))
      all_goals
        rename_i hHeld
        go_wp2_with fail
        go_meet
        case rel =>
          first
            | exact ⟨_, rfl, rfl, cb_alloc wb (goS ps s y).cells _, hHeld⟩
            | exact ⟨_, rfl, rfl, kz.copy3 _ _ _, hHeld⟩
    case rest =>
      obtain ⟨r2, rfl, rfl, k3, hS⟩ := hcut
      have k1 := k1.up hS.1 k1.2.2
      have hB9 := up_trans hB8 hS.1
      have ho3 := HO.out _ hS.1
      obtain ⟨⟨a0, a1, a2⟩, -⟩ := k1.c3
      obtain ⟨⟨b0, b1, b2⟩, -⟩ := k3.c3
      clear hS1 hS hB8
      generalize goS ps s y = z at *
      go_wp2_with fail
      refine (eqState_any z _).mono ?_
      rintro e' wd ⟨rfl, hbd⟩
      have hB10 := up_trans hB9 hbd
      have ho4 := ho3.up hbd
      clear a0 a1 a2 b0 b1 b2
      generalize goOk ps s = g at *
      have hgg : (g != g) = false := by simp
      go_wp2_with fail
      refine (toS_src ps v _ (HSrc.out _ hB10) hn).mono ?_
      rintro e' we ⟨⟨b3, rfl, ho5, -⟩, hbe⟩
      have ho6 := ho4.up hbe
      go_wp2_with fail
      refine (eqS_any ps _ b3 _ _ _ ho6.1 ho6.2.2 ho5.1 ho5.2.2 hn).mono ?_
      rintro e' wf ⟨rfl, hbf⟩
      go_wp2_with fail
      go_ret
      exact ⟨rfl, up_trans hB (up_trans hB10 (up_trans hbe hbf))⟩
end Go.Proofs.YtkapodkidlgkjahDoor
