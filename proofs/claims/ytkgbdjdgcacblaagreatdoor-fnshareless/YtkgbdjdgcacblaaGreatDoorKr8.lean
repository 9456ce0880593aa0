/- The program's chapter 13: what is done where somebody goes. -/
import Derived.Test.YtkgbdjdgcacblaaGreatDoorJ8
import Derived.Test.YtkgbdjdgcacblaaGreatDoorJ4
namespace Go.Proofs.YtkgbdjdgcacblaaGreatDoor
open Go.RowKit

theorem k2_drew {W w0 : World} {q : Nat} {x0 x1 : Value} (h : Below W.heap.size W w0 ∧ w0.cell? ⟨q, 0, none⟩ = some x0 ∧ w0.cell? ⟨q, 1, none⟩ = some x1) : Below W.heap.size W w0.drew ∧ w0.drew.cell? ⟨q, 0, none⟩ = some x0 ∧ w0.drew.cell? ⟨q, 1, none⟩ = some x1 := ⟨h.1.drew, h.2⟩
theorem k2_up {W w0 w1 : World} {q : Nat} {x0 x1 : Value} (hq : q < W.heap.size) (h : Below W.heap.size W w0 ∧ w0.cell? ⟨q, 0, none⟩ = some x0 ∧ w0.cell? ⟨q, 1, none⟩ = some x1) (hB : Below w0.heap.size w0 w1) : Below W.heap.size W w1 ∧ w1.cell? ⟨q, 0, none⟩ = some x0 ∧ w1.cell? ⟨q, 1, none⟩ = some x1 := by
  have lq : q < w0.heap.size := Nat.lt_of_lt_of_le hq h.1.size
  exact ⟨up_trans h.1 hB, (hB.cell (p := ⟨q, 0, none⟩) lq).trans h.2.1, (hB.cell (p := ⟨q, 1, none⟩) lq).trans h.2.2⟩
theorem Fam.sub {w : World} {B : Nat} {q : Option Nat} {fs gs : List (Value × List ByteArray)} (h : Fam w B q fs) (hs : gs.Sublist fs) : Fam w B q gs := ⟨fun f hf => h.own f (hs.subset hf), h.ap.sublist hs, fun f hf => h.av f (hs.subset hf)⟩
theorem famB_sub : ∀ {a b : List Bv}, a.Sublist b → (famB a).Sublist (famB b)
  | _, _, .slnil => List.Sublist.refl _
  | _, _, .cons _ h => ((famB_sub h).cons _).cons _
  | _, _, .cons_cons _ h => ((famB_sub h).cons_cons _).cons_cons _
/-- A book of one's own, whose lists lie apart. -/
def BkF (w : World) (base : Nat) (v : Value) (b : Bk) : Prop := ∃ a1 c1 a2 c2 ps, v = .agg #[.slice a1 b.things.length c1, .slice a2 b.bs.length c2] ∧ BsW w base (.slice a2 b.bs.length c2) ps ∧ ps.map (·.1) = b.bs ∧ Fam w base none ((.slice a1 b.things.length c1, b.things) :: famB ps)
theorem out_sub (ps : List Bv) (p : Nat) : (ps.take p ++ ps.drop (p + 1)).Sublist ps := by
  conv => rhs; rw [← List.take_append_drop p ps]
  exact (List.Sublist.refl _).append (by rw [← List.drop_drop]; exact List.drop_sublist _ _)
set_option maxRecDepth 20000 in
set_option maxHeartbeats 8000000 in
theorem doneLeave_any (b : Bk) (v : Value) (nm : ByteArray) (w : World) (h : BkV w v b) (hok : BookOk b) (hm : memS (nms b.bs) nm = true) :
    Calls Tryz.prog 42 #[v, .iface 51 (.agg #[.string nm])] w fun e w' => (∃ u, e = .returned u ∧ BkF w' w.heap.size u ⟨b.things, b.bs.take (plN b nm) ++ b.bs.drop (plN b nm + 1)⟩) ∧ Below w.heap.size w w' := by
  have f1 := as_whoV
  have f2 := ta_VE
  have f3 := ta_VA
  have f4 := ta_VL
  have f5 := ta_VV
  obtain ⟨a1, c1, a2, c2, rfl, -, -⟩ := h.parts
  obtain ⟨s1, s2, s3⟩ := ok_small hok
  obtain ⟨W1, hW1, kA, kR, hB1, hs1⟩ : ∃ W1, (w.alloc (.cells #[.slice a1 (b).things.length c1, .slice a2 (b).bs.length c2] 26)).alloc (.cells #[.slice none 0 0, .slice none 0 0] 26) = W1 ∧ CB W1 w.heap.size [.slice a1 b.things.length c1, .slice a2 b.bs.length c2] ∧ CB W1 (w.heap.size + 1) [.slice none 0 0, .slice none 0 0] ∧ Below w.heap.size w W1 ∧ W1.heap.size = w.heap.size + 2 := ⟨_, rfl, cb2 w _ _ _ _⟩
  go_enter Tryz.func42, Tryz.ntmps42
  go_upto_region 1 with fail
  try rw [hW1]
  clear hW1
  have hk := h.up hB1
  obtain ⟨e0, e1⟩ := kA.c2'
  go_wp2_with fail
  refine (copyP_any b _ _ hk (by omega) (by omega) (fun y hy => by have := s3 y hy; omega)).mono ?_
  rintro e w2 ⟨⟨a3, c3, a4, c4, ps, rfl, x2, x3, hF⟩, hb2⟩
  have hz2 := hb2.size
  have hlt2 : ∀ g', (Value.slice a4 b.bs.length c4).ownBlock = some g' → g' < w2.heap.size := fun g' hg' => (x2.1.lt g' hg').2
  replace hF := hF.avoid (Nat.le_refl _)
  have Hnm : Hid (∀ p ∈ ps, p.1.nm.size ≤ maxLen) := fun p hp => (x2.2 p hp).2.2
  have kA2 := kA.up hb2 (by omega)
  have kR2 := kR.up hb2 (by omega)
  have hk2 := hk.up hb2
  have hB2 := up_trans hB1 hb2
  clear e0 e1 kA kR hk hB1 hb2
  go_upto_region 2 with fail
  obtain ⟨W3, hW3, kX, hb3, hs3⟩ : ∃ W3, w2.alloc (.cells #[(.slice a3 b.things.length c3), .slice a4 b.bs.length c4] 26) = W3 ∧ CB W3 w2.heap.size [(.slice a3 b.things.length c3), .slice a4 b.bs.length c4] ∧ Below w2.heap.size w2 W3 ∧ W3.heap.size = w2.heap.size + 1 := ⟨_, rfl, cb1 w2 _ _⟩
  try rw [hW3]
  clear hW3
  have kA3 := kA2.up hb3 (by omega)
  have kR3 := kR2.up hb3 (by omega)
  have hk3 := hk2.up hb3
  have hB3 := up_trans hB2 hb3
  have x23 := x2.up hb3
  have hF3 := hF.up hb3
  clear kA2 kR2 hk2 hB2 x2 hF hb3
  obtain ⟨e0, e1⟩ := kA3.c2'
  have hS0 : Below W3.heap.size W3 W3 ∧ W3.cell? ⟨w.heap.size, 0, none⟩ = some (.slice a1 b.things.length c1) ∧ W3.cell? ⟨w.heap.size, 1, none⟩ = some (.slice a2 b.bs.length c2) := ⟨Below.refl _ _, e0, e1⟩
  have hq3 : w.heap.size < W3.heap.size := by omega
  clear e0 e1
  go_wp2_with fail
  go_region_held (fun w' => Below W3.heap.size W3 w' ∧ w'.cell? ⟨w.heap.size, 0, none⟩ = some (.slice a1 b.things.length c1) ∧ w'.cell? ⟨w.heap.size, 1, none⟩ = some (.slice a2 b.bs.length c2)) (first | exact k2_drew hS0 | exact k2_up hq3 (by assumption) (by assumption))
    (first
      | (go_at_call 112; refine (asker_any nm _).mono ?_; rintro e' w9 ⟨rfl, hb9⟩)
      | (go_at_call 60; refine (find_any b _ nm _ ((hk3.up (Below.refl _ _).drew).up hb9) hok).mono ?_; rintro e' wA ⟨rfl, hbA⟩))
  rename_i hHeld
  have hBA := hHeld.1
  clear hHeld hS0 hb9 hbA
  have hzA := hBA.size
  have kXA := kX.up hBA (by omega)
  have kRA := kR3.up hBA (by omega)
  have hBB := up_trans hB3 hBA
  have x2A := x23.up hBA
  have hFA := hF3.up hBA
  clear kX kR3 kA3 hB3 x23 hF3 hk3 hBA
  rw [low_pl hok.2.2.2.1 hm]
  obtain ⟨-, hpl⟩ := plN_lt hm
  have hps : ps.length = b.bs.length := by rw [← x3, List.length_map]
  have hrow := x2A.1
  rw [hps] at hrow
  obtain ⟨g, cp, hgp⟩ := own_ptr2 hrow (by omega)
  obtain ⟨rfl, -, rfl⟩ := Value.slice.inj hgp
  clear hgp
  go_upto_region 19 with fail
  obtain ⟨W5, hW5, hb5, hs5⟩ : ∃ W5, wA.alloc (.cells #[.string nm] 51) = W5 ∧ Below wA.heap.size wA W5 ∧ W5.heap.size = wA.heap.size + 1 := ⟨_, rfl, (Below.refl _ _).alloc (Nat.le_refl _) _, by simp⟩
  try rw [hW5]
  clear hW5
  have kX5 := kXA.up hb5 (by omega)
  have kR5 := kRA.up hb5 (by omega)
  have hB5 := up_trans hBB hb5
  have x25 := x2A.up hb5
  have hF5 := hFA.up hb5
  have hg2 := hlt2 g rfl
  have hg1 := (hrow.lt g rfl).1
  clear kXA kRA hBB x2A hFA hb5 hrow hlt2
  have hrow5 := x25.1
  have hdel := delete_any ps (plN b nm) g c4 W1.heap.size W5 (by omega) (by omega) (by rw [hps]; rw [hps] at hrow5; exact hrow5) (x25.one ps (fun _ h => h))
  rw [hps] at hdel hrow5
  obtain ⟨⟨y0, y1⟩, -⟩ := kX5.c2
  go_wp2_with fail
  refine hdel.mono ?_
  rintro e w6 ⟨rfl, hrow6, hg6⟩
  have kX6 := kX5.kept hg6 (by simp; omega)
  have kR6 := kR5.kept hg6 (by simp; omega)
  have hF6 := hF5.row hrow5 hg6
  have hB6 : Below w.heap.size w w6 := below_own hB5 hrow5 hg6 (by omega)
  clear y0 y1 hdel hrow5 kX5 kR5 hF5 hB5 x25
  obtain ⟨W7, hW7, kX7, kR7, hF7, hB7, hrow7⟩ : ∃ W7, w6.setCell ⟨w2.heap.size, 1, none⟩ (.slice (some ⟨g, 0, none⟩) (b.bs.length - 1) c4) = W7 ∧ CB W7 w2.heap.size [(.slice a3 b.things.length c3), .slice (some ⟨g, 0, none⟩) (b.bs.length - 1) c4] ∧ CB W7 (w.heap.size + 1) [.slice none 0 0, .slice none 0 0] ∧ Fam W7 W1.heap.size (some w2.heap.size) (((.slice a3 b.things.length c3), b.things) :: famB ps) ∧ Below w.heap.size w W7 ∧ W7.ownsRow W1.heap.size 45 3 (.slice (some ⟨g, 0, none⟩) (b.bs.length - 1) c4) (b.bs.length - 1) (rowsB (ps.take (plN b nm) ++ ps.drop (plN b nm + 1))) :=
    ⟨_, rfl, kX6.set (j := 1) (by simp), kR6.other (by omega), hF6.set 1 _, hB6.setCell (p := ⟨w2.heap.size, 1, none⟩) (by show _ ≤ w2.heap.size; omega) _, own_keep2 hrow6 (grown_setCell (rb := w2.heap.size) (off := 1) (grown_refl w6 _) _) (slice_ne (by simp; omega))⟩
  obtain ⟨⟨y0, y1⟩, g0, g1⟩ := kX6.c2
  go_upto_region 20 with fail
  try rw [hW7]
  clear hW7 y0 y1 g0 g1 kX6 kR6 hF6 hB6 hrow6 hg6
  obtain ⟨⟨y0, y1⟩, -⟩ := kX7.c2
  obtain ⟨⟨r0, r1⟩, q0, q1⟩ := kR7.c2
  have hW1z : w.heap.size + 1 < W1.heap.size := by omega
  have hl2 : (b.bs.take (plN b nm) ++ b.bs.drop (plN b nm + 1)).length = b.bs.length - 1 := by rw [List.length_append, List.length_take, List.length_drop]; omega
  have hl3 : (ps.take (plN b nm) ++ ps.drop (plN b nm + 1)).length = b.bs.length - 1 := by rw [List.length_append, List.length_take, List.length_drop]; omega
  have hm3 : (ps.take (plN b nm) ++ ps.drop (plN b nm + 1)).map (·.1) = b.bs.take (plN b nm) ++ b.bs.drop (plN b nm + 1) := by rw [← x3, List.map_append, List.map_take, List.map_drop]
  go_wp2_with fail
  refine end_cb2 Tryz.results42 Tryz.underlying26 rfl sizeBk1 kR7 rfl ?_
  have hrow8 := own_grown (own_grown hrow7 (grown_setCell (rb := w.heap.size + 1) (off := 0) (grown_refl _ _) (.slice a3 b.things.length c3)) hW1z) (grown_setCell (rb := w.heap.size + 1) (off := 1) (grown_refl _ _) (.slice (some ⟨g, 0, none⟩) (b.bs.length - 1) c4)) hW1z
  have hF8 := ((hF7.free.setLow hW1z 0 (.slice a3 b.things.length c3)).setLow hW1z 1 (.slice (some ⟨g, 0, none⟩) (b.bs.length - 1) c4)).sub ((famB_sub (out_sub ps (plN b nm))).cons_cons ((.slice a3 b.things.length c3), b.things))
  have hW8 := hF8.bsW (fs := [((.slice a3 b.things.length c3), b.things)]) (v := .slice (some ⟨g, 0, none⟩) (b.bs.length - 1) c4) (by rw [hl3]; exact hrow8) (fun p hp => Hnm.out p ((out_sub ps (plN b nm)).subset hp))
  refine ⟨⟨_, rfl, a3, c3, some ⟨g, 0, none⟩, c4, ps.take (plN b nm) ++ ps.drop (plN b nm + 1), ?_, ?_, hm3, hF8.low (by omega)⟩, below_set2 hB7 (Nat.le_succ _) _ _⟩
  · show Value.agg #[_, _] = Value.agg #[_, .slice _ (b.bs.take (plN b nm) ++ b.bs.drop (plN b nm + 1)).length _]
    rw [hl2]
  · show BsW _ _ (.slice _ (b.bs.take (plN b nm) ++ b.bs.drop (plN b nm + 1)).length _) _
    rw [hl2]
    exact hW8.low (by omega)
end Go.Proofs.YtkgbdjdgcacblaaGreatDoor
