/- The specification's walk of ShareMoves (chapter 14). -/
import Derived.Test.YtafgabakhaipnaaKs4b
import Derived.Test.YtafgabakhaipnaaJ33
import Derived.Test.YtafgabakhaipnaaJ39
namespace Go.Proofs.Ytafgabakhaipnaa
open Go.RowKit

noncomputable def sbM (b : Bk) (j : Nat) : Bool := pB (Can b.bs j [])
def OkM (b : Bk) : Prop := bookB b = true
open Classical in
noncomputable def movesS (b : Bk) : List ByteArray := if OkM b then pk (sbM b) (nms b.bs) b.bs.length else []

set_option maxRecDepth 20000 in
set_option maxHeartbeats 4000000 in
theorem specMoves_any (b : Bk) (v : Value) (w : World) (h : BkV w v b) :
    Calls Try.prog 5 #[v] w fun e w' => (∃ u, e = .returned u ∧ OwnT w' w.heap.size u (movesS b)) ∧ Below w.heap.size w w' := by
  obtain ⟨a1, c1, a2, c2, rfl, h1, h2⟩ := h.parts
  have g2 := h2.at.1
  unfold maxLen at g2
  obtain ⟨W1, hW1, kA, hB1, hs1⟩ : ∃ W1, w.alloc (.cells #[.slice a1 (b).things.length c1, .slice a2 (b).bs.length c2] 30) = W1 ∧ CB W1 w.heap.size [.slice a1 b.things.length c1, .slice a2 b.bs.length c2] ∧ Below w.heap.size w W1 ∧ W1.heap.size = w.heap.size + 1 := ⟨_, rfl, cb1 w _ _⟩
  have hz1 := hB1.size
  clear hs1
  obtain ⟨ii, hi, iz0, iz1, iz2⟩ := info_parts infoStr
  go_enter Try.func5, Try.ntmps5
  go_upto_region 1 with fail
  try rw [hW1]
  clear hW1
  have hk := h.up hB1
  have l2 := h2.up hB1
  obtain ⟨e0, e1⟩ := kA.c2'
  have hlt := kA.2.2
  obtain ⟨-, hpos⟩ := l2.at
  clear h h1 h2
  have ho2 := ownT_lit0 W1
  have hb2 := (Below.refl W1.heap.size W1).alloc (Nat.le_refl _) (.cells #[] 9)
  go_upto_region 2 with fail
  generalize W1.alloc (.cells #[] 9) = W2 at *
  go_wp2_with fail
  go_loopw [3, 4] (fun u i w' => ∃ k : Nat, k ≤ b.bs.length ∧ i = .int .i64 k ∧ (¬ OkM b → k = 0) ∧ OwnT w' W1.heap.size u (pk (sbM b) (nms b.bs) k) ∧ Below W1.heap.size W1 w') (fun _ i _ => b.bs.length - (intOf i).toNat)
  case atStart => exact ⟨0, by omega, rfl, fun _ => rfl, ho2, hb2⟩
  case round =>
    clear hb2 ho2
    obtain ⟨k, hkl, rfl, hno, hown, hB⟩ := hrel
    have Hno : Hid (¬ OkM b → k = 0) := hno
    clear hno
    have Hout : Hid (k = b.bs.length ∨ ¬ OkM b → pk (sbM b) (nms b.bs) k = movesS b) := fun hor => by
      by_cases hy : OkM b
      · rcases hor with rfl | hor
        · rw [movesS, if_pos hy]
        · exact absurd hy hor
      · rw [movesS, if_neg hy, Hno.out hy]; rfl
    have f0 := (hB.cell (p := ⟨w.heap.size, 0, none⟩) hlt).trans e0
    have f1 := (hB.cell (p := ⟨w.heap.size, 1, none⟩) hlt).trans e1
    by_cases hp : k < b.bs.length
    case neg =>
      have He : Hid (pk (sbM b) (nms b.bs) k = movesS b) := Hout.out (.inl (by omega))
      clear Hout Hno
      go_wp2_with fail
      go_ret
      exact ⟨⟨_, rfl, by rw [← He.out]; exact own_low hown hz1⟩, up_trans hB1 hB⟩
    go_wp2_with fail
    refine (specBook_any b _ _ (hk.up hB)).mono ?_
    rintro e w4 ⟨rfl, hb4⟩
    have hB4 := up_trans hB hb4
    have hown4 := hown.up hb4
    clear f0 f1 hB hb4 hown
    cases hq : bookB b with
    | false =>
      have He : Hid (pk (sbM b) (nms b.bs) k = movesS b) := Hout.out (.inr (by rw [OkM, hq]; simp))
      clear Hout Hno hq
      go_wp2_with fail
      go_ret
      exact ⟨⟨_, rfl, by rw [← He.out]; exact own_low hown4 hz1⟩, up_trans hB1 hB4⟩
    | true =>
      have Hm : Hid (OkM b) := hq
      have h5 : b.bs.length ≤ 5 := (pB_iff.1 hq).2.1
      clear hq Hout Hno g2
      have f0 := (hB4.cell (p := ⟨w.heap.size, 0, none⟩) hlt).trans e0
      have f1 := (hB4.cell (p := ⟨w.heap.size, 1, none⟩) hlt).trans e1
      have ho5 := ownT_lit0 w4
      have hb5 := (Below.refl w4.heap.size w4).alloc (Nat.le_refl _) (.cells #[] 9)
      have hown5 := hown4.up hb5
      have hB5 := up_trans hB4 hb5
      have Hsb : Hid (sbM b k = pB (Can b.bs k [])) := rfl
      go_upto_region 5 with fail
      go_wp2_with fail
      generalize w4.alloc (.cells #[] 9) = w5 at *
      refine (can12_any b _ _ k [] _ (hk.up hB5) (ho5.lst.ls (fun s hs => by simp at hs)) hp).mono ?_
      rintro e w6 ⟨rfl, hb6⟩
      have hB6 := up_trans hB5 hb6
      have hown6 := hown5.up hb6
      clear f0 f1 ho5 hb5 hown5 hB5 hown4 hB4 hb6
      have f1 := (hB6.cell (p := ⟨w.heap.size, 1, none⟩) hlt).trans e1
      obtain ⟨bb, o, rfl, hS, hb⟩ := hpos (by omega)
      obtain ⟨a3, d3, a4, d4, c3, -, -, -, -, z0⟩ := ((hS.at hp).up hB6 hb).cells
      have Hn : Hid ((nms b.bs).getD k ByteArray.empty = (b.bs[k]).nm) := by
        show _ = _
        rw [List.getD_eq_getElem?_getD, nms_at (List.getElem?_eq_getElem hp)]; rfl
      generalize b.bs[k] = x0 at *
      clear hS
      have Hl := pk_length (sbM b) (nms b.bs) k
      cases hs : pB (Can b.bs k []) with
      | false =>
        have Hpk : Hid (pk (sbM b) (nms b.bs) (k + 1) = pk (sbM b) (nms b.bs) k) := by
          show _ = _
          rw [pk, Hsb.out, hs]; simp
        clear Hsb Hn hs
        go_wp2_with fail
        go_roundw
        case rel => exact ⟨k + 1, by omega, by go_num, fun h => absurd Hm.out h, by rw [Hpk.out]; exact hown6, hB6⟩
        case measure => simp [intOf]; omega
      | true =>
        have Hpk : Hid (pk (sbM b) (nms b.bs) (k + 1) = pk (sbM b) (nms b.bs) k ++ [x0.nm]) := by
          show _ = _
          rw [pk, Hsb.out, hs, if_pos rfl, Hn.out]
        clear Hsb Hn hs
        generalize pk (sbM b) (nms b.bs) k = pl at *
        have hownA := own_up hown6 ((Below.refl w6.heap.size w6).alloc (Nat.le_refl _) (.cells #[.string x0.nm] 9))
        have hBA := hB6.alloc hB6.size (.cells #[.string x0.nm] 9)
        go_wp2_with (at_builtin; refine wpList_append_own _ rfl _ _ 22 rfl W1.heap.size 9 ii _ 1 16 Try.underlying22 hi iz0 iz1 iz2 rfl (by decide) _ _ _ rfl hownA ⟨w6.heap.size, 0, none⟩ 1 1 [.string x0.nm] rfl rfl (one_new _ _ _) (oneV _) (by unfold maxLen; omega) (by omega) hBA.size ?_)
        intro v1 w7 hown7 hgr7 _
        have HB7 : Hid (Below W1.heap.size W1 w7) := below_own hBA hownA hgr7 (Nat.le_refl _)
        have Ho7 : Hid (OwnT w7 W1.heap.size v1 (pk (sbM b) (nms b.bs) (k + 1))) := by
          show OwnT _ _ _ _
          rw [Hpk.out]; unfold OwnT; rw [List.length_append, List.map_append]; exact hown7
        clear hownA hBA hown7 hgr7 hB6 f1 c3 hown6
        go_wp2_with fail
        go_roundw
        case rel => exact ⟨k + 1, by omega, by go_num, fun h => absurd Hm.out h, Ho7.out, HB7.out⟩
        case measure => simp [intOf]; omega
end Go.Proofs.Ytafgabakhaipnaa
