/- The program's walks over books (chapter 11): ok or not, who has what. -/
import Derived.Test.YtafgabakhaipnaaKp2
namespace Go.Proofs.Ytafgabakhaipnaa
open Go.RowKit Go.Maps

theorem bas_has {things : List ByteArray} {bs : List Ba} (h8 : things.length ≤ 8) (h : BasTo things bs bs.length) : ∀ x ∈ bs, Asc x.has ∧ x.has.length ≤ 8 := fun x hx => by
  obtain ⟨i, hi, rfl⟩ := List.getElem_of_mem hx
  obtain ⟨h1, h2⟩ := h.at hi hi
  have e1 := part_short h1
  have e2 := part_short h2
  exact ⟨h2.2, by omega⟩

set_option maxHeartbeats 2000000 in
theorem bookOk_any (b : Bk) (v : Value) (w : World) (h : BkV w v b) :
    Calls Try.prog 19 #[v] w fun e w' => e = .returned (.bool (bookB b)) ∧ Below w.heap.size w w' := by
  obtain ⟨a1, c1, a2, c2, rfl, h1, h2⟩ := h.parts
  have hC : CB (w.alloc (.cells #[.slice a1 (b).things.length c1, .slice a2 (b).bs.length c2] 30)) w.heap.size [.slice a1 b.things.length c1, .slice a2 b.bs.length c2] := cb_alloc w _ _
  have hB0 := (Below.refl w.heap.size w).alloc (Nat.le_refl _) (.cells #[.slice a1 (b).things.length c1, .slice a2 (b).bs.length c2] 30)
  have g1 := h1.inv.1
  have g2 := h2.at.1
  unfold maxLen at g1 g2
  go_enter Try.func19, Try.ntmps19
  go_upto_region 1 with fail
  generalize w.alloc (.cells #[.slice a1 (b).things.length c1, .slice a2 (b).bs.length c2] 30) = W1 at *
  have l1 := h1.up hB0
  have l2 := h2.up hB0
  obtain ⟨e0, e1⟩ := hC.c2'
  have hlt := hC.2.2
  clear h h1 h2
  by_cases h8 : 8 < b.things.length
  · have Hq : Hid (bookB b = false) := pB_no fun h => by have := h.1.1; omega
    go_wp2_with fail
    go_ret
    exact ⟨ret_bool Hq.out.symm, hB0⟩
  by_cases h5 : 5 < b.bs.length
  · have Hq : Hid (bookB b = false) := pB_no fun h => by have := h.2.1; omega
    go_wp2_with fail
    go_ret
    exact ⟨ret_bool Hq.out.symm, hB0⟩
  cases ho : pB (Names b.things ∧ Asc b.things)
  · have Hq : Hid (bookB b = false) := pB_no fun h => pB_not.1 ho ⟨h.1.2.1, h.1.2.2⟩
    go_wp2_with fail
    refine (ordered_any b.things _ _ l1).mono ?_
    rintro e w2 ⟨rfl, hB⟩
    rw [ho]
    go_wp2_with fail
    go_ret
    exact ⟨ret_bool Hq.out.symm, up_trans hB0 hB⟩
  have Ho : Hid (ThingsOk b.things) := ⟨by omega, (pB_iff.1 ho).1, (pB_iff.1 ho).2⟩
  go_wp2_with fail
  refine (ordered_any b.things _ _ l1).mono ?_
  rintro e w2 ⟨rfl, hb2⟩
  rw [ho]
  clear ho
  obtain ⟨hc, hf⟩ := bcell hb2
  go_wp2_with fail
  refine (batchNames_any b.bs _ _ (l2.up hb2) (by omega)).mono ?_
  rintro e w3 ⟨⟨u, rfl, -, hu⟩, hb3⟩
  clear hc hf
  obtain ⟨au, cu, rfl, -⟩ := id hu
  go_wp2_with fail
  refine (ordered_any (nms b.bs) _ _ hu).mono ?_
  rintro e w4 ⟨rfl, hb4⟩
  have hB := up_trans (up_trans hb2 hb3) hb4
  clear hb2 hb3 hb4 hu
  cases hn : pB (Names (nms b.bs) ∧ Asc (nms b.bs))
  · have Hq : Hid (bookB b = false) := pB_no fun h => pB_not.1 hn ⟨h.2.2.1, h.2.2.2.1⟩
    go_wp2_with fail
    go_ret
    exact ⟨ret_bool Hq.out.symm, up_trans hB0 hB⟩
  have Hn : Hid (Names (nms b.bs) ∧ Asc (nms b.bs)) := pB_iff.1 hn
  clear hn
  obtain ⟨hc, hf⟩ := bcell hB
  obtain ⟨-, hpos⟩ := l2.at
  have hz4 := hB.size
  go_wp2_with fail
  clear hc hf
  go_loopw [4, 31] (fun _ i w' => ∃ k : Nat, k ≤ b.bs.length ∧ i = .int .i64 k ∧ BasTo b.things b.bs k ∧ Below W1.heap.size W1 w') (fun _ i _ => b.bs.length - (intOf i).toNat)
  case atStart => exact ⟨0, by omega, rfl, BasTo.zero _ _, hB⟩
  case round =>
    clear hB hz4
    obtain ⟨k, hk, rfl, hal, hB⟩ := hrel
    have Hal : Hid (BasTo b.things b.bs k) := hal
    clear hal
    by_cases hp : k < b.bs.length
    · obtain ⟨bb, o, rfl, hS, hb⟩ := hpos (by omega)
      obtain ⟨a3, d3, a4, d4, c3, c4, c5, l3, l4, -⟩ := ((hS.at hp).up hB hb).cells
      have HS : Hid (BaOk b.things b.bs[k] → BasTo b.things b.bs (k + 1)) := fun h => Hal.out.step hp h
      have HN : Hid (¬ BaOk b.things b.bs[k] → bookB b = false) := fun h => pB_no fun hb => h (hb.2.2.2.2.1.at hp hp)
      generalize b.bs[k] = x0 at *
      have hC1 : CB (wr.alloc (.cells #[.string (x0).nm, .slice a3 (x0).has.length d3, .slice a4 (x0).needs.length d4] 41)) wr.heap.size [.string x0.nm, .slice a3 x0.has.length d3, .slice a4 x0.needs.length d4] := cb_alloc wr _ _
      have hb5 := (Below.refl wr.heap.size wr).alloc (Nat.le_refl _) (.cells #[.string (x0).nm, .slice a3 (x0).has.length d3, .slice a4 (x0).needs.length d4] 41)
      go_upto_region 8 with fail
      generalize wr.alloc (.cells #[.string (x0).nm, .slice a3 (x0).has.length d3, .slice a4 (x0).needs.length d4] 41) = W2 at *
      have hB5 := up_trans hB hb5
      have l3' := l3.up hb5
      have l4' := l4.up hb5
      have l1' := l1.up hB5
      obtain ⟨⟨q0, q1, q2⟩, -⟩ := hC1.c3
      obtain ⟨hc, hf⟩ := bcell hB5
      clear c3 c4 c5 l3 l4 hb5 hB hS
      go_wp2_with fail
      refine (batchOk_any x0 b.things _ _ _ _ l3' l4' l1').mono ?_
      rintro e w6 ⟨rfl, hb6⟩
      have hB6 := up_trans hB5 hb6
      clear hc hf q0 q1 q2 l3' l4' l1' hB5 hb6 hC1
      cases hq : pB (BaOk b.things x0)
      · have Hq : Hid (bookB b = false) := HN.out (pB_not.1 hq)
        go_wp2_with fail
        go_ret
        exact ⟨ret_bool Hq.out.symm, up_trans hB0 hB6⟩
      · have Hq : Hid (BasTo b.things b.bs (k + 1)) := HS.out (pB_iff.1 hq)
        go_wp2_with fail
        go_roundw
        case rel => exact ⟨k + 1, by omega, by go_num, Hq.out, hB6⟩
        case measure => simp [intOf]; omega
    · have Hq : Hid (BasTo b.things b.bs b.bs.length) := bas_end Hal.out hp
      have h8' : ∀ x ∈ b.bs, Asc x.has ∧ x.has.length ≤ 8 := bas_has (by omega) Hq.out
      obtain ⟨hc, hf⟩ := bcell hB
      go_wp2_with fail
      refine (holders_any b.bs _ _ (l2.up hB) (by omega) h8').mono ?_
      rintro e w6 ⟨hh, hb6⟩
      have hB6 := up_trans hB hb6
      clear hc hf
      rcases hh with ⟨hA, M, n, D, rfl, -, -, -⟩ | ⟨hA, rfl⟩
      · have Hy : Hid (bookB b = true) := pB_yes ⟨Ho.out, by omega, Hn.out.1, Hn.out.2, Hq.out, hA⟩
        go_wp2_with fail
        go_ret
        exact ⟨ret_bool Hy.out.symm, up_trans hB0 hB6⟩
      · have Hy : Hid (bookB b = false) := pB_no fun h => hA h.2.2.2.2.2
        go_wp2_with fail
        go_ret
        exact ⟨ret_bool Hy.out.symm, up_trans hB0 hB6⟩
end Go.Proofs.Ytafgabakhaipnaa
