/- The program's ShareLess. -/
import Derived.Test.YtialglmnfchfmaeGreatDoorKrb
import Derived.Test.YtialglmnfchfmaeGreatDoorKre
import Derived.Test.YtialglmnfchfmaeGreatDoorK30
namespace Go.Proofs.YtialglmnfchfmaeGreatDoor
open Go.RowKit

theorem less_asked (b : Bk) (nm : ByteArray) (ls : List ByteArray) : askedC b (ofC b nm ls) = lsnC b nm ls ∧ askedB b (ofC b nm ls) (chg b (plN b nm) (lessF ls)) = lsnB b nm ls := by
  cases hb : bookB b
  · obtain ⟨h1, h2⟩ := less_no (nm := nm) (needs := ls) hb
    exact ⟨by rw [h1]; simp [askedC, hb], by rw [h2]; simp [askedB, hb]⟩
  · cases hm : memS (nms b.bs) nm
    · obtain ⟨h1, h2⟩ := less_none (needs := ls) hb hm
      exact ⟨by rw [h1]; simp [askedC, hb, ofC, hm], by rw [h2]; simp [askedB, hb, ofC, hm]⟩
    · cases hp : pB (PartOk ls (needsAt b nm))
      · obtain ⟨h1, h2⟩ := less_two hb hm hp
        exact ⟨by rw [h1]; simp [askedC, hb, ofC, hm, hp], by rw [h2]; simp [askedB, hb, ofC, hm, hp]⟩
      · obtain ⟨h1, h2⟩ := less_yes hb hm hp
        exact ⟨by rw [h1]; simp [askedC, hb, ofC, hm, hp], by rw [h2]; simp [askedB, hb, ofC, hm, hp]⟩
theorem of_part {b : Bk} {nm : ByteArray} {ls : List ByteArray} (h : ofC b nm ls = 0) : PartOk ls (needsAt b nm) := by
  have hm := of_mem h
  cases hp : pB (PartOk ls (needsAt b nm))
  · rw [of_two hm hp] at h; omega
  · exact pB_iff.1 hp
theorem of_short {b : Bk} {nm : ByteArray} {ls : List ByteArray} (hok : BookOk b) (h : ofC b nm ls = 0) : ls.length ≤ 8 := by
  obtain ⟨-, hpl⟩ := plN_lt (of_mem h)
  have hp := of_part h
  rw [needsAt_at (List.getElem?_eq_getElem hpl)] at hp
  have h1 := part_short hp
  have h2 := ((ok_small hok).2.2 b.bs[plN b nm] (by simp)).2
  omega
set_option maxRecDepth 20000 in
set_option maxHeartbeats 2000000 in
theorem lessP_any (b : Bk) (v : Value) (nm : ByteArray) (lv : Value) (ls : List ByteArray) (w : World) (h : BkV w v b) (hl : Ls w lv ls) (hg : ErrT w) :
    Calls Tryz.prog 11 #[v, .string nm, lv] w fun e w' => (∃ u, e = .returned (.tuple #[u, .int .i64 (lsnC b nm ls)]) ∧ BkF w' w.heap.size u (lsnB b nm ls)) ∧ Below w.heap.size w w' := by
  have hA : ∀ W, Below w.heap.size w W → Calls Tryz.prog 34 #[v, .iface 68 (.agg #[.string nm, lv])] W fun e w' => (∃ u, e = .returned (.tuple #[u, .int .i64 (lsnC b nm ls)]) ∧ BkF w' W.heap.size u (lsnB b nm ls)) ∧ Below W.heap.size W w' := fun W hW => by
    refine answer_any b v nm _ _ (lsnC b nm ls) (lsnB b nm ls) W (h.up hW) (hg.up hW) fun X hX => ?_
    obtain ⟨e1, e2⟩ := less_asked b nm ls
    rw [← e1, ← e2]
    exact try_any b v nm _ _ 175 (ofC b nm ls) _ X ((h.up hW).up hX) (fun n w => as_whoL n _ _ w) (fun n w => as_refL n _ _ w) ru_L
      (fun hok Y hY => lessRef_any b v nm lv ls Y (((h.up hW).up hX).up hY) hok (((hl.up hW).up hX).up hY))
      (fun hok hc Y hY => doneLess_any b v nm lv ls Y (((h.up hW).up hX).up hY) (((hl.up hW).up hX).up hY) (by have := of_short hok hc; omega) hok (of_part hc).2 (of_mem hc))
  obtain ⟨a1, c1, a2, c2, rfl, -, -⟩ := h.parts
  obtain ⟨la, lc, rfl, -⟩ := id hl
  have HA : Hid (∀ W, Below w.heap.size w W → Calls Tryz.prog 34 #[.agg #[.slice a1 b.things.length c1, .slice a2 b.bs.length c2], .iface 68 (.agg #[.string nm, .slice la ls.length lc])] W fun e w' => (∃ u, e = .returned (.tuple #[u, .int .i64 (lsnC b nm ls)]) ∧ BkF w' W.heap.size u (lsnB b nm ls)) ∧ Below W.heap.size W w') := hA
  clear hA h hg hl
  obtain ⟨W1, hW1, kA, kR, hB1, hs1⟩ : ∃ W1, (w.alloc (.cells #[.slice a1 (b).things.length c1, .slice a2 (b).bs.length c2] 30)).alloc (.cells #[.slice none 0 0, .slice none 0 0] 30) = W1 ∧ CB W1 w.heap.size [.slice a1 b.things.length c1, .slice a2 b.bs.length c2] ∧ CB W1 (w.heap.size + 1) [.slice none 0 0, .slice none 0 0] ∧ Below w.heap.size w W1 ∧ W1.heap.size = w.heap.size + 2 := ⟨_, rfl, cb2 w _ _ _ _⟩
  go_enter Tryz.func11, Tryz.ntmps11
  go_upto_region 1 with fail
  try rw [hW1]
  clear hW1
  obtain ⟨e0, e1⟩ := kA.c2'
  go_wp2_with fail
  refine (HA.out _ hB1).mono ?_
  rintro e w2 ⟨⟨u, rfl, hu⟩, hb2⟩
  have kR2 := kR.up hb2 (by omega)
  have hB2 := up_trans hB1 hb2
  obtain ⟨i1, j1, i2, j2, rfl⟩ := hu.shape
  clear e0 e1 kA kR hB1 hb2 HA
  obtain ⟨⟨y0, y1⟩, q0, q1⟩ := kR2.c2
  go_wp2_with fail
  refine end_cb2b Tryz.results11 Tryz.underlying30 rfl sizeBk1 kR2 rfl rfl ?_
  exact ⟨⟨_, rfl, ((hu.set (by omega)).set (by omega)).low (by omega)⟩, below_set2 hB2 (Nat.le_succ _) _ _⟩
end Go.Proofs.YtialglmnfchfmaeGreatDoor

/- What the law of ShareLess leans on. -/
namespace Go.Proofs.YtialglmnfchfmaeGreatDoor
open Go.RowKit

theorem BkG.gr {w w' : World} {base r : Nat} {q : Option Nat} {v : Value} {b : Bk} (h : BkG w base q v b) (hg : w.grownBy w' (some r)) (hr : r < base) : BkG w' base q v b := by
  obtain ⟨a1, c1, a2, c2, ps, e, h1, h2, h3, h4⟩ := h
  exact ⟨a1, c1, a2, c2, ps, e, ⟨own_grown h1.1 hg hr, fun p hp => ⟨own_grown (h1.2 p hp).1 hg hr, own_grown (h1.2 p hp).2.1 hg hr, (h1.2 p hp).2.2⟩⟩, h2, h3.gr hg hr, h4⟩
theorem LsO.got {w : World} {base : Nat} {v : Value} {ss : List ByteArray} (h : LsO w base v ss) : ∃ b, v = .slice (some ⟨b, 0, none⟩) ss.length ss.length ∧ w.there b 0 ss.length ∧ base ≤ b ∧ b < w.heap.size := by
  obtain ⟨b, e, -, ht, h0, h1, -⟩ := h
  exact ⟨b, e, ht, h0, h1⟩
theorem there_blk {w w' : World} {b n : Nat} (h : w.there b 0 n) (hb : w'.heap[b]? = w.heap[b]?) : w'.there b 0 n := fun j hj => by
  have := h j hj
  rwa [World.cell?_of_block (w := w) (a := ⟨b, 0 + j, none⟩) hb, World.frozen?_of_block (w := w) (a := ⟨b, 0 + j, none⟩) hb]
theorem below_gr2 {w w' : World} {B r : Nat} (hg : w.grownBy w' (some r)) (hB : B ≤ w.heap.size) (hr : B ≤ r) : Below B w w' := ⟨hg.os, hg.tape, hg.output, hg.size, fun i hi => hg.block i (by omega) (by simp; omega)⟩
theorem less_at {b : Bk} {nm : ByteArray} {needs : List ByteArray} (h : lsnC b nm needs = 0) : ∃ hpl : plN b nm < b.bs.length, lsnB b nm needs = ⟨b.things, b.bs.set (plN b nm) (lessF needs b.bs[plN b nm])⟩ ∧ BookOk b ∧ needs.length ≤ 8 := by
  cases hb : bookB b
  · rw [(less_no hb).1] at h; omega
  cases hm : memS (nms b.bs) nm
  · rw [(less_none hb hm).1] at h; omega
  cases hp : pB (PartOk needs (needsAt b nm))
  · rw [(less_two hb hm hp).1] at h; omega
  obtain ⟨-, hpl⟩ := plN_lt hm
  refine ⟨hpl, ?_, book_ok hb, of_short (book_ok hb) (of_yes hm hp)⟩
  rw [(less_yes hb hm hp).2, chg_at (List.getElem?_eq_getElem hpl)]
theorem less_else {b : Bk} {nm : ByteArray} {needs : List ByteArray} (h : lsnC b nm needs ≠ 0) : lsnB b nm needs = nobody ∨ (lsnB b nm needs = b ∧ BookOk b) := by
  cases hb : bookB b
  · exact .inl (less_no hb).2
  refine .inr ⟨?_, book_ok hb⟩
  cases hm : memS (nms b.bs) nm
  · exact (less_none hb hm).2
  cases hp : pB (PartOk needs (needsAt b nm))
  · exact (less_two hb hm hp).2
  · exact absurd (less_yes hb hm hp).1 h
theorem szb_less {b : Bk} {nm : ByteArray} {needs : List ByteArray} (h : Szb b) (hn : ∀ s ∈ needs, s.size ≤ maxLen) : Szb (lsnB b nm needs) := by
  by_cases hc : lsnC b nm needs = 0
  · obtain ⟨hpl, e, -⟩ := less_at hc
    rw [e]
    refine ⟨h.1, fun x hx => ?_⟩
    rcases List.mem_or_eq_of_mem_set hx with k | k
    · exact h.2 x k
    · subst k
      exact ⟨fun s hs => (h.2 _ (List.getElem_mem hpl)).1 s (List.mem_filter.1 hs).1, hn⟩
  · rcases less_else hc with e | ⟨e, -⟩
    · rw [e]; exact szb_none
    · rw [e]; exact h
theorem lit_none : Lit nobody := ⟨by simp [nobody], by simp [nobody], fun x hx => by simp [nobody] at hx⟩
theorem lit_less (b : Bk) (nm : ByteArray) (needs : List ByteArray) : Lit (lsnB b nm needs) := by
  by_cases hc : lsnC b nm needs = 0
  · obtain ⟨hpl, e, hok, hn⟩ := less_at hc
    obtain ⟨s1, s2, s3⟩ := lit_ok hok
    rw [e]
    refine ⟨s1, by rw [List.length_set]; exact s2, fun x hx => ?_⟩
    rcases List.mem_or_eq_of_mem_set hx with k | k
    · exact s3 x k
    · subst k
      have h1 := List.length_filter_le (memS needs) (b.bs[plN b nm]).has
      have h2 := (s3 _ (List.getElem_mem hpl)).1
      exact ⟨by show (List.filter _ _).length ≤ _; omega, by show needs.length ≤ _; omega⟩
  · rcases less_else hc with e | ⟨e, hok⟩
    · rw [e]; exact lit_none
    · rw [e]; exact lit_ok hok
end Go.Proofs.YtialglmnfchfmaeGreatDoor
