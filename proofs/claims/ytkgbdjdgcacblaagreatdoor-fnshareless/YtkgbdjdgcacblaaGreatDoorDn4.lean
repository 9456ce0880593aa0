/- Drawing for the share: one step. -/
import Derived.Test.YtkgbdjdgcacblaaGreatDoorJ20
import Derived.Test.YtkgbdjdgcacblaaGreatDoorKt6
import Derived.Test.YtkgbdjdgcacblaaGreatDoorKt7
import Derived.Test.YtkgbdjdgcacblaaGreatDoorKt8
namespace Go.Proofs.YtkgbdjdgcacblaaGreatDoor
open Go.RowKit

theorem mem_ins {α : Type} {l : List α} {k : Nat} {x y : α} (h : y ∈ l.take k ++ x :: l.drop k) : y ∈ l ∨ y = x := by
  rcases List.mem_append.1 h with h | h
  · exact .inl (List.mem_of_mem_take h)
  · rcases List.mem_cons.1 h with h | h
    · exact .inr h
    · exact .inl (List.mem_of_mem_drop h)
theorem enter_dk {b : Bk} {nm : ByteArray} {needs : List ByteArray} (hz : Szb b) (ht : Tiny b) (hn : ∀ s ∈ needs, s.size ≤ maxLen) : Szb (enterB b nm needs) ∧ Tiny (enterB b nm needs) := by
  cases hok : bookB b
  · rw [(enter_no hok).2]; exact ⟨szb_none, tiny_none⟩
  · cases h2 : (nameB nm && pB (PartOk needs b.things))
    · rw [(enter_two hok h2).2]; exact ⟨hz, ht⟩
    · cases h3 : memS (nms b.bs) nm
      · by_cases h4 : 5 ≤ b.bs.length
        · rw [(enter_four hok h2 h3 h4).2]; exact ⟨hz, ht⟩
        · rw [(enter_yes hok h2 h3 h4).2]
          have hp : PartOk needs b.things := pB_iff.1 (by rw [Bool.and_eq_true] at h2; exact h2.2)
          have hl := part_short hp
          obtain ⟨s1, s2, s3⟩ := ok_small (book_ok hok)
          refine ⟨⟨hz.1, fun y hy => ?_⟩, by show b.things.length ≤ 40; omega, by simp; omega, fun y hy => ?_⟩
          · rcases mem_ins hy with h | rfl
            · exact hz.2 y h
            · exact ⟨fun s hs => by simp at hs, hn⟩
          · rcases mem_ins hy with h | rfl
            · exact ht.2.2 y h
            · exact ⟨by simp, by show needs.length ≤ 40; omega⟩
      · rw [(enter_three hok h2 h3).2]; exact ⟨hz, ht⟩
theorem leave_dk {b : Bk} {nm : ByteArray} (hz : Szb b) (ht : Tiny b) : Szb (leaveB b nm) ∧ Tiny (leaveB b nm) := by
  cases hok : bookB b
  · rw [(leave_no hok).2]; exact ⟨szb_none, tiny_none⟩
  · cases h3 : memS (nms b.bs) nm
    · rw [(leave_none hok h3).2]; exact ⟨hz, ht⟩
    · rw [(leave_yes hok h3).2]
      have hm : ∀ y ∈ b.bs.take (plN b nm) ++ b.bs.drop (plN b nm + 1), y ∈ b.bs := fun y hy => by
        rcases List.mem_append.1 hy with h | h
        · exact List.mem_of_mem_take h
        · exact List.mem_of_mem_drop h
      have h2 := ht.2.1
      exact ⟨⟨hz.1, fun y hy => hz.2 y (hm y hy)⟩, ht.1, by simp; omega, fun y hy => ht.2.2 y (hm y hy)⟩
theorem chg_dk {b : Bk} {p : Nat} {f : Ba → Ba} (hz : Szb b) (ht : Tiny b) (hf : ∀ x ∈ b.bs, ((∀ s ∈ (f x).has, s.size ≤ maxLen) ∧ ∀ s ∈ (f x).needs, s.size ≤ maxLen) ∧ (f x).has.length ≤ 40 ∧ (f x).needs.length ≤ 40) : Szb (chg b p f) ∧ Tiny (chg b p f) := by
  cases hx : b.bs[p]? with
  | none => simp only [chg, hx]; exact ⟨hz, ht⟩
  | some x =>
    rw [chg_at hx]
    have hm := List.mem_of_getElem? hx
    refine ⟨⟨hz.1, fun y hy => ?_⟩, ht.1, by rw [List.length_set]; exact ht.2.1, fun y hy => ?_⟩
    · rcases List.mem_or_eq_of_mem_set hy with h | rfl
      · exact hz.2 y h
      · exact (hf x hm).1
    · rcases List.mem_or_eq_of_mem_set hy with h | rfl
      · exact ht.2.2 y h
      · exact (hf x hm).2
theorem needsAt_len {b : Bk} {nm : ByteArray} (h : bookB b = true) : (needsAt b nm).length ≤ 8 := by
  obtain ⟨s1, s2, s3⟩ := ok_small (book_ok h)
  cases hx : b.bs[plN b nm]? with
  | none => simp [needsAt, hx]
  | some x => rw [needsAt_at hx]; exact (s3 x (List.mem_of_getElem? hx)).2
theorem less_dk {b : Bk} {nm : ByteArray} {needs : List ByteArray} (hz : Szb b) (ht : Tiny b) (hn : ∀ s ∈ needs, s.size ≤ maxLen) : Szb (lsnB b nm needs) ∧ Tiny (lsnB b nm needs) := by
  cases hok : bookB b
  · rw [(less_no hok).2]; exact ⟨szb_none, tiny_none⟩
  · cases h3 : memS (nms b.bs) nm
    · rw [(less_none hok h3).2]; exact ⟨hz, ht⟩
    · cases h2 : pB (PartOk needs (needsAt b nm))
      · rw [(less_two hok h3 h2).2]; exact ⟨hz, ht⟩
      · rw [(less_yes hok h3 h2).2]
        exact chg_dk hz ht fun x hx => ⟨⟨fun s hs => (hz.2 x hx).1 s (List.mem_filter.1 hs).1, hn⟩, Nat.le_trans (List.length_filter_le _ _) (ht.2.2 x hx).1, by have := part_short (pB_iff.1 h2); have := needsAt_len (nm := nm) hok; show needs.length ≤ 40; omega⟩
theorem ask_dk {b b' : Bk} {nm : ByteArray} {things : List ByteArray} {cd : Int} (h : AskIs b nm things cd b') (hz : Szb b) (ht : Tiny b) (hn : ∀ s ∈ things, s.size ≤ maxLen) : Szb b' ∧ Tiny b' := by
  have hlast : bookB b = true → pB (PartOk things (needsAt b nm)) = true → Szb (chg b (plN b nm) (askF things)) ∧ Tiny (chg b (plN b nm) (askF things)) := fun hok hp => by
    obtain ⟨s1, s2, s3⟩ := ok_small (book_ok hok)
    have hl1 := part_short (pB_iff.1 hp)
    have hl2 := needsAt_len (nm := nm) hok
    exact chg_dk hz ht fun x hx => ⟨⟨fun s hs => by
      rcases insAll_mem _ _ s hs with h | h
      · exact (hz.2 x hx).1 s h
      · exact hn s h, (hz.2 x hx).2⟩, Nat.le_trans (insAll_len x.has things) (by have := s3 x hx; omega), (ht.2.2 x hx).2⟩
  rcases h with ⟨_, _, rfl⟩ | ⟨_, _, _, rfl⟩ | ⟨_, _, _, _, rfl⟩ | ⟨_, _, _, _, _, rfl⟩ | ⟨_, _, _, _, _, _, _, rfl⟩ | ⟨hok, _, hp, _, _, _, rfl⟩
  · exact ⟨szb_none, tiny_none⟩
  · exact ⟨hz, ht⟩
  · exact ⟨hz, ht⟩
  · exact ⟨hz, ht⟩
  · exact ⟨hz, ht⟩
  · exact hlast hok hp


set_option maxRecDepth 20000 in
set_option maxHeartbeats 4000000 in
theorem step15_any (b : Bk) (v : Value) (kd : Int) (nm : ByteArray) (al : Option Addr) (cl : Nat) (list : List ByteArray) (B : Nat) (w : World) (h : Dk w B v b) (hl : Ls w (.slice al list.length cl) list) (hnm : nm.size ≤ maxLen) (hll : list.length ≤ 1000) :
    Calls Tryz.prog 57 #[v, .agg #[.int .i64 kd, .string nm, .slice al list.length cl]] w
      fun e w' => (∃ (u : Value) (b' : Bk), e = .returned u ∧ Dk w' w.heap.size u b') ∧ Below w.heap.size w w' := by
  have hbk := h.bk
  obtain ⟨-, hz, ht⟩ := h
  obtain ⟨-, hlz, -⟩ := hl.inv
  obtain ⟨a1, c1, a2, c2, rfl, -, -⟩ := hbk.parts
  go_enter Tryz.func57, Tryz.ntmps57
  go_upto_region 1 with fail
  obtain ⟨W1, hW1, kA, kD, kR, hB1, hs1⟩ : ∃ W1, ((w.alloc (.cells #[.slice a1 b.things.length c1, .slice a2 b.bs.length c2] 26)).alloc (.cells #[.int .i64 kd, .string nm, .slice al list.length cl] 61)).alloc (.cells #[.slice none 0 0, .slice none 0 0] 26) = W1 ∧ CB W1 w.heap.size [.slice a1 b.things.length c1, .slice a2 b.bs.length c2] ∧ CB W1 (w.heap.size + 1) [.int .i64 kd, .string nm, .slice al list.length cl] ∧ CB W1 (w.heap.size + 2) [.slice none 0 0, .slice none 0 0] ∧ Below w.heap.size w W1 ∧ W1.heap.size = w.heap.size + 3 := ⟨_, rfl, cb3 w _ _ _ _ _ _⟩
  rw [hW1]
  clear hW1
  have hk := hbk.up hB1
  have hl := hl.up hB1
  clear hbk
  obtain ⟨e0, e1⟩ := kA.c2'
  obtain ⟨⟨d0, d1, d2⟩, -⟩ := kD.c3
  by_cases h1 : kd = 1
  · subst h1
    go_wp2_with fail
    refine (specEnter_any b _ _ nm list _ hk hl hnm (by omega)).mono ?_
    rintro e w2 ⟨⟨v', rfl, hV⟩, hb2⟩
    have Hdk : Hid (Szb (enterB b nm list) ∧ Tiny (enterB b nm list)) := enter_dk hz ht hlz
    generalize enterB b nm list = b' at *
    obtain ⟨a5, c5, a6, c6, qs, rfl, -⟩ := hV.parts; have kA := kA.up hb2 (by omega); have kR := kR.up hb2 (by omega); have hz2 := hb2.size; have hB := up_trans hB1 hb2; clear e0 e1 d0 d1 d2 hb2 kD; obtain ⟨⟨y0, y1⟩, f0, f1⟩ := kA.c2; go_upto_region 9 with fail
    have kA3 := kA.copy2 (.slice a5 (b').things.length c5) (.slice a6 (b').bs.length c6); have kR3 := (kR.other (q := w.heap.size) (j := 0) (u := .slice a5 (b').things.length c5) (by omega)).other (q := w.heap.size) (j := 1) (u := .slice a6 (b').bs.length c6) (by omega); have hV3 := (hV.set (r := w.heap.size) (j := 0) (u := .slice a5 (b').things.length c5) (by omega)).set (r := w.heap.size) (j := 1) (u := .slice a6 (b').bs.length c6) (by omega); have hB3 := below_set2 hB (Nat.le_refl _) (.slice a5 (b').things.length c5) (.slice a6 (b').bs.length c6); clear kA kR hV hB y0 y1 f0 f1
    generalize (w2.setCell ⟨w.heap.size, 0, none⟩ (.slice a5 b'.things.length c5)).setCell ⟨w.heap.size, 1, none⟩ (.slice a6 b'.bs.length c6) = W3 at *
    obtain ⟨⟨y0, y1⟩, -⟩ := kA3.c2; obtain ⟨⟨z0, z1⟩, g0, g1⟩ := kR3.c2; go_wp2_with fail; refine end_cb2 Tryz.results57 Tryz.underlying26 rfl sizeBk1 kR3 rfl ?_
    exact ⟨⟨_, b', rfl, BkW.low (BkW.set (BkW.set hV3 (by omega)) (by omega)) (by omega), Hdk.out⟩, below_set2 hB3 (by omega) _ _⟩
  have h1' : (kd == 1) = false := by simpa using h1
  by_cases h2 : kd = 2
  · subst h2
    go_wp2_with fail
    refine (specAsk_any b _ _ nm list _ hk hl (by omega)).mono ?_
    rintro e w2 ⟨⟨v', cd, b', rfl, hask, hV⟩, hb2⟩
    have Hdk : Hid (Szb b' ∧ Tiny b') := ask_dk hask hz ht hlz
    clear hask
    obtain ⟨a5, c5, a6, c6, qs, rfl, -⟩ := hV.parts; have kA := kA.up hb2 (by omega); have kR := kR.up hb2 (by omega); have hz2 := hb2.size; have hB := up_trans hB1 hb2; clear e0 e1 d0 d1 d2 hb2 kD; obtain ⟨⟨y0, y1⟩, f0, f1⟩ := kA.c2; go_upto_region 9 with fail
    have kA3 := kA.copy2 (.slice a5 (b').things.length c5) (.slice a6 (b').bs.length c6); have kR3 := (kR.other (q := w.heap.size) (j := 0) (u := .slice a5 (b').things.length c5) (by omega)).other (q := w.heap.size) (j := 1) (u := .slice a6 (b').bs.length c6) (by omega); have hV3 := (hV.set (r := w.heap.size) (j := 0) (u := .slice a5 (b').things.length c5) (by omega)).set (r := w.heap.size) (j := 1) (u := .slice a6 (b').bs.length c6) (by omega); have hB3 := below_set2 hB (Nat.le_refl _) (.slice a5 (b').things.length c5) (.slice a6 (b').bs.length c6); clear kA kR hV hB y0 y1 f0 f1
    generalize (w2.setCell ⟨w.heap.size, 0, none⟩ (.slice a5 b'.things.length c5)).setCell ⟨w.heap.size, 1, none⟩ (.slice a6 b'.bs.length c6) = W3 at *
    obtain ⟨⟨y0, y1⟩, -⟩ := kA3.c2; obtain ⟨⟨z0, z1⟩, g0, g1⟩ := kR3.c2; go_wp2_with fail; refine end_cb2 Tryz.results57 Tryz.underlying26 rfl sizeBk1 kR3 rfl ?_
    exact ⟨⟨_, b', rfl, BkW.low (BkW.set (BkW.set hV3 (by omega)) (by omega)) (by omega), Hdk.out⟩, below_set2 hB3 (by omega) _ _⟩
  have h2' : (kd == 2) = false := by simpa using h2
  by_cases h3 : kd = 3
  · subst h3
    go_wp2_with fail
    refine (specLess_any b _ _ nm list _ hk hl (by omega)).mono ?_
    rintro e w2 ⟨⟨v', rfl, hV⟩, hb2⟩
    have Hdk : Hid (Szb (lsnB b nm list) ∧ Tiny (lsnB b nm list)) := less_dk hz ht hlz
    generalize lsnB b nm list = b' at *
    obtain ⟨a5, c5, a6, c6, qs, rfl, -⟩ := hV.parts; have kA := kA.up hb2 (by omega); have kR := kR.up hb2 (by omega); have hz2 := hb2.size; have hB := up_trans hB1 hb2; clear e0 e1 d0 d1 d2 hb2 kD; obtain ⟨⟨y0, y1⟩, f0, f1⟩ := kA.c2; go_upto_region 9 with fail
    have kA3 := kA.copy2 (.slice a5 (b').things.length c5) (.slice a6 (b').bs.length c6); have kR3 := (kR.other (q := w.heap.size) (j := 0) (u := .slice a5 (b').things.length c5) (by omega)).other (q := w.heap.size) (j := 1) (u := .slice a6 (b').bs.length c6) (by omega); have hV3 := (hV.set (r := w.heap.size) (j := 0) (u := .slice a5 (b').things.length c5) (by omega)).set (r := w.heap.size) (j := 1) (u := .slice a6 (b').bs.length c6) (by omega); have hB3 := below_set2 hB (Nat.le_refl _) (.slice a5 (b').things.length c5) (.slice a6 (b').bs.length c6); clear kA kR hV hB y0 y1 f0 f1
    generalize (w2.setCell ⟨w.heap.size, 0, none⟩ (.slice a5 b'.things.length c5)).setCell ⟨w.heap.size, 1, none⟩ (.slice a6 b'.bs.length c6) = W3 at *
    obtain ⟨⟨y0, y1⟩, -⟩ := kA3.c2; obtain ⟨⟨z0, z1⟩, g0, g1⟩ := kR3.c2; go_wp2_with fail; refine end_cb2 Tryz.results57 Tryz.underlying26 rfl sizeBk1 kR3 rfl ?_
    exact ⟨⟨_, b', rfl, BkW.low (BkW.set (BkW.set hV3 (by omega)) (by omega)) (by omega), Hdk.out⟩, below_set2 hB3 (by omega) _ _⟩
  have h3' : (kd == 3) = false := by simpa using h3
  go_wp2_with fail
  refine (specLeave_any b _ nm _ hk).mono ?_
  rintro e w2 ⟨⟨v', rfl, hV⟩, hb2⟩
  have Hdk : Hid (Szb (leaveB b nm) ∧ Tiny (leaveB b nm)) := leave_dk hz ht
  generalize leaveB b nm = b' at *
  obtain ⟨a5, c5, a6, c6, qs, rfl, -⟩ := hV.parts; have kA := kA.up hb2 (by omega); have kR := kR.up hb2 (by omega); have hz2 := hb2.size; have hB := up_trans hB1 hb2; clear e0 e1 d0 d1 d2 hb2 kD; obtain ⟨⟨y0, y1⟩, f0, f1⟩ := kA.c2; go_upto_region 9 with fail
  have kA3 := kA.copy2 (.slice a5 (b').things.length c5) (.slice a6 (b').bs.length c6); have kR3 := (kR.other (q := w.heap.size) (j := 0) (u := .slice a5 (b').things.length c5) (by omega)).other (q := w.heap.size) (j := 1) (u := .slice a6 (b').bs.length c6) (by omega); have hV3 := (hV.set (r := w.heap.size) (j := 0) (u := .slice a5 (b').things.length c5) (by omega)).set (r := w.heap.size) (j := 1) (u := .slice a6 (b').bs.length c6) (by omega); have hB3 := below_set2 hB (Nat.le_refl _) (.slice a5 (b').things.length c5) (.slice a6 (b').bs.length c6); clear kA kR hV hB y0 y1 f0 f1
  generalize (w2.setCell ⟨w.heap.size, 0, none⟩ (.slice a5 b'.things.length c5)).setCell ⟨w.heap.size, 1, none⟩ (.slice a6 b'.bs.length c6) = W3 at *
  obtain ⟨⟨y0, y1⟩, -⟩ := kA3.c2; obtain ⟨⟨z0, z1⟩, g0, g1⟩ := kR3.c2; go_wp2_with fail; refine end_cb2 Tryz.results57 Tryz.underlying26 rfl sizeBk1 kR3 rfl ?_
  exact ⟨⟨_, b', rfl, BkW.low (BkW.set (BkW.set hV3 (by omega)) (by omega)) (by omega), Hdk.out⟩, below_set2 hB3 (by omega) _ _⟩
end Go.Proofs.YtkgbdjdgcacblaaGreatDoor
