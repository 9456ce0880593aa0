/- The program joins lists of names, sorts them and leaves each once. -/
import Derived.Test.YtkapodkidlgkjafGreatDoorShelf
import Derived.Test.YtkapodkidlgkjafGreatDoorSq1
import Derived.Test.YtkapodkidlgkjafGreatDoorJ14
import Derived.Laws.AppendOwnNone
namespace Go.Proofs.YtkapodkidlgkjafGreatDoor
open Go.RowKit Go.Shelf

theorem grow_any (n : Nat) (w : World) (h1 : 1 ≤ n) (h2 : n ≤ 1000) :
    Calls Tryz.prog 229 #[.slice none 0 0, .int .i64 (n : Int)] w
      fun e w' => (∃ cap, e = .returned (.slice (some ⟨w.heap.size, 0, none⟩) 0 cap) ∧ w'.ownsRow w.heap.size 9 1 (.slice (some ⟨w.heap.size, 0, none⟩) 0 cap) 0 []) ∧ Below w.heap.size w w' := by
  obtain ⟨ii, hi, iz0, iz1, iz2⟩ := info_parts infoStr
  have h := Any8.slices_Grow_grow Tryz.growS ii (.string ⟨#[]⟩) hi iz0 (by omega) none 0 0 n [] w (Nat.le_refl _) (by omega) (by rw [iz2]; omega) (by omega) (by simp) (fun _ => rfl) (fun a ha => by cases ha)
  refine Calls.mono h ?_
  rintro e w' ⟨rfl, rfl⟩
  have hge := grownCap_ge w (0 + n) 0 9
  have hle := grownCap_le_maxLen w (0 + n) 0 9 (by unfold maxLen; omega)
  refine ⟨⟨_, rfl, rfl, .inr ⟨_, _, _, rfl, Nat.le_refl _, heap_alloc_new _ _, Nat.zero_le _, hle, ?_, by simp⟩⟩, (Below.refl _ _).drew.alloc (by simp) _⟩
  have hz : (Value.string ⟨#[]⟩).cells.size = 1 := rfl
  rw [Array.size_append, Array.size_append, size_zeroCells, size_zeroCells, hz]
  simp only [List.size_toArray, List.length_nil]
  show 0 + (0 + n - 0) * 1 + (grownCap w (0 + n) 0 9 - (0 + n)) * 1 = grownCap w (0 + n) 0 9 * 1
  omega

set_option maxRecDepth 20000 in
set_option maxHeartbeats 4000000 in
theorem concat_any (s1 s2 s3 : List ByteArray) (v1 v2 v3 : Value) (sb : Nat) (w : World) (h1 : Txt w v1 s1) (h2 : Lst w v2 s2) (h3 : Lst w v3 s3) (hsb : sb < w.heap.size)
    (e0 : w.cell? ⟨sb, 0, none⟩ = some v1) (e1 : w.cell? ⟨sb, 1, none⟩ = some v2) (e2 : w.cell? ⟨sb, 2, none⟩ = some v3) (hpos : 0 < s1.length) (hn : s1.length + s2.length + s3.length ≤ 900) :
    Calls Tryz.prog 212 #[.slice (some ⟨sb, 0, none⟩) 3 3] w
      fun e w' => (∃ u, e = .returned u ∧ w'.ownsRow w.heap.size 9 1 u (s1 ++ s2 ++ s3).length ((s1 ++ s2 ++ s3).map Value.string)) ∧ Below w.heap.size w w' := by
  obtain ⟨ii, hi, iz0, iz1, iz2⟩ := info_parts infoStr
  obtain ⟨a1, c1, rfl⟩ := Lst.shape (.inr h1)
  obtain ⟨a2, c2, rfl⟩ := h2.shape
  obtain ⟨a3, c3, rfl⟩ := h3.shape
  go_enter Tryz.func212, Tryz.ntmps212
  go_wp2_with fail
  go_loop [3, 11] (fun z i => ∃ k t : Nat, i = .int .i64 (k : Int) ∧ z = .int .i64 (t : Int) ∧ ((k = 0 ∧ t = 0) ∨ (k = 1 ∧ t = s1.length) ∨ (k = 2 ∧ t = s1.length + s2.length) ∨ (k = 3 ∧ t = s1.length + s2.length + s3.length))) (fun _ i => 3 - (intOf i).toNat)
  case atStart => exact ⟨0, 0, rfl, rfl, .inl ⟨rfl, rfl⟩⟩
  case round =>
    obtain ⟨k, t, rfl, rfl, hkt⟩ := hrel
    rcases hkt with ⟨rfl, rfl⟩ | ⟨rfl, rfl⟩ | ⟨rfl, rfl⟩ | ⟨rfl, rfl⟩
    · go_wp2_with fail
      go_round
      case rel => exact ⟨1, s1.length, rfl, by go_num, .inr (.inl ⟨rfl, rfl⟩)⟩
      case measure => simp [intOf]
    · go_wp2_with fail
      go_round
      case rel => exact ⟨2, s1.length + s2.length, rfl, by go_num, .inr (.inr (.inl ⟨rfl, rfl⟩))⟩
      case measure => simp [intOf]
    · go_wp2_with fail
      go_round
      case rel => exact ⟨3, s1.length + s2.length + s3.length, rfl, by go_num, .inr (.inr (.inr ⟨rfl, rfl⟩))⟩
      case measure => simp [intOf]
    · go_wp2_with fail
      have hN : (s1.length : Int) + (s2.length : Int) + (s3.length : Int) = ((s1.length + s2.length + s3.length : Nat) : Int) := by omega
      rw [hN]
      refine (grow_any (s1.length + s2.length + s3.length) w (by omega) (by omega)).mono ?_
      rintro e w1 ⟨⟨cp, rfl, hown⟩, hB1⟩
      clear hN
      go_wp2_with fail
      go_loopw [6, 27] (fun u i w' => ∃ (k : Nat) (xs : List ByteArray), i = .int .i64 (k : Int) ∧ ((k = 0 ∧ xs = []) ∨ (k = 1 ∧ xs = s1) ∨ (k = 2 ∧ xs = s1 ++ s2) ∨ (k = 3 ∧ xs = s1 ++ s2 ++ s3)) ∧ w'.ownsRow w.heap.size 9 1 u xs.length (xs.map Value.string) ∧ Below w.heap.size w w') (fun _ i _ => 3 - (intOf i).toNat)
      case atStart => exact ⟨0, [], rfl, .inl ⟨rfl, rfl⟩, hown, hB1⟩
      case round =>
        clear hown hB1
        obtain ⟨k, xs, rfl, hkx, hown, hB⟩ := hrel
        rcases hkx with ⟨rfl, hx⟩ | ⟨rfl, hx⟩ | ⟨rfl, hx⟩ | ⟨rfl, hx⟩ <;> rw [hx] at hown <;> clear hx
        · have hcell := (hB.cell (p := ⟨sb, 0, none⟩) hsb).trans e0
          rcases (show Lst w _ s1 from .inr h1) with ⟨hv, hs⟩ | ⟨g, cc, hv, hS, hg, _, _⟩
          · rw [hv] at hcell
            have Hs : Hid (s1 = []) := hs
            clear hs hv
            go_wp2_with (at_builtin; refine wpList_append_own_none rfl _ _ 27 rfl w.heap.size 9 ii 1 Tryz.underlying27 hi u6 _ _ rfl hown rfl ?_)
            go_roundw
            case rel => exact ⟨1, s1, rfl, .inr (.inl ⟨rfl, rfl⟩), by rw [Hs.out]; exact hown, hB⟩
            case measure => simp [intOf]
          · cases hv
            have hS2 : StrsAt wr g 0 s1 := fun i s hs => (hB.cell (p := ⟨g, 0 + i, none⟩) hg).trans (hS i s hs)
            go_wp2_with (at_builtin; refine wpList_append_own _ rfl _ _ 27 rfl w.heap.size 9 ii _ 1 16 Tryz.underlying27 hi iz0 iz1 iz2 rfl (by decide) u6 _ _ rfl hown ⟨g, 0, none⟩ s1.length _ (s1.map Value.string) rfl (by simp) (news_of hS2) (oneS _) (by unfold maxLen; first | omega | (simp; omega)) (by first | omega | (simp; omega)) hB.size ?_)
            intro v' w2 hown2 hgrow2 _
            have hB2 := below_own hB hown hgrow2 (Nat.le_refl _)
            clear hown hgrow2 hB hcell hS2
            go_wp2_with fail
            go_roundw
            case rel => exact ⟨1, s1, rfl, .inr (.inl ⟨rfl, rfl⟩), by simpa using hown2, hB2⟩
            case measure => simp [intOf]
        · have hcell := (hB.cell (p := ⟨sb, 1, none⟩) hsb).trans e1
          rcases h2 with ⟨hv, hs⟩ | ⟨g, cc, hv, hS, hg, _, _⟩
          · rw [hv] at hcell
            have Hs : Hid (s2 = []) := hs
            clear hs hv
            go_wp2_with (at_builtin; refine wpList_append_own_none rfl _ _ 27 rfl w.heap.size 9 ii 1 Tryz.underlying27 hi u6 _ _ rfl hown rfl ?_)
            go_roundw
            case rel => exact ⟨2, s1 ++ s2, rfl, .inr (.inr (.inl ⟨rfl, rfl⟩)), by rw [Hs.out, List.append_nil]; exact hown, hB⟩
            case measure => simp [intOf]
          · cases hv
            have hS2 : StrsAt wr g 0 s2 := fun i s hs => (hB.cell (p := ⟨g, 0 + i, none⟩) hg).trans (hS i s hs)
            go_wp2_with (at_builtin; refine wpList_append_own _ rfl _ _ 27 rfl w.heap.size 9 ii _ 1 16 Tryz.underlying27 hi iz0 iz1 iz2 rfl (by decide) u6 _ _ rfl hown ⟨g, 0, none⟩ s2.length _ (s2.map Value.string) rfl (by simp) (news_of hS2) (oneS _) (by unfold maxLen; first | omega | (simp; omega)) (by first | omega | (simp; omega)) hB.size ?_)
            intro v' w2 hown2 hgrow2 _
            have hB2 := below_own hB hown hgrow2 (Nat.le_refl _)
            clear hown hgrow2 hB hcell hS2
            go_wp2_with fail
            go_roundw
            case rel => exact ⟨2, s1 ++ s2, rfl, .inr (.inr (.inl ⟨rfl, rfl⟩)), by simpa using hown2, hB2⟩
            case measure => simp [intOf]
        · have hcell := (hB.cell (p := ⟨sb, 2, none⟩) hsb).trans e2
          rcases h3 with ⟨hv, hs⟩ | ⟨g, cc, hv, hS, hg, _, _⟩
          · rw [hv] at hcell
            have Hs : Hid (s3 = []) := hs
            clear hs hv
            go_wp2_with (at_builtin; refine wpList_append_own_none rfl _ _ 27 rfl w.heap.size 9 ii 1 Tryz.underlying27 hi u6 _ _ rfl hown rfl ?_)
            go_roundw
            case rel => exact ⟨3, s1 ++ s2 ++ s3, rfl, .inr (.inr (.inr ⟨rfl, rfl⟩)), by rw [Hs.out, List.append_nil]; exact hown, hB⟩
            case measure => simp [intOf]
          · cases hv
            have hS2 : StrsAt wr g 0 s3 := fun i s hs => (hB.cell (p := ⟨g, 0 + i, none⟩) hg).trans (hS i s hs)
            go_wp2_with (at_builtin; refine wpList_append_own _ rfl _ _ 27 rfl w.heap.size 9 ii _ 1 16 Tryz.underlying27 hi iz0 iz1 iz2 rfl (by decide) u6 _ _ rfl hown ⟨g, 0, none⟩ s3.length _ (s3.map Value.string) rfl (by simp) (news_of hS2) (oneS _) (by unfold maxLen; first | omega | (simp; omega)) (by first | omega | (simp; omega)) hB.size ?_)
            intro v' w2 hown2 hgrow2 _
            have hB2 := below_own hB hown hgrow2 (Nat.le_refl _)
            clear hown hgrow2 hB hcell hS2
            go_wp2_with fail
            go_roundw
            case rel => exact ⟨3, s1 ++ s2 ++ s3, rfl, .inr (.inr (.inr ⟨rfl, rfl⟩)), by simpa [Nat.add_assoc] using hown2, hB2⟩
            case measure => simp [intOf]
        · go_wp2_with fail
          go_ret
          exact ⟨⟨_, rfl, hown⟩, hB⟩
end Go.Proofs.YtkapodkidlgkjafGreatDoor
