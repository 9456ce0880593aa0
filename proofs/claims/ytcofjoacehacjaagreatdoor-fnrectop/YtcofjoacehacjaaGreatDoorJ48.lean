/- The program joins lists of names, sorts them and leaves each once. -/
import Derived.Test.YtcofjoacehacjaaGreatDoorShelf
import Derived.Test.YtcofjoacehacjaaGreatDoorSq1
import Derived.Test.YtcofjoacehacjaaGreatDoorJ26
import Derived.Laws.AppendOwnNone
import Derived.Sort.OwnSorted
import Derived.Sort.Grow
import Derived.Lib.OwnBridge
namespace Go.Proofs.YtcofjoacehacjaaGreatDoor
open Go.RowKit Go.Shelf

theorem grow_any (n : Nat) (w : World) (h1 : 1 ≤ n) (h2 : n ≤ 1000) :
    Calls Tryz.prog 69 #[.slice none 0 0, .int .i64 (n : Int)] w
      fun e w' => (∃ cap, e = .returned (.slice (some ⟨w.heap.size, 0, none⟩) 0 cap) ∧ w'.ownsRow w.heap.size 9 1 (.slice (some ⟨w.heap.size, 0, none⟩) 0 cap) 0 []) ∧ Below w.heap.size w w' := by
  obtain ⟨ii, hi, iz0, iz1, iz2⟩ := info_parts infoStr
  have h := Any8.slices_Grow_grow Tryz.growS ii (.string ⟨#[]⟩) hi iz0 (by omega) none 0 0 n [] w (Nat.le_refl _) (by omega) (by rw [iz2]; omega) (by omega) (by simp) (fun _ => rfl) (fun a ha => by cases ha)
  refine Calls.mono h ?_
  rintro e w' ⟨rfl, rfl⟩
  have hge := grownCap_ge w (0 + n) 0 9
  have hle := grownCap_le_maxLen w (0 + n) 0 9 (by unfold maxLen; omega)
  refine ⟨⟨_, rfl, rfl, .inr ⟨_, _, _, rfl, Nat.le_refl _, heap_alloc_new _ _, Nat.zero_le _, hle, ?_, by simp⟩⟩, (Below.refl _ _).drew.alloc (by simp) _⟩
  have hz : (Value.string ⟨#[]⟩).cells.size = 1 := rfl
  rw [Array.size_append, Array.size_append, size_zeroCells, size_zeroCells, hz]
  simp only [List.size_toArray, List.length_nil]
  show 0 + (0 + n - 0) * 1 + (grownCap w (0 + n) 0 9 - (0 + n)) * 1 = grownCap w (0 + n) 0 9 * 1
  omega

set_option maxRecDepth 20000 in
set_option maxHeartbeats 4000000 in
theorem concat_any (s1 s2 s3 : List ByteArray) (v1 v2 v3 : Value) (sb : Nat) (w : World) (h1 : Txt w v1 s1) (h2 : Lst w v2 s2) (h3 : Lst w v3 s3) (hsb : sb < w.heap.size)
    (e0 : w.cell? ⟨sb, 0, none⟩ = some v1) (e1 : w.cell? ⟨sb, 1, none⟩ = some v2) (e2 : w.cell? ⟨sb, 2, none⟩ = some v3) (hpos : 0 < s1.length) (hn : s1.length + s2.length + s3.length ≤ 900) :
    Calls Tryz.prog 57 #[.slice (some ⟨sb, 0, none⟩) 3 3] w
      fun e w' => (∃ u, e = .returned u ∧ w'.ownsRow w.heap.size 9 1 u (s1 ++ s2 ++ s3).length ((s1 ++ s2 ++ s3).map Value.string)) ∧ Below w.heap.size w w' := by
  obtain ⟨ii, hi, iz0, iz1, iz2⟩ := info_parts infoStr
  obtain ⟨a1, c1, rfl⟩ := Lst.shape (.inr h1)
  obtain ⟨a2, c2, rfl⟩ := h2.shape
  obtain ⟨a3, c3, rfl⟩ := h3.shape
  go_enter Tryz.func57, Tryz.ntmps57
  go_wp2_with fail
  go_loop [3, 11] (fun z i => ∃ k t : Nat, i = .int .i64 (k : Int) ∧ z = .int .i64 (t : Int) ∧ ((k = 0 ∧ t = 0) ∨ (k = 1 ∧ t = s1.length) ∨ (k = 2 ∧ t = s1.length + s2.length) ∨ (k = 3 ∧ t = s1.length + s2.length + s3.length))) (fun _ i => 3 - (intOf i).toNat)
  case atStart => exact ⟨0, 0, rfl, rfl, .inl ⟨rfl, rfl⟩⟩
  case round =>
    obtain ⟨k, t, rfl, rfl, hkt⟩ := hrel
    rcases hkt with ⟨rfl, rfl⟩ | ⟨rfl, rfl⟩ | ⟨rfl, rfl⟩ | ⟨rfl, rfl⟩
    · go_wp2_with fail
      go_round
      case rel => exact ⟨1, s1.length, rfl, by go_num, .inr (.inl ⟨rfl, rfl⟩)⟩
      case measure => simp [intOf]
    · go_wp2_with fail
      go_round
      case rel => exact ⟨2, s1.length + s2.length, rfl, by go_num, .inr (.inr (.inl ⟨rfl, rfl⟩))⟩
      case measure => simp [intOf]
    · go_wp2_with fail
      go_round
      case rel => exact ⟨3, s1.length + s2.length + s3.length, rfl, by go_num, .inr (.inr (.inr ⟨rfl, rfl⟩))⟩
      case measure => simp [intOf]
    · go_wp2_with fail
      have hN : (s1.length : Int) + (s2.length : Int) + (s3.length : Int) = ((s1.length + s2.length + s3.length : Nat) : Int) := by omega
      rw [hN]
      refine (grow_any (s1.length + s2.length + s3.length) w (by omega) (by omega)).mono ?_
      rintro e w1 ⟨⟨cp, rfl, hown⟩, hB1⟩
      clear hN
      go_wp2_with fail
      go_loopw [6, 27] (fun u i w' => ∃ (k : Nat) (xs : List ByteArray), i = .int .i64 (k : Int) ∧ ((k = 0 ∧ xs = []) ∨ (k = 1 ∧ xs = s1) ∨ (k = 2 ∧ xs = s1 ++ s2) ∨ (k = 3 ∧ xs = s1 ++ s2 ++ s3)) ∧ w'.ownsRow w.heap.size 9 1 u xs.length (xs.map Value.string) ∧ Below w.heap.size w w') (fun _ i _ => 3 - (intOf i).toNat)
      case atStart => exact ⟨0, [], rfl, .inl ⟨rfl, rfl⟩, hown, hB1⟩
      case round =>
        clear hown hB1
        obtain ⟨k, xs, rfl, hkx, hown, hB⟩ := hrel
        rcases hkx with ⟨rfl, hx⟩ | ⟨rfl, hx⟩ | ⟨rfl, hx⟩ | ⟨rfl, hx⟩ <;> rw [hx] at hown <;> clear hx
        · have hcell := (hB.cell (p := ⟨sb, 0, none⟩) hsb).trans e0
          rcases (show Lst w _ s1 from .inr h1) with ⟨hv, hs⟩ | ⟨g, cc, hv, hS, hg, _, _⟩
          · rw [hv] at hcell
            have Hs : Hid (s1 = []) := hs
            clear hs hv
            go_wp2_with (at_builtin; refine wpList_append_own_none rfl _ _ 29 rfl w.heap.size 9 ii 1 Tryz.underlying29 hi u6 _ _ rfl hown rfl ?_)
            go_roundw
            case rel => exact ⟨1, s1, rfl, .inr (.inl ⟨rfl, rfl⟩), by rw [Hs.out]; exact hown, hB⟩
            case measure => simp [intOf]
          · cases hv
            have hS2 : StrsAt wr g 0 s1 := fun i s hs => (hB.cell (p := ⟨g, 0 + i, none⟩) hg).trans (hS i s hs)
            go_wp2_with (at_builtin; refine wpList_append_own _ rfl _ _ 29 rfl w.heap.size 9 ii _ 1 16 Tryz.underlying29 hi iz0 iz1 iz2 rfl (by decide) u6 _ _ rfl hown ⟨g, 0, none⟩ s1.length _ (s1.map Value.string) rfl (by simp) (news_of hS2) (oneS _) (by unfold maxLen; first | omega | (simp; omega)) (by first | omega | (simp; omega)) hB.size ?_)
            intro v' w2 hown2 hgrow2 _
            have hB2 := below_own hB hown hgrow2 (Nat.le_refl _)
            clear hown hgrow2 hB hcell hS2
            go_wp2_with fail
            go_roundw
            case rel => exact ⟨1, s1, rfl, .inr (.inl ⟨rfl, rfl⟩), by simpa using hown2, hB2⟩
            case measure => simp [intOf]
        · have hcell := (hB.cell (p := ⟨sb, 1, none⟩) hsb).trans e1
          rcases h2 with ⟨hv, hs⟩ | ⟨g, cc, hv, hS, hg, _, _⟩
          · rw [hv] at hcell
            have Hs : Hid (s2 = []) := hs
            clear hs hv
            go_wp2_with (at_builtin; refine wpList_append_own_none rfl _ _ 29 rfl w.heap.size 9 ii 1 Tryz.underlying29 hi u6 _ _ rfl hown rfl ?_)
            go_roundw
            case rel => exact ⟨2, s1 ++ s2, rfl, .inr (.inr (.inl ⟨rfl, rfl⟩)), by rw [Hs.out, List.append_nil]; exact hown, hB⟩
            case measure => simp [intOf]
          · cases hv
            have hS2 : StrsAt wr g 0 s2 := fun i s hs => (hB.cell (p := ⟨g, 0 + i, none⟩) hg).trans (hS i s hs)
            go_wp2_with (at_builtin; refine wpList_append_own _ rfl _ _ 29 rfl w.heap.size 9 ii _ 1 16 Tryz.underlying29 hi iz0 iz1 iz2 rfl (by decide) u6 _ _ rfl hown ⟨g, 0, none⟩ s2.length _ (s2.map Value.string) rfl (by simp) (news_of hS2) (oneS _) (by unfold maxLen; first | omega | (simp; omega)) (by first | omega | (simp; omega)) hB.size ?_)
            intro v' w2 hown2 hgrow2 _
            have hB2 := below_own hB hown hgrow2 (Nat.le_refl _)
            clear hown hgrow2 hB hcell hS2
            go_wp2_with fail
            go_roundw
            case rel => exact ⟨2, s1 ++ s2, rfl, .inr (.inr (.inl ⟨rfl, rfl⟩)), by simpa using hown2, hB2⟩
            case measure => simp [intOf]
        · have hcell := (hB.cell (p := ⟨sb, 2, none⟩) hsb).trans e2
          rcases h3 with ⟨hv, hs⟩ | ⟨g, cc, hv, hS, hg, _, _⟩
          · rw [hv] at hcell
            have Hs : Hid (s3 = []) := hs
            clear hs hv
            go_wp2_with (at_builtin; refine wpList_append_own_none rfl _ _ 29 rfl w.heap.size 9 ii 1 Tryz.underlying29 hi u6 _ _ rfl hown rfl ?_)
            go_roundw
            case rel => exact ⟨3, s1 ++ s2 ++ s3, rfl, .inr (.inr (.inr ⟨rfl, rfl⟩)), by rw [Hs.out, List.append_nil]; exact hown, hB⟩
            case measure => simp [intOf]
          · cases hv
            have hS2 : StrsAt wr g 0 s3 := fun i s hs => (hB.cell (p := ⟨g, 0 + i, none⟩) hg).trans (hS i s hs)
            go_wp2_with (at_builtin; refine wpList_append_own _ rfl _ _ 29 rfl w.heap.size 9 ii _ 1 16 Tryz.underlying29 hi iz0 iz1 iz2 rfl (by decide) u6 _ _ rfl hown ⟨g, 0, none⟩ s3.length _ (s3.map Value.string) rfl (by simp) (news_of hS2) (oneS _) (by unfold maxLen; first | omega | (simp; omega)) (by first | omega | (simp; omega)) hB.size ?_)
            intro v' w2 hown2 hgrow2 _
            have hB2 := below_own hB hown hgrow2 (Nat.le_refl _)
            clear hown hgrow2 hB hcell hS2
            go_wp2_with fail
            go_roundw
            case rel => exact ⟨3, s1 ++ s2 ++ s3, rfl, .inr (.inr (.inr ⟨rfl, rfl⟩)), by simpa [Nat.add_assoc] using hown2, hB2⟩
            case measure => simp [intOf]
        · go_wp2_with fail
          go_ret
          exact ⟨⟨_, rfl, hown⟩, hB⟩
end Go.Proofs.YtcofjoacehacjaaGreatDoor

/- The program's slots of a phase and of what may come behind it. -/
namespace Go.Proofs.YtcofjoacehacjaaGreatDoor
open Go.RowKit Go.Shelf Go.Sort

theorem str_enc (s : ByteArray) : Value.string s = encStr s.toList := by
  unfold encStr
  rw [Go.ByteArray.toList_eq]
theorem strs_enc (ss : List ByteArray) : ss.map Value.string = (keys ss).map encStr := by
  rw [keys, List.map_map]
  exact List.map_congr_left fun s _ => str_enc s
/-- Lists of bytes as names. -/
def namesOf (ks : List Key) : List ByteArray := ks.map fun l => ⟨l.toArray⟩
theorem keys_names (ks : List Key) : keys (namesOf ks) = ks := by
  rw [keys, namesOf, List.map_map]
  have : ((fun s : ByteArray => s.toList) ∘ fun l : Key => (⟨l.toArray⟩ : ByteArray)) = id := by
    funext l; exact toList_lit l
  rw [this, List.map_id]
theorem names_enc (ks : List Key) : ks.map encStr = (namesOf ks).map Value.string := by rw [strs_enc, keys_names]

theorem left_of {w w1 : World} {g cap n nn q : Nat} {os : Array Obj} {ss : List Key} (hown : w1.ownsRow w.heap.size 9 1 (.slice (some ⟨g, 0, none⟩) n cap) n (ss.map encStr)) (hbel : Below w.heap.size w w1) (hbg : w.heap.size ≤ g) (hlen : ss.length = n) :
    (putRow encStr (Sort.ahead (grow (putRow encStr (Sort.ahead w1 nn) g 0 (ss.mergeSort fun x y => decide (x ≤ y)).toArray) os) q) g 0 (Lib.compact (ss.mergeSort fun x y => decide (x ≤ y)) ++ List.replicate (n - (Lib.compact (ss.mergeSort fun x y => decide (x ≤ y))).length) []).toArray).ownsRow w.heap.size 9 1 (.slice (some ⟨g, 0, none⟩) (uniq ss).length cap) (uniq ss).length ((uniq ss).map encStr) ∧
      Below w.heap.size w (putRow encStr (Sort.ahead (grow (putRow encStr (Sort.ahead w1 nn) g 0 (ss.mergeSort fun x y => decide (x ≤ y)).toArray) os) q) g 0 (Lib.compact (ss.mergeSort fun x y => decide (x ≤ y)) ++ List.replicate (n - (Lib.compact (ss.mergeSort fun x y => decide (x ≤ y))).length) []).toArray) := by
  have hl2 : (ss.mergeSort fun x y => decide (x ≤ y)).length = ss.length := List.length_mergeSort ss
  have hle := Lib.compact_length_le (ss.mergeSort fun x y => decide (x ≤ y))
  subst hlen
  rcases hown.2 with ⟨h0, _⟩ | ⟨g', cap', cur, hv, hbase, hb, h1, h2, h3, h4⟩
  · cases h0
  cases hv
  have hs := ownsRow_sorted (n := nn) (os := os) (ts := ss.mergeSort fun x y => decide (x ≤ y)) hl2 hbase hb h1 h2 h3
  have hc := Lib.ownsRow_putRow (q := q) (k := (Lib.compact (ss.mergeSort fun x y => decide (x ≤ y))).length) (ys := Lib.compact (ss.mergeSort fun x y => decide (x ≤ y)) ++ List.replicate (ss.length - (Lib.compact (ss.mergeSort fun x y => decide (x ≤ y))).length) []) hs (by simp; omega) (by omega)
  rw [List.take_left] at hc
  exact ⟨hc, Lib.below_putRow (hbel.grown (grownBy_sorted _) hbel.size (fun j hj => by cases hj; exact hbase)) hbg⟩

set_option maxRecDepth 20000 in
set_option maxHeartbeats 4000000 in
theorem slotsFrom_any (p : Ph) (s2 s3 : List ByteArray) (v2 v3 : Value) (w : World) (hk : 1 ≤ p.k ∧ p.k ≤ 5) (h2 : Lst w v2 s2) (h3 : Lst w v3 s3) (hn : s2.length + s3.length ≤ 800) :
    Calls Tryz.prog 43 #[.agg #[.string p.nm, .int .i64 p.k, .string p.a, .string p.b, .int .i64 p.n, .int .i64 p.wi, .string p.t, .string p.e], v2, v3] w
      fun e w' => (∃ u, e = .returned u ∧ w'.ownsRow w.heap.size 9 1 u (fpK p (keys s2) (keys s3)).length ((namesOf (fpK p (keys s2) (keys s3))).map Value.string)) ∧ Below w.heap.size w w' := by
  have hBx : Below w.heap.size w (w.alloc (.cells #[.string p.nm, .int .i64 p.k, .string p.a, .string p.b, .int .i64 p.n, .int .i64 p.wi, .string p.t, .string p.e] 37)) := (Below.refl _ _).alloc (Nat.le_refl _) _
  obtain ⟨a2, c2, rfl⟩ := h2.shape
  obtain ⟨a3, c3, rfl⟩ := h3.shape
  go_enter Tryz.func43, Tryz.ntmps43
  go_wp2_with fail
  refine (phSlots_any p _ hk).mono ?_
  rintro e w1 ⟨⟨u1, rfl, hT1⟩, hb1⟩
  have hB1 := up_trans hBx hb1
  obtain ⟨a1, c1, rfl⟩ := Lst.shape (.inr hT1)
  have hal : RowKit.Below w1.heap.size w1 (w1.alloc (.cells #[.slice a1 (ownB p).length c1, .slice a2 s2.length c2, .slice a3 s3.length c3] 29)) := (RowKit.Below.refl _ _).alloc (Nat.le_refl _) _
  have hB1a := up_trans hB1 hal
  have hpos : 0 < (ownB p).length := by unfold ownB; split <;> simp
  have hlo : (ownB p).length ≤ 2 := by unfold ownB; split <;> simp
  go_wp2_with fail
  refine (concat_any (ownB p) s2 s3 _ _ _ w1.heap.size _ (hT1.up hal) (h2.up hB1a) (h3.up hB1a) (by simp) (by simp) (by simp) (by simp) hpos (by omega)).mono ?_
  rintro e w2 ⟨⟨u2, rfl, hown2⟩, hb2⟩
  have hB2 := up_trans hB1a hb2
  have hown2 := own_low hown2 hB1a.size
  rw [strs_enc] at hown2
  obtain ⟨n, hN⟩ : ∃ n, n = (ownB p ++ s2 ++ s3).length := ⟨_, rfl⟩
  have hlen : (keys (ownB p ++ s2 ++ s3)).length = n := by rw [hN]; simp [keys]
  rw [← hN] at hown2
  have hnp : 0 < n := by rw [hN]; simp; omega
  have hn9 : n ≤ 900 := by rw [hN]; simp; omega
  have HK : Hid (uniq (keys (ownB p ++ s2 ++ s3)) = fpK p (keys s2) (keys s3)) := by
    show _ = _
    rw [fpK, ← own_keys]; simp [keys]
  generalize keys (ownB p ++ s2 ++ s3) = ks at *
  clear hN hT1 h2 h3 hb1 hb2 hal hB1 hB1a hBx hpos hlo hn
  obtain ⟨g, cap, rfl⟩ := own_ptr2 hown2 hnp
  obtain ⟨g', cap', hv, hbg, hgl, hncap, hcm, _, hH⟩ := Lib.holds_of_ownsRow hown2 (by simp)
  cases hv
  unfold maxLen at hcm
  have hsort := Tryz.slices_Sort_string g 0 cap ks w2 hH hgl (by omega)
  rw [hlen] at hsort
  go_wp2_with fail
  refine hsort.mono ?_
  rintro e w3 ⟨rfl, nn, os, rfl⟩
  clear hsort
  have hl2 : (ks.mergeSort fun x y => decide (x ≤ y)).length = n := by rw [List.length_mergeSort]; exact hlen
  have hH2 : Holds encStr (grow (putRow encStr (Sort.ahead w2 nn) g 0 (ks.mergeSort fun x y => decide (x ≤ y)).toArray) os) g 0 (ks.mergeSort fun x y => decide (x ≤ y)).toArray :=
    holds_grow encStr _ os g 0 _ (by simpa [putRow, mapBlock, Sort.ahead] using hgl) (holds_putRow encStr _ g 0 _ _ (holds_ahead encStr w2 nn g 0 _ hH) (by simp))
  have hcomp := Tryz.slices_Compact_string g 0 cap (ks.mergeSort fun x y => decide (x ≤ y)) _ hH2 (by omega) (by omega)
  rw [hl2] at hcomp
  clear hH2 hH
  go_wp2_with fail
  refine hcomp.mono ?_
  rintro e w4 ⟨rfl, q, rfl⟩
  obtain ⟨ho, hB⟩ := left_of (nn := nn) (q := q) (os := os) hown2 hB2 hbg hlen
  rw [HK.out, names_enc] at ho
  clear hcomp
  go_wp2_with fail
  go_ret
  refine ⟨⟨_, rfl, ?_⟩, hB⟩
  have := HK.out
  unfold uniq at this
  rw [this] at ho ⊢
  exact ho
end Go.Proofs.YtcofjoacehacjaaGreatDoor
