/- The program joins lists of names, sorts them and leaves each once. -/
import Derived.Test.YtliebjbbomghiaaGreatDoorShelf
import Derived.Test.YtliebjbbomghiaaGreatDoorJ9
import Derived.Laws.AppendOwnNone
import Derived.Sort.OwnSorted
import Derived.Sort.Grow
import Derived.Lib.OwnBridge
import Derived.Test.YtliebjbbomghiaaGreatDoorJ0
import Derived.Test.YtliebjbbomghiaaGreatDoorJ3
import Derived.Test.YtliebjbbomghiaaGreatDoorJ5
import Derived.Maps.OwnSet
import Derived.Maps.OwnOps
import Derived.Deep.RegionHeld
namespace Go.Proofs.YtliebjbbomghiaaGreatDoor
open Go.RowKit Go.Shelf

theorem grow_any (n : Nat) (w : World) (h1 : 1 ≤ n) (h2 : n ≤ 1000) :
    Calls Tryz.prog 90 #[.slice none 0 0, .int .i64 (n : Int)] w
      fun e w' => (∃ cap, e = .returned (.slice (some ⟨w.heap.size, 0, none⟩) 0 cap) ∧ w'.ownsRow w.heap.size 9 1 (.slice (some ⟨w.heap.size, 0, none⟩) 0 cap) 0 []) ∧ Below w.heap.size w w' := by
  obtain ⟨ii, hi, iz0, iz1, iz2⟩ := info_parts infoStr
  have h := Any8.slices_Grow_grow Tryz.growS ii (.string ⟨#[]⟩) hi iz0 (by omega) none 0 0 n [] w (Nat.le_refl _) (by omega) (by rw [iz2]; omega) (by omega) (by simp) (fun _ => rfl) (fun a ha => by cases ha)
  refine Calls.mono h ?_
  rintro e w' ⟨rfl, rfl⟩
  have hge := grownCap_ge w (0 + n) 0 9
  have hle := grownCap_le_maxLen w (0 + n) 0 9 (by unfold maxLen; omega)
  refine ⟨⟨_, rfl, rfl, .inr ⟨_, _, _, rfl, Nat.le_refl _, heap_alloc_new _ _, Nat.zero_le _, hle, ?_, by simp⟩⟩, (Below.refl _ _).drew.alloc (by simp) _⟩
  have hz : (Value.string ⟨#[]⟩).cells.size = 1 := rfl
  rw [Array.size_append, Array.size_append, size_zeroCells, size_zeroCells, hz]
  simp only [List.size_toArray, List.length_nil]
  show 0 + (0 + n - 0) * 1 + (grownCap w (0 + n) 0 9 - (0 + n)) * 1 = grownCap w (0 + n) 0 9 * 1
  omega

set_option maxRecDepth 20000 in
set_option maxHeartbeats 4000000 in
theorem concat_any (s1 s2 s3 : List ByteArray) (v1 v2 v3 : Value) (sb : Nat) (w : World) (h1 : Txt w v1 s1) (h2 : Lst w v2 s2) (h3 : Lst w v3 s3) (hsb : sb < w.heap.size)
    (e0 : w.cell? ⟨sb, 0, none⟩ = some v1) (e1 : w.cell? ⟨sb, 1, none⟩ = some v2) (e2 : w.cell? ⟨sb, 2, none⟩ = some v3) (hpos : 0 < s1.length) (hn : s1.length + s2.length + s3.length ≤ 900) :
    Calls Tryz.prog 64 #[.slice (some ⟨sb, 0, none⟩) 3 3] w
      fun e w' => (∃ u, e = .returned u ∧ w'.ownsRow w.heap.size 9 1 u (s1 ++ s2 ++ s3).length ((s1 ++ s2 ++ s3).map Value.string)) ∧ Below w.heap.size w w' := by
  obtain ⟨ii, hi, iz0, iz1, iz2⟩ := info_parts infoStr
  obtain ⟨a1, c1, rfl⟩ := Lst.shape (.inr h1)
  obtain ⟨a2, c2, rfl⟩ := h2.shape
  obtain ⟨a3, c3, rfl⟩ := h3.shape
  go_enter Tryz.func64, Tryz.ntmps64
  go_wp2_with fail
  go_loop [3, 11] (fun z i => ∃ k t : Nat, i = .int .i64 (k : Int) ∧ z = .int .i64 (t : Int) ∧ ((k = 0 ∧ t = 0) ∨ (k = 1 ∧ t = s1.length) ∨ (k = 2 ∧ t = s1.length + s2.length) ∨ (k = 3 ∧ t = s1.length + s2.length + s3.length))) (fun _ i => 3 - (intOf i).toNat)
  case atStart => exact ⟨0, 0, rfl, rfl, .inl ⟨rfl, rfl⟩⟩
  case round =>
    obtain ⟨k, t, rfl, rfl, hkt⟩ := hrel
    rcases hkt with ⟨rfl, rfl⟩ | ⟨rfl, rfl⟩ | ⟨rfl, rfl⟩ | ⟨rfl, rfl⟩
    · go_wp2_with fail
      go_round
      case rel => exact ⟨1, s1.length, rfl, by go_num, .inr (.inl ⟨rfl, rfl⟩)⟩
      case measure => simp [intOf]
    · go_wp2_with fail
      go_round
      case rel => exact ⟨2, s1.length + s2.length, rfl, by go_num, .inr (.inr (.inl ⟨rfl, rfl⟩))⟩
      case measure => simp [intOf]
    · go_wp2_with fail
      go_round
      case rel => exact ⟨3, s1.length + s2.length + s3.length, rfl, by go_num, .inr (.inr (.inr ⟨rfl, rfl⟩))⟩
      case measure => simp [intOf]
    · go_wp2_with fail
      have hN : (s1.length : Int) + (s2.length : Int) + (s3.length : Int) = ((s1.length + s2.length + s3.length : Nat) : Int) := by omega
      rw [hN]
      refine (grow_any (s1.length + s2.length + s3.length) w (by omega) (by omega)).mono ?_
      rintro e w1 ⟨⟨cp, rfl, hown⟩, hB1⟩
      clear hN
      go_wp2_with fail
      go_loopw [6, 27] (fun u i w' => ∃ (k : Nat) (xs : List ByteArray), i = .int .i64 (k : Int) ∧ ((k = 0 ∧ xs = []) ∨ (k = 1 ∧ xs = s1) ∨ (k = 2 ∧ xs = s1 ++ s2) ∨ (k = 3 ∧ xs = s1 ++ s2 ++ s3)) ∧ w'.ownsRow w.heap.size 9 1 u xs.length (xs.map Value.string) ∧ Below w.heap.size w w') (fun _ i _ => 3 - (intOf i).toNat)
      case atStart => exact ⟨0, [], rfl, .inl ⟨rfl, rfl⟩, hown, hB1⟩
      case round =>
        clear hown hB1
        obtain ⟨k, xs, rfl, hkx, hown, hB⟩ := hrel
        rcases hkx with ⟨rfl, hx⟩ | ⟨rfl, hx⟩ | ⟨rfl, hx⟩ | ⟨rfl, hx⟩ <;> rw [hx] at hown <;> clear hx
        · have hcell := (hB.cell (p := ⟨sb, 0, none⟩) hsb).trans e0
          rcases (show Lst w _ s1 from .inr h1) with ⟨hv, hs⟩ | ⟨g, cc, hv, hS, hg, _, _⟩
          · rw [hv] at hcell
            have Hs : Hid (s1 = []) := hs
            clear hs hv
            go_wp2_with (at_builtin; refine wpList_append_own_none rfl _ _ 29 rfl w.heap.size 9 ii 1 Tryz.underlying29 hi u6 _ _ rfl hown rfl ?_)
            go_roundw
            case rel => exact ⟨1, s1, rfl, .inr (.inl ⟨rfl, rfl⟩), by rw [Hs.out]; exact hown, hB⟩
            case measure => simp [intOf]
          · cases hv
            have hS2 : StrsAt wr g 0 s1 := fun i s hs => (hB.cell (p := ⟨g, 0 + i, none⟩) hg).trans (hS i s hs)
            go_wp2_with (at_builtin; refine wpList_append_own _ rfl _ _ 29 rfl w.heap.size 9 ii _ 1 16 Tryz.underlying29 hi iz0 iz1 iz2 rfl (by decide) u6 _ _ rfl hown ⟨g, 0, none⟩ s1.length _ (s1.map Value.string) rfl (by simp) (news_of hS2) (oneS _) (by unfold maxLen; first | omega | (simp; omega)) (by first | omega | (simp; omega)) hB.size ?_)
            intro v' w2 hown2 hgrow2 _
            have hB2 := below_own hB hown hgrow2 (Nat.le_refl _)
            clear hown hgrow2 hB hcell hS2
            go_wp2_with fail
            go_roundw
            case rel => exact ⟨1, s1, rfl, .inr (.inl ⟨rfl, rfl⟩), by simpa using hown2, hB2⟩
            case measure => simp [intOf]
        · have hcell := (hB.cell (p := ⟨sb, 1, none⟩) hsb).trans e1
          rcases h2 with ⟨hv, hs⟩ | ⟨g, cc, hv, hS, hg, _, _⟩
          · rw [hv] at hcell
            have Hs : Hid (s2 = []) := hs
            clear hs hv
            go_wp2_with (at_builtin; refine wpList_append_own_none rfl _ _ 29 rfl w.heap.size 9 ii 1 Tryz.underlying29 hi u6 _ _ rfl hown rfl ?_)
            go_roundw
            case rel => exact ⟨2, s1 ++ s2, rfl, .inr (.inr (.inl ⟨rfl, rfl⟩)), by rw [Hs.out, List.append_nil]; exact hown, hB⟩
            case measure => simp [intOf]
          · cases hv
            have hS2 : StrsAt wr g 0 s2 := fun i s hs => (hB.cell (p := ⟨g, 0 + i, none⟩) hg).trans (hS i s hs)
            go_wp2_with (at_builtin; refine wpList_append_own _ rfl _ _ 29 rfl w.heap.size 9 ii _ 1 16 Tryz.underlying29 hi iz0 iz1 iz2 rfl (by decide) u6 _ _ rfl hown ⟨g, 0, none⟩ s2.length _ (s2.map Value.string) rfl (by simp) (news_of hS2) (oneS _) (by unfold maxLen; first | omega | (simp; omega)) (by first | omega | (simp; omega)) hB.size ?_)
            intro v' w2 hown2 hgrow2 _
            have hB2 := below_own hB hown hgrow2 (Nat.le_refl _)
            clear hown hgrow2 hB hcell hS2
            go_wp2_with fail
            go_roundw
            case rel => exact ⟨2, s1 ++ s2, rfl, .inr (.inr (.inl ⟨rfl, rfl⟩)), by simpa using hown2, hB2⟩
            case measure => simp [intOf]
        · have hcell := (hB.cell (p := ⟨sb, 2, none⟩) hsb).trans e2
          rcases h3 with ⟨hv, hs⟩ | ⟨g, cc, hv, hS, hg, _, _⟩
          · rw [hv] at hcell
            have Hs : Hid (s3 = []) := hs
            clear hs hv
            go_wp2_with (at_builtin; refine wpList_append_own_none rfl _ _ 29 rfl w.heap.size 9 ii 1 Tryz.underlying29 hi u6 _ _ rfl hown rfl ?_)
            go_roundw
            case rel => exact ⟨3, s1 ++ s2 ++ s3, rfl, .inr (.inr (.inr ⟨rfl, rfl⟩)), by rw [Hs.out, List.append_nil]; exact hown, hB⟩
            case measure => simp [intOf]
          · cases hv
            have hS2 : StrsAt wr g 0 s3 := fun i s hs => (hB.cell (p := ⟨g, 0 + i, none⟩) hg).trans (hS i s hs)
            go_wp2_with (at_builtin; refine wpList_append_own _ rfl _ _ 29 rfl w.heap.size 9 ii _ 1 16 Tryz.underlying29 hi iz0 iz1 iz2 rfl (by decide) u6 _ _ rfl hown ⟨g, 0, none⟩ s3.length _ (s3.map Value.string) rfl (by simp) (news_of hS2) (oneS _) (by unfold maxLen; first | omega | (simp; omega)) (by first | omega | (simp; omega)) hB.size ?_)
            intro v' w2 hown2 hgrow2 _
            have hB2 := below_own hB hown hgrow2 (Nat.le_refl _)
            clear hown hgrow2 hB hcell hS2
            go_wp2_with fail
            go_roundw
            case rel => exact ⟨3, s1 ++ s2 ++ s3, rfl, .inr (.inr (.inr ⟨rfl, rfl⟩)), by simpa [Nat.add_assoc] using hown2, hB2⟩
            case measure => simp [intOf]
        · go_wp2_with fail
          go_ret
          exact ⟨⟨_, rfl, hown⟩, hB⟩
end Go.Proofs.YtliebjbbomghiaaGreatDoor

/- The program's slots of a phase and of what may come behind it. -/
namespace Go.Proofs.YtliebjbbomghiaaGreatDoor
open Go.RowKit Go.Shelf Go.Sort

theorem str_enc (s : ByteArray) : Value.string s = encStr s.toList := by
  unfold encStr
  rw [Go.ByteArray.toList_eq]
theorem strs_enc (ss : List ByteArray) : ss.map Value.string = (keys ss).map encStr := by
  rw [keys, List.map_map]
  exact List.map_congr_left fun s _ => str_enc s
/-- Lists of bytes as names. -/
def namesOf (ks : List Key) : List ByteArray := ks.map fun l => ⟨l.toArray⟩
theorem keys_names (ks : List Key) : keys (namesOf ks) = ks := by
  rw [keys, namesOf, List.map_map]
  have : ((fun s : ByteArray => s.toList) ∘ fun l : Key => (⟨l.toArray⟩ : ByteArray)) = id := by
    funext l; exact toList_lit l
  rw [this, List.map_id]
theorem names_enc (ks : List Key) : ks.map encStr = (namesOf ks).map Value.string := by rw [strs_enc, keys_names]

theorem left_of {w w1 : World} {g cap n nn q : Nat} {os : Array Obj} {ss : List Key} (hown : w1.ownsRow w.heap.size 9 1 (.slice (some ⟨g, 0, none⟩) n cap) n (ss.map encStr)) (hbel : Below w.heap.size w w1) (hbg : w.heap.size ≤ g) (hlen : ss.length = n) :
    (putRow encStr (Sort.ahead (grow (putRow encStr (Sort.ahead w1 nn) g 0 (ss.mergeSort fun x y => decide (x ≤ y)).toArray) os) q) g 0 (Lib.compact (ss.mergeSort fun x y => decide (x ≤ y)) ++ List.replicate (n - (Lib.compact (ss.mergeSort fun x y => decide (x ≤ y))).length) []).toArray).ownsRow w.heap.size 9 1 (.slice (some ⟨g, 0, none⟩) (uniq ss).length cap) (uniq ss).length ((uniq ss).map encStr) ∧
      Below w.heap.size w (putRow encStr (Sort.ahead (grow (putRow encStr (Sort.ahead w1 nn) g 0 (ss.mergeSort fun x y => decide (x ≤ y)).toArray) os) q) g 0 (Lib.compact (ss.mergeSort fun x y => decide (x ≤ y)) ++ List.replicate (n - (Lib.compact (ss.mergeSort fun x y => decide (x ≤ y))).length) []).toArray) := by
  have hl2 : (ss.mergeSort fun x y => decide (x ≤ y)).length = ss.length := List.length_mergeSort ss
  have hle := Lib.compact_length_le (ss.mergeSort fun x y => decide (x ≤ y))
  subst hlen
  rcases hown.2 with ⟨h0, _⟩ | ⟨g', cap', cur, hv, hbase, hb, h1, h2, h3, h4⟩
  · cases h0
  cases hv
  have hs := ownsRow_sorted (n := nn) (os := os) (ts := ss.mergeSort fun x y => decide (x ≤ y)) hl2 hbase hb h1 h2 h3
  have hc := Lib.ownsRow_putRow (q := q) (k := (Lib.compact (ss.mergeSort fun x y => decide (x ≤ y))).length) (ys := Lib.compact (ss.mergeSort fun x y => decide (x ≤ y)) ++ List.replicate (ss.length - (Lib.compact (ss.mergeSort fun x y => decide (x ≤ y))).length) []) hs (by simp; omega) (by omega)
  rw [List.take_left] at hc
  exact ⟨hc, Lib.below_putRow (hbel.grown (grownBy_sorted _) hbel.size (fun j hj => by cases hj; exact hbase)) hbg⟩

set_option maxRecDepth 20000 in
set_option maxHeartbeats 4000000 in
theorem slotsFrom_any (p : Ph) (s2 s3 : List ByteArray) (v2 v3 : Value) (w : World) (hk : 1 ≤ p.k ∧ p.k ≤ 5) (h2 : Lst w v2 s2) (h3 : Lst w v3 s3) (hn : s2.length + s3.length ≤ 800) :
    Calls Tryz.prog 44 #[.agg #[.string p.nm, .int .i64 p.k, .string p.a, .string p.b, .int .i64 p.n, .int .i64 p.wi, .string p.t, .string p.e], v2, v3] w
      fun e w' => (∃ u, e = .returned u ∧ w'.ownsRow w.heap.size 9 1 u (fpK p (keys s2) (keys s3)).length ((namesOf (fpK p (keys s2) (keys s3))).map Value.string)) ∧ Below w.heap.size w w' := by
  have hBx : Below w.heap.size w (w.alloc (.cells #[.string p.nm, .int .i64 p.k, .string p.a, .string p.b, .int .i64 p.n, .int .i64 p.wi, .string p.t, .string p.e] 34)) := (Below.refl _ _).alloc (Nat.le_refl _) _
  obtain ⟨a2, c2, rfl⟩ := h2.shape
  obtain ⟨a3, c3, rfl⟩ := h3.shape
  go_enter Tryz.func44, Tryz.ntmps44
  go_wp2_with fail
  refine (phSlots_any p _ hk).mono ?_
  rintro e w1 ⟨⟨u1, rfl, hT1⟩, hb1⟩
  have hB1 := up_trans hBx hb1
  obtain ⟨a1, c1, rfl⟩ := Lst.shape (.inr hT1)
  have hal : RowKit.Below w1.heap.size w1 (w1.alloc (.cells #[.slice a1 (ownB p).length c1, .slice a2 s2.length c2, .slice a3 s3.length c3] 29)) := (RowKit.Below.refl _ _).alloc (Nat.le_refl _) _
  have hB1a := up_trans hB1 hal
  have hpos : 0 < (ownB p).length := by unfold ownB; split <;> simp
  have hlo : (ownB p).length ≤ 2 := by unfold ownB; split <;> simp
  go_wp2_with fail
  refine (concat_any (ownB p) s2 s3 _ _ _ w1.heap.size _ (hT1.up hal) (h2.up hB1a) (h3.up hB1a) (by simp) (by simp) (by simp) (by simp) hpos (by omega)).mono ?_
  rintro e w2 ⟨⟨u2, rfl, hown2⟩, hb2⟩
  have hB2 := up_trans hB1a hb2
  have hown2 := own_low hown2 hB1a.size
  rw [strs_enc] at hown2
  obtain ⟨n, hN⟩ : ∃ n, n = (ownB p ++ s2 ++ s3).length := ⟨_, rfl⟩
  have hlen : (keys (ownB p ++ s2 ++ s3)).length = n := by rw [hN]; simp [keys]
  rw [← hN] at hown2
  have hnp : 0 < n := by rw [hN]; simp; omega
  have hn9 : n ≤ 900 := by rw [hN]; simp; omega
  have HK : Hid (uniq (keys (ownB p ++ s2 ++ s3)) = fpK p (keys s2) (keys s3)) := by
    show _ = _
    rw [fpK, ← own_keys]; simp [keys]
  generalize keys (ownB p ++ s2 ++ s3) = ks at *
  clear hN hT1 h2 h3 hb1 hb2 hal hB1 hB1a hBx hpos hlo hn
  obtain ⟨g, cap, rfl⟩ := own_ptr2 hown2 hnp
  obtain ⟨g', cap', hv, hbg, hgl, hncap, hcm, _, hH⟩ := Lib.holds_of_ownsRow hown2 (by simp)
  cases hv
  unfold maxLen at hcm
  have hsort := Tryz.slices_Sort_string g 0 cap ks w2 hH hgl (by omega)
  rw [hlen] at hsort
  go_wp2_with fail
  refine hsort.mono ?_
  rintro e w3 ⟨rfl, nn, os, rfl⟩
  clear hsort
  have hl2 : (ks.mergeSort fun x y => decide (x ≤ y)).length = n := by rw [List.length_mergeSort]; exact hlen
  have hH2 : Holds encStr (grow (putRow encStr (Sort.ahead w2 nn) g 0 (ks.mergeSort fun x y => decide (x ≤ y)).toArray) os) g 0 (ks.mergeSort fun x y => decide (x ≤ y)).toArray :=
    holds_grow encStr _ os g 0 _ (by simpa [putRow, mapBlock, Sort.ahead] using hgl) (holds_putRow encStr _ g 0 _ _ (holds_ahead encStr w2 nn g 0 _ hH) (by simp))
  have hcomp := Tryz.slices_Compact_string g 0 cap (ks.mergeSort fun x y => decide (x ≤ y)) _ hH2 (by omega) (by omega)
  rw [hl2] at hcomp
  clear hH2 hH
  go_wp2_with fail
  refine hcomp.mono ?_
  rintro e w4 ⟨rfl, q, rfl⟩
  obtain ⟨ho, hB⟩ := left_of (nn := nn) (q := q) (os := os) hown2 hB2 hbg hlen
  rw [HK.out, names_enc] at ho
  clear hcomp
  go_wp2_with fail
  go_ret
  refine ⟨⟨_, rfl, ?_⟩, hB⟩
  have := HK.out
  unfold uniq at this
  rw [this] at ho ⊢
  exact ho
end Go.Proofs.YtliebjbbomghiaaGreatDoor

/- Structs in blocks of their own: their cells, copied, kept, handed back. -/
namespace Go.Proofs.YtliebjbbomghiaaGreatDoor
open Go.RowKit

theorem sizeP : (Tryz.prog.info? 34).map (·.size) = some 8 := by kernel_rfl
end Go.Proofs.YtliebjbbomghiaaGreatDoor

/- The program's slots of a batch: a map while a call lasts, the things of slots (chapter 21). -/
namespace Go.Proofs.YtliebjbbomghiaaGreatDoor
open Go.RowKit Go.Maps Go.Shelf Go.Sort

def Sl.cells (x : Sl) : List Value := [.string x.s, .string x.t]
/-- The slots lie in block b from cell o on. -/
def SlAt (w : World) (b o : Nat) (l : List Sl) : Prop := ∀ (i : Nat) (x : Sl), l[i]? = some x → w.rangeAt b (o + i * 2) x.cells
theorem SlAt.cells {w : World} {b o : Nat} {l : List Sl} (h : SlAt w b o l) (i : Nat) (hi : i < l.length) : w.cell? ⟨b, o + i * 2, none⟩ = some (.string (l[i]).s) ∧ w.cell? ⟨b, o + i * 2 + 1, none⟩ = some (.string (l[i]).t) := by
  have hr := h i l[i] (by simp)
  exact ⟨hr 0 _ rfl, hr 1 _ rfl⟩
theorem SlAt.up {w w' : World} {b o B : Nat} {l : List Sl} (h : SlAt w b o l) (hb : Below B w w') (hB : b < B) : SlAt w' b o l := fun i x hx j v hv => by
  rw [hb.cell (p := ⟨b, o + i * 2 + j, none⟩) hB]; exact h i x hx j v hv

/-- How a slot reads as an element of a map. -/
def slDat (x : Sl) : DataW Unit := .agg [.lit (.string x.s.data.toList), .lit (.string x.t.data.toList)]
def slElem (v : Value) : Option (DataW Unit × List MemPlace) := match v with
  | .agg a => match a.toList with
    | [.string s, .string t] => some (slDat ⟨s, t⟩, [])
    | _ => none
  | _ => none
theorem slElem_mk (s t : ByteArray) : slElem (.agg #[.string s, .string t]) = some (slDat ⟨s, t⟩, []) := rfl
theorem slElem_inv {v : Value} {z : DataW Unit × List MemPlace} (h : slElem v = some z) : ∃ s t, v = .agg #[.string s, .string t] ∧ z = (slDat ⟨s, t⟩, []) := by
  unfold slElem at h
  split at h
  · rename_i a
    split at h
    · rename_i s t hl
      refine ⟨s, t, ?_, (Option.some.inj h).symm⟩
      rw [← Array.toArray_toList (xs := a), hl]
    · cases h
  · cases h
abbrev MapS (w : World) (M n : Nat) (D : DataW Unit) : Prop := w.ownsMap Tryz.prog 9 slElem M n D
theorem keyStr : Keyed Tryz.prog 9 := string_keyed Tryz.underlying9
theorem zeroSl (w : World) : (zeroValue 69).run Tryz.prog w = .ok (.agg #[.string ⟨#[]⟩, .string ⟨#[]⟩]) w := by kernel_rfl
/-- The map holds the last slot of each name. -/
def SlM (D : DataW Unit) (l : List Sl) : Prop := IsMap D ∧ ∀ (s : ByteArray) (z : Sl), z.t = ⟨#[]⟩ → ∃ x : Sl, D.atKey (kl s) (slDat z) = slDat x ∧ x.t = lastT l s
theorem SlM.start : SlM (.map []) [] := ⟨⟨[], rfl⟩, fun s z hz => ⟨z, rfl, by rw [hz]; rfl⟩⟩
theorem SlM.step {D : DataW Unit} {l : List Sl} (h : SlM D l) (x : Sl) : SlM (D.put (kl x.s) (slDat x)) (l ++ [x]) := by
  refine ⟨h.1.put _ _, fun s z hz => ?_⟩
  rw [lastT_snoc]
  by_cases e : kl s = kl x.s
  · obtain rfl := kl_inj e
    exact ⟨x, atKey_put_same h.1 (kl_key _) _ _, by simp⟩
  · obtain ⟨y, h1, h2⟩ := h.2 s z hz
    have hne : ¬ (x.s.toList == s.toList) = true := fun h => e (by rw [key_inj (beq_iff_eq.1 h)])
    exact ⟨y, by rw [atKey_put_other e]; exact h1, by rw [if_neg hne]; exact h2⟩
theorem slDat_inj {x y : Sl} (h : slDat x = slDat y) : x.t = y.t := by
  unfold slDat at h
  simp only [DataW.agg.injEq, List.cons.injEq, DataW.lit.injEq, Lit.string.injEq] at h
  have := h.2.1
  cases hx : x.t; cases hy : y.t
  rw [hx, hy] at this
  simpa using this
/-- A slot looked up. -/
theorem wpList_lookup_slot (w : World) {ops : Array Oper} {rest : List Oper} {o : Oper} {a : Act} {Q : Exit → Act → World → Prop}
    (hg : o.guard = none) (m x : Operand) (hop : o.op = Op.lookup 43 m x false) (M n : Nat) (D : DataW Unit) (l : List Sl)
    (hm : a.eval m = .map (some M)) (hown : MapS w M n D) (hD : SlM D l) (s : ByteArray) (hx : a.eval x = .string s) (hs : s.size ≤ maxLen)
    (hK : ∀ c : ByteArray, wpList Tryz.prog ops Q rest (a.put o.dst (.agg #[.string c, .string (lastT l s)])) w) :
    wpList Tryz.prog ops Q (o :: rest) a w := by
  refine wpList_plain hg fun K' hK' => ?_
  obtain ⟨v, ps, hrun, hv⟩ := hown.lookup keyStr Tryz.underlying43 (zeroSl w) (slElem_mk _ _) (WideMaps.keyOf_string_mk Tryz.underlying9 hs)
  obtain ⟨c, t, rfl, hz⟩ := slElem_inv hv
  obtain ⟨y, h1, h2⟩ := hD.2 s ⟨⟨#[]⟩, ⟨#[]⟩⟩ rfl
  have h3 : D.atKey (kl s) (slDat ⟨⟨#[]⟩, ⟨#[]⟩⟩) = slDat ⟨c, t⟩ := congrArg Prod.fst hz
  have ht : t = lastT l s := by rw [← h2, ← slDat_inj (x := ⟨c, t⟩) (y := y) (by rw [← h3, h1])]
  subst ht
  unfold Oper.wp
  simp [execOp, hop, hm, hx, hrun, Result.andThen]
  exact hK' _ _ (hK c)

set_option maxRecDepth 100000 in
set_option maxHeartbeats 2000000 in
theorem slotMap_any (l : List Sl) (b o c : Nat) (w : World) (h : SlAt w b o l) (hb : b < w.heap.size) (hn : l.length ≤ 1048576) (hz : ∀ x ∈ l, x.s.size ≤ maxLen) :
    Calls Tryz.prog 17 #[.slice (some ⟨b, o, none⟩) l.length c] w fun e w' =>
      (∃ M D, e = .returned (.map (some M)) ∧ MapS w' M l.length D ∧ SlM D l ∧ w.heap.size ≤ M) ∧ Below w.heap.size w w' := by
  have hmm := @run_makeMap Tryz.prog
  go_enter Tryz.func17, Tryz.ntmps17
  go_wp2_with fail
  go_loopw [5, 9] (fun _ i w' => ∃ (k : Nat) (D : DataW Unit), k ≤ l.length ∧ i = .int .i64 k ∧ MapS w' w.heap.size k D ∧ SlM D (l.take k) ∧ Below w.heap.size w w') (fun _ i _ => l.length - (intOf i).toNat)
  case atStart => exact ⟨0, _, by omega, rfl, World.ownsMap_made _ _ _ _, SlM.start, (Below.refl _ _).alloc (Nat.le_refl _) _⟩
  case round =>
    obtain ⟨k, D, hk, rfl, hmap, hD, hB⟩ := hrel
    have HD : Hid (SlM D (l.take k)) := hD
    clear hD
    by_cases hp : k < l.length
    · obtain ⟨c0, c1⟩ := (h.up hB hb).cells k hp
      have z0 := hz l[k] (by simp)
      have HS : Hid (SlM (D.put (kl (l[k]).s) (slDat l[k])) (l.take (k + 1))) := by
        show _
        rw [List.take_succ_eq_append_getElem hp]; exact HD.out.step _
      have hkey : keyOf Tryz.prog 9 (.string (l[k]).s) = some (kl (l[k]).s) := WideMaps.keyOf_string_mk Tryz.underlying9 z0
      generalize l[k] = x0 at *
      clear HD z0
      have hB1 := hB.alloc hB.size (.cells #[.string (x0).s, .string (x0).t] 69)
      have hmap1 := hmap.alloc (.cells #[.string (x0).s, .string (x0).t] 69)
      have hC : CB (wr.alloc (.cells #[.string (x0).s, .string (x0).t] 69)) wr.heap.size [.string x0.s, .string x0.t] := cb_alloc wr _ _
      go_upto_region 5 with fail
      generalize wr.alloc (.cells #[.string (x0).s, .string (x0).t] 69) = W1 at *
      obtain ⟨⟨e0, e1⟩, -⟩ := hC.c2
      clear c0 c1 hmap hB
      go_wp2_with (at_mapUpdate; refine wpList_mapUpdate_own _ rfl _ _ _ 43 rfl 9 69 keyStr Tryz.underlying43 _ w.heap.size k D rfl hmap1 (by unfold maxLen; omega) _ _ _ rfl rfl hkey _ [] (slElem_mk _ _) ?_; intro w1 hown1 hgrow1)
      have hB2 := below_gr hB1 hgrow1 (Nat.le_refl _)
      clear hgrow1 hmap1 hB1 e0 e1 hC hkey
      go_wp2_with fail
      go_roundw
      case rel => exact ⟨k + 1, _, by omega, by go_num, hown1, HS.out, hB2⟩
      case measure => simp [intOf]; omega
    · have HK : Hid (SlM D l) := by
        have := HD.out
        rw [List.take_of_length_le (by omega)] at this; exact this
      go_wp2_with fail
      go_ret
      exact ⟨⟨_, D, rfl, hmap.mono hk, HK.out, Nat.le_refl _⟩, hB⟩

theorem slotMap_at (l : List Sl) (n b o c : Nat) (w : World) (hl : l.length = n) (h : SlAt w b o l) (hb : b < w.heap.size) (hn : n ≤ 1048576) (hz : ∀ x ∈ l, x.s.size ≤ maxLen) :
    Calls Tryz.prog 17 #[.slice (some ⟨b, o, none⟩) n c] w fun e w' =>
      (∃ M D, e = .returned (.map (some M)) ∧ MapS w' M n D ∧ SlM D l ∧ w.heap.size ≤ M) ∧ Below w.heap.size w w' := by
  subst hl; exact slotMap_any l b o c w h hb hn hz
theorem run_fieldT (c t : ByteArray) (w : World) : (Instr.field 69 (.agg #[.string c, .string t]) 1).run Tryz.prog w = .ok (.string t) w := by kernel_rfl
theorem own_shapeU {w : World} {base e size n : Nat} {v : Value} {xs : List Value} (h : w.ownsRow base e size v n xs) : ∃ a c, v = .slice a n c := by
  rcases h.2 with ⟨h1, h2⟩ | ⟨g, cap, _, hv, _⟩
  · exact ⟨_, _, by rw [h1, h2]⟩
  · exact ⟨_, _, hv⟩
set_option maxRecDepth 20000 in
set_option maxHeartbeats 4000000 in
theorem thingsM_any (l : List Sl) (ss : List ByteArray) (M n : Nat) (D : DataW Unit) (v : Value) (w : World) (hmap : MapS w M n D) (hD : SlM D l) (h : Lst w v ss) (hz : ∀ s ∈ ss, s.size ≤ maxLen) (hn : ss.length ≤ 800) :
    Calls Tryz.prog 18 #[.map (some M), v] w fun e w' => (∃ u, e = .returned u ∧ OwnT w' w.heap.size u (namesOf (thI l ss))) ∧ Below w.heap.size w w' := by
  obtain ⟨a, c, rfl⟩ := h.shape
  have hML := hmap.lt
  obtain ⟨ii, hi, iz0, iz1, iz2⟩ := info_parts infoStr
  have HD : Hid (SlM D l) := hD
  clear hD
  have hfd := run_fieldT
  go_enter Tryz.func18, Tryz.ntmps18
  go_wp2_with fail
  go_loopw [5, 7, 10] (fun u _ i w' => ∃ k : Nat, k ≤ ss.length ∧ i = .int .i64 k ∧ w'.ownsRow w.heap.size 9 1 u k (((ss.take k).map (lastT l)).map Value.string) ∧ Below w.heap.size w w') (fun _ _ i _ => ss.length - (intOf i).toNat)
  case atStart => exact ⟨0, by omega, rfl, ⟨by simp, .inl ⟨rfl, rfl⟩⟩, Below.refl _ _⟩
  case round =>
    obtain ⟨k, hk, rfl, hown, hB⟩ := hrel
    by_cases hp : k < ss.length
    · obtain ⟨g, hc0⟩ : ∃ g, w.cell? ⟨g, k, none⟩ = some (.string ss[k]) ∧ g < w.heap.size ∧ a = some ⟨g, 0, none⟩ := by
        rcases h with ⟨h1, h2⟩ | ⟨g, c', h1, hS, hg, -⟩
        · subst h2; simp at hp
        · simp only [Value.slice.injEq] at h1
          exact ⟨g, by have := hS k ss[k] (by simp); simpa using this, hg, h1.1⟩
      obtain ⟨hc0, hg, rfl⟩ := hc0
      have c0 := (hB.cell (p := ⟨g, k, none⟩) hg).trans hc0
      have z0 := hz ss[k] (by simp)
      have hmap1 : MapS wr M n D := hmap.kept (row := none) ⟨hB.os, hB.tape, hB.output, hB.size, fun i hi _ => hB.block i hi⟩ (by simp)
      have Hs : Hid ((((ss.take (k + 1)).map (lastT l)).map Value.string) = ((ss.take k).map (lastT l)).map Value.string ++ [.string (lastT l ss[k])]) := by
        show _ = _
        rw [List.take_succ_eq_append_getElem hp, List.map_append, List.map_append]; rfl
      generalize ss[k] = s0 at *
      have hz1 := hB.size
      go_wp2_with (first
        | (at_lookup; refine wpList_lookup_slot _ rfl _ _ rfl M n D l rfl hmap1 HD.out s0 rfl z0 ?_; intro cc)
        | (at_builtin; refine wpList_append_own _ rfl _ _ 29 rfl w.heap.size 9 ii _ 1 16 Tryz.underlying29 hi iz0 iz1 iz2 rfl (by decide) _ _ _ rfl (own_up hown ((Below.refl wr.heap.size wr).alloc (Nat.le_refl _) (.cells #[.string (lastT l s0)] 9))) ⟨wr.heap.size, 0, none⟩ 1 1 [.string (lastT l s0)] rfl rfl (one_new _ _ _) (oneV _) (by unfold maxLen; omega) (by omega) (by simp; omega) ?_; intro v1 w1 hown3 hgrow3 _))
      rw [← Hs.out] at hown3
      have hB3 := below_own (hB.alloc hB.size (.cells #[.string (lastT l s0)] 9)) (own_up hown ((Below.refl wr.heap.size wr).alloc (Nat.le_refl _) (.cells #[.string (lastT l s0)] 9))) hgrow3 (Nat.le_refl _)
      clear hown hgrow3 hB c0 hmap1
      go_wp2_with fail
      go_roundw
      case rel => exact ⟨k + 1, by omega, by go_num, hown3, hB3⟩
      case measure => simp [intOf]; omega
    · have hkl : k = ss.length := by omega
      rw [hkl, List.take_length] at hown
      clear hkl
      have HT : Hid (thI l ss = uniq (keys (ss.map (lastT l)))) := rfl
      have Hl : Hid ((keys (ss.map (lastT l))).length = ss.length) := by show _ = _; simp [keys]
      by_cases h0 : ss.length = 0
      · have H0 : Hid (ss = []) := List.length_eq_zero_iff.1 h0
        rw [h0] at hown
        obtain ⟨ua, uc, hu⟩ := own_shapeU hown
        subst hu
        have HO : Hid (OwnT wr w.heap.size (.slice ua 0 uc) (namesOf (thI l ss))) := by
          show OwnT _ _ _ _
          have e : namesOf (thI l ss) = [] := by
            have := thI_len l ss
            rw [h0] at this
            rw [List.length_eq_zero_iff.1 (Nat.le_zero.1 this)]; rfl
          rw [e]
          rw [H0.out] at hown
          exact hown
        clear hown h0
        go_wp2_with fail
        refine (Tryz.slices_Sort_string_none _ _ _).mono ?_
        rintro e w' ⟨rfl, hw⟩; obtain rfl := hw.symm; clear hw
        go_wp2_with fail
        refine (Tryz.slices_Compact_string_empty _ _ _).mono ?_
        rintro e w' ⟨rfl, hw⟩; obtain rfl := hw.symm; clear hw
        go_wp2_with fail
        go_ret
        exact ⟨⟨_, rfl, HO.out⟩, hB⟩
      · rw [strs_enc] at hown
        generalize keys (ss.map (lastT l)) = ks at *
        obtain ⟨n', hN⟩ : ∃ n, n = ss.length := ⟨_, rfl⟩
        have hlen : ks.length = n' := by rw [Hl.out, hN]
        rw [← hN] at hown
        have hnp : 0 < n' := by omega
        have hn9 : n' ≤ 900 := by omega
        clear hN Hl h0
        obtain ⟨g, cap, hug⟩ := own_ptr2 hown hnp
        subst hug
        obtain ⟨g', cap', hv, hbg, hgl, hncap, hcm, _, hH⟩ := Lib.holds_of_ownsRow hown (by simp)
        cases hv
        unfold maxLen at hcm
        have hsort := Tryz.slices_Sort_string g 0 cap ks wr hH hgl (by omega)
        rw [hlen] at hsort
        go_wp2_with fail
        refine hsort.mono ?_
        rintro e w3 ⟨rfl, nn, os, rfl⟩
        clear hsort
        have hl2 : (ks.mergeSort fun x y => decide (x ≤ y)).length = n' := by rw [List.length_mergeSort]; exact hlen
        have hH2 : Holds encStr (grow (putRow encStr (Sort.ahead wr nn) g 0 (ks.mergeSort fun x y => decide (x ≤ y)).toArray) os) g 0 (ks.mergeSort fun x y => decide (x ≤ y)).toArray :=
          holds_grow encStr _ os g 0 _ (by simpa [putRow, mapBlock, Sort.ahead] using hgl) (holds_putRow encStr _ g 0 _ _ (holds_ahead encStr wr nn g 0 _ hH) (by simp))
        have hcomp := Tryz.slices_Compact_string g 0 cap (ks.mergeSort fun x y => decide (x ≤ y)) _ hH2 (by omega) (by omega)
        rw [hl2] at hcomp
        clear hH2 hH
        go_wp2_with fail
        refine hcomp.mono ?_
        rintro e w4 ⟨rfl, q, rfl⟩
        obtain ⟨ho, hB4⟩ := left_of (nn := nn) (q := q) (os := os) hown hB hbg hlen
        rw [← HT.out, names_enc] at ho
        clear hcomp
        go_wp2_with fail
        go_ret
        refine ⟨⟨_, rfl, ?_⟩, hB4⟩
        have hT := HT.out
        unfold uniq at hT
        rw [← hT] at ho ⊢
        have hll : (namesOf (thI l ss)).length = (thI l ss).length := by simp [namesOf]
        unfold OwnT
        rw [hll]
        exact ho
end Go.Proofs.YtliebjbbomghiaaGreatDoor

/- The program's table of the instance []string: looking a name up. -/
namespace Go.Proofs.YtliebjbbomghiaaGreatDoor
open Go.RowKit

abbrev VK := Value × List Key
def nilR : VK := (.slice none 0 0, [])
def rowSS : List (ByteArray × VK) → List Value
  | [] => []
  | r :: rest => .string r.1 :: r.2.1 :: rowSS rest
theorem rowSS_append (a b : List (ByteArray × VK)) : rowSS (a ++ b) = rowSS a ++ rowSS b := by
  induction a with
  | nil => rfl
  | cons r rest ih => simp [rowSS, ih]
theorem rowSS_length (a : List (ByteArray × VK)) : (rowSS a).length = a.length * 2 := by
  induction a with
  | nil => rfl
  | cons r rest ih => simp [rowSS, ih]; omega
theorem rowSS_at : ∀ (a : List (ByteArray × VK)) (i : Nat) (h : i < a.length), (rowSS a)[i * 2]? = some (.string (a[i]).1) ∧ (rowSS a)[i * 2 + 1]? = some ((a[i]).2.1)
  | r :: rest, 0, _ => ⟨rfl, rfl⟩
  | r :: rest, i + 1, h => by
    have := rowSS_at rest i (by simpa using h)
    rw [show (i + 1) * 2 = i * 2 + 1 + 1 by omega]
    simpa [rowSS] using this
/-- What a value told of a name is: a list of its own. -/
def OwnV (w : World) (base : Nat) (x : VK) : Prop := w.ownsRow base 9 1 x.1 x.2.length ((namesOf x.2).map Value.string)
theorem OwnV.shape {w : World} {base : Nat} {x : VK} (h : OwnV w base x) : ∃ a n c, x.1 = .slice a n c := by
  rcases h.2 with ⟨h0, _⟩ | ⟨g, cap, _, hv, _⟩
  · exact ⟨_, _, _, h0⟩
  · exact ⟨_, _, _, hv⟩
theorem OwnV.up {w w' : World} {base : Nat} {x : VK} (h : OwnV w base x) (hb : Below w.heap.size w w') : OwnV w' base x := own_up h hb
theorem ownV_nil (w : World) (base : Nat) : OwnV w base nilR := World.ownsRow_nil _ _ _ _
theorem OwnV.lst {w : World} {base : Nat} {x : VK} (h : OwnV w base x) : Lst w x.1 (namesOf x.2) := by
  have hl : (namesOf x.2).length = x.2.length := by simp [namesOf]
  rcases h.2 with ⟨h0, h1⟩ | ⟨g, cap, cur, hv, _⟩
  · exact .inl ⟨h0, by cases hx : x.2 with
      | nil => rfl
      | cons a r => rw [hx] at h1; simp at h1⟩
  · exact .inr (Txt.own h hl ⟨g, cap, hv⟩)
/-- The table lies in block g; what it tells are lists of their own. -/
def TabS (w : World) (base g : Nat) (rows : List (ByteArray × VK)) : Prop := w.rangeAt g 0 (rowSS rows) ∧ g < w.heap.size ∧ ∀ r ∈ rows, OwnV w base r.2
theorem TabS.up {w w' : World} {base g : Nat} {rows : List (ByteArray × VK)} (h : TabS w base g rows) (hb : Below w.heap.size w w') : TabS w' base g rows :=
  ⟨fun j v hv => by rw [hb.cell (p := ⟨g, 0 + j, none⟩) h.2.1]; exact h.1 j v hv, Nat.lt_of_lt_of_le h.2.1 hb.size, fun r hr => (h.2.2 r hr).up hb⟩
theorem TabS.cells {w : World} {base g : Nat} {rows : List (ByteArray × VK)} (h : TabS w base g rows) (i : Nat) (hi : i < rows.length) : w.cell? ⟨g, i * 2, none⟩ = some (.string (rows[i]).1) ∧ w.cell? ⟨g, i * 2 + 1, none⟩ = some ((rows[i]).2.1) := by
  obtain ⟨h1, h2⟩ := rowSS_at rows i hi
  exact ⟨by simpa using h.1 _ _ h1, by simpa using h.1 _ _ h2⟩
theorem TabS.of_own {w : World} {base e g cap : Nat} {rows : List (ByteArray × VK)} (h : w.ownsRow base e 2 (.slice (some ⟨g, 0, none⟩) rows.length cap) rows.length (rowSS rows)) (hv : ∀ r ∈ rows, OwnV w base r.2) : TabS w base g rows := by
  refine ⟨fun j v hv => ?_, (h.lt g rfl).2, hv⟩
  have hj : j < rows.length * 2 := by rw [← rowSS_length]; exact (List.getElem?_eq_some_iff.1 hv).1
  rw [Nat.zero_add, h.cellAt j hj]; exact hv
theorem TabS.look {w : World} {base g : Nat} {rows : List (ByteArray × VK)} (h : TabS w base g rows) (nm : ByteArray) : OwnV w base (look rows nm nilR) := by
  unfold Go.Proofs.YtliebjbbomghiaaGreatDoor.look
  split
  · rename_i r hr
    exact h.2.2 r (List.mem_of_find?_eq_some hr)
  · exact ownV_nil _ _
def plainR (rows : List (ByteArray × VK)) : List (ByteArray × List Key) := rows.map fun r => (r.1, r.2.2)
theorem look_plain (rows : List (ByteArray × VK)) (nm : ByteArray) : look (plainR rows) nm [] = (look rows nm nilR).2 := by
  unfold look plainR
  rw [List.find?_map]
  have e : ((fun r : ByteArray × List Key => r.1.toList == nm.toList) ∘ fun r : ByteArray × VK => (r.1, r.2.2)) = fun r => r.1.toList == nm.toList := by funext r; rfl
  rw [e]
  cases rows.find? fun r => r.1.toList == nm.toList <;> rfl

theorem ofS_any (rows : List (ByteArray × VK)) (base g c : Nat) (nm : ByteArray) (w : World) (hr : TabS w base g rows) (hn : rows.length ≤ 1048576) :
    Calls Tryz.prog 45 #[.slice (some ⟨g, 0, none⟩) rows.length c, .string nm] w fun e w' => e = .returned (look rows nm nilR).1 ∧ Below w.heap.size w w' := by
  have hg := hr.2.1
  go_enter Tryz.func45, Tryz.ntmps45
  go_wp2
  go_loopw [10] (fun i w' => ∃ k : Nat, k ≤ rows.length ∧ i = .int .i64 k ∧ noneT rows nm k ∧ Below w.heap.size w w') (fun i _ => rows.length - (intOf i).toNat)
  case atStart => exact ⟨0, by omega, rfl, fun _ _ h => by omega, Below.refl _ _⟩
  case round =>
    obtain ⟨k, hk, rfl, hal, hB⟩ := hrel
    have Hal : Hid (noneT rows nm k) := hal
    clear hal
    by_cases hp : k < rows.length
    · obtain ⟨c0, c1⟩ := hr.cells k hp
      obtain ⟨a, n, cc, hsh⟩ := (hr.2.2 rows[k] (by simp)).shape
      rw [hsh] at c1
      obtain ⟨hc, hf⟩ := bcell hB
      cases hq : ((rows[k]).1.toList == nm.toList)
      · have Hq : Hid (((rows[k]).1.toList == nm.toList) = false) := hq
        go_wp2
        go_roundw
        case rel => exact ⟨k + 1, by omega, by go_num, noneT_succ Hal.out hp Hq.out, hB.alloc hB.size _⟩
        case measure => simp [intOf]; omega
      · have Hq : Hid (look rows nm nilR = (rows[k]).2) := look_hit nilR Hal.out hp hq
        have Hsh : Hid ((rows[k]).2.1 = .slice a n cc) := hsh
        clear hsh
        go_wp2
        go_ret
        exact ⟨by rw [Hq.out, Hsh.out]; rfl, hB.alloc hB.size _⟩
    · have Hq : Hid (look rows nm nilR = nilR) := look_miss nilR Hal.out hp
      go_wp2
      go_ret
      exact ⟨by rw [Hq.out]; rfl, hB⟩
end Go.Proofs.YtliebjbbomghiaaGreatDoor

/- The program fills its table of the instance []string. -/
namespace Go.Proofs.YtliebjbbomghiaaGreatDoor
open Go.RowKit

theorem size_held {W1 w0 : World} {B : Nat} {x0 x1 x2 x3 x4 x5 x6 x7 : Value} (h : Below W1.heap.size W1 w0 ∧ w0.cell? ⟨B, 0, none⟩ = some x0 ∧ w0.cell? ⟨B, 1, none⟩ = some x1 ∧ w0.cell? ⟨B, 2, none⟩ = some x2 ∧ w0.cell? ⟨B, 3, none⟩ = some x3 ∧ w0.cell? ⟨B, 4, none⟩ = some x4 ∧ w0.cell? ⟨B, 5, none⟩ = some x5 ∧ w0.cell? ⟨B, 6, none⟩ = some x6 ∧ w0.cell? ⟨B, 7, none⟩ = some x7) : W1.heap.size ≤ w0.heap.size := h.1.size
theorem endSlots_any (n : Int) (w : World) :
    Calls Tryz.prog 43 #[.int .i64 n] w fun e w' => e = .returned (.slice none 0 0) ∧ w' = w := by
  go_enter Tryz.func43, Tryz.ntmps43
  go_wp2
  go_ret
  exact ⟨rfl, rfl⟩
theorem infoRowS : (Tryz.prog.info? 111).map (fun i => (i.zero, i.size, i.bytes)) = some (some (.agg #[.string ⟨#[]⟩, .slice none 0 0]), 2, 40) := by kernel_rfl
theorem ownV_grow {W W' : World} {base base' m : Nat} {x : VK} {u : Value} {ys : List Value} (h : OwnV W base x) (ht : W.ownsRow base' 111 2 u m ys) (hg : W.grownBy W' u.ownBlock) : OwnV W' base x := by
  refine World.ownsRow.kept h hg ?_
  rcases h.2 with ⟨h0, _⟩ | ⟨g, cap, cur, hv, _, hh, _⟩
  · left; rw [h0]; rfl
  · right
    rw [hv]
    rcases ht.2 with ⟨k0, _⟩ | ⟨g', cap', cur', kv, _, kh, _⟩
    · rw [k0]; simp [Value.ownBlock]
    · rw [kv]
      intro e
      obtain rfl : g = g' := by simpa [Value.ownBlock] using e
      rw [hh] at kh
      have := Option.some.inj kh
      injection this with _ h2
      exact absurd h2 (by decide)
theorem kind_of_recB {ps : List Ph} (hok : recB ps = true) (p : Ph) (hp : p ∈ ps) : 1 ≤ p.k ∧ p.k ≤ 5 := by
  obtain ⟨_, _, ha⟩ := (recB_iff ps).1 hok
  obtain ⟨i, hi, rfl⟩ := List.getElem_of_mem hp
  have hs := ha i ps[i] hi (by simp [hi])
  simp only [stepI, Bool.and_eq_true, Ph.okB, phaseB] at hs
  have h := hs.1.1.1.1.1.2
  unfold argsB at h
  split at h
  · omega
  · split at h
    · omega
    · split at h
      · omega
      · split at h
        · rename_i h4; rcases h4 with h4 | h4 <;> omega
        · cases h
def endsS : List (ByteArray × VK) := [(good, nilR), (saved, nilR), (scrapped, nilR)]
theorem ends_plain : plainR endsS = fill feK fpK [] [] := rfl

set_option maxRecDepth 20000 in
set_option maxHeartbeats 4000000 in
theorem fillS_any (ps : List Ph) (b o c : Nat) (w : World) (hE : Ends w) (hr : RecAt w b o ps) (hb : b < w.heap.size) (hok : recB ps = true) :
    Calls Tryz.prog 42 #[.slice (some ⟨b, o, none⟩) ps.length c, .func (.func 43) #[] #[], .func (.func 44) #[] #[]] w
      fun e w' => (∃ g cap rs, e = .returned (.slice (some ⟨g, 0, none⟩) rs.length cap) ∧ plainR rs = fill feK fpK [] ps ∧ TabS w' w.heap.size g rs) ∧ Below w.heap.size w w' := by
  have HE : Hid (Ends w) := hE
  obtain ⟨g0, g1, g2, _⟩ := hE
  have i0 : ∀ w, (Instr.index 109 (.agg #[.string ⟨#[103, 111, 111, 100]⟩, .string ⟨#[115, 97, 118, 101, 100]⟩, .string ⟨#[115, 99, 114, 97, 112, 112, 101, 100]⟩]) (.int .i64 0)).run Tryz.prog w = .ok (.string ⟨#[103, 111, 111, 100]⟩) w := fun _ => by kernel_rfl
  have i1 : ∀ w, (Instr.index 109 (.agg #[.string ⟨#[103, 111, 111, 100]⟩, .string ⟨#[115, 97, 118, 101, 100]⟩, .string ⟨#[115, 99, 114, 97, 112, 112, 101, 100]⟩]) (.int .i64 1)).run Tryz.prog w = .ok (.string ⟨#[115, 97, 118, 101, 100]⟩) w := fun _ => by kernel_rfl
  have i2 : ∀ w, (Instr.index 109 (.agg #[.string ⟨#[103, 111, 111, 100]⟩, .string ⟨#[115, 97, 118, 101, 100]⟩, .string ⟨#[115, 99, 114, 97, 112, 112, 101, 100]⟩]) (.int .i64 2)).run Tryz.prog w = .ok (.string ⟨#[115, 99, 114, 97, 112, 112, 101, 100]⟩) w := fun _ => by kernel_rfl
  go_enter Tryz.func42, Tryz.ntmps42
  obtain ⟨ii, hi, hz0, hz1, hz2⟩ := info_parts infoRowS
  go_wp2_with fail
  go_loopw [7, 14] (fun v i w' => ∃ (k : Nat) (j : Int), k ≤ 3 ∧ j = k ∧ i = .int .i64 j ∧ w'.ownsRow w.heap.size 111 2 v (endsS.take k).length (rowSS (endsS.take k)) ∧ Below w.heap.size w w') (fun _ i _ => 3 - (intOf i).toNat)
  case atStart => exact ⟨0, 0, by omega, by omega, rfl, World.ownsRow_nil _ _ _ _, Below.refl _ _⟩
  case round =>
    obtain ⟨k, j, hk, hj, rfl, hown, hB⟩ := hrel
    obtain rfl | rfl | rfl | rfl : k = 0 ∨ k = 1 ∨ k = 2 ∨ k = 3 := by omega
    · obtain rfl : j = 0 := by omega
      clear hj
      go_wp2_with (first | (go_at_call 63; refine (recEnd_any _ _ (HE.out.up hB)).mono ?_; rintro e w' ⟨rfl, hw⟩; obtain rfl := hw.symm; clear hw) | (go_at_call 43; refine (endSlots_any _ _).mono ?_; rintro e w' ⟨rfl, hw⟩; obtain rfl := hw.symm; clear hw) | (at_builtin; refine wpList_append_own _ rfl _ _ 72 rfl w.heap.size 111 ii _ 2 40 Tryz.underlying72 hi hz0 hz1 hz2 rfl (by decide) _ _ _ rfl (hown.alloc _) ⟨wr.heap.size, 0, none⟩ 1 1 [.string ⟨#[103, 111, 111, 100]⟩, .slice none 0 0] rfl rfl (fun j u hj => new2 _ _ _ _ hj) (fun u hu => one2 rfl hu) (by simp [maxLen, endsS]) (by simp [endsS]) (by have := hB.size; simp; omega) ?_))
      intro v' w1 hown' hgrow _
      have hB1 : Below w.heap.size w w1 := (hB.alloc hB.size _).grown hgrow (by have := hB.size; simp; omega) (fun k hk => (hown.lt k hk).1)
      clear hgrow hown hB
      go_wp2_with fail
      go_roundw
      case rel => exact ⟨1, 1, by omega, by omega, rfl, by simpa [endsS, rowSS, nilR, good, saved, scrapped] using hown', hB1⟩
      case measure => simp [intOf]
    · obtain rfl : j = 1 := by omega
      clear hj
      go_wp2_with (first | (go_at_call 63; refine (recEnd_any _ _ (HE.out.up hB)).mono ?_; rintro e w' ⟨rfl, hw⟩; obtain rfl := hw.symm; clear hw) | (go_at_call 43; refine (endSlots_any _ _).mono ?_; rintro e w' ⟨rfl, hw⟩; obtain rfl := hw.symm; clear hw) | (at_builtin; refine wpList_append_own _ rfl _ _ 72 rfl w.heap.size 111 ii _ 2 40 Tryz.underlying72 hi hz0 hz1 hz2 rfl (by decide) _ _ _ rfl (hown.alloc _) ⟨wr.heap.size, 0, none⟩ 1 1 [.string ⟨#[115, 97, 118, 101, 100]⟩, .slice none 0 0] rfl rfl (fun j u hj => new2 _ _ _ _ hj) (fun u hu => one2 rfl hu) (by simp [maxLen, endsS]) (by simp [endsS]) (by have := hB.size; simp; omega) ?_))
      intro v' w1 hown' hgrow _
      have hB1 : Below w.heap.size w w1 := (hB.alloc hB.size _).grown hgrow (by have := hB.size; simp; omega) (fun k hk => (hown.lt k hk).1)
      clear hgrow hown hB
      go_wp2_with fail
      go_roundw
      case rel => exact ⟨2, 2, by omega, by omega, rfl, by simpa [endsS, rowSS, nilR, good, saved, scrapped] using hown', hB1⟩
      case measure => simp [intOf]
    · obtain rfl : j = 2 := by omega
      clear hj
      go_wp2_with (first | (go_at_call 63; refine (recEnd_any _ _ (HE.out.up hB)).mono ?_; rintro e w' ⟨rfl, hw⟩; obtain rfl := hw.symm; clear hw) | (go_at_call 43; refine (endSlots_any _ _).mono ?_; rintro e w' ⟨rfl, hw⟩; obtain rfl := hw.symm; clear hw) | (at_builtin; refine wpList_append_own _ rfl _ _ 72 rfl w.heap.size 111 ii _ 2 40 Tryz.underlying72 hi hz0 hz1 hz2 rfl (by decide) _ _ _ rfl (hown.alloc _) ⟨wr.heap.size, 0, none⟩ 1 1 [.string ⟨#[115, 99, 114, 97, 112, 112, 101, 100]⟩, .slice none 0 0] rfl rfl (fun j u hj => new2 _ _ _ _ hj) (fun u hu => one2 rfl hu) (by simp [maxLen, endsS]) (by simp [endsS]) (by have := hB.size; simp; omega) ?_))
      intro v' w1 hown' hgrow _
      have hB1 : Below w.heap.size w w1 := (hB.alloc hB.size _).grown hgrow (by have := hB.size; simp; omega) (fun k hk => (hown.lt k hk).1)
      clear hgrow hown hB
      go_wp2_with fail
      go_roundw
      case rel => exact ⟨3, 3, by omega, by omega, rfl, by simpa [endsS, rowSS, nilR, good, saved, scrapped] using hown', hB1⟩
      case measure => simp [intOf]
    · obtain rfl : j = 3 := by omega
      clear i0 i1 i2 g0 g1 g2 hj
      have h12 : ps.length ≤ 12 := ((recB_iff ps).1 hok).2.1
      have hown : wr.ownsRow w.heap.size 111 2 u7 endsS.length (rowSS endsS) := hown
      have hends : ∀ r ∈ endsS, OwnV wr w.heap.size r.2 := by
        intro r hr
        simp only [endsS, List.mem_cons, List.not_mem_nil, or_false] at hr
        rcases hr with rfl | rfl | rfl <;> exact ownV_nil _ _
      go_wp2_with fail
      go_loopw [7, 10] (fun v i w' => ∃ (k : Nat) (rs : List (ByteArray × VK)), k ≤ ps.length ∧ i = .int .i64 ((k : Int) - 1) ∧ plainR rs = fill feK fpK [] (ps.drop k) ∧ w'.ownsRow w.heap.size 111 2 v rs.length (rowSS rs) ∧ (∀ r ∈ rs, OwnV w' w.heap.size r.2) ∧ Below w.heap.size w w') (fun _ i _ => (intOf i + 1).toNat)
      case atStart => exact ⟨ps.length, endsS, Nat.le_refl _, rfl, by rw [List.drop_length]; exact ends_plain, hown, hends, hB⟩
      case round =>
        clear hown hends hB
        obtain ⟨k, rs, hk2, rfl, hpl, hown2, hvs, hB2⟩ := hrel
        have hrl : rs.length = (ps.drop k).length + 3 := by
          have := congrArg List.length hpl
          rw [fill_len] at this
          simpa [plainR] using this
        obtain ⟨g, cap, rfl⟩ := own_ptr hown2 (by omega)
        have hT := TabS.of_own hown2 hvs
        cases k with
        | zero =>
          simp only [List.drop_zero] at hpl
          clear hrl
          go_wp2_with fail
          go_ret
          exact ⟨⟨g, cap, rs, rfl, hpl, hT⟩, hB2⟩
        | succ m =>
          have hm : m < ps.length := by omega
          obtain ⟨c0, c1, c2, c3, c4, c5, c6, c7⟩ := hr.cells m hm
          obtain ⟨hc, hf⟩ := bcell hB2
          have Hrl : Hid (rs.length = (ps.drop (m + 1)).length + 3) := hrl
          clear hrl
          go_wp2_with fail
          have hkk := kind_of_recB hok ps[m] (by simp)
          have hlk : ∀ nm, (look rs nm nilR).2 = slI (ps.drop (m + 1)) nm := fun nm => by
            rw [← look_plain, hpl, fill_look _ _ _ _ (dist_drop hok (m + 1))]; rfl
          have hll : ∀ nm, (namesOf (look rs nm nilR).2).length ≤ 24 := fun nm => by
            have := slots_len (ps.drop (m + 1)) nm
            rw [hlk, namesOf, List.length_map]
            rw [List.length_drop] at this
            omega
          have HF : Hid (fill feK fpK [] (ps.drop m) = plainR rs ++ [((ps[m]).nm, fpK ps[m] (look rs (ps[m]).t nilR).2 (look rs (ps[m]).e nilR).2)]) := by
            show _ = _
            rw [fill_drop feK fpK [] hm, ← hpl, look_plain, look_plain]
          generalize ps[m] = p at *
          have hS : ∃ W1, W1 = wr.alloc (.cells #[.string p.nm, .int .i64 p.k, .string p.a, .string p.b, .int .i64 p.n, .int .i64 p.wi, .string p.t, .string p.e] 34) := ⟨_, rfl⟩
          obtain ⟨W1, hW1⟩ := hS
          rw [← hW1]
          have hW2 : wr.heap.size < W1.heap.size := by rw [hW1]; simp
          have hS : Below W1.heap.size W1 W1 ∧ W1.cell? ⟨wr.heap.size, 0, none⟩ = some (.string p.nm) ∧ W1.cell? ⟨wr.heap.size, 1, none⟩ = some (.int .i64 p.k) ∧ W1.cell? ⟨wr.heap.size, 2, none⟩ = some (.string p.a) ∧ W1.cell? ⟨wr.heap.size, 3, none⟩ = some (.string p.b) ∧ W1.cell? ⟨wr.heap.size, 4, none⟩ = some (.int .i64 p.n) ∧ W1.cell? ⟨wr.heap.size, 5, none⟩ = some (.int .i64 p.wi) ∧ W1.cell? ⟨wr.heap.size, 6, none⟩ = some (.string p.t) ∧ W1.cell? ⟨wr.heap.size, 7, none⟩ = some (.string p.e) := by rw [hW1]; exact ⟨Below.refl _ _, by simp, by simp, by simp, by simp, by simp, by simp, by simp, by simp⟩
          have hup : Below wr.heap.size wr W1 := by rw [hW1]; exact (Below.refl _ _).alloc (Nat.le_refl _) _
          have hT1 := hT.up hup
          have Hown := own_up hown2 hup
          have hB3 := up_trans hB2 hup
          have hlen : rs.length ≤ 1048576 := by have := Hrl.out; rw [List.length_drop] at this; omega
          have hl1 := hll p.t
          have hl2 := hll p.e
          clear hW1 c0 c1 c2 c3 c4 c5 c6 c7 hc hf hT hown2 hup hown hvs hlk hll hpl
          go_region_held (fun w' => Below W1.heap.size W1 w' ∧ w'.cell? ⟨wr.heap.size, 0, none⟩ = some (.string p.nm) ∧ w'.cell? ⟨wr.heap.size, 1, none⟩ = some (.int .i64 p.k) ∧ w'.cell? ⟨wr.heap.size, 2, none⟩ = some (.string p.a) ∧ w'.cell? ⟨wr.heap.size, 3, none⟩ = some (.string p.b) ∧ w'.cell? ⟨wr.heap.size, 4, none⟩ = some (.int .i64 p.n) ∧ w'.cell? ⟨wr.heap.size, 5, none⟩ = some (.int .i64 p.wi) ∧ w'.cell? ⟨wr.heap.size, 6, none⟩ = some (.string p.t) ∧ w'.cell? ⟨wr.heap.size, 7, none⟩ = some (.string p.e)) (first | exact held_drew hS | exact held_up hW2 (by assumption) (by assumption))
            (first
              | (go_at_call 45; refine (ofS_any rs w.heap.size g _ _ _ (hT1.up (And.left (by assumption))) hlen).mono ?_; rintro e w1 ⟨rfl, hb1⟩)
              | (go_at_call 44; have hszz := size_held (by assumption); refine (slotsFrom_any p (namesOf (look rs p.t nilR).2) (namesOf (look rs p.e nilR).2) _ _ _ hkk ((hT1.up (And.left (by assumption))).look _).lst ((hT1.up (And.left (by assumption))).look _).lst (by omega)).mono ?_; rintro e w3 ⟨⟨u, rfl, hou⟩, hb3⟩; rw [keys_names, keys_names] at hou; obtain ⟨a9, n9, c9, hu9⟩ := OwnV.shape (x := (u, _)) hou; subst hu9))
          rename_i hHeld
          obtain ⟨hU, e0, -⟩ := hHeld
          have hown3 := own_up Hown hU
          have hB4 := up_trans hB3 hU
          have hT3 := hT1.up hU
          have hx : OwnV w3 w.heap.size (.slice a9 n9 c9, fpK p (look rs p.t nilR).2 (look rs p.e nilR).2) := own_low hou (by have := hB3.size; omega)
          have hal : Below w3.heap.size w3 (w3.alloc (.cells #[.string p.nm, .slice a9 n9 c9] 111)) := (Below.refl _ _).alloc (Nat.le_refl _) _
          have hx1 := hx.up hal
          have hT4 := hT3.up hal
          have Hrl' : rs.length ≤ 16 := by have := Hrl.out; rw [List.length_drop] at this; omega
          clear hS hT1 Hown hU hB3 hou hT3 hx hal hb1 hb3
          go_wp2_with (at_builtin; refine wpList_append_own _ rfl _ _ 72 rfl w.heap.size 111 ii _ 2 40 Tryz.underlying72 hi hz0 hz1 hz2 rfl (by decide) _ _ _ rfl (hown3.alloc _) ⟨w3.heap.size, 0, none⟩ 1 1 [.string p.nm, .slice a9 n9 c9] rfl rfl (fun j u hj => new2 _ _ _ _ hj) (fun u hu => one2 rfl hu) (by simp only [maxLen]; omega) (by omega) (by have := hB4.size; simp; omega) ?_)
          intro v' w5 hown' hgrow _
          have hB5 : Below w.heap.size w w5 := (hB4.alloc hB4.size _).grown hgrow (by have := hB4.size; simp; omega) (fun k hk => (hown3.lt k hk).1)
          have hvs' : ∀ r ∈ rs ++ [(p.nm, ((.slice a9 n9 c9, fpK p (look rs p.t nilR).2 (look rs p.e nilR).2) : VK))], OwnV w5 w.heap.size r.2 := by
            intro r hr
            rcases List.mem_append.1 hr with hr | hr
            · exact ownV_grow (hT4.2.2 r hr) (hown3.alloc _) hgrow
            · simp only [List.mem_singleton] at hr
              subst hr
              exact ownV_grow hx1 (hown3.alloc _) hgrow
          clear hgrow hown3 hB4 hT4 hx1
          go_wp2_with fail
          go_roundw
          case rel => exact ⟨m, rs ++ [(p.nm, ((.slice a9 n9 c9, fpK p (look rs p.t nilR).2 (look rs p.e nilR).2) : VK))], by omega, by go_num, by rw [HF.out]; simp [plainR], by rw [rowSS_append, List.length_append]; exact hown', hvs', hB5⟩
          case measure => simp [intOf]
end Go.Proofs.YtliebjbbomghiaaGreatDoor
