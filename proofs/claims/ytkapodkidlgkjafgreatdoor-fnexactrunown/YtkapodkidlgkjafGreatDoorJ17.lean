/- The program's slots of a phase and of what may come behind it. -/
import Derived.Test.YtkapodkidlgkjafGreatDoorSq2
import Derived.Sort.OwnSorted
import Derived.Sort.Grow
import Derived.Lib.OwnBridge
import Derived.Test.YtkapodkidlgkjafGreatDoorJ0
import Derived.Test.YtkapodkidlgkjafGreatDoorPr
import Derived.Test.YtkapodkidlgkjafGreatDoorWa
namespace Go.Proofs.YtkapodkidlgkjafGreatDoor
open Go.RowKit Go.Shelf Go.Sort

theorem str_enc (s : ByteArray) : Value.string s = encStr s.toList := by
  unfold encStr
  rw [Go.ByteArray.toList_eq]
theorem strs_enc (ss : List ByteArray) : ss.map Value.string = (keys ss).map encStr := by
  rw [keys, List.map_map]
  exact List.map_congr_left fun s _ => str_enc s
/-- Lists of bytes as names. -/
def namesOf (ks : List Key) : List ByteArray := ks.map fun l => ⟨l.toArray⟩
theorem keys_names (ks : List Key) : keys (namesOf ks) = ks := by
  rw [keys, namesOf, List.map_map]
  have : ((fun s : ByteArray => s.toList) ∘ fun l : Key => (⟨l.toArray⟩ : ByteArray)) = id := by
    funext l; exact toList_lit l
  rw [this, List.map_id]
theorem names_enc (ks : List Key) : ks.map encStr = (namesOf ks).map Value.string := by rw [strs_enc, keys_names]

theorem left_of {w w1 : World} {g cap n nn q : Nat} {os : Array Obj} {ss : List Key} (hown : w1.ownsRow w.heap.size 9 1 (.slice (some ⟨g, 0, none⟩) n cap) n (ss.map encStr)) (hbel : Below w.heap.size w w1) (hbg : w.heap.size ≤ g) (hlen : ss.length = n) :
    (putRow encStr (Sort.ahead (grow (putRow encStr (Sort.ahead w1 nn) g 0 (ss.mergeSort fun x y => decide (x ≤ y)).toArray) os) q) g 0 (Lib.compact (ss.mergeSort fun x y => decide (x ≤ y)) ++ List.replicate (n - (Lib.compact (ss.mergeSort fun x y => decide (x ≤ y))).length) []).toArray).ownsRow w.heap.size 9 1 (.slice (some ⟨g, 0, none⟩) (uniq ss).length cap) (uniq ss).length ((uniq ss).map encStr) ∧
      Below w.heap.size w (putRow encStr (Sort.ahead (grow (putRow encStr (Sort.ahead w1 nn) g 0 (ss.mergeSort fun x y => decide (x ≤ y)).toArray) os) q) g 0 (Lib.compact (ss.mergeSort fun x y => decide (x ≤ y)) ++ List.replicate (n - (Lib.compact (ss.mergeSort fun x y => decide (x ≤ y))).length) []).toArray) := by
  have hl2 : (ss.mergeSort fun x y => decide (x ≤ y)).length = ss.length := List.length_mergeSort ss
  have hle := Lib.compact_length_le (ss.mergeSort fun x y => decide (x ≤ y))
  subst hlen
  rcases hown.2 with ⟨h0, _⟩ | ⟨g', cap', cur, hv, hbase, hb, h1, h2, h3, h4⟩
  · cases h0
  cases hv
  have hs := ownsRow_sorted (n := nn) (os := os) (ts := ss.mergeSort fun x y => decide (x ≤ y)) hl2 hbase hb h1 h2 h3
  have hc := Lib.ownsRow_putRow (q := q) (k := (Lib.compact (ss.mergeSort fun x y => decide (x ≤ y))).length) (ys := Lib.compact (ss.mergeSort fun x y => decide (x ≤ y)) ++ List.replicate (ss.length - (Lib.compact (ss.mergeSort fun x y => decide (x ≤ y))).length) []) hs (by simp; omega) (by omega)
  rw [List.take_left] at hc
  exact ⟨hc, Lib.below_putRow (hbel.grown (grownBy_sorted _) hbel.size (fun j hj => by cases hj; exact hbase)) hbg⟩

set_option maxRecDepth 20000 in
set_option maxHeartbeats 4000000 in
theorem slotsFrom_any (p : Ph) (s2 s3 : List ByteArray) (v2 v3 : Value) (w : World) (hk : 1 ≤ p.k ∧ p.k ≤ 5) (h2 : Lst w v2 s2) (h3 : Lst w v3 s3) (hn : s2.length + s3.length ≤ 800) :
    Calls Tryz.prog 186 #[.agg #[.string p.nm, .int .i64 p.k, .string p.a, .string p.b, .int .i64 p.n, .int .i64 p.wi, .string p.t, .string p.e], v2, v3] w
      fun e w' => (∃ u, e = .returned u ∧ w'.ownsRow w.heap.size 9 1 u (fpK p (keys s2) (keys s3)).length ((namesOf (fpK p (keys s2) (keys s3))).map Value.string)) ∧ Below w.heap.size w w' := by
  have hBx : Below w.heap.size w (w.alloc (.cells #[.string p.nm, .int .i64 p.k, .string p.a, .string p.b, .int .i64 p.n, .int .i64 p.wi, .string p.t, .string p.e] 75)) := (Below.refl _ _).alloc (Nat.le_refl _) _
  obtain ⟨a2, c2, rfl⟩ := h2.shape
  obtain ⟨a3, c3, rfl⟩ := h3.shape
  go_enter Tryz.func186, Tryz.ntmps186
  go_wp2_with fail
  refine (phSlots_any p _ hk).mono ?_
  rintro e w1 ⟨⟨u1, rfl, hT1⟩, hb1⟩
  have hB1 := up_trans hBx hb1
  obtain ⟨a1, c1, rfl⟩ := Lst.shape (.inr hT1)
  have hal : RowKit.Below w1.heap.size w1 (w1.alloc (.cells #[.slice a1 (ownB p).length c1, .slice a2 s2.length c2, .slice a3 s3.length c3] 27)) := (RowKit.Below.refl _ _).alloc (Nat.le_refl _) _
  have hB1a := up_trans hB1 hal
  have hpos : 0 < (ownB p).length := by unfold ownB; split <;> simp
  have hlo : (ownB p).length ≤ 2 := by unfold ownB; split <;> simp
  go_wp2_with fail
  refine (concat_any (ownB p) s2 s3 _ _ _ w1.heap.size _ (hT1.up hal) (h2.up hB1a) (h3.up hB1a) (by simp) (by simp) (by simp) (by simp) hpos (by omega)).mono ?_
  rintro e w2 ⟨⟨u2, rfl, hown2⟩, hb2⟩
  have hB2 := up_trans hB1a hb2
  have hown2 := own_low hown2 hB1a.size
  rw [strs_enc] at hown2
  obtain ⟨n, hN⟩ : ∃ n, n = (ownB p ++ s2 ++ s3).length := ⟨_, rfl⟩
  have hlen : (keys (ownB p ++ s2 ++ s3)).length = n := by rw [hN]; simp [keys]
  rw [← hN] at hown2
  have hnp : 0 < n := by rw [hN]; simp; omega
  have hn9 : n ≤ 900 := by rw [hN]; simp; omega
  have HK : Hid (uniq (keys (ownB p ++ s2 ++ s3)) = fpK p (keys s2) (keys s3)) := by
    show _ = _
    rw [fpK, ← own_keys]; simp [keys]
  generalize keys (ownB p ++ s2 ++ s3) = ks at *
  clear hN hT1 h2 h3 hb1 hb2 hal hB1 hB1a hBx hpos hlo hn
  obtain ⟨g, cap, rfl⟩ := own_ptr2 hown2 hnp
  obtain ⟨g', cap', hv, hbg, hgl, hncap, hcm, _, hH⟩ := Lib.holds_of_ownsRow hown2 (by simp)
  cases hv
  unfold maxLen at hcm
  have hsort := Tryz.slices_Sort_string g 0 cap ks w2 hH hgl (by omega)
  rw [hlen] at hsort
  go_wp2_with fail
  refine hsort.mono ?_
  rintro e w3 ⟨rfl, nn, os, rfl⟩
  clear hsort
  have hl2 : (ks.mergeSort fun x y => decide (x ≤ y)).length = n := by rw [List.length_mergeSort]; exact hlen
  have hH2 : Holds encStr (grow (putRow encStr (Sort.ahead w2 nn) g 0 (ks.mergeSort fun x y => decide (x ≤ y)).toArray) os) g 0 (ks.mergeSort fun x y => decide (x ≤ y)).toArray :=
    holds_grow encStr _ os g 0 _ (by simpa [putRow, mapBlock, Sort.ahead] using hgl) (holds_putRow encStr _ g 0 _ _ (holds_ahead encStr w2 nn g 0 _ hH) (by simp))
  have hcomp := Tryz.slices_Compact_string g 0 cap (ks.mergeSort fun x y => decide (x ≤ y)) _ hH2 (by omega) (by omega)
  rw [hl2] at hcomp
  clear hH2 hH
  go_wp2_with fail
  refine hcomp.mono ?_
  rintro e w4 ⟨rfl, q, rfl⟩
  obtain ⟨ho, hB⟩ := left_of (nn := nn) (q := q) (os := os) hown2 hB2 hbg hlen
  rw [HK.out, names_enc] at ho
  clear hcomp
  go_wp2_with fail
  go_ret
  refine ⟨⟨_, rfl, ?_⟩, hB⟩
  have := HK.out
  unfold uniq at this
  rw [this] at ho ⊢
  exact ho
end Go.Proofs.YtkapodkidlgkjafGreatDoor

/- Structs in blocks of their own: their cells, copied, kept, handed back. -/
namespace Go.Proofs.YtkapodkidlgkjafGreatDoor
open Go.RowKit

theorem sizeP : (Tryz.prog.info? 75).map (·.size) = some 8 := by kernel_rfl
end Go.Proofs.YtkapodkidlgkjafGreatDoor
