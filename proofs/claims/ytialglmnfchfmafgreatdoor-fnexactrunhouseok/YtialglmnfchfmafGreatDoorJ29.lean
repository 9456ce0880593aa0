/- slices.Sort at names, slices.Equal (the program's chapter 22). -/
import Derived.Test.YtialglmnfchfmafGreatDoorJ21
import Derived.Test.YtialglmnfchfmafGreatDoorJ8
import Derived.Shelf.Sort.AssemblysIn
import Derived.Sort.EveryDepth
import Derived.Test.YtialglmnfchfmafGreatDoorJ28
import Derived.Test.YtialglmnfchfmafGreatDoorJ22
import Derived.Test.YtialglmnfchfmafGreatDoorJ2
import Derived.Test.YtialglmnfchfmafGreatDoorJ0
namespace Go.Proofs.YtialglmnfchfmafGreatDoor
open Go.RowKit Go.Shelf

set_option maxHeartbeats 2000000 in
theorem equalN_at (sa sb : List ByteArray) (n m : Nat) (a1 a2 : Option Addr) (c1 c2 : Nat) (w : World) (Hn : Hid (sa.length = n)) (Hm : Hid (sb.length = m)) (hn9 : n ≤ maxLen) (hpa : 0 < n → ∃ b o, a1 = some ⟨b, o, none⟩ ∧ StrsAt w b o sa ∧ b < w.heap.size) (hpb : 0 < m → ∃ b o, a2 = some ⟨b, o, none⟩ ∧ StrsAt w b o sb ∧ b < w.heap.size) :
    Calls Tryz.prog 96 #[.slice a1 n c1, .slice a2 m c2] w fun e w' => e = .returned (.bool (pB (sa = sb))) ∧ Below w.heap.size w w' := by
  unfold maxLen at hn9
  by_cases hll : n = m
  case neg =>
    have HN : Hid (pB (sa = sb) = false) := pB_no fun e => hll (by rw [← Hn.out, ← Hm.out, e])
    go_enter Tryz.func96, Tryz.ntmps96
    go_wp2_with fail
    go_ret
    exact ⟨ret_bool HN.out.symm, Below.refl _ _⟩
  subst hll
  go_enter Tryz.func96, Tryz.ntmps96
  go_wp2_with fail
  go_loopw [5, 13] (fun _ i w' => ∃ k : Nat, k ≤ n ∧ i = .int .i64 k ∧ (∀ i, i < k → sa[i]? = sb[i]?) ∧ Below w.heap.size w w') (fun _ i _ => n - (intOf i).toNat)
  case atStart => exact ⟨0, by omega, rfl, fun i hi => by omega, Below.refl _ _⟩
  case round =>
    obtain ⟨k, hk, rfl, hal, hB⟩ := hrel
    have Hal : Hid (∀ i, i < k → sa[i]? = sb[i]?) := hal
    clear hal
    by_cases hp : k < n
    · obtain ⟨b1, o1, rfl, hS1, hb1⟩ := hpa (by omega)
      obtain ⟨b2, o2, rfl, hS2, hb2⟩ := hpb (by omega)
      have h1 : k < sa.length := by have := Hn.out; omega
      have h2 : k < sb.length := by have := Hm.out; omega
      have e1 := (hB.cell (p := ⟨b1, o1 + k, none⟩) hb1).trans (hS1 k sa[k] (List.getElem?_eq_getElem h1))
      have e2 := (hB.cell (p := ⟨b2, o2 + k, none⟩) hb2).trans (hS2 k sb[k] (List.getElem?_eq_getElem h2))
      have N1 : Hid (((sa[k]).toList == (sb[k]).toList) = false → ¬ sa = sb) := fun hq e => by
        subst e; simp at hq
      have N2 : Hid (((sa[k]).toList == (sb[k]).toList) = true → ∀ i, i < k + 1 → sa[i]? = sb[i]?) := fun hq i hi => by
        rcases Nat.lt_or_ge i k with h' | h'
        · exact Hal.out i h'
        · obtain rfl : i = k := by omega
          have e : sa[i] = sb[i] := toL_eq (by simpa using hq)
          rw [List.getElem?_eq_getElem h1, List.getElem?_eq_getElem h2, e]
      generalize sa[k] = s1 at *
      generalize sb[k] = s2 at *
      clear hS1 hS2
      cases hq : (s1.toList == s2.toList)
      · have HN : Hid (pB (sa = sb) = false) := pB_no (N1.out hq)
        go_wp2_with fail
        go_quiet (fail)
        go_wp2_with fail
        go_ret
        exact ⟨ret_bool HN.out.symm, below_drewN hB _⟩
      · have HY : Hid (∀ i, i < k + 1 → sa[i]? = sb[i]?) := N2.out hq
        go_wp2_with fail
        go_quiet (fail)
        go_wp2_with fail
        go_roundw
        case rel => exact ⟨k + 1, by omega, by go_num, HY.out, below_drewN hB _⟩
        case measure => simp [intOf]; omega
    · have HY : Hid (pB (sa = sb) = true) := pB_yes (List.ext_getElem? fun i => by
        by_cases hi : i < k
        · exact Hal.out i hi
        · rw [List.getElem?_eq_none (by have := Hn.out; omega), List.getElem?_eq_none (by have := Hm.out; omega)])
      go_wp2_with fail
      go_ret
      exact ⟨ret_bool HY.out.symm, hB⟩
theorem equalN_any (sa sb : List ByteArray) (va vb : Value) (w : World) (ha : Ls w va sa) (hb : Ls w vb sb) :
    Calls Tryz.prog 96 #[va, vb] w fun e w' => e = .returned (.bool (pB (sa = sb))) ∧ Below w.heap.size w w' := by
  obtain ⟨a1, c1, rfl, hn1, -, hp1⟩ := ha
  obtain ⟨a2, c2, rfl, -, -, hp2⟩ := hb
  exact equalN_at sa sb _ _ a1 a2 c1 c2 w rfl rfl hn1 hp1 hp2
set_option maxHeartbeats 2000000 in
theorem equalS_at (sa sb : List ByteArray) (n m : Nat) (a1 a2 : Option Addr) (c1 c2 : Nat) (w : World) (Hn : Hid (sa.length = n)) (Hm : Hid (sb.length = m)) (hn9 : n ≤ maxLen) (hpa : 0 < n → ∃ b o, a1 = some ⟨b, o, none⟩ ∧ StrsAt w b o sa ∧ b < w.heap.size) (hpb : 0 < m → ∃ b o, a2 = some ⟨b, o, none⟩ ∧ StrsAt w b o sb ∧ b < w.heap.size) :
    Calls Tryz.prog 98 #[.slice a1 n c1, .slice a2 m c2] w fun e w' => e = .returned (.bool (pB (sa = sb))) ∧ Below w.heap.size w w' := by
  unfold maxLen at hn9
  by_cases hll : n = m
  case neg =>
    have HN : Hid (pB (sa = sb) = false) := pB_no fun e => hll (by rw [← Hn.out, ← Hm.out, e])
    go_enter Tryz.func98, Tryz.ntmps98
    go_wp2_with fail
    go_ret
    exact ⟨ret_bool HN.out.symm, Below.refl _ _⟩
  subst hll
  go_enter Tryz.func98, Tryz.ntmps98
  go_wp2_with fail
  go_loopw [5, 13] (fun _ i w' => ∃ k : Nat, k ≤ n ∧ i = .int .i64 k ∧ (∀ i, i < k → sa[i]? = sb[i]?) ∧ Below w.heap.size w w') (fun _ i _ => n - (intOf i).toNat)
  case atStart => exact ⟨0, by omega, rfl, fun i hi => by omega, Below.refl _ _⟩
  case round =>
    obtain ⟨k, hk, rfl, hal, hB⟩ := hrel
    have Hal : Hid (∀ i, i < k → sa[i]? = sb[i]?) := hal
    clear hal
    by_cases hp : k < n
    · obtain ⟨b1, o1, rfl, hS1, hb1⟩ := hpa (by omega)
      obtain ⟨b2, o2, rfl, hS2, hb2⟩ := hpb (by omega)
      have h1 : k < sa.length := by have := Hn.out; omega
      have h2 : k < sb.length := by have := Hm.out; omega
      have e1 := (hB.cell (p := ⟨b1, o1 + k, none⟩) hb1).trans (hS1 k sa[k] (List.getElem?_eq_getElem h1))
      have e2 := (hB.cell (p := ⟨b2, o2 + k, none⟩) hb2).trans (hS2 k sb[k] (List.getElem?_eq_getElem h2))
      have N1 : Hid (((sa[k]).toList == (sb[k]).toList) = false → ¬ sa = sb) := fun hq e => by
        subst e; simp at hq
      have N2 : Hid (((sa[k]).toList == (sb[k]).toList) = true → ∀ i, i < k + 1 → sa[i]? = sb[i]?) := fun hq i hi => by
        rcases Nat.lt_or_ge i k with h' | h'
        · exact Hal.out i h'
        · obtain rfl : i = k := by omega
          have e : sa[i] = sb[i] := toL_eq (by simpa using hq)
          rw [List.getElem?_eq_getElem h1, List.getElem?_eq_getElem h2, e]
      generalize sa[k] = s1 at *
      generalize sb[k] = s2 at *
      clear hS1 hS2
      cases hq : (s1.toList == s2.toList)
      · have HN : Hid (pB (sa = sb) = false) := pB_no (N1.out hq)
        go_wp2_with fail
        go_quiet (fail)
        go_wp2_with fail
        go_ret
        exact ⟨ret_bool HN.out.symm, below_drewN hB _⟩
      · have HY : Hid (∀ i, i < k + 1 → sa[i]? = sb[i]?) := N2.out hq
        go_wp2_with fail
        go_quiet (fail)
        go_wp2_with fail
        go_roundw
        case rel => exact ⟨k + 1, by omega, by go_num, HY.out, below_drewN hB _⟩
        case measure => simp [intOf]; omega
    · have HY : Hid (pB (sa = sb) = true) := pB_yes (List.ext_getElem? fun i => by
        by_cases hi : i < k
        · exact Hal.out i hi
        · rw [List.getElem?_eq_none (by have := Hn.out; omega), List.getElem?_eq_none (by have := Hm.out; omega)])
      go_wp2_with fail
      go_ret
      exact ⟨ret_bool HY.out.symm, hB⟩
theorem equalS_any (sa sb : List ByteArray) (va vb : Value) (w : World) (ha : Ls w va sa) (hb : Ls w vb sb) :
    Calls Tryz.prog 98 #[va, vb] w fun e w' => e = .returned (.bool (pB (sa = sb))) ∧ Below w.heap.size w w' := by
  obtain ⟨a1, c1, rfl, hn1, -, hp1⟩ := ha
  obtain ⟨a2, c2, rfl, -, -, hp2⟩ := hb
  exact equalS_at sa sb _ _ a1 a2 c1 c2 w rfl rfl hn1 hp1 hp2

section
open Go.Sort
theorem lenN_any (n : Nat) (w : World) (hn : n < 4611686018427387904) : Calls Tryz.prog 115 #[.int .u64 (n : Int)] w fun e w' => e = .returned (.int .i64 (bitsLen n : Nat)) ∧ w' = w :=
  calls_of_every_depth fun D => Any.lenWalkInSAll (ρ := Tryz.lays190_ren) { Tryz.lays190 with } D n w hn
theorem pdqN_any (g cap : Nat) (ks : List Key) (w : World) (hH : Holds encStr w g 0 ks.toArray) (hg : g < w.heap.size) (hn : ks.length ≤ 1000) :
    Calls Tryz.prog 114 #[.slice (some ⟨g, 0, none⟩) ks.length cap, .int .i64 0, .int .i64 (ks.length : Nat), .int .i64 (bitsLen ks.length : Nat)] w fun e w' => e = .returned (.tuple #[]) ∧ ∃ n os, w' = grow (putRow encStr (Sort.ahead w n) g 0 (ks.mergeSort fun x y => decide (x ≤ y)).toArray) os := by
  have hk : bitsLen ks.length ≤ 62 := (bitsLen_le_iff ks.length 62).2 (by omega)
  have hdp := pdqDepth_le_59 ltStr ks.toArray 0 ks.length (bitsLen ks.length) true true (by omega)
  have h := calls_of_every_depth fun D => (Any.pdqWalkInStr (ρ := Tryz.lays190_ren) { Tryz.lays190 with } D) 65 g 0 cap 0 ks.length (bitsLen ks.length) ks.toArray w (by omega) hH hg (Nat.zero_le _) (by simp) (by simp; omega) (by omega) (Or.inl rfl)
  have e : Sort.pdq ltStr ks.toArray 0 ks.length (bitsLen ks.length) true true = (ks.mergeSort fun x y => decide (x ≤ y)).toArray := by
    rw [← Any.sort_str_eqD]; simp [Sort.sort]
  rw [e] at h
  have h3 : Calls Tryz.prog 114 _ _ _ := h
  simpa using h3
theorem sortN_any (g cap : Nat) (ks : List Key) (w : World) (hH : Holds encStr w g 0 ks.toArray) (hg : g < w.heap.size) (hn : ks.length ≤ 1000) :
    Calls Tryz.prog 95 #[.slice (some ⟨g, 0, none⟩) ks.length cap] w fun e w' => e = .returned (.tuple #[]) ∧ ∃ n os, w' = grow (putRow encStr (Sort.ahead w n) g 0 (ks.mergeSort fun x y => decide (x ≤ y)).toArray) os := by
  have HH : Hid (Holds encStr w g 0 ks.toArray) := hH
  clear hH
  go_enter Tryz.func95, Tryz.ntmps95
  go_wp2_with (first
    | (go_at_call 115; refine (lenN_any ks.length _ (by omega)).mono ?_; rintro e w' ⟨rfl, hw⟩; obtain rfl := hw.symm; clear hw)
    | (go_at_call 114; refine (pdqN_any g cap ks _ HH.out hg hn).mono ?_; rintro e w' ⟨rfl, n, os, rfl⟩))
  go_end0
  exact ⟨rfl, n, os, rfl⟩
theorem sortN_none (p : Option Addr) (cap : Nat) (w : World) :
    Calls Tryz.prog 95 #[.slice p 0 cap] w fun e w' => e = .returned (.tuple #[]) ∧ w' = w := by
  have hl := fun w => lenN_any 0 w (by omega)
  have e0 : bitsLen 0 = 0 := by decide
  rw [e0] at hl
  go_enter Tryz.func95, Tryz.ntmps95
  go_wp2_with (first
    | (go_at_call 115; refine (hl _).mono ?_; rintro e w' ⟨rfl, hw⟩; obtain rfl := hw.symm; clear hw)
    | (go_at_call 114; refine (calls_of_every_depth fun D => AnyS.pdqsort_string_none_in (ρ := Tryz.lays190_ren) { Tryz.lays190 with } D p cap w).mono ?_; rintro e w' ⟨rfl, hw⟩; obtain rfl := hw.symm; clear hw))
  go_end0
  exact ⟨rfl, rfl⟩
end
end Go.Proofs.YtialglmnfchfmafGreatDoor

/- The program's checks of names and of batches (chapter 22). -/
namespace Go.Proofs.YtialglmnfchfmafGreatDoor
open Go.RowKit

section
open Go.Shelf Go.Sort
theorem sorted_own {w w1 : World} {g cap n nn : Nat} {os : Array Obj} {ks : List Key} (hown : w1.ownsRow w.heap.size 9 1 (.slice (some ⟨g, 0, none⟩) n cap) n (ks.map encStr)) (hbel : RowKit.Below w.heap.size w w1) (hlen : ks.length = n) :
    (grow (putRow encStr (Sort.ahead w1 nn) g 0 (ks.mergeSort fun x y => decide (x ≤ y)).toArray) os).ownsRow w.heap.size 9 1 (.slice (some ⟨g, 0, none⟩) n cap) n ((ks.mergeSort fun x y => decide (x ≤ y)).map encStr) ∧
      RowKit.Below w.heap.size w (grow (putRow encStr (Sort.ahead w1 nn) g 0 (ks.mergeSort fun x y => decide (x ≤ y)).toArray) os) := by
  have hl2 : (ks.mergeSort fun x y => decide (x ≤ y)).length = ks.length := List.length_mergeSort ks
  subst hlen
  rcases hown.2 with ⟨h0, _⟩ | ⟨g', cap', cur, hv, hbase, hb, h1, h2, h3, h4⟩
  · cases h0
  cases hv
  exact ⟨ownsRow_sorted (n := nn) (os := os) (ts := ks.mergeSort fun x y => decide (x ≤ y)) hl2 hbase hb h1 h2 h3, hbel.grown (grownBy_sorted _) hbel.size (fun j hj => by cases hj; exact hbase)⟩
end
theorem rnms_snoc (bs : List Rb) (k : Nat) (hk : k < bs.length) : rnms (bs.take (k + 1)) = rnms (bs.take k) ++ [(bs[k]).nm] := by
  unfold rnms; rw [List.take_succ_eq_append_getElem hk, List.map_append]; rfl
theorem Rbs.inv {w : World} {v : Value} {bs : List Rb} (h : Rbs w v bs) {a : Option Addr} {n c : Nat} (e : v = .slice a n c) : bs.length ≤ maxLen ∧ (0 < bs.length → ∃ b o, a = some ⟨b, o, none⟩ ∧ RbsAt w b o bs ∧ b < w.heap.size) := by
  obtain ⟨a', c', e', h1, h2⟩ := h
  rw [e'] at e
  simp only [Value.slice.injEq] at e
  obtain ⟨rfl, -, -⟩ := e
  exact ⟨h1, h2⟩
theorem RbAt.open {w : World} {b o : Nat} {x : Rb} (h : RbAt w b o x) : ∃ p q c g r d, (w.cell? ⟨b, o, none⟩ = some (.string x.nm) ∧ w.cell? ⟨b, o + 1, none⟩ = some (.slice (some ⟨p, q, none⟩) x.ps.length c) ∧ w.cell? ⟨b, o + 2, none⟩ = some (.slice (some ⟨g, r, none⟩) x.sl.length d) ∧ w.cell? ⟨b, o + 3, none⟩ = some (.string x.ad) ∧ w.cell? ⟨b, o + 4, none⟩ = some (.int .i64 x.si) ∧ w.cell? ⟨b, o + 5, none⟩ = some (.int .i64 x.st)) ∧ RbV w x (.slice (some ⟨p, q, none⟩) x.ps.length c) (.slice (some ⟨g, r, none⟩) x.sl.length d) := by
  obtain ⟨rv, sv, hr, hv⟩ := h
  obtain ⟨p, q, c, rfl, -⟩ := hv.r
  obtain ⟨g, r, d, rfl, -⟩ := hv.s
  exact ⟨p, q, c, g, r, d, ⟨hr 0 _ rfl, hr 1 _ rfl, hr 2 _ rfl, hr 3 _ rfl, hr 4 _ rfl, hr 5 _ rfl⟩, hv⟩

set_option maxRecDepth 20000 in
set_option maxHeartbeats 4000000 in
theorem namesP_any (h : House) (tv bv xv dv : Value) (w : World) (H : HV w h tv bv xv dv) (hok : BookOk h.sh) :
    Calls Tryz.prog 54 #[.agg #[.int .i64 h.now, .int .i64 h.last, tv, bv, xv, dv]] w fun e w' => e = .returned (.bool (pB (NamesOk h))) ∧ Below w.heap.size w w' := by
  obtain ⟨a1, c1, a2, c2, a3, c3, a4, c4, rfl, rfl, rfl, rfl⟩ := H.shapes
  obtain ⟨-, hpos⟩ := H.x.inv rfl
  have hb5 : h.sh.bs.length ≤ 5 := hok.2.1
  have Ha : Hid (Asc (nms h.sh.bs)) := hok.2.2.2.1
  have HB := H.b
  clear H hok
  obtain ⟨ii, hi, iz0, iz1, iz2⟩ := info_parts infoStr
  have hB0 := (Below.refl w.heap.size w).alloc (Nat.le_refl _) (.cells #[.int .i64 h.now, .int .i64 h.last, .slice a1 h.sh.things.length c1, .slice a2 h.sh.bs.length c2, .slice a3 h.bs.length c3, .slice a4 h.ds.length c4] 54)
  have hC : CB (w.alloc (.cells #[.int .i64 h.now, .int .i64 h.last, .slice a1 h.sh.things.length c1, .slice a2 h.sh.bs.length c2, .slice a3 h.bs.length c3, .slice a4 h.ds.length c4] 54)) w.heap.size [.int .i64 h.now, .int .i64 h.last, .slice a1 h.sh.things.length c1, .slice a2 h.sh.bs.length c2, .slice a3 h.bs.length c3, .slice a4 h.ds.length c4] := cb_alloc w _ _
  go_enter Tryz.func54, Tryz.ntmps54
  go_upto_region 1 with fail
  generalize w.alloc (.cells #[.int .i64 h.now, .int .i64 h.last, .slice a1 h.sh.things.length c1, .slice a2 h.sh.bs.length c2, .slice a3 h.bs.length c3, .slice a4 h.ds.length c4] 54) = W1 at *
  have hlt := hC.2.2
  obtain ⟨d0, d1, d2, d3, d4, d5⟩ := hC.c6
  by_cases hll : h.bs.length = h.sh.bs.length
  case neg =>
    have HN : Hid (pB (NamesOk h) = false) := pB_no fun t => hll t.1
    go_wp2_with fail
    go_ret
    exact ⟨ret_bool HN.out.symm, hB0⟩
  have Hll : Hid (h.bs.length = h.sh.bs.length) := hll
  have hx5 : h.bs.length ≤ 5 := by omega
  go_upto_region 3 with fail
  clear hll
  go_wp2_with fail
  go_loopw [3, 5, 17] (fun u _ i w' => ∃ k : Nat, k ≤ h.bs.length ∧ i = .int .i64 k ∧ w'.ownsRow W1.heap.size 9 1 u k ((rnms (h.bs.take k)).map Value.string) ∧ Below W1.heap.size W1 w') (fun _ _ i _ => h.bs.length - (intOf i).toNat)
  case atStart => exact ⟨0, by omega, rfl, ⟨by simp [rnms], .inl ⟨rfl, rfl⟩⟩, Below.refl _ _⟩
  case round =>
    obtain ⟨k, hk, rfl, hown, hB⟩ := hrel
    clear d0 d1 d2 d3 d4 d5
    by_cases hp : k < h.bs.length
    · obtain ⟨b, o, ha3, hS, hb⟩ := hpos (by omega)
      subst ha3
      have hB01 := up_trans hB0 hB
      obtain ⟨p, q, c, g, r, d, ⟨e0, e1, e2, e3, e4, e5⟩, -⟩ := ((hS.at hp).up hB01 hb).open
      have Hs : Hid ((rnms (h.bs.take (k + 1))).map Value.string = (rnms (h.bs.take k)).map Value.string ++ [.string (h.bs[k]).nm]) := by
        show _ = _
        rw [rnms_snoc h.bs k hp, List.map_append]; rfl
      generalize h.bs[k] = x0 at *
      clear hS
      have hB1 := hB.alloc hB.size (.cells #[.string x0.nm, .slice (some ⟨p, q, none⟩) x0.ps.length c, .slice (some ⟨g, r, none⟩) x0.sl.length d, .string x0.ad, .int .i64 x0.si, .int .i64 x0.st] 32)
      have hown1 := own_up hown ((Below.refl wr.heap.size wr).alloc (Nat.le_refl _) (.cells #[.string x0.nm, .slice (some ⟨p, q, none⟩) x0.ps.length c, .slice (some ⟨g, r, none⟩) x0.sl.length d, .string x0.ad, .int .i64 x0.si, .int .i64 x0.st] 32))
      have hX : CB (wr.alloc (.cells #[.string x0.nm, .slice (some ⟨p, q, none⟩) x0.ps.length c, .slice (some ⟨g, r, none⟩) x0.sl.length d, .string x0.ad, .int .i64 x0.si, .int .i64 x0.st] 32)) wr.heap.size [.string x0.nm, .slice (some ⟨p, q, none⟩) x0.ps.length c, .slice (some ⟨g, r, none⟩) x0.sl.length d, .string x0.ad, .int .i64 x0.si, .int .i64 x0.st] := cb_alloc wr _ _
      have hz := hB.size
      go_upto_region 7 with fail
      generalize wr.alloc (.cells #[.string x0.nm, .slice (some ⟨p, q, none⟩) x0.ps.length c, .slice (some ⟨g, r, none⟩) x0.sl.length d, .string x0.ad, .int .i64 x0.si, .int .i64 x0.st] 32) = W2 at *
      obtain ⟨f0, -⟩ := hX.c6
      clear e0 e1 e2 e3 e4 e5 hown hB
      have hown2 := own_up hown1 ((Below.refl W2.heap.size W2).alloc (Nat.le_refl _) (.cells #[.string x0.nm] 9))
      have hB2 := hB1.alloc hB1.size (.cells #[.string x0.nm] 9)
      go_wp2_with (at_builtin; refine wpList_append_own _ rfl _ _ 136 rfl W1.heap.size 9 ii _ 1 16 Tryz.underlying136 hi iz0 iz1 iz2 rfl (by decide) _ _ _ rfl hown2 ⟨W2.heap.size, 0, none⟩ 1 1 [.string x0.nm] rfl rfl (one_new _ _ _) (oneV _) (by unfold maxLen; omega) (by omega) hB2.size ?_)
      intro v1 w1 hown3 hgrow3 _
      rw [← Hs.out] at hown3
      have hB3 := below_own hB2 hown2 hgrow3 (Nat.le_refl _)
      clear hown1 hown2 hgrow3 hB1 hB2 hX f0
      go_wp2_with fail
      go_roundw
      case rel => exact ⟨k + 1, by omega, by go_num, hown3, hB3⟩
      case measure => simp [intOf]; omega
    · have hkl : k = h.bs.length := by omega
      rw [hkl, List.take_length] at hown
      clear hkl
      have hB01 := up_trans hB0 hB
      have hz : ∀ s ∈ rnms h.bs, s.size ≤ maxLen := fun s hs => by
        obtain ⟨x, hx, rfl⟩ := List.mem_map.1 hs
        obtain ⟨i, hi, rfl⟩ := List.getElem_of_mem hx
        obtain ⟨b, o, rfl, hS, hb⟩ := hpos (by omega)
        obtain ⟨rv, sv, -, hv⟩ := hS.at hi
        exact hv.zn
      have HS := names_sorted (h := h) Ha.out Hll.out
      have Hsrt : Hid (sorted (keys (rnms h.bs)) = keys (nms h.sh.bs) ↔ NamesOk h) := HS
      have Hkl : Hid ((keys (rnms h.bs)).length = h.bs.length) := by show _ = _; simp [keys, rnms]
      have Hz : Hid (∀ s ∈ namesOf (sorted (keys (rnms h.bs))), s.size ≤ maxLen) := fun s hs => by
        have h1 : s.toList ∈ keys (namesOf (sorted (keys (rnms h.bs)))) := mem_keys.2 hs
        rw [keys_names] at h1
        have h2 : s.toList ∈ keys (rnms h.bs) := List.mem_mergeSort.1 h1
        exact hz s (mem_keys.1 h2)
      have Hfin : Hid (∀ W, Below W1.heap.size W1 W → ∀ u, Ls W u (namesOf (sorted (keys (rnms h.bs)))) → ∃ x, True) := fun _ _ _ _ => ⟨(), trivial⟩
      have Hans : Hid (pB (namesOf (sorted (keys (rnms h.bs))) = nms h.sh.bs) = pB (NamesOk h)) := by
        show _ = _
        rw [Bool.eq_iff_iff, pB_iff, pB_iff, ← Hsrt.out]
        constructor
        · intro e; rw [← e, keys_names]
        · intro e; rw [e]; exact names_keys _
      clear HS hz Hfin Hsrt
      rw [strs_enc] at hown
      obtain ⟨d0, d1, d2, d3, d4, d5⟩ := (hC.up hB hlt).c6
      by_cases h0 : h.bs.length = 0
      · rw [h0] at hown
        obtain ⟨ua, uc, hu⟩ := own_shape hown
        subst hu
        have HL : Hid (Ls wr (.slice ua 0 uc) (namesOf (sorted (keys (rnms h.bs))))) := by
          have e : h.bs = [] := List.length_eq_zero_iff.1 h0
          show Ls _ _ _
          rw [e]
          have e2 : namesOf (sorted (keys (rnms ([] : List Rb)))) = [] := by simp [rnms, keys, sorted, namesOf]
          rw [e2]
          exact Ls.nil _ _ _
        have H0 : Hid (h.bs.length = 0) := h0
        clear hown h0
        go_wp2_with fail
        refine (sortN_none _ _ _).mono ?_
        rintro e w' ⟨rfl, hw⟩; obtain rfl := hw.symm; clear hw
        go_wp2_with fail
        refine (batchNames_any h.sh.bs _ _ (HB.up hB01) (by omega)).mono ?_
        rintro e w3 ⟨⟨u3, rfl, -, hL3⟩, hB3⟩
        have hL4 := HL.out.up hB3
        clear d0 d1 d2 d3 d4 d5
        go_wp2_with fail
        refine (equalN_any _ _ _ _ _ hL4 hL3).mono ?_
        rintro e w4 ⟨rfl, hB4⟩
        have hB04 := up_trans (up_trans hB01 hB3) hB4
        go_wp2_with fail
        go_ret
        exact ⟨ret_bool Hans.out, hB04⟩
      · obtain ⟨n', hN⟩ : ∃ n, n = h.bs.length := ⟨_, rfl⟩
        have hlen : (keys (rnms h.bs)).length = n' := by rw [Hkl.out, hN]
        rw [← hN] at hown
        have hnp : 0 < n' := by omega
        have hn9 : n' ≤ 5 := by omega
        clear hN
        obtain ⟨g, cap, hug⟩ := own_ptr2 hown hnp
        subst hug
        obtain ⟨g', cap', hv, hbg, hgl, hncap, hcm, _, hH⟩ := Lib.holds_of_ownsRow hown (by simp)
        cases hv
        unfold maxLen at hcm
        have hsort := sortN_any g cap (keys (rnms h.bs)) wr hH hgl (by omega)
        rw [hlen] at hsort
        go_wp2_with fail
        refine hsort.mono ?_
        rintro e w2 ⟨rfl, nn, os, rfl⟩
        clear hsort
        obtain ⟨ho2, hB2⟩ := sorted_own (nn := nn) (os := os) hown hB hlen
        have hL2 : Ls (Sort.grow (Sort.putRow encStr (Sort.ahead wr nn) g 0 ((keys (rnms h.bs)).mergeSort fun x y => decide (x ≤ y)).toArray) os) (.slice (some ⟨g, 0, none⟩) n' cap) (namesOf (sorted (keys (rnms h.bs)))) := by
          have hll : (namesOf (sorted (keys (rnms h.bs)))).length = n' := by simp [namesOf, sorted, List.length_mergeSort, hlen]
          rw [names_enc] at ho2
          have : OwnT (Sort.grow (Sort.putRow encStr (Sort.ahead wr nn) g 0 ((keys (rnms h.bs)).mergeSort fun x y => decide (x ≤ y)).toArray) os) W1.heap.size (.slice (some ⟨g, 0, none⟩) n' cap) (namesOf (sorted (keys (rnms h.bs)))) := by
            unfold OwnT
            rw [hll]
            exact ho2
          exact this.lst.ls Hz.out
        clear ho2 hH
        generalize Sort.grow (Sort.putRow encStr (Sort.ahead wr nn) g 0 ((keys (rnms h.bs)).mergeSort fun x y => decide (x ≤ y)).toArray) os = W2 at *
        have hB02 := up_trans hB0 hB2
        clear d0 d1 d2 d3 d4 d5
        obtain ⟨d0, d1, d2, d3, d4, d5⟩ := (hC.up hB2 hlt).c6
        go_wp2_with fail
        refine (batchNames_any h.sh.bs _ _ (HB.up hB02) (by omega)).mono ?_
        rintro e w3 ⟨⟨u3, rfl, -, hL3⟩, hB3⟩
        have hL4 := hL2.up hB3
        clear d0 d1 d2 d3 d4 d5
        go_wp2_with fail
        refine (equalN_any _ _ _ _ _ hL4 hL3).mono ?_
        rintro e w4 ⟨rfl, hB4⟩
        have hB04 := up_trans (up_trans hB02 hB3) hB4
        go_wp2_with fail
        go_ret
        exact ⟨ret_bool Hans.out, hB04⟩

set_option maxRecDepth 20000 in
set_option maxHeartbeats 4000000 in
theorem batsP_any (h : House) (tv bv xv dv : Value) (w : World) (hE : Ends w) (H : HV w h tv bv xv dv) :
    Calls Tryz.prog 55 #[.agg #[.int .i64 h.now, .int .i64 h.last, tv, bv, xv, dv]] w fun e w' => e = .returned (.bool (pB (BatsOk h))) ∧ Below w.heap.size w w' := by
  obtain ⟨a1, c1, a2, c2, a3, c3, a4, c4, rfl, rfl, rfl, rfl⟩ := H.shapes
  obtain ⟨hmax, hpos⟩ := H.x.inv rfl
  unfold maxLen at hmax
  clear H
  have HE : Hid (Ends w) := hE
  clear hE
  have hB0 := (Below.refl w.heap.size w).alloc (Nat.le_refl _) (.cells #[.int .i64 h.now, .int .i64 h.last, .slice a1 h.sh.things.length c1, .slice a2 h.sh.bs.length c2, .slice a3 h.bs.length c3, .slice a4 h.ds.length c4] 54)
  have hC : CB (w.alloc (.cells #[.int .i64 h.now, .int .i64 h.last, .slice a1 h.sh.things.length c1, .slice a2 h.sh.bs.length c2, .slice a3 h.bs.length c3, .slice a4 h.ds.length c4] 54)) w.heap.size [.int .i64 h.now, .int .i64 h.last, .slice a1 h.sh.things.length c1, .slice a2 h.sh.bs.length c2, .slice a3 h.bs.length c3, .slice a4 h.ds.length c4] := cb_alloc w _ _
  go_enter Tryz.func55, Tryz.ntmps55
  go_upto_region 1 with fail
  generalize w.alloc (.cells #[.int .i64 h.now, .int .i64 h.last, .slice a1 h.sh.things.length c1, .slice a2 h.sh.bs.length c2, .slice a3 h.bs.length c3, .slice a4 h.ds.length c4] 54) = W1 at *
  have hlt := hC.2.2
  obtain ⟨d0, d1, d2, d3, d4, d5⟩ := hC.c6
  go_wp2_with fail
  go_loopw [3, 5, 9] (fun ah _ i w' => ∃ (k : Nat) (a : Int), k ≤ h.bs.length ∧ i = .int .i64 k ∧ ah = .int .i64 a ∧ ((k = 0 → a = 0) ∧ (∀ (j : Nat) (p : Rb), j + 1 = k → h.bs[j]? = some p → a = p.st) ∧ BatsTo h.bs h.last k) ∧ Below W1.heap.size W1 w') (fun _ _ i _ => h.bs.length - (intOf i).toNat)
  case atStart => exact ⟨0, 0, by omega, rfl, rfl, ⟨fun _ => rfl, fun j p hj => by omega, fun i d hi => by omega⟩, Below.refl _ _⟩
  case round =>
    obtain ⟨k, a, hk, rfl, rfl, hinv, hB⟩ := hrel
    have HI : Hid ((k = 0 → a = 0) ∧ (∀ (j : Nat) (p : Rb), j + 1 = k → h.bs[j]? = some p → a = p.st) ∧ BatsTo h.bs h.last k) := hinv
    clear hinv d0 d1 d2 d3 d4 d5
    by_cases hp : k < h.bs.length
    · obtain ⟨b, o, ha3, hS, hb⟩ := hpos (by omega)
      subst ha3
      have hB01 := up_trans hB0 hB
      obtain ⟨p, q, c, g, r, d, ⟨e0, e1, e2, e3, e4, e5⟩, hv⟩ := ((hS.at hp).up hB01 hb).open
      obtain ⟨-, d1, -⟩ := (hC.up hB hlt).c6
      have NO : Hid (¬ BatOk h.bs h.last k h.bs[k] → pB (BatsOk h) = false) := fun hn => pB_no fun t => hn (t k _ hp (List.getElem?_eq_getElem hp))
      have YES : Hid (BatOk h.bs h.last k h.bs[k] → BatsTo h.bs h.last (k + 1)) := fun hy => to_step (P := BatOk h.bs h.last) HI.out.2.2 hp hy
      have HT : Hid (∀ (j : Nat) (p : Rb), j + 1 = k + 1 → h.bs[j]? = some p → (h.bs[k]).st = p.st) := fun j p hj hp' => by
        obtain rfl : j = k := by omega
        rw [List.getElem?_eq_getElem hp] at hp'
        obtain rfl := Option.some.inj hp'; rfl
      have HP : Hid (a < (h.bs[k]).st → ∀ (j : Nat) (p : Rb), j + 1 = k → h.bs[j]? = some p → p.st < (h.bs[k]).st) := fun ht j p hj hp' => by
        rw [← HI.out.2.1 j p hj hp']; exact ht
      have HQ : Hid ((h.bs[k]).st ≤ a → ¬ BatOk h.bs h.last k h.bs[k]) := fun ht hd => by
        obtain ⟨i1, i2, -⟩ := HI.out
        obtain ⟨k0, -, k2⟩ := hd
        have := k0.2.2.2.1
        rcases Nat.eq_zero_or_pos k with e | e
        · have := i1 e; omega
        · obtain ⟨j, rfl⟩ : ∃ j, k = j + 1 := ⟨k - 1, by omega⟩
          have hj := List.getElem?_eq_getElem (l := h.bs) (i := j) (by omega)
          have := k2 j _ rfl hj
          have := i2 j _ rfl hj
          omega
      generalize h.bs[k] = x0 at *
      clear hS
      have hB1 := hB.alloc hB.size (.cells #[.string x0.nm, .slice (some ⟨p, q, none⟩) x0.ps.length c, .slice (some ⟨g, r, none⟩) x0.sl.length d, .string x0.ad, .int .i64 x0.si, .int .i64 x0.st] 32)
      have hX : CB (wr.alloc (.cells #[.string x0.nm, .slice (some ⟨p, q, none⟩) x0.ps.length c, .slice (some ⟨g, r, none⟩) x0.sl.length d, .string x0.ad, .int .i64 x0.si, .int .i64 x0.st] 32)) wr.heap.size [.string x0.nm, .slice (some ⟨p, q, none⟩) x0.ps.length c, .slice (some ⟨g, r, none⟩) x0.sl.length d, .string x0.ad, .int .i64 x0.si, .int .i64 x0.st] := cb_alloc wr _ _
      have hv2 := hv.up ((Below.refl wr.heap.size wr).alloc (Nat.le_refl _) (.cells #[.string x0.nm, .slice (some ⟨p, q, none⟩) x0.ps.length c, .slice (some ⟨g, r, none⟩) x0.sl.length d, .string x0.ad, .int .i64 x0.si, .int .i64 x0.st] 32))
      have d1' := ((Below.refl wr.heap.size wr).alloc (Nat.le_refl _) (.cells #[.string x0.nm, .slice (some ⟨p, q, none⟩) x0.ps.length c, .slice (some ⟨g, r, none⟩) x0.sl.length d, .string x0.ad, .int .i64 x0.si, .int .i64 x0.st] 32)).cell (p := ⟨w.heap.size, 1, none⟩) (Nat.lt_of_lt_of_le hlt hB.size) |>.trans d1
      go_upto_region 5 with fail
      generalize wr.alloc (.cells #[.string x0.nm, .slice (some ⟨p, q, none⟩) x0.ps.length c, .slice (some ⟨g, r, none⟩) x0.sl.length d, .string x0.ad, .int .i64 x0.si, .int .i64 x0.st] 32) = W2 at *
      obtain ⟨f0, f1, f2, f3, f4, f5⟩ := hX.c6
      have hXlt := hX.2.2
      have hqlt : w.heap.size < W2.heap.size := Nat.lt_of_lt_of_le hlt hB1.size
      have hB02 := up_trans hB0 hB1
      clear e0 e1 e2 e3 e4 e5 d1 hv
      go_wp2_with fail
      refine (batchOkP_any x0 _ _ _ (HE.out.up hB02) hv2).mono ?_
      rintro e w3 ⟨rfl, hB3⟩
      have g5 := (hB3.cell (p := ⟨wr.heap.size, 5, none⟩) hXlt).trans f5
      have g1 := (hB3.cell (p := ⟨w.heap.size, 1, none⟩) hqlt).trans d1'
      have hB13 := up_trans hB1 hB3
      have hB03 := up_trans hB0 hB13
      clear f0 f1 f2 f3 f4 f5 d1' hB3 hv2
      cases q1 : pB (RbOk x0)
      · have HN : Hid (pB (BatsOk h) = false) := NO.out fun t => pB_not.1 q1 t.1
        go_wp2_with fail
        go_ret
        exact ⟨ret_bool HN.out.symm, hB03⟩
      by_cases q2 : a < x0.st
      case neg =>
        have HN : Hid (pB (BatsOk h) = false) := NO.out (HQ.out (by omega))
        go_wp2_with fail
        go_ret
        exact ⟨ret_bool HN.out.symm, hB03⟩
      by_cases q3 : x0.st ≤ h.last
      case neg =>
        have HN : Hid (pB (BatsOk h) = false) := NO.out fun t => q3 t.2.1
        go_wp2_with fail
        go_ret
        exact ⟨ret_bool HN.out.symm, hB03⟩
      have HY : Hid (BatsTo h.bs h.last (k + 1)) := YES.out ⟨pB_iff.1 q1, q3, HP.out q2⟩
      go_wp2_with fail
      go_roundw
      case rel => exact ⟨k + 1, x0.st, by omega, by go_num, rfl, ⟨fun e => by omega, HT.out, HY.out⟩, hB13⟩
      case measure => simp [intOf]; omega
    · have HY : Hid (pB (BatsOk h) = true) := pB_yes (by
        have := HI.out.2.2
        rwa [show k = h.bs.length by omega] at this)
      go_wp2_with fail
      go_ret
      exact ⟨ret_bool HY.out.symm, up_trans hB0 hB⟩
end Go.Proofs.YtialglmnfchfmafGreatDoor

/- Books that change, in plain: coming, asking, needing less, going. -/
namespace Go.Proofs.YtialglmnfchfmafGreatDoor

/-- All names of a book are texts that can be. -/
def Szb (b : Bk) : Prop := (∀ s ∈ b.things, s.size ≤ maxLen) ∧ ∀ x ∈ b.bs, (∀ s ∈ x.has, s.size ≤ maxLen) ∧ (∀ s ∈ x.needs, s.size ≤ maxLen)
def nobody : Bk := ⟨[], []⟩
theorem szb_none : Szb nobody := ⟨fun s hs => by simp [nobody] at hs, fun x hx => by simp [nobody] at hx⟩
/-- The place of a batch. -/
def plN (b : Bk) (nm : ByteArray) : Nat := (idxI (nms b.bs) nm).toNat
theorem plN_lt {b : Bk} {nm : ByteArray} (h : memS (nms b.bs) nm = true) : idxI (nms b.bs) nm = (plN b nm : Int) ∧ plN b nm < b.bs.length := by
  have h0 := idxI_mem (nms b.bs) nm
  rw [h, decide_eq_true_eq] at h0
  refine ⟨by unfold plN; omega, ?_⟩
  rw [plN, idxI, if_pos h]
  have : (nms b.bs).findIdx (fun x => x.toList == nm.toList) < (nms b.bs).length := List.findIdx_lt_length.2 (by
    rw [memS, List.any_eq_true] at h; exact h)
  rw [nms_length] at this
  simpa using this
/-- Going. -/
noncomputable def leaveC (b : Bk) (nm : ByteArray) : Int := if bookB b = false then 1 else if memS (nms b.bs) nm = false then 3 else 0
noncomputable def leaveB (b : Bk) (nm : ByteArray) : Bk := if bookB b = false then nobody else if memS (nms b.bs) nm = false then b else ⟨b.things, b.bs.take (plN b nm) ++ b.bs.drop (plN b nm + 1)⟩
theorem leave_no {b : Bk} {nm : ByteArray} (h : bookB b = false) : leaveC b nm = 1 ∧ leaveB b nm = nobody := by simp [leaveC, leaveB, h]
theorem leave_none {b : Bk} {nm : ByteArray} (h : bookB b = true) (hm : memS (nms b.bs) nm = false) : leaveC b nm = 3 ∧ leaveB b nm = b := by simp [leaveC, leaveB, h, hm]
theorem leave_yes {b : Bk} {nm : ByteArray} (h : bookB b = true) (hm : memS (nms b.bs) nm = true) : leaveC b nm = 0 ∧ leaveB b nm = ⟨b.things, b.bs.take (plN b nm) ++ b.bs.drop (plN b nm + 1)⟩ := by simp [leaveC, leaveB, h, hm]
/-- Coming: behind all whose names are less. -/
def inN (b : Bk) (nm : ByteArray) : Nat := (b.bs.takeWhile fun x => ltS x.nm nm).length
noncomputable def enterC (b : Bk) (nm : ByteArray) (needs : List ByteArray) : Int :=
  if bookB b = false then 1 else if (nameB nm && pB (PartOk needs b.things)) = false then 2 else if memS (nms b.bs) nm = true then 3 else if 5 ≤ b.bs.length then 4 else 0
noncomputable def enterB (b : Bk) (nm : ByteArray) (needs : List ByteArray) : Bk :=
  if bookB b = false then nobody else if enterC b nm needs = 0 then ⟨b.things, b.bs.take (inN b nm) ++ ⟨nm, [], needs⟩ :: b.bs.drop (inN b nm)⟩ else b
/-- Up to place k all names are less. -/
def lowB (b : Bk) (nm : ByteArray) (k : Nat) : Prop := ∀ (j : Nat) (x : Ba), j < k → b.bs[j]? = some x → ltS x.nm nm = true
theorem tw_len {α : Type} (p : α → Bool) : ∀ (l : List α) (k : Nat), k ≤ l.length → (∀ j x, j < k → l[j]? = some x → p x = true) → (∀ x, l[k]? = some x → p x = false) → (l.takeWhile p).length = k
  | [], k, hk, _, _ => by simp at hk; subst hk; rfl
  | x :: r, 0, _, _, h2 => by
    rw [List.takeWhile_cons, h2 x (by simp)]; rfl
  | x :: r, k + 1, hk, h1, h2 => by
    rw [List.takeWhile_cons, h1 0 x (by omega) (by simp)]
    simp only [if_true, List.length_cons]
    rw [tw_len p r k (by simpa using hk) (fun j y hj hy => h1 (j + 1) y (by omega) (by simpa using hy)) (fun y hy => h2 y (by simpa using hy))]
theorem inN_at {b : Bk} {nm : ByteArray} {k : Nat} (hk : k ≤ b.bs.length) (hl : lowB b nm k) (hn : ∀ x, b.bs[k]? = some x → ltS x.nm nm = false) : inN b nm = k := tw_len _ _ _ hk hl hn
theorem enter_no {b : Bk} {nm : ByteArray} {needs : List ByteArray} (h : bookB b = false) : enterC b nm needs = 1 ∧ enterB b nm needs = nobody := by simp [enterC, enterB, h]
theorem enter_two {b : Bk} {nm : ByteArray} {needs : List ByteArray} (h : bookB b = true) (h2 : (nameB nm && pB (PartOk needs b.things)) = false) : enterC b nm needs = 2 ∧ enterB b nm needs = b := by simp [enterC, enterB, h, h2]
theorem enter_three {b : Bk} {nm : ByteArray} {needs : List ByteArray} (h : bookB b = true) (h2 : (nameB nm && pB (PartOk needs b.things)) = true) (h3 : memS (nms b.bs) nm = true) : enterC b nm needs = 3 ∧ enterB b nm needs = b := by simp [enterC, enterB, h, h2, h3]
theorem enter_four {b : Bk} {nm : ByteArray} {needs : List ByteArray} (h : bookB b = true) (h2 : (nameB nm && pB (PartOk needs b.things)) = true) (h3 : memS (nms b.bs) nm = false) (h4 : 5 ≤ b.bs.length) : enterC b nm needs = 4 ∧ enterB b nm needs = b := by simp [enterC, enterB, h, h2, h3, h4]
theorem enter_yes {b : Bk} {nm : ByteArray} {needs : List ByteArray} (h : bookB b = true) (h2 : (nameB nm && pB (PartOk needs b.things)) = true) (h3 : memS (nms b.bs) nm = false) (h4 : ¬ 5 ≤ b.bs.length) :
    enterC b nm needs = 0 ∧ enterB b nm needs = ⟨b.things, b.bs.take (inN b nm) ++ ⟨nm, [], needs⟩ :: b.bs.drop (inN b nm)⟩ := by
  have hc : enterC b nm needs = 0 := by simp [enterC, h, h2, h3, h4]
  exact ⟨hc, by rw [enterB, h, if_neg (by simp), if_pos hc]⟩
/-- What an ok book's lists hold is short. -/
theorem ok_small {b : Bk} (h : BookOk b) : b.things.length ≤ 8 ∧ b.bs.length ≤ 5 ∧ ∀ x ∈ b.bs, x.has.length ≤ 8 ∧ x.needs.length ≤ 8 := by
  refine ⟨h.1.1, h.2.1, fun x hx => ?_⟩
  obtain ⟨i, hi, rfl⟩ := List.getElem_of_mem hx
  have ho := h.2.2.2.2.1.at (k := i) hi hi
  have h1 := part_short ho.1
  have h2 := part_short ho.2
  have h0 := h.1.1
  omega
theorem book_ok {b : Bk} (h : bookB b = true) : BookOk b := pB_iff.1 h
end Go.Proofs.YtialglmnfchfmafGreatDoor

/- The program's chapter 13: looking for a name. -/
namespace Go.Proofs.YtialglmnfchfmafGreatDoor
open Go.RowKit

/-- Where a name is, or would come in. -/
def lowN (ss : List ByteArray) (s : ByteArray) : Nat := (ss.takeWhile fun x => ltS x s).length
def LowTo (ss : List ByteArray) (s : ByteArray) (i : Nat) : Prop := ∀ (k : Nat) (x : ByteArray), k < i → ss[k]? = some x → ltS x s = true
def HighFrom (ss : List ByteArray) (s : ByteArray) (j : Nat) : Prop := ∀ (k : Nat) (x : ByteArray), j ≤ k → ss[k]? = some x → ltS x s = false
theorem lowN_at {ss : List ByteArray} {s : ByteArray} {i : Nat} (hi : i ≤ ss.length) (hl : LowTo ss s i) (hh : HighFrom ss s i) : lowN ss s = i :=
  tw_len _ _ _ hi hl (fun x hx => hh i x (Nat.le_refl _) hx)
theorem low_step {ss : List ByteArray} {s : ByteArray} {i h : Nat} (ha : Asc ss) (_ : LowTo ss s i) (hh : h < ss.length) (hs : ltS ss[h] s = true) : LowTo ss s (h + 1) := fun k x hk hx => by
  by_cases e : k = h
  · subst e
    rw [List.getElem?_eq_getElem hh] at hx
    obtain rfl := Option.some.inj hx
    exact hs
  · exact ltS_trans (asc_lt ha (h - k - 1) k x _ hx (by rw [show k + 1 + (h - k - 1) = h by omega]; exact List.getElem?_eq_getElem hh)) hs
theorem high_step {ss : List ByteArray} {s : ByteArray} {h : Nat} (ha : Asc ss) (hh : h < ss.length) (hs : ltS ss[h] s = false) : HighFrom ss s h := fun k x hk hx => by
  by_cases e : k = h
  · subst e
    rw [List.getElem?_eq_getElem hh] at hx
    obtain rfl := Option.some.inj hx
    exact hs
  · cases hq : ltS x s
    · rfl
    · have := ltS_trans (asc_lt ha (k - h - 1) h _ x (List.getElem?_eq_getElem hh) (by rw [show h + 1 + (k - h - 1) = k by omega]; exact hx)) hq
      rw [hs] at this; cases this
/-- It is there just if it is at that place. -/
theorem low_mem {ss : List ByteArray} {s : ByteArray} {i : Nat} (hl : LowTo ss s i) (hh : HighFrom ss s i) (ha : Asc ss) (hi : i < ss.length) : memS ss s = ((ss[i]).toList == s.toList) := by
  cases hq : ((ss[i]).toList == s.toList)
  · rw [memS_no]
    intro hm
    obtain ⟨k, hk, rfl⟩ := List.getElem_of_mem hm
    rcases Nat.lt_trichotomy k i with h1 | h1 | h1
    · have := hl k _ h1 (List.getElem?_eq_getElem hk)
      rw [ltS_irrefl] at this; cases this
    · subst h1; simp at hq
    · have h2 := asc_lt ha (k - i - 1) i _ _ (List.getElem?_eq_getElem hi) (by rw [show i + 1 + (k - i - 1) = k by omega]; exact List.getElem?_eq_getElem hk)
      have h3 := hh i _ (Nat.le_refl _) (List.getElem?_eq_getElem hi)
      rw [h2] at h3; cases h3
  · exact memS_found hi hq
theorem low_none {ss : List ByteArray} {s : ByteArray} {i : Nat} (hl : LowTo ss s i) (hi : ¬ i < ss.length) : memS ss s = false := by
  rw [memS_no]
  intro hm
  obtain ⟨k, hk, rfl⟩ := List.getElem_of_mem hm
  have := hl k _ (by omega) (List.getElem?_eq_getElem hk)
  rw [ltS_irrefl] at this; cases this
theorem isNaN_any (s : ByteArray) (w : World) : Calls Tryz.prog 177 #[.string s] w fun e w' => e = .returned (.bool false) ∧ w' = w := by
  go_enter Tryz.func177, Tryz.ntmps177
  go_wp2
  go_ret
  exact ⟨rfl, rfl⟩
theorem cmpNaN_any (s : ByteArray) (w : World) : Calls Tryz.prog 168 #[.string s] w fun e w' => e = .returned (.bool false) ∧ w' = w := by
  go_enter Tryz.func168, Tryz.ntmps168
  go_wp2
  go_ret
  exact ⟨rfl, rfl⟩
theorem cmpLess_any (a b : ByteArray) (w : World) : Calls Tryz.prog 146 #[.string a, .string b] w fun e w' => e = .returned (.bool (ltS a b)) ∧ w' = w := by
  have Hl : Hid (ltS a b = Op.bytesLess a.toList b.toList) := rfl
  go_enter Tryz.func146, Tryz.ntmps146
  go_wp2_with (go_at_call 168; refine (cmpNaN_any _ _).mono ?_; rintro e w' ⟨rfl, hw⟩; obtain rfl := hw.symm; clear hw)
  go_ret
  exact ⟨ret_bool Hl.out.symm, rfl⟩
theorem ret_find {i j : Nat} {a b : Bool} (h1 : i = j) (h2 : a = b) : Ending.returned (.tuple #[.int .i64 (i : Int), .bool a]) = .returned (.tuple #[.int .i64 (j : Int), .bool b]) := by rw [h1, h2]
set_option maxRecDepth 20000 in
set_option maxHeartbeats 2000000 in
theorem bsearch_any (ss : List ByteArray) (v : Value) (s : ByteArray) (w : World) (h : Ls w v ss) (ha : Asc ss) (hn : ss.length ≤ 1000) :
    Calls Tryz.prog 158 #[v, .string s] w fun e w' => e = .returned (.tuple #[.int .i64 (lowN ss s : Int), .bool (memS ss s)]) ∧ w' = w := by
  obtain ⟨a, c, rfl, -, -, hpos⟩ := h
  have Ha : Hid (Asc ss) := ha
  clear ha
  go_enter Tryz.func158, Tryz.ntmps158
  go_wp2_with fail
  go_loopw [7, 8, 9] (fun vi vj _ w' => ∃ i j : Nat, i ≤ j ∧ j ≤ ss.length ∧ vi = .int .i64 i ∧ vj = .int .i64 j ∧ LowTo ss s i ∧ HighFrom ss s j ∧ w' = w) (fun vi vj _ _ => (intOf vj).toNat - (intOf vi).toNat)
  case atStart => exact ⟨0, ss.length, by omega, by omega, rfl, rfl, fun k x hk => by omega, fun k x hk hx => by have := (List.getElem?_eq_some_iff.1 hx).1; omega, rfl⟩
  case round =>
    obtain ⟨i, j, hij, hjn, rfl, rfl, hlo, hhi, hw⟩ := hrel
    obtain rfl := hw.symm
    clear hw
    have HL : Hid (LowTo ss s i) := hlo
    have HH : Hid (HighFrom ss s j) := hhi
    clear hlo hhi
    by_cases hp : i < j
    · have hp' : (i : Int) < (j : Int) := by omega
      obtain ⟨b, o, rfl, hS, hb⟩ := hpos (by omega)
      have hm : (i + j) / 2 < ss.length := by omega
      have c0 := hS.cell hm
      have HY : Hid (ltS ss[(i + j) / 2] s = true → LowTo ss s ((i + j) / 2 + 1)) := fun hq => low_step Ha.out HL.out hm hq
      have HN : Hid (ltS ss[(i + j) / 2] s = false → HighFrom ss s ((i + j) / 2)) := fun hq => high_step Ha.out hm hq
      generalize ss[(i + j) / 2] = s0 at *
      obtain ⟨m, hmm, hm1, hm2⟩ : ∃ m : Nat, (i + j) / 2 = m ∧ i ≤ m ∧ m < j := ⟨_, rfl, by omega, by omega⟩
      rw [hmm] at c0 HY HN
      have hI : ((i : Int) + (j : Int)) / 2 = (m : Int) := by omega
      have hml : m < ss.length := by omega
      go_upto_region 5 with fail
      try rw [hI]
      clear hI hmm hm
      go_wp2_with fail
      refine (cmpLess_any s0 s _).mono ?_
      rintro e w' ⟨rfl, hw⟩
      obtain rfl := hw.symm
      clear hw
      cases hq : ltS s0 s
      · have Hq : Hid (HighFrom ss s m) := HN.out hq
        go_wp2_with fail
        go_roundw
        case rel => exact ⟨i, m, by omega, by omega, rfl, rfl, HL.out, Hq.out, by first | rfl | trivial⟩
        case measure => simp [intOf]; omega
      · have Hq : Hid (LowTo ss s (m + 1)) := HY.out hq
        go_wp2_with fail
        go_roundw
        case rel => exact ⟨m + 1, j, by omega, by omega, by go_num, rfl, Hq.out, HH.out, by first | rfl | trivial⟩
        case measure => simp [intOf]; omega
    · obtain rfl : i = j := by omega
      have hp' : ¬ (i : Int) < (i : Int) := by omega
      have HI : Hid (lowN ss s = i) := lowN_at hjn HL.out HH.out
      by_cases he : i < ss.length
      · have he' : (i : Int) < (ss.length : Int) := by omega
        obtain ⟨b, o, rfl, hS, hb⟩ := hpos (by omega)
        have c0 := hS.cell he
        have HM : Hid (memS ss s = ((ss[i]).toList == s.toList)) := low_mem HL.out HH.out Ha.out he
        generalize ss[i] = s0 at *
        cases hq : (s0.toList == s.toList)
        · have Hm : Hid (memS ss s = false) := by show _ = _; rw [HM.out, hq]
          go_wp2_with (go_at_call 177; refine (isNaN_any _ _).mono ?_; rintro e w' ⟨rfl, hw⟩; obtain rfl := hw.symm; clear hw)
          go_returns
          exact ⟨ret_find HI.out.symm Hm.out.symm, rfl⟩
        · have Hm : Hid (memS ss s = true) := by show _ = _; rw [HM.out, hq]
          go_wp2_with fail
          go_returns
          exact ⟨ret_find HI.out.symm Hm.out.symm, rfl⟩
      · have he' : ¬ (i : Int) < (ss.length : Int) := by omega
        have Hm : Hid (memS ss s = false) := low_none HL.out he
        go_wp2_with fail
        go_returns
        exact ⟨ret_find HI.out.symm Hm.out.symm, rfl⟩
/-- The place of the batch of a name, or where it would come in. -/
theorem find_any (b : Bk) (v : Value) (nm : ByteArray) (w : World) (h : BkV w v b) (hok : BookOk b) :
    Calls Tryz.prog 122 #[v, .string nm] w fun e w' => e = .returned (.tuple #[.int .i64 (lowN (nms b.bs) nm : Int), .bool (memS (nms b.bs) nm)]) ∧ Below w.heap.size w w' := by
  obtain ⟨a1, c1, a2, c2, rfl, -, h2⟩ := h.parts
  obtain ⟨W1, hW1, kA, hB1, hs1⟩ : ∃ W1, w.alloc (.cells #[.slice a1 (b).things.length c1, .slice a2 (b).bs.length c2] 50) = W1 ∧ CB W1 w.heap.size [.slice a1 b.things.length c1, .slice a2 b.bs.length c2] ∧ Below w.heap.size w W1 ∧ W1.heap.size = w.heap.size + 1 := ⟨_, rfl, cb1 w _ _⟩
  have hn5 : b.bs.length ≤ 5 := hok.2.1
  have Ha : Hid (Asc (nms b.bs)) := hok.2.2.2.1
  go_enter Tryz.func122, Tryz.ntmps122
  go_upto_region 1 with fail
  try rw [hW1]
  clear hW1 hs1
  obtain ⟨e0, e1⟩ := kA.c2'
  go_wp2_with fail
  refine (batchNames_any b.bs _ _ (h2.up hB1) (by omega)).mono ?_
  rintro e w2 ⟨⟨u, rfl, -, hl⟩, hb2⟩
  obtain ⟨ax, cx, rfl, -⟩ := id hl
  have hB2 := up_trans hB1 hb2
  clear e0 e1
  go_wp2_with fail
  refine (bsearch_any (nms b.bs) _ nm _ hl Ha.out (by rw [nms_length]; omega)).mono ?_
  rintro e w3 ⟨rfl, hw⟩
  obtain rfl := hw.symm
  go_wp2_with fail
  go_returns
  exact ⟨rfl, hB2⟩
end Go.Proofs.YtialglmnfchfmafGreatDoor

/- Functions that end with a struct in their result's block. -/
namespace Go.Proofs.YtialglmnfchfmafGreatDoor
open Go.RowKit
/-- A function that ends so, with a struct of three (two; three and a second result) in its result's block, stored whole. -/
theorem end_cb3 {P : Program} {fn : Func} {q : Tmp} {T : TypeId} (h : fn.results = #[.cell q T]) {d : TypeDesc} (hu : P.underlying T = some d) (hd : d.isRow = true) (hi : (P.info? T).map (·.size) = some 3) {R : Ending → World → Prop} {tmps : Array Value} {w : World} {rk : Nat} {y0 y1 y2 x0 x1 x2 : Value}
    (k : CB w rk [y0, y1, y2]) (ht : tmps.getD q undef = .pointer (some ⟨rk, 0, none⟩)) (hR : R (.returned (.agg #[x0, x1, x2])) (((w.setCell ⟨rk, 0, none⟩ x0).setCell ⟨rk, 1, none⟩ x1).setCell ⟨rk, 2, none⟩ x2)) :
    bodyPost P fn R .ret { tmps := tmps, defers := [] } (((w.setCell ⟨rk, 0, none⟩ x0).setCell ⟨rk, 1, none⟩ x1).setCell ⟨rk, 2, none⟩ x2) :=
  bodyPost_ret (ret_cb (cs := [x0, x1, x2]) h hu hd hi ht (k.copy3 x0 x1 x2)) rfl hR
theorem end_cb2 {P : Program} {fn : Func} {q : Tmp} {T : TypeId} (h : fn.results = #[.cell q T]) {d : TypeDesc} (hu : P.underlying T = some d) (hd : d.isRow = true) (hi : (P.info? T).map (·.size) = some 2) {R : Ending → World → Prop} {tmps : Array Value} {w : World} {rk : Nat} {y0 y1 x0 x1 : Value}
    (k : CB w rk [y0, y1]) (ht : tmps.getD q undef = .pointer (some ⟨rk, 0, none⟩)) (hR : R (.returned (.agg #[x0, x1])) ((w.setCell ⟨rk, 0, none⟩ x0).setCell ⟨rk, 1, none⟩ x1)) :
    bodyPost P fn R .ret { tmps := tmps, defers := [] } ((w.setCell ⟨rk, 0, none⟩ x0).setCell ⟨rk, 1, none⟩ x1) :=
  bodyPost_ret (ret_cb (cs := [x0, x1]) h hu hd hi ht (k.copy2 x0 x1)) rfl hR
theorem end_cb3b {P : Program} {fn : Func} {q q2 : Tmp} {T : TypeId} (h : fn.results = #[.cell q T, .tmp q2]) {d : TypeDesc} (hu : P.underlying T = some d) (hd : d.isRow = true) (hi : (P.info? T).map (·.size) = some 3) {R : Ending → World → Prop} {tmps : Array Value} {w : World} {rk : Nat} {y0 y1 y2 x0 x1 x2 v : Value}
    (k : CB w rk [y0, y1, y2]) (ht : tmps.getD q undef = .pointer (some ⟨rk, 0, none⟩)) (hv : tmps.getD q2 undef = v) (hR : R (.returned (.tuple #[.agg #[x0, x1, x2], v])) (((w.setCell ⟨rk, 0, none⟩ x0).setCell ⟨rk, 1, none⟩ x1).setCell ⟨rk, 2, none⟩ x2)) :
    bodyPost P fn R .ret { tmps := tmps, defers := [] } (((w.setCell ⟨rk, 0, none⟩ x0).setCell ⟨rk, 1, none⟩ x1).setCell ⟨rk, 2, none⟩ x2) :=
  bodyPost_ret (ret_cb2 (cs := [x0, x1, x2]) h hu hd hi ht hv (k.copy3 x0 x1 x2)) rfl hR
end Go.Proofs.YtialglmnfchfmafGreatDoor

/- The program's checks of what batches need and have (chapter 22). -/
namespace Go.Proofs.YtialglmnfchfmafGreatDoor
open Go.RowKit

theorem m12_drew {W w0 : World} {q r : Nat} {x0 x1 x2 x3 x4 x5 x6 x7 x8 x9 x10 x11 : Value} (h : Below W.heap.size W w0 ∧ w0.cell? ⟨q, 0, none⟩ = some x0 ∧ w0.cell? ⟨q, 1, none⟩ = some x1 ∧ w0.cell? ⟨q, 2, none⟩ = some x2 ∧ w0.cell? ⟨q, 3, none⟩ = some x3 ∧ w0.cell? ⟨q, 4, none⟩ = some x4 ∧ w0.cell? ⟨q, 5, none⟩ = some x5 ∧ w0.cell? ⟨r, 0, none⟩ = some x6 ∧ w0.cell? ⟨r, 1, none⟩ = some x7 ∧ w0.cell? ⟨r, 2, none⟩ = some x8 ∧ w0.cell? ⟨r, 3, none⟩ = some x9 ∧ w0.cell? ⟨r, 4, none⟩ = some x10 ∧ w0.cell? ⟨r, 5, none⟩ = some x11) : Below W.heap.size W w0.drew ∧ w0.drew.cell? ⟨q, 0, none⟩ = some x0 ∧ w0.drew.cell? ⟨q, 1, none⟩ = some x1 ∧ w0.drew.cell? ⟨q, 2, none⟩ = some x2 ∧ w0.drew.cell? ⟨q, 3, none⟩ = some x3 ∧ w0.drew.cell? ⟨q, 4, none⟩ = some x4 ∧ w0.drew.cell? ⟨q, 5, none⟩ = some x5 ∧ w0.drew.cell? ⟨r, 0, none⟩ = some x6 ∧ w0.drew.cell? ⟨r, 1, none⟩ = some x7 ∧ w0.drew.cell? ⟨r, 2, none⟩ = some x8 ∧ w0.drew.cell? ⟨r, 3, none⟩ = some x9 ∧ w0.drew.cell? ⟨r, 4, none⟩ = some x10 ∧ w0.drew.cell? ⟨r, 5, none⟩ = some x11 :=
  ⟨h.1.drew, h.2⟩
theorem m12_up {W w0 w1 : World} {q r : Nat} {x0 x1 x2 x3 x4 x5 x6 x7 x8 x9 x10 x11 : Value} (hq : q < W.heap.size) (hr : r < W.heap.size) (h : Below W.heap.size W w0 ∧ w0.cell? ⟨q, 0, none⟩ = some x0 ∧ w0.cell? ⟨q, 1, none⟩ = some x1 ∧ w0.cell? ⟨q, 2, none⟩ = some x2 ∧ w0.cell? ⟨q, 3, none⟩ = some x3 ∧ w0.cell? ⟨q, 4, none⟩ = some x4 ∧ w0.cell? ⟨q, 5, none⟩ = some x5 ∧ w0.cell? ⟨r, 0, none⟩ = some x6 ∧ w0.cell? ⟨r, 1, none⟩ = some x7 ∧ w0.cell? ⟨r, 2, none⟩ = some x8 ∧ w0.cell? ⟨r, 3, none⟩ = some x9 ∧ w0.cell? ⟨r, 4, none⟩ = some x10 ∧ w0.cell? ⟨r, 5, none⟩ = some x11) (hB : Below w0.heap.size w0 w1) : Below W.heap.size W w1 ∧ w1.cell? ⟨q, 0, none⟩ = some x0 ∧ w1.cell? ⟨q, 1, none⟩ = some x1 ∧ w1.cell? ⟨q, 2, none⟩ = some x2 ∧ w1.cell? ⟨q, 3, none⟩ = some x3 ∧ w1.cell? ⟨q, 4, none⟩ = some x4 ∧ w1.cell? ⟨q, 5, none⟩ = some x5 ∧ w1.cell? ⟨r, 0, none⟩ = some x6 ∧ w1.cell? ⟨r, 1, none⟩ = some x7 ∧ w1.cell? ⟨r, 2, none⟩ = some x8 ∧ w1.cell? ⟨r, 3, none⟩ = some x9 ∧ w1.cell? ⟨r, 4, none⟩ = some x10 ∧ w1.cell? ⟨r, 5, none⟩ = some x11 := by
  obtain ⟨h0, a0, a1, a2, a3, a4, a5, a6, a7, a8, a9, a10, a11⟩ := h
  have lq : q < w0.heap.size := Nat.lt_of_lt_of_le hq h0.size
  have lr : r < w0.heap.size := Nat.lt_of_lt_of_le hr h0.size
  exact ⟨up_trans h0 hB, (hB.cell (p := ⟨q, 0, none⟩) lq).trans a0, (hB.cell (p := ⟨q, 1, none⟩) lq).trans a1, (hB.cell (p := ⟨q, 2, none⟩) lq).trans a2, (hB.cell (p := ⟨q, 3, none⟩) lq).trans a3, (hB.cell (p := ⟨q, 4, none⟩) lq).trans a4, (hB.cell (p := ⟨q, 5, none⟩) lq).trans a5, (hB.cell (p := ⟨r, 0, none⟩) lr).trans a6, (hB.cell (p := ⟨r, 1, none⟩) lr).trans a7, (hB.cell (p := ⟨r, 2, none⟩) lr).trans a8, (hB.cell (p := ⟨r, 3, none⟩) lr).trans a9, (hB.cell (p := ⟨r, 4, none⟩) lr).trans a10, (hB.cell (p := ⟨r, 5, none⟩) lr).trans a11⟩
theorem lowN_here {l : List ByteArray} {s : ByteArray} {k : Nat} (ha : Asc l) (hk : k < l.length) (e : l[k] = s) : lowN l s = k := by
  subst e
  refine lowN_at (Nat.le_of_lt hk) (fun j x hj hx => ?_) (fun j x hj hx => ?_)
  · exact asc_lt ha (k - j - 1) j x _ hx (by rw [show j + 1 + (k - j - 1) = k by omega]; exact List.getElem?_eq_getElem hk)
  · rcases Nat.eq_or_lt_of_le hj with e | e
    · subst e
      rw [List.getElem?_eq_getElem hk] at hx
      obtain rfl := Option.some.inj hx
      exact ltS_irrefl _
    · have h1 := asc_lt ha (j - k - 1) k _ x (List.getElem?_eq_getElem hk) (by rw [show k + 1 + (j - k - 1) = j by omega]; exact hx)
      cases hq : ltS x l[k]
      · rfl
      · have := ltS_trans h1 hq
        rw [ltS_irrefl] at this; cases this
theorem sizeShB : (Tryz.prog.info? 132).map (·.size) = some 3 := by kernel_rfl
theorem run_fieldN (nm : ByteArray) (a1 a2 : Option Addr) (n1 c1 n2 c2 : Nat) (w : World) : (Instr.field 132 (.agg #[.string nm, .slice a1 n1 c1, .slice a2 n2 c2]) 2).run Tryz.prog w = .ok (.slice a2 n2 c2) w := by kernel_rfl
theorem run_fieldH (nm : ByteArray) (a1 a2 : Option Addr) (n1 c1 n2 c2 : Nat) (w : World) : (Instr.field 132 (.agg #[.string nm, .slice a1 n1 c1, .slice a2 n2 c2]) 1).run Tryz.prog w = .ok (.slice a1 n1 c1) w := by kernel_rfl
set_option maxRecDepth 20000 in
set_option maxHeartbeats 4000000 in
theorem sharedP_any (h : House) (x0 : Rb) (a1 a2 a3 a4 : Option Addr) (c1 c2 c3 c4 p q c g r d : Nat) (w : World) (H : BkV w (.agg #[.slice a1 h.sh.things.length c1, .slice a2 h.sh.bs.length c2]) h.sh) (hok : BookOk h.sh) (hm : x0.nm ∈ nms h.sh.bs) :
    Calls Tryz.prog 99 #[.agg #[.int .i64 h.now, .int .i64 h.last, .slice a1 h.sh.things.length c1, .slice a2 h.sh.bs.length c2, .slice a3 h.bs.length c3, .slice a4 h.ds.length c4], .agg #[.string x0.nm, .slice (some ⟨p, q, none⟩) x0.ps.length c, .slice (some ⟨g, r, none⟩) x0.sl.length d, .string x0.ad, .int .i64 x0.si, .int .i64 x0.st]] w fun e w' => (∃ b1 k1 b2 k2, e = .returned (.agg #[.string (shOf h.sh x0.nm).nm, .slice b1 (shOf h.sh x0.nm).has.length k1, .slice b2 (shOf h.sh x0.nm).needs.length k2]) ∧ Ls w' (.slice b1 (shOf h.sh x0.nm).has.length k1) (shOf h.sh x0.nm).has ∧ Ls w' (.slice b2 (shOf h.sh x0.nm).needs.length k2) (shOf h.sh x0.nm).needs) ∧ Below w.heap.size w w' := by
  obtain ⟨k, hk, hkn⟩ := mem_at hm
  have ha := hok.2.2.2.1
  have hsh := shOf_at ha hk hkn
  have hlow : lowN (nms h.sh.bs) x0.nm = k := lowN_here ha (by rw [nms_length]; exact hk) (by rw [nms_get _ _ hk]; exact hkn)
  have hfind := fun W (hB : Below w.heap.size w W) => find_any h.sh _ x0.nm W (H.up hB) hok
  rw [hlow] at hfind
  rw [hsh]
  have hb5 : h.sh.bs.length ≤ 5 := hok.2.1
  obtain ⟨tv', bv', hag, -, a', c', hbv, -, hpos⟩ := H
  simp only [Value.agg.injEq, Array.mk.injEq, List.cons.injEq] at hag
  obtain ⟨-, rfl, -⟩ := hag
  simp only [Value.slice.injEq] at hbv
  obtain ⟨rfl, -, rfl⟩ := hbv
  obtain ⟨bb, oo, rfl, hS, hbb⟩ := hpos (by omega)
  have Hf : Hid (∀ W, Below w.heap.size w W → Calls Tryz.prog 122 #[.agg #[.slice a1 h.sh.things.length c1, .slice (some ⟨bb, oo, none⟩) h.sh.bs.length c2], .string x0.nm] W fun e w' => e = .returned (.tuple #[.int .i64 (k : Int), .bool (memS (nms h.sh.bs) x0.nm)]) ∧ Below W.heap.size W w') := hfind
  clear hfind hlow hsh hkn hm ha hok hpos
  go_enter Tryz.func99, Tryz.ntmps99
  go_upto_region 1 with fail
  obtain ⟨W1, hW1, kP, kR, kO, hB1, hs1⟩ : ∃ W1, ((w.alloc (.cells #[.int .i64 h.now, .int .i64 h.last, .slice a1 h.sh.things.length c1, .slice (some ⟨bb, oo, none⟩) h.sh.bs.length c2, .slice a3 h.bs.length c3, .slice a4 h.ds.length c4] 54)).alloc (.cells #[.string x0.nm, .slice (some ⟨p, q, none⟩) x0.ps.length c, .slice (some ⟨g, r, none⟩) x0.sl.length d, .string x0.ad, .int .i64 x0.si, .int .i64 x0.st] 32)).alloc (.cells #[.string ⟨#[]⟩, .slice none 0 0, .slice none 0 0] 132) = W1 ∧ CB W1 w.heap.size [.int .i64 h.now, .int .i64 h.last, .slice a1 h.sh.things.length c1, .slice (some ⟨bb, oo, none⟩) h.sh.bs.length c2, .slice a3 h.bs.length c3, .slice a4 h.ds.length c4] ∧ CB W1 (w.heap.size + 1) [.string x0.nm, .slice (some ⟨p, q, none⟩) x0.ps.length c, .slice (some ⟨g, r, none⟩) x0.sl.length d, .string x0.ad, .int .i64 x0.si, .int .i64 x0.st] ∧ CB W1 (w.heap.size + 2) [.string ⟨#[]⟩, .slice none 0 0, .slice none 0 0] ∧ Below w.heap.size w W1 ∧ W1.heap.size = w.heap.size + 3 := ⟨_, rfl, cb3 w [.int .i64 h.now, .int .i64 h.last, .slice a1 h.sh.things.length c1, .slice (some ⟨bb, oo, none⟩) h.sh.bs.length c2, .slice a3 h.bs.length c3, .slice a4 h.ds.length c4] [.string x0.nm, .slice (some ⟨p, q, none⟩) x0.ps.length c, .slice (some ⟨g, r, none⟩) x0.sl.length d, .string x0.ad, .int .i64 x0.si, .int .i64 x0.st] [.string ⟨#[]⟩, .slice none 0 0, .slice none 0 0] _ _ _⟩
  rw [hW1]
  clear hW1
  obtain ⟨d0, d1, d2, d3, d4, d5⟩ := kP.c6
  obtain ⟨e0, -⟩ := kR.c6
  go_wp2_with fail
  refine (Hf.out _ hB1).mono ?_
  rintro e w2 ⟨rfl, hB2⟩
  have hz2 := hB2.size
  have hB12 := up_trans hB1 hB2
  clear d0 d1 d2 d3 d4 d5 e0
  obtain ⟨d0, d1, d2, d3, d4, d5⟩ := (kP.up hB2 (by omega)).c6
  have kO2 := kO.up hB2 (by omega)
  obtain ⟨⟨o0, o1, o2⟩, f0, f1, f2⟩ := kO2.c3
  obtain ⟨ah, dh, an, dn, s0, s1, s2, l1, l2, -⟩ := (hS.at hk).cells
  have t0 := (hB12.cell (p := ⟨bb, oo + k * 3, none⟩) hbb).trans s0
  have t1 := (hB12.cell (p := ⟨bb, oo + k * 3 + 1, none⟩) hbb).trans s1
  have t2 := (hB12.cell (p := ⟨bb, oo + k * 3 + 2, none⟩) hbb).trans s2
  clear s0 s1 s2
  go_wp2_with fail
  refine end_cb3 Tryz.results99 Tryz.underlying132 rfl sizeShB kO2 rfl ?_
  have hg := below_set3 hB12 (b := w.heap.size + 2) (by omega) (.string (h.sh.bs[k]).nm) (.slice ah (h.sh.bs[k]).has.length dh) (.slice an (h.sh.bs[k]).needs.length dn)
  exact ⟨⟨ah, dh, an, dn, rfl, l1.up hg, l2.up hg⟩, hg⟩

theorem going_wait (nm ad : ByteArray) (a1 a2 : Option Addr) (n1 n2 c1 c2 : Nat) (st : Int) (w : World) :
    Calls Tryz.prog 101 #[.agg #[.string nm, .slice a1 n1 c1, .slice a2 n2 c2, .string ad, .int .i64 (-1), .int .i64 st]] w fun e w' => e = .returned (.tuple #[.int .i64 0, .bool false]) ∧ Below w.heap.size w w' := by
  have ta : ∀ w, (Instr.typeAssert (.iface 152 (.agg #[])) 110 154 true).run Tryz.prog w = .ok (.tuple #[.agg #[.int .i64 0], .bool false]) w := fun _ => by kernel_rfl
  have hB0 := (Below.refl w.heap.size w).alloc (Nat.le_refl _) (.cells #[.string nm, .slice a1 n1 c1, .slice a2 n2 c2, .string ad, .int .i64 (-1), .int .i64 st] 32)
  go_enter Tryz.func101, Tryz.ntmps101
  go_wp2_with fail
  refine (stand_wait _ _ _ _ _ _ _ _ _ _).mono ?_
  rintro e w1 ⟨rfl, hB1⟩
  have hB01 := up_trans hB0 hB1
  go_wp2_with fail
  go_returns
  exact ⟨rfl, hB01.alloc hB01.size _⟩
theorem going_go (nm ad : ByteArray) (a1 a2 : Option Addr) (n1 n2 c1 c2 : Nat) (si st : Int) (w : World) (h : ¬ si = -1) :
    Calls Tryz.prog 101 #[.agg #[.string nm, .slice a1 n1 c1, .slice a2 n2 c2, .string ad, .int .i64 si, .int .i64 st]] w fun e w' => e = .returned (.tuple #[.int .i64 si, .bool true]) ∧ Below w.heap.size w w' := by
  have ta : ∀ w, (Instr.typeAssert (.iface 154 (.agg #[.int .i64 si])) 110 154 true).run Tryz.prog w = .ok (.tuple #[.agg #[.int .i64 si], .bool true]) w := fun _ => by kernel_rfl
  have hB0 := (Below.refl w.heap.size w).alloc (Nat.le_refl _) (.cells #[.string nm, .slice a1 n1 c1, .slice a2 n2 c2, .string ad, .int .i64 si, .int .i64 st] 32)
  have H : Hid (¬ si = -1) := h
  clear h
  go_enter Tryz.func101, Tryz.ntmps101
  go_wp2_with fail
  refine (stand_go _ _ _ _ _ _ _ _ _ _ _ H.out).mono ?_
  rintro e w1 ⟨rfl, hB1⟩
  have hB01 := up_trans hB0 hB1
  go_wp2_with fail
  go_returns
  exact ⟨rfl, hB01.alloc hB01.size _⟩
end Go.Proofs.YtialglmnfchfmafGreatDoor
