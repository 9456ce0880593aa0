/- The program's checks of a house's times, of those that ended, of the book (chapter 22). -/
import Derived.Test.YtlkpgiifdclijaaGreatDoorJ21
import Derived.Test.YtlkpgiifdclijaaGreatDoorJ20
import Derived.Test.YtlkpgiifdclijaaGreatDoorJ27
import Derived.Test.YtlkpgiifdclijaaGreatDoorJ9
import Derived.Shelf.Sort.AssemblysIn
import Derived.Sort.EveryDepth
import Derived.Test.YtlkpgiifdclijaaGreatDoorJ22
namespace Go.Proofs.YtlkpgiifdclijaaGreatDoor
open Go.RowKit

theorem timesP_any (h : House) (tv bv xv dv : Value) (w : World) (H : HV w h tv bv xv dv) :
    Calls Tryz.prog 24 #[.agg #[.int .i64 h.now, .int .i64 h.last, tv, bv, xv, dv]] w fun e w' => e = .returned (.bool (pB (TimesOk h))) ∧ Below w.heap.size w w' := by
  obtain ⟨a1, c1, a2, c2, a3, c3, a4, c4, rfl, rfl, rfl, rfl⟩ := H.shapes
  have hB0 := (Below.refl w.heap.size w).alloc (Nat.le_refl _) (.cells #[.int .i64 h.now, .int .i64 h.last, .slice a1 h.sh.things.length c1, .slice a2 h.sh.bs.length c2, .slice a3 h.bs.length c3, .slice a4 h.ds.length c4] 38)
  by_cases h1 : 0 ≤ h.now
  case neg =>
    have HN : Hid (pB (TimesOk h) = false) := pB_no fun t => h1 t.1
    go_enter Tryz.func24, Tryz.ntmps24
    go_wp2
    go_ret
    exact ⟨ret_bool HN.out.symm, hB0⟩
  by_cases h2 : h.now ≤ 100000
  case neg =>
    have HN : Hid (pB (TimesOk h) = false) := pB_no fun t => h2 t.2.1
    go_enter Tryz.func24, Tryz.ntmps24
    go_wp2
    go_ret
    exact ⟨ret_bool HN.out.symm, hB0⟩
  by_cases h3 : 0 ≤ h.last
  case neg =>
    have HN : Hid (pB (TimesOk h) = false) := pB_no fun t => h3 t.2.2.1
    go_enter Tryz.func24, Tryz.ntmps24
    go_wp2
    go_ret
    exact ⟨ret_bool HN.out.symm, hB0⟩
  have HN : Hid (pB (TimesOk h) = decide (h.last ≤ 1000000)) := by
    show _ = _
    rw [Bool.eq_iff_iff, pB_iff, decide_eq_true_iff]
    exact ⟨fun t => t.2.2.2, fun t => ⟨h1, h2, h3, t⟩⟩
  go_enter Tryz.func24, Tryz.ntmps24
  go_wp2
  go_ret
  exact ⟨ret_bool (by rw [HN.out]), hB0⟩

theorem shareP_any (h : House) (tv bv xv dv : Value) (w : World) (H : HV w h tv bv xv dv) :
    Calls Tryz.prog 26 #[.agg #[.int .i64 h.now, .int .i64 h.last, tv, bv, xv, dv]] w fun e w' => e = .returned (.bool (pB (SafeP h.sh))) ∧ Below w.heap.size w w' := by
  have hk := H.book
  obtain ⟨a1, c1, a2, c2, a3, c3, a4, c4, rfl, rfl, rfl, rfl⟩ := H.shapes
  have hB0 := (Below.refl w.heap.size w).alloc (Nat.le_refl _) (.cells #[.int .i64 h.now, .int .i64 h.last, .slice a1 h.sh.things.length c1, .slice a2 h.sh.bs.length c2, .slice a3 h.bs.length c3, .slice a4 h.ds.length c4] 38)
  have hC : CB (w.alloc (.cells #[.int .i64 h.now, .int .i64 h.last, .slice a1 h.sh.things.length c1, .slice a2 h.sh.bs.length c2, .slice a3 h.bs.length c3, .slice a4 h.ds.length c4] 38)) w.heap.size [.int .i64 h.now, .int .i64 h.last, .slice a1 h.sh.things.length c1, .slice a2 h.sh.bs.length c2, .slice a3 h.bs.length c3, .slice a4 h.ds.length c4] := cb_alloc w _ _
  go_enter Tryz.func26, Tryz.ntmps26
  go_upto_region 1 with fail
  generalize w.alloc (.cells #[.int .i64 h.now, .int .i64 h.last, .slice a1 h.sh.things.length c1, .slice a2 h.sh.bs.length c2, .slice a3 h.bs.length c3, .slice a4 h.ds.length c4] 38) = W1 at *
  obtain ⟨d0, d1, d2, d3, d4, d5⟩ := hC.c6
  go_wp2_with fail
  refine (safe_any h.sh _ _ (hk.up hB0)).mono ?_
  rintro e w2 ⟨⟨ss, ok, rfl, ho⟩, hB2⟩
  have Ho : Hid (ok = pB (SafeP h.sh)) := safe_pB ho
  clear d0 d1 d2 d3 d4 d5 ho
  go_wp2_with fail
  go_ret
  exact ⟨ret_bool Ho.out, up_trans hB0 hB2⟩

set_option maxRecDepth 20000 in
set_option maxHeartbeats 4000000 in
theorem donesP_any (h : House) (tv bv xv dv : Value) (w : World) (H : HV w h tv bv xv dv) :
    Calls Tryz.prog 25 #[.agg #[.int .i64 h.now, .int .i64 h.last, tv, bv, xv, dv]] w fun e w' => e = .returned (.bool (pB (DonesOk h))) ∧ Below w.heap.size w w' := by
  obtain ⟨-, -, -, a4', c4', e4', -, hpos⟩ := id H
  obtain ⟨a1, c1, a2, c2, a3, c3, a4, c4, rfl, rfl, rfl, rfl⟩ := H.shapes
  simp only [Value.slice.injEq] at e4'
  obtain ⟨rfl, -, rfl⟩ := e4'
  clear H
  have hB0 := (Below.refl w.heap.size w).alloc (Nat.le_refl _) (.cells #[.int .i64 h.now, .int .i64 h.last, .slice a1 h.sh.things.length c1, .slice a2 h.sh.bs.length c2, .slice a3 h.bs.length c3, .slice a4 h.ds.length c4] 38)
  have hC : CB (w.alloc (.cells #[.int .i64 h.now, .int .i64 h.last, .slice a1 h.sh.things.length c1, .slice a2 h.sh.bs.length c2, .slice a3 h.bs.length c3, .slice a4 h.ds.length c4] 38)) w.heap.size [.int .i64 h.now, .int .i64 h.last, .slice a1 h.sh.things.length c1, .slice a2 h.sh.bs.length c2, .slice a3 h.bs.length c3, .slice a4 h.ds.length c4] := cb_alloc w _ _
  go_enter Tryz.func25, Tryz.ntmps25
  go_upto_region 1 with fail
  generalize w.alloc (.cells #[.int .i64 h.now, .int .i64 h.last, .slice a1 h.sh.things.length c1, .slice a2 h.sh.bs.length c2, .slice a3 h.bs.length c3, .slice a4 h.ds.length c4] 38) = W1 at *
  have hlt := hC.2.2
  obtain ⟨d0, d1, d2, d3, d4, d5⟩ := hC.c6
  by_cases h20 : 20 < h.ds.length
  · have HN : Hid (pB (DonesOk h) = false) := pB_no fun t => by have := t.1; omega
    go_wp2_with fail
    go_ret
    exact ⟨ret_bool HN.out.symm, hB0⟩
  go_wp2_with fail
  go_loopw [3, 5, 13] (fun ah _ i w' => ∃ (k : Nat) (a : Int), k ≤ h.ds.length ∧ i = .int .i64 k ∧ ah = .int .i64 a ∧ (0 ≤ a ∧ (k = 0 → a = 0) ∧ (∀ (j : Nat) (p : Done), j + 1 = k → h.ds[j]? = some p → a = p.t) ∧ DonesTo h.ds h.now k) ∧ Below W1.heap.size W1 w') (fun _ _ i _ => h.ds.length - (intOf i).toNat)
  case atStart => exact ⟨0, 0, by omega, rfl, rfl, ⟨by omega, fun _ => rfl, fun j p hj => by omega, fun i d hi => by omega⟩, Below.refl _ _⟩
  case round =>
    obtain ⟨k, a, hk, rfl, rfl, hinv, hB⟩ := hrel
    have HI : Hid (0 ≤ a ∧ (k = 0 → a = 0) ∧ (∀ (j : Nat) (p : Done), j + 1 = k → h.ds[j]? = some p → a = p.t) ∧ DonesTo h.ds h.now k) := hinv
    clear hinv d0 d1 d2 d3 d4 d5
    by_cases hp : k < h.ds.length
    · obtain ⟨b, o, ha, hD, hb⟩ := hpos (by omega)
      subst ha
      have hB01 := up_trans hB0 hB
      obtain ⟨hrg, zn⟩ := hD.up hB01 hb k _ (List.getElem?_eq_getElem hp)
      have c0 := hrg 0 _ rfl
      have c1' := hrg 1 _ rfl
      have c2' := hrg 2 _ rfl
      simp only [Nat.add_zero] at c0
      obtain ⟨d0, -⟩ := (hC.up hB hlt).c6
      have NO : Hid (¬ DoneOk h.ds h.now k h.ds[k] → pB (DonesOk h) = false) := fun hn => pB_no fun t => hn (t.2 k _ hp (List.getElem?_eq_getElem hp))
      have YES : Hid (DoneOk h.ds h.now k h.ds[k] → DonesTo h.ds h.now (k + 1)) := fun hy => to_step (P := DoneOk h.ds h.now) HI.out.2.2.2 hp hy
      have HT : Hid (∀ (j : Nat) (p : Done), j + 1 = k + 1 → h.ds[j]? = some p → (h.ds[k]).t = p.t) := fun j p hj hp' => by
        obtain rfl : j = k := by omega
        rw [List.getElem?_eq_getElem hp] at hp'
        obtain rfl := Option.some.inj hp'; rfl
      have HP : Hid (a ≤ (h.ds[k]).t → 0 ≤ (h.ds[k]).t ∧ ∀ (j : Nat) (p : Done), j + 1 = k → h.ds[j]? = some p → p.t ≤ (h.ds[k]).t) := fun ht => by
        obtain ⟨i0, i1, i2, -⟩ := HI.out
        exact ⟨by omega, fun j p hj hp' => by rw [← i2 j p hj hp']; exact ht⟩
      have HQ : Hid ((h.ds[k]).t < a → ¬ DoneOk h.ds h.now k h.ds[k]) := fun ht hd => by
        obtain ⟨i0, i1, i2, -⟩ := HI.out
        obtain ⟨-, -, -, k0, -, k2⟩ := hd
        rcases Nat.eq_zero_or_pos k with e | e
        · have := i1 e; omega
        · obtain ⟨j, rfl⟩ : ∃ j, k = j + 1 := ⟨k - 1, by omega⟩
          have hj := List.getElem?_eq_getElem (l := h.ds) (i := j) (by omega)
          have := k2 j _ rfl hj
          have := i2 j _ rfl hj
          omega
      generalize h.ds[k] = x0 at *
      have hB1 := hB.alloc hB.size (.cells #[.string (x0).nm, .int .i64 (x0).e, .int .i64 (x0).t] 77)
      have hX : CB (wr.alloc (.cells #[.string (x0).nm, .int .i64 (x0).e, .int .i64 (x0).t] 77)) wr.heap.size [.string x0.nm, .int .i64 x0.e, .int .i64 x0.t] := cb_alloc wr _ _
      have d0' := ((Below.refl wr.heap.size wr).alloc (Nat.le_refl _) (.cells #[.string (x0).nm, .int .i64 (x0).e, .int .i64 (x0).t] 77)).cell (p := ⟨w.heap.size, 0, none⟩) (Nat.lt_of_lt_of_le hlt hB.size) |>.trans d0
      go_upto_region 7 with fail
      generalize wr.alloc (.cells #[.string (x0).nm, .int .i64 (x0).e, .int .i64 (x0).t] 77) = W2 at *
      obtain ⟨⟨f0, f1, f2⟩, -⟩ := hX.c3
      have hXlt := hX.2.2
      have hqlt : w.heap.size < W2.heap.size := Nat.lt_of_lt_of_le hlt hB1.size
      clear c0 c1' c2' d0 hrg
      go_wp2_with fail
      refine (shName_any _ _ zn).mono ?_
      rintro e w3 ⟨rfl, hB3⟩
      have g1 := (hB3.cell (p := ⟨wr.heap.size, 1, none⟩) hXlt).trans f1
      have g2 := (hB3.cell (p := ⟨wr.heap.size, 2, none⟩) hXlt).trans f2
      have g3 := (hB3.cell (p := ⟨w.heap.size, 0, none⟩) hqlt).trans d0'
      have hB13 := up_trans hB1 hB3
      have hB03 := up_trans hB0 hB13
      clear f0 f1 f2 d0' hB3
      cases q1 : nameB x0.nm
      · have HN : Hid (pB (DonesOk h) = false) := NO.out fun t => by rw [t.1] at q1; cases q1
        go_wp2_with fail
        go_ret
        exact ⟨ret_bool HN.out.symm, hB03⟩
      by_cases q2 : 1 ≤ x0.e
      case neg =>
        have HN : Hid (pB (DonesOk h) = false) := NO.out fun t => q2 t.2.1
        go_wp2_with fail
        go_ret
        exact ⟨ret_bool HN.out.symm, hB03⟩
      by_cases q3 : x0.e ≤ 3
      case neg =>
        have HN : Hid (pB (DonesOk h) = false) := NO.out fun t => q3 t.2.2.1
        go_wp2_with fail
        go_ret
        exact ⟨ret_bool HN.out.symm, hB03⟩
      by_cases q4 : a ≤ x0.t
      case neg =>
        have HN : Hid (pB (DonesOk h) = false) := NO.out (HQ.out (by omega))
        go_wp2_with fail
        go_ret
        exact ⟨ret_bool HN.out.symm, hB03⟩
      by_cases q5 : x0.t ≤ h.now
      case neg =>
        have HN : Hid (pB (DonesOk h) = false) := NO.out fun t => q5 t.2.2.2.2.1
        go_wp2_with fail
        go_ret
        exact ⟨ret_bool HN.out.symm, hB03⟩
      have HY : Hid (0 ≤ x0.t ∧ DonesTo h.ds h.now (k + 1)) := ⟨(HP.out q4).1, YES.out ⟨q1, q2, q3, (HP.out q4).1, q5, (HP.out q4).2⟩⟩
      go_wp2_with fail
      go_roundw
      case rel => exact ⟨k + 1, x0.t, by omega, by go_num, rfl, ⟨HY.out.1, fun e => by omega, HT.out, HY.out.2⟩, hB13⟩
      case measure => simp [intOf]; omega
    · have HY : Hid (pB (DonesOk h) = true) := pB_yes ⟨by omega, by
        have := HI.out.2.2.2
        rwa [show k = h.ds.length by omega] at this⟩
      go_wp2_with fail
      go_ret
      exact ⟨ret_bool HY.out.symm, up_trans hB0 hB⟩
end Go.Proofs.YtlkpgiifdclijaaGreatDoor

/- slices.Sort at names, slices.Equal (the program's chapter 22). -/
namespace Go.Proofs.YtlkpgiifdclijaaGreatDoor
open Go.RowKit Go.Shelf

set_option maxHeartbeats 2000000 in
theorem equalN_at (sa sb : List ByteArray) (n m : Nat) (a1 a2 : Option Addr) (c1 c2 : Nat) (w : World) (Hn : Hid (sa.length = n)) (Hm : Hid (sb.length = m)) (hn9 : n ≤ maxLen) (hpa : 0 < n → ∃ b o, a1 = some ⟨b, o, none⟩ ∧ StrsAt w b o sa ∧ b < w.heap.size) (hpb : 0 < m → ∃ b o, a2 = some ⟨b, o, none⟩ ∧ StrsAt w b o sb ∧ b < w.heap.size) :
    Calls Tryz.prog 59 #[.slice a1 n c1, .slice a2 m c2] w fun e w' => e = .returned (.bool (pB (sa = sb))) ∧ Below w.heap.size w w' := by
  unfold maxLen at hn9
  by_cases hll : n = m
  case neg =>
    have HN : Hid (pB (sa = sb) = false) := pB_no fun e => hll (by rw [← Hn.out, ← Hm.out, e])
    go_enter Tryz.func59, Tryz.ntmps59
    go_wp2_with fail
    go_ret
    exact ⟨ret_bool HN.out.symm, Below.refl _ _⟩
  subst hll
  go_enter Tryz.func59, Tryz.ntmps59
  go_wp2_with fail
  go_loopw [5, 13] (fun _ i w' => ∃ k : Nat, k ≤ n ∧ i = .int .i64 k ∧ (∀ i, i < k → sa[i]? = sb[i]?) ∧ Below w.heap.size w w') (fun _ i _ => n - (intOf i).toNat)
  case atStart => exact ⟨0, by omega, rfl, fun i hi => by omega, Below.refl _ _⟩
  case round =>
    obtain ⟨k, hk, rfl, hal, hB⟩ := hrel
    have Hal : Hid (∀ i, i < k → sa[i]? = sb[i]?) := hal
    clear hal
    by_cases hp : k < n
    · obtain ⟨b1, o1, rfl, hS1, hb1⟩ := hpa (by omega)
      obtain ⟨b2, o2, rfl, hS2, hb2⟩ := hpb (by omega)
      have h1 : k < sa.length := by have := Hn.out; omega
      have h2 : k < sb.length := by have := Hm.out; omega
      have e1 := (hB.cell (p := ⟨b1, o1 + k, none⟩) hb1).trans (hS1 k sa[k] (List.getElem?_eq_getElem h1))
      have e2 := (hB.cell (p := ⟨b2, o2 + k, none⟩) hb2).trans (hS2 k sb[k] (List.getElem?_eq_getElem h2))
      have N1 : Hid (((sa[k]).toList == (sb[k]).toList) = false → ¬ sa = sb) := fun hq e => by
        subst e; simp at hq
      have N2 : Hid (((sa[k]).toList == (sb[k]).toList) = true → ∀ i, i < k + 1 → sa[i]? = sb[i]?) := fun hq i hi => by
        rcases Nat.lt_or_ge i k with h' | h'
        · exact Hal.out i h'
        · obtain rfl : i = k := by omega
          have e : sa[i] = sb[i] := toL_eq (by simpa using hq)
          rw [List.getElem?_eq_getElem h1, List.getElem?_eq_getElem h2, e]
      generalize sa[k] = s1 at *
      generalize sb[k] = s2 at *
      clear hS1 hS2
      cases hq : (s1.toList == s2.toList)
      · have HN : Hid (pB (sa = sb) = false) := pB_no (N1.out hq)
        go_wp2_with fail
        go_quiet (fail)
        go_wp2_with fail
        go_ret
        exact ⟨ret_bool HN.out.symm, below_drewN hB _⟩
      · have HY : Hid (∀ i, i < k + 1 → sa[i]? = sb[i]?) := N2.out hq
        go_wp2_with fail
        go_quiet (fail)
        go_wp2_with fail
        go_roundw
        case rel => exact ⟨k + 1, by omega, by go_num, HY.out, below_drewN hB _⟩
        case measure => simp [intOf]; omega
    · have HY : Hid (pB (sa = sb) = true) := pB_yes (List.ext_getElem? fun i => by
        by_cases hi : i < k
        · exact Hal.out i hi
        · rw [List.getElem?_eq_none (by have := Hn.out; omega), List.getElem?_eq_none (by have := Hm.out; omega)])
      go_wp2_with fail
      go_ret
      exact ⟨ret_bool HY.out.symm, hB⟩
theorem equalN_any (sa sb : List ByteArray) (va vb : Value) (w : World) (ha : Ls w va sa) (hb : Ls w vb sb) :
    Calls Tryz.prog 59 #[va, vb] w fun e w' => e = .returned (.bool (pB (sa = sb))) ∧ Below w.heap.size w w' := by
  obtain ⟨a1, c1, rfl, hn1, -, hp1⟩ := ha
  obtain ⟨a2, c2, rfl, -, -, hp2⟩ := hb
  exact equalN_at sa sb _ _ a1 a2 c1 c2 w rfl rfl hn1 hp1 hp2
set_option maxHeartbeats 2000000 in
theorem equalS_at (sa sb : List ByteArray) (n m : Nat) (a1 a2 : Option Addr) (c1 c2 : Nat) (w : World) (Hn : Hid (sa.length = n)) (Hm : Hid (sb.length = m)) (hn9 : n ≤ maxLen) (hpa : 0 < n → ∃ b o, a1 = some ⟨b, o, none⟩ ∧ StrsAt w b o sa ∧ b < w.heap.size) (hpb : 0 < m → ∃ b o, a2 = some ⟨b, o, none⟩ ∧ StrsAt w b o sb ∧ b < w.heap.size) :
    Calls Tryz.prog 62 #[.slice a1 n c1, .slice a2 m c2] w fun e w' => e = .returned (.bool (pB (sa = sb))) ∧ Below w.heap.size w w' := by
  unfold maxLen at hn9
  by_cases hll : n = m
  case neg =>
    have HN : Hid (pB (sa = sb) = false) := pB_no fun e => hll (by rw [← Hn.out, ← Hm.out, e])
    go_enter Tryz.func62, Tryz.ntmps62
    go_wp2_with fail
    go_ret
    exact ⟨ret_bool HN.out.symm, Below.refl _ _⟩
  subst hll
  go_enter Tryz.func62, Tryz.ntmps62
  go_wp2_with fail
  go_loopw [5, 13] (fun _ i w' => ∃ k : Nat, k ≤ n ∧ i = .int .i64 k ∧ (∀ i, i < k → sa[i]? = sb[i]?) ∧ Below w.heap.size w w') (fun _ i _ => n - (intOf i).toNat)
  case atStart => exact ⟨0, by omega, rfl, fun i hi => by omega, Below.refl _ _⟩
  case round =>
    obtain ⟨k, hk, rfl, hal, hB⟩ := hrel
    have Hal : Hid (∀ i, i < k → sa[i]? = sb[i]?) := hal
    clear hal
    by_cases hp : k < n
    · obtain ⟨b1, o1, rfl, hS1, hb1⟩ := hpa (by omega)
      obtain ⟨b2, o2, rfl, hS2, hb2⟩ := hpb (by omega)
      have h1 : k < sa.length := by have := Hn.out; omega
      have h2 : k < sb.length := by have := Hm.out; omega
      have e1 := (hB.cell (p := ⟨b1, o1 + k, none⟩) hb1).trans (hS1 k sa[k] (List.getElem?_eq_getElem h1))
      have e2 := (hB.cell (p := ⟨b2, o2 + k, none⟩) hb2).trans (hS2 k sb[k] (List.getElem?_eq_getElem h2))
      have N1 : Hid (((sa[k]).toList == (sb[k]).toList) = false → ¬ sa = sb) := fun hq e => by
        subst e; simp at hq
      have N2 : Hid (((sa[k]).toList == (sb[k]).toList) = true → ∀ i, i < k + 1 → sa[i]? = sb[i]?) := fun hq i hi => by
        rcases Nat.lt_or_ge i k with h' | h'
        · exact Hal.out i h'
        · obtain rfl : i = k := by omega
          have e : sa[i] = sb[i] := toL_eq (by simpa using hq)
          rw [List.getElem?_eq_getElem h1, List.getElem?_eq_getElem h2, e]
      generalize sa[k] = s1 at *
      generalize sb[k] = s2 at *
      clear hS1 hS2
      cases hq : (s1.toList == s2.toList)
      · have HN : Hid (pB (sa = sb) = false) := pB_no (N1.out hq)
        go_wp2_with fail
        go_quiet (fail)
        go_wp2_with fail
        go_ret
        exact ⟨ret_bool HN.out.symm, below_drewN hB _⟩
      · have HY : Hid (∀ i, i < k + 1 → sa[i]? = sb[i]?) := N2.out hq
        go_wp2_with fail
        go_quiet (fail)
        go_wp2_with fail
        go_roundw
        case rel => exact ⟨k + 1, by omega, by go_num, HY.out, below_drewN hB _⟩
        case measure => simp [intOf]; omega
    · have HY : Hid (pB (sa = sb) = true) := pB_yes (List.ext_getElem? fun i => by
        by_cases hi : i < k
        · exact Hal.out i hi
        · rw [List.getElem?_eq_none (by have := Hn.out; omega), List.getElem?_eq_none (by have := Hm.out; omega)])
      go_wp2_with fail
      go_ret
      exact ⟨ret_bool HY.out.symm, hB⟩
theorem equalS_any (sa sb : List ByteArray) (va vb : Value) (w : World) (ha : Ls w va sa) (hb : Ls w vb sb) :
    Calls Tryz.prog 62 #[va, vb] w fun e w' => e = .returned (.bool (pB (sa = sb))) ∧ Below w.heap.size w w' := by
  obtain ⟨a1, c1, rfl, hn1, -, hp1⟩ := ha
  obtain ⟨a2, c2, rfl, -, -, hp2⟩ := hb
  exact equalS_at sa sb _ _ a1 a2 c1 c2 w rfl rfl hn1 hp1 hp2

section
open Go.Sort
theorem lenN_any (n : Nat) (w : World) (hn : n < 4611686018427387904) : Calls Tryz.prog 90 #[.int .u64 (n : Int)] w fun e w' => e = .returned (.int .i64 (bitsLen n : Nat)) ∧ w' = w :=
  calls_of_every_depth fun D => Any.lenWalkInSAll (ρ := Tryz.lays190_ren) { Tryz.lays190 with } D n w hn
theorem pdqN_any (g cap : Nat) (ks : List Key) (w : World) (hH : Holds encStr w g 0 ks.toArray) (hg : g < w.heap.size) (hn : ks.length ≤ 1000) :
    Calls Tryz.prog 89 #[.slice (some ⟨g, 0, none⟩) ks.length cap, .int .i64 0, .int .i64 (ks.length : Nat), .int .i64 (bitsLen ks.length : Nat)] w fun e w' => e = .returned (.tuple #[]) ∧ ∃ n os, w' = grow (putRow encStr (Sort.ahead w n) g 0 (ks.mergeSort fun x y => decide (x ≤ y)).toArray) os := by
  have hk : bitsLen ks.length ≤ 62 := (bitsLen_le_iff ks.length 62).2 (by omega)
  have hdp := pdqDepth_le_59 ltStr ks.toArray 0 ks.length (bitsLen ks.length) true true (by omega)
  have h := calls_of_every_depth fun D => (Any.pdqWalkInStr (ρ := Tryz.lays190_ren) { Tryz.lays190 with } D) 65 g 0 cap 0 ks.length (bitsLen ks.length) ks.toArray w (by omega) hH hg (Nat.zero_le _) (by simp) (by simp; omega) (by omega) (Or.inl rfl)
  have e : Sort.pdq ltStr ks.toArray 0 ks.length (bitsLen ks.length) true true = (ks.mergeSort fun x y => decide (x ≤ y)).toArray := by
    rw [← Any.sort_str_eqD]; simp [Sort.sort]
  rw [e] at h
  have h3 : Calls Tryz.prog 89 _ _ _ := h
  simpa using h3
theorem sortN_any (g cap : Nat) (ks : List Key) (w : World) (hH : Holds encStr w g 0 ks.toArray) (hg : g < w.heap.size) (hn : ks.length ≤ 1000) :
    Calls Tryz.prog 58 #[.slice (some ⟨g, 0, none⟩) ks.length cap] w fun e w' => e = .returned (.tuple #[]) ∧ ∃ n os, w' = grow (putRow encStr (Sort.ahead w n) g 0 (ks.mergeSort fun x y => decide (x ≤ y)).toArray) os := by
  have HH : Hid (Holds encStr w g 0 ks.toArray) := hH
  clear hH
  go_enter Tryz.func58, Tryz.ntmps58
  go_wp2_with (first
    | (go_at_call 90; refine (lenN_any ks.length _ (by omega)).mono ?_; rintro e w' ⟨rfl, hw⟩; obtain rfl := hw.symm; clear hw)
    | (go_at_call 89; refine (pdqN_any g cap ks _ HH.out hg hn).mono ?_; rintro e w' ⟨rfl, n, os, rfl⟩))
  go_end0
  exact ⟨rfl, n, os, rfl⟩
theorem sortN_none (p : Option Addr) (cap : Nat) (w : World) :
    Calls Tryz.prog 58 #[.slice p 0 cap] w fun e w' => e = .returned (.tuple #[]) ∧ w' = w := by
  have hl := fun w => lenN_any 0 w (by omega)
  have e0 : bitsLen 0 = 0 := by decide
  rw [e0] at hl
  go_enter Tryz.func58, Tryz.ntmps58
  go_wp2_with (first
    | (go_at_call 90; refine (hl _).mono ?_; rintro e w' ⟨rfl, hw⟩; obtain rfl := hw.symm; clear hw)
    | (go_at_call 89; refine (calls_of_every_depth fun D => AnyS.pdqsort_string_none_in (ρ := Tryz.lays190_ren) { Tryz.lays190 with } D p cap w).mono ?_; rintro e w' ⟨rfl, hw⟩; obtain rfl := hw.symm; clear hw))
  go_end0
  exact ⟨rfl, rfl⟩
end
end Go.Proofs.YtlkpgiifdclijaaGreatDoor

/- The program's checks of names and of batches (chapter 22). -/
namespace Go.Proofs.YtlkpgiifdclijaaGreatDoor
open Go.RowKit

section
open Go.Shelf Go.Sort
theorem sorted_own {w w1 : World} {g cap n nn : Nat} {os : Array Obj} {ks : List Key} (hown : w1.ownsRow w.heap.size 9 1 (.slice (some ⟨g, 0, none⟩) n cap) n (ks.map encStr)) (hbel : RowKit.Below w.heap.size w w1) (hlen : ks.length = n) :
    (grow (putRow encStr (Sort.ahead w1 nn) g 0 (ks.mergeSort fun x y => decide (x ≤ y)).toArray) os).ownsRow w.heap.size 9 1 (.slice (some ⟨g, 0, none⟩) n cap) n ((ks.mergeSort fun x y => decide (x ≤ y)).map encStr) ∧
      RowKit.Below w.heap.size w (grow (putRow encStr (Sort.ahead w1 nn) g 0 (ks.mergeSort fun x y => decide (x ≤ y)).toArray) os) := by
  have hl2 : (ks.mergeSort fun x y => decide (x ≤ y)).length = ks.length := List.length_mergeSort ks
  subst hlen
  rcases hown.2 with ⟨h0, _⟩ | ⟨g', cap', cur, hv, hbase, hb, h1, h2, h3, h4⟩
  · cases h0
  cases hv
  exact ⟨ownsRow_sorted (n := nn) (os := os) (ts := ks.mergeSort fun x y => decide (x ≤ y)) hl2 hbase hb h1 h2 h3, hbel.grown (grownBy_sorted _) hbel.size (fun j hj => by cases hj; exact hbase)⟩
end
set_option maxRecDepth 20000 in
set_option maxHeartbeats 4000000 in
theorem namesP_any (h : House) (tv bv xv dv : Value) (w : World) (H : HV w h tv bv xv dv) (hok : BookOk h.sh) :
    Calls Tryz.prog 27 #[.agg #[.int .i64 h.now, .int .i64 h.last, tv, bv, xv, dv]] w fun e w' => e = .returned (.bool (pB (NamesOk h))) ∧ Below w.heap.size w w' := by
  obtain ⟨a1, c1, a2, c2, a3, c3, a4, c4, rfl, rfl, rfl, rfl⟩ := H.shapes
  obtain ⟨-, hpos⟩ := H.x.inv rfl
  have hb5 : h.sh.bs.length ≤ 5 := hok.2.1
  have Ha : Hid (Asc (nms h.sh.bs)) := hok.2.2.2.1
  have HB := H.b
  clear H hok
  obtain ⟨ii, hi, iz0, iz1, iz2⟩ := info_parts infoStr
  have hB0 := (Below.refl w.heap.size w).alloc (Nat.le_refl _) (.cells #[.int .i64 h.now, .int .i64 h.last, .slice a1 h.sh.things.length c1, .slice a2 h.sh.bs.length c2, .slice a3 h.bs.length c3, .slice a4 h.ds.length c4] 38)
  have hC : CB (w.alloc (.cells #[.int .i64 h.now, .int .i64 h.last, .slice a1 h.sh.things.length c1, .slice a2 h.sh.bs.length c2, .slice a3 h.bs.length c3, .slice a4 h.ds.length c4] 38)) w.heap.size [.int .i64 h.now, .int .i64 h.last, .slice a1 h.sh.things.length c1, .slice a2 h.sh.bs.length c2, .slice a3 h.bs.length c3, .slice a4 h.ds.length c4] := cb_alloc w _ _
  go_enter Tryz.func27, Tryz.ntmps27
  go_upto_region 1 with fail
  generalize w.alloc (.cells #[.int .i64 h.now, .int .i64 h.last, .slice a1 h.sh.things.length c1, .slice a2 h.sh.bs.length c2, .slice a3 h.bs.length c3, .slice a4 h.ds.length c4] 38) = W1 at *
  have hlt := hC.2.2
  obtain ⟨d0, d1, d2, d3, d4, d5⟩ := hC.c6
  by_cases hll : h.bs.length = h.sh.bs.length
  case neg =>
    have HN : Hid (pB (NamesOk h) = false) := pB_no fun t => hll t.1
    go_wp2_with fail
    go_ret
    exact ⟨ret_bool HN.out.symm, hB0⟩
  have Hll : Hid (h.bs.length = h.sh.bs.length) := hll
  have hx5 : h.bs.length ≤ 5 := by omega
  go_upto_region 3 with fail
  clear hll
  go_wp2_with fail
  go_loopw [3, 5, 17] (fun u _ i w' => ∃ k : Nat, k ≤ h.bs.length ∧ i = .int .i64 k ∧ w'.ownsRow W1.heap.size 9 1 u k ((rnms (h.bs.take k)).map Value.string) ∧ Below W1.heap.size W1 w') (fun _ _ i _ => h.bs.length - (intOf i).toNat)
  case atStart => exact ⟨0, by omega, rfl, ⟨by simp [rnms], .inl ⟨rfl, rfl⟩⟩, Below.refl _ _⟩
  case round =>
    obtain ⟨k, hk, rfl, hown, hB⟩ := hrel
    clear d0 d1 d2 d3 d4 d5
    by_cases hp : k < h.bs.length
    · obtain ⟨b, o, ha3, hS, hb⟩ := hpos (by omega)
      subst ha3
      have hB01 := up_trans hB0 hB
      obtain ⟨p, q, c, g, r, d, ⟨e0, e1, e2, e3, e4, e5⟩, -⟩ := ((hS.at hp).up hB01 hb).open
      have Hs : Hid ((rnms (h.bs.take (k + 1))).map Value.string = (rnms (h.bs.take k)).map Value.string ++ [.string (h.bs[k]).nm]) := by
        show _ = _
        rw [rnms_snoc h.bs k hp, List.map_append]; rfl
      generalize h.bs[k] = x0 at *
      clear hS
      have hB1 := hB.alloc hB.size (.cells #[.string x0.nm, .slice (some ⟨p, q, none⟩) x0.ps.length c, .slice (some ⟨g, r, none⟩) x0.sl.length d, .string x0.ad, .int .i64 x0.si, .int .i64 x0.st] 51)
      have hown1 := own_up hown ((Below.refl wr.heap.size wr).alloc (Nat.le_refl _) (.cells #[.string x0.nm, .slice (some ⟨p, q, none⟩) x0.ps.length c, .slice (some ⟨g, r, none⟩) x0.sl.length d, .string x0.ad, .int .i64 x0.si, .int .i64 x0.st] 51))
      have hX : CB (wr.alloc (.cells #[.string x0.nm, .slice (some ⟨p, q, none⟩) x0.ps.length c, .slice (some ⟨g, r, none⟩) x0.sl.length d, .string x0.ad, .int .i64 x0.si, .int .i64 x0.st] 51)) wr.heap.size [.string x0.nm, .slice (some ⟨p, q, none⟩) x0.ps.length c, .slice (some ⟨g, r, none⟩) x0.sl.length d, .string x0.ad, .int .i64 x0.si, .int .i64 x0.st] := cb_alloc wr _ _
      have hz := hB.size
      go_upto_region 7 with fail
      generalize wr.alloc (.cells #[.string x0.nm, .slice (some ⟨p, q, none⟩) x0.ps.length c, .slice (some ⟨g, r, none⟩) x0.sl.length d, .string x0.ad, .int .i64 x0.si, .int .i64 x0.st] 51) = W2 at *
      obtain ⟨f0, -⟩ := hX.c6
      clear e0 e1 e2 e3 e4 e5 hown hB
      have hown2 := own_up hown1 ((Below.refl W2.heap.size W2).alloc (Nat.le_refl _) (.cells #[.string x0.nm] 9))
      have hB2 := hB1.alloc hB1.size (.cells #[.string x0.nm] 9)
      go_wp2_with (at_builtin; refine wpList_append_own _ rfl _ _ 93 rfl W1.heap.size 9 ii _ 1 16 Tryz.underlying93 hi iz0 iz1 iz2 rfl (by decide) _ _ _ rfl hown2 ⟨W2.heap.size, 0, none⟩ 1 1 [.string x0.nm] rfl rfl (one_new _ _ _) (oneV _) (by unfold maxLen; omega) (by omega) hB2.size ?_)
      intro v1 w1 hown3 hgrow3 _
      rw [← Hs.out] at hown3
      have hB3 := below_own hB2 hown2 hgrow3 (Nat.le_refl _)
      clear hown1 hown2 hgrow3 hB1 hB2 hX f0
      go_wp2_with fail
      go_roundw
      case rel => exact ⟨k + 1, by omega, by go_num, hown3, hB3⟩
      case measure => simp [intOf]; omega
    · have hkl : k = h.bs.length := by omega
      rw [hkl, List.take_length] at hown
      clear hkl
      have hB01 := up_trans hB0 hB
      have hz : ∀ s ∈ rnms h.bs, s.size ≤ maxLen := fun s hs => by
        obtain ⟨x, hx, rfl⟩ := List.mem_map.1 hs
        obtain ⟨i, hi, rfl⟩ := List.getElem_of_mem hx
        obtain ⟨b, o, rfl, hS, hb⟩ := hpos (by omega)
        obtain ⟨rv, sv, -, hv⟩ := hS.at hi
        exact hv.zn
      have HS := names_sorted (h := h) Ha.out Hll.out
      have Hsrt : Hid (sorted (keys (rnms h.bs)) = keys (nms h.sh.bs) ↔ NamesOk h) := HS
      have Hkl : Hid ((keys (rnms h.bs)).length = h.bs.length) := by show _ = _; simp [keys, rnms]
      have Hz : Hid (∀ s ∈ namesOf (sorted (keys (rnms h.bs))), s.size ≤ maxLen) := fun s hs => by
        have h1 : s.toList ∈ keys (namesOf (sorted (keys (rnms h.bs)))) := mem_keys.2 hs
        rw [keys_names] at h1
        have h2 : s.toList ∈ keys (rnms h.bs) := List.mem_mergeSort.1 h1
        exact hz s (mem_keys.1 h2)
      have Hfin : Hid (∀ W, Below W1.heap.size W1 W → ∀ u, Ls W u (namesOf (sorted (keys (rnms h.bs)))) → ∃ x, True) := fun _ _ _ _ => ⟨(), trivial⟩
      have Hans : Hid (pB (namesOf (sorted (keys (rnms h.bs))) = nms h.sh.bs) = pB (NamesOk h)) := by
        show _ = _
        rw [Bool.eq_iff_iff, pB_iff, pB_iff, ← Hsrt.out]
        constructor
        · intro e; rw [← e, keys_names]
        · intro e; rw [e]; exact names_keys _
      clear HS hz Hfin Hsrt
      rw [strs_enc] at hown
      obtain ⟨d0, d1, d2, d3, d4, d5⟩ := (hC.up hB hlt).c6
      by_cases h0 : h.bs.length = 0
      · rw [h0] at hown
        obtain ⟨ua, uc, hu⟩ := own_shape hown
        subst hu
        have HL : Hid (Ls wr (.slice ua 0 uc) (namesOf (sorted (keys (rnms h.bs))))) := by
          have e : h.bs = [] := List.length_eq_zero_iff.1 h0
          show Ls _ _ _
          rw [e]
          have e2 : namesOf (sorted (keys (rnms ([] : List Rb)))) = [] := by simp [rnms, keys, sorted, namesOf]
          rw [e2]
          exact Ls.nil _ _ _
        have H0 : Hid (h.bs.length = 0) := h0
        clear hown h0
        go_wp2_with fail
        refine (sortN_none _ _ _).mono ?_
        rintro e w' ⟨rfl, hw⟩; obtain rfl := hw.symm; clear hw
        go_wp2_with fail
        refine (batchNames_any h.sh.bs _ _ (HB.up hB01) (by omega)).mono ?_
        rintro e w3 ⟨⟨u3, rfl, -, hL3⟩, hB3⟩
        have hL4 := HL.out.up hB3
        clear d0 d1 d2 d3 d4 d5
        go_wp2_with fail
        refine (equalN_any _ _ _ _ _ hL4 hL3).mono ?_
        rintro e w4 ⟨rfl, hB4⟩
        have hB04 := up_trans (up_trans hB01 hB3) hB4
        go_wp2_with fail
        go_ret
        exact ⟨ret_bool Hans.out, hB04⟩
      · obtain ⟨n', hN⟩ : ∃ n, n = h.bs.length := ⟨_, rfl⟩
        have hlen : (keys (rnms h.bs)).length = n' := by rw [Hkl.out, hN]
        rw [← hN] at hown
        have hnp : 0 < n' := by omega
        have hn9 : n' ≤ 5 := by omega
        clear hN
        obtain ⟨g, cap, hug⟩ := own_ptr2 hown hnp
        subst hug
        obtain ⟨g', cap', hv, hbg, hgl, hncap, hcm, _, hH⟩ := Lib.holds_of_ownsRow hown (by simp)
        cases hv
        unfold maxLen at hcm
        have hsort := sortN_any g cap (keys (rnms h.bs)) wr hH hgl (by omega)
        rw [hlen] at hsort
        go_wp2_with fail
        refine hsort.mono ?_
        rintro e w2 ⟨rfl, nn, os, rfl⟩
        clear hsort
        obtain ⟨ho2, hB2⟩ := sorted_own (nn := nn) (os := os) hown hB hlen
        have hL2 : Ls (Sort.grow (Sort.putRow encStr (Sort.ahead wr nn) g 0 ((keys (rnms h.bs)).mergeSort fun x y => decide (x ≤ y)).toArray) os) (.slice (some ⟨g, 0, none⟩) n' cap) (namesOf (sorted (keys (rnms h.bs)))) := by
          have hll : (namesOf (sorted (keys (rnms h.bs)))).length = n' := by simp [namesOf, sorted, List.length_mergeSort, hlen]
          rw [names_enc] at ho2
          have : OwnT (Sort.grow (Sort.putRow encStr (Sort.ahead wr nn) g 0 ((keys (rnms h.bs)).mergeSort fun x y => decide (x ≤ y)).toArray) os) W1.heap.size (.slice (some ⟨g, 0, none⟩) n' cap) (namesOf (sorted (keys (rnms h.bs)))) := by
            unfold OwnT
            rw [hll]
            exact ho2
          exact this.lst.ls Hz.out
        clear ho2 hH
        generalize Sort.grow (Sort.putRow encStr (Sort.ahead wr nn) g 0 ((keys (rnms h.bs)).mergeSort fun x y => decide (x ≤ y)).toArray) os = W2 at *
        have hB02 := up_trans hB0 hB2
        clear d0 d1 d2 d3 d4 d5
        obtain ⟨d0, d1, d2, d3, d4, d5⟩ := (hC.up hB2 hlt).c6
        go_wp2_with fail
        refine (batchNames_any h.sh.bs _ _ (HB.up hB02) (by omega)).mono ?_
        rintro e w3 ⟨⟨u3, rfl, -, hL3⟩, hB3⟩
        have hL4 := hL2.up hB3
        clear d0 d1 d2 d3 d4 d5
        go_wp2_with fail
        refine (equalN_any _ _ _ _ _ hL4 hL3).mono ?_
        rintro e w4 ⟨rfl, hB4⟩
        have hB04 := up_trans (up_trans hB02 hB3) hB4
        go_wp2_with fail
        go_ret
        exact ⟨ret_bool Hans.out, hB04⟩

set_option maxRecDepth 20000 in
set_option maxHeartbeats 4000000 in
theorem batsP_any (h : House) (tv bv xv dv : Value) (w : World) (hE : Ends w) (H : HV w h tv bv xv dv) :
    Calls Tryz.prog 28 #[.agg #[.int .i64 h.now, .int .i64 h.last, tv, bv, xv, dv]] w fun e w' => e = .returned (.bool (pB (BatsOk h))) ∧ Below w.heap.size w w' := by
  obtain ⟨a1, c1, a2, c2, a3, c3, a4, c4, rfl, rfl, rfl, rfl⟩ := H.shapes
  obtain ⟨hmax, hpos⟩ := H.x.inv rfl
  unfold maxLen at hmax
  clear H
  have HE : Hid (Ends w) := hE
  clear hE
  have hB0 := (Below.refl w.heap.size w).alloc (Nat.le_refl _) (.cells #[.int .i64 h.now, .int .i64 h.last, .slice a1 h.sh.things.length c1, .slice a2 h.sh.bs.length c2, .slice a3 h.bs.length c3, .slice a4 h.ds.length c4] 38)
  have hC : CB (w.alloc (.cells #[.int .i64 h.now, .int .i64 h.last, .slice a1 h.sh.things.length c1, .slice a2 h.sh.bs.length c2, .slice a3 h.bs.length c3, .slice a4 h.ds.length c4] 38)) w.heap.size [.int .i64 h.now, .int .i64 h.last, .slice a1 h.sh.things.length c1, .slice a2 h.sh.bs.length c2, .slice a3 h.bs.length c3, .slice a4 h.ds.length c4] := cb_alloc w _ _
  go_enter Tryz.func28, Tryz.ntmps28
  go_upto_region 1 with fail
  generalize w.alloc (.cells #[.int .i64 h.now, .int .i64 h.last, .slice a1 h.sh.things.length c1, .slice a2 h.sh.bs.length c2, .slice a3 h.bs.length c3, .slice a4 h.ds.length c4] 38) = W1 at *
  have hlt := hC.2.2
  obtain ⟨d0, d1, d2, d3, d4, d5⟩ := hC.c6
  go_wp2_with fail
  go_loopw [3, 5, 9] (fun ah _ i w' => ∃ (k : Nat) (a : Int), k ≤ h.bs.length ∧ i = .int .i64 k ∧ ah = .int .i64 a ∧ ((k = 0 → a = 0) ∧ (∀ (j : Nat) (p : Rb), j + 1 = k → h.bs[j]? = some p → a = p.st) ∧ BatsTo h.bs h.last k) ∧ Below W1.heap.size W1 w') (fun _ _ i _ => h.bs.length - (intOf i).toNat)
  case atStart => exact ⟨0, 0, by omega, rfl, rfl, ⟨fun _ => rfl, fun j p hj => by omega, fun i d hi => by omega⟩, Below.refl _ _⟩
  case round =>
    obtain ⟨k, a, hk, rfl, rfl, hinv, hB⟩ := hrel
    have HI : Hid ((k = 0 → a = 0) ∧ (∀ (j : Nat) (p : Rb), j + 1 = k → h.bs[j]? = some p → a = p.st) ∧ BatsTo h.bs h.last k) := hinv
    clear hinv d0 d1 d2 d3 d4 d5
    by_cases hp : k < h.bs.length
    · obtain ⟨b, o, ha3, hS, hb⟩ := hpos (by omega)
      subst ha3
      have hB01 := up_trans hB0 hB
      obtain ⟨p, q, c, g, r, d, ⟨e0, e1, e2, e3, e4, e5⟩, hv⟩ := ((hS.at hp).up hB01 hb).open
      obtain ⟨-, d1, -⟩ := (hC.up hB hlt).c6
      have NO : Hid (¬ BatOk h.bs h.last k h.bs[k] → pB (BatsOk h) = false) := fun hn => pB_no fun t => hn (t k _ hp (List.getElem?_eq_getElem hp))
      have YES : Hid (BatOk h.bs h.last k h.bs[k] → BatsTo h.bs h.last (k + 1)) := fun hy => to_step (P := BatOk h.bs h.last) HI.out.2.2 hp hy
      have HT : Hid (∀ (j : Nat) (p : Rb), j + 1 = k + 1 → h.bs[j]? = some p → (h.bs[k]).st = p.st) := fun j p hj hp' => by
        obtain rfl : j = k := by omega
        rw [List.getElem?_eq_getElem hp] at hp'
        obtain rfl := Option.some.inj hp'; rfl
      have HP : Hid (a < (h.bs[k]).st → ∀ (j : Nat) (p : Rb), j + 1 = k → h.bs[j]? = some p → p.st < (h.bs[k]).st) := fun ht j p hj hp' => by
        rw [← HI.out.2.1 j p hj hp']; exact ht
      have HQ : Hid ((h.bs[k]).st ≤ a → ¬ BatOk h.bs h.last k h.bs[k]) := fun ht hd => by
        obtain ⟨i1, i2, -⟩ := HI.out
        obtain ⟨k0, -, k2⟩ := hd
        have := k0.2.2.2.1
        rcases Nat.eq_zero_or_pos k with e | e
        · have := i1 e; omega
        · obtain ⟨j, rfl⟩ : ∃ j, k = j + 1 := ⟨k - 1, by omega⟩
          have hj := List.getElem?_eq_getElem (l := h.bs) (i := j) (by omega)
          have := k2 j _ rfl hj
          have := i2 j _ rfl hj
          omega
      generalize h.bs[k] = x0 at *
      clear hS
      have hB1 := hB.alloc hB.size (.cells #[.string x0.nm, .slice (some ⟨p, q, none⟩) x0.ps.length c, .slice (some ⟨g, r, none⟩) x0.sl.length d, .string x0.ad, .int .i64 x0.si, .int .i64 x0.st] 51)
      have hX : CB (wr.alloc (.cells #[.string x0.nm, .slice (some ⟨p, q, none⟩) x0.ps.length c, .slice (some ⟨g, r, none⟩) x0.sl.length d, .string x0.ad, .int .i64 x0.si, .int .i64 x0.st] 51)) wr.heap.size [.string x0.nm, .slice (some ⟨p, q, none⟩) x0.ps.length c, .slice (some ⟨g, r, none⟩) x0.sl.length d, .string x0.ad, .int .i64 x0.si, .int .i64 x0.st] := cb_alloc wr _ _
      have hv2 := hv.up ((Below.refl wr.heap.size wr).alloc (Nat.le_refl _) (.cells #[.string x0.nm, .slice (some ⟨p, q, none⟩) x0.ps.length c, .slice (some ⟨g, r, none⟩) x0.sl.length d, .string x0.ad, .int .i64 x0.si, .int .i64 x0.st] 51))
      have d1' := ((Below.refl wr.heap.size wr).alloc (Nat.le_refl _) (.cells #[.string x0.nm, .slice (some ⟨p, q, none⟩) x0.ps.length c, .slice (some ⟨g, r, none⟩) x0.sl.length d, .string x0.ad, .int .i64 x0.si, .int .i64 x0.st] 51)).cell (p := ⟨w.heap.size, 1, none⟩) (Nat.lt_of_lt_of_le hlt hB.size) |>.trans d1
      go_upto_region 5 with fail
      generalize wr.alloc (.cells #[.string x0.nm, .slice (some ⟨p, q, none⟩) x0.ps.length c, .slice (some ⟨g, r, none⟩) x0.sl.length d, .string x0.ad, .int .i64 x0.si, .int .i64 x0.st] 51) = W2 at *
      obtain ⟨f0, f1, f2, f3, f4, f5⟩ := hX.c6
      have hXlt := hX.2.2
      have hqlt : w.heap.size < W2.heap.size := Nat.lt_of_lt_of_le hlt hB1.size
      have hB02 := up_trans hB0 hB1
      clear e0 e1 e2 e3 e4 e5 d1 hv
      go_wp2_with fail
      refine (batchOkP_any x0 _ _ _ (HE.out.up hB02) hv2).mono ?_
      rintro e w3 ⟨rfl, hB3⟩
      have g5 := (hB3.cell (p := ⟨wr.heap.size, 5, none⟩) hXlt).trans f5
      have g1 := (hB3.cell (p := ⟨w.heap.size, 1, none⟩) hqlt).trans d1'
      have hB13 := up_trans hB1 hB3
      have hB03 := up_trans hB0 hB13
      clear f0 f1 f2 f3 f4 f5 d1' hB3 hv2
      cases q1 : pB (RbOk x0)
      · have HN : Hid (pB (BatsOk h) = false) := NO.out fun t => pB_not.1 q1 t.1
        go_wp2_with fail
        go_ret
        exact ⟨ret_bool HN.out.symm, hB03⟩
      by_cases q2 : a < x0.st
      case neg =>
        have HN : Hid (pB (BatsOk h) = false) := NO.out (HQ.out (by omega))
        go_wp2_with fail
        go_ret
        exact ⟨ret_bool HN.out.symm, hB03⟩
      by_cases q3 : x0.st ≤ h.last
      case neg =>
        have HN : Hid (pB (BatsOk h) = false) := NO.out fun t => q3 t.2.1
        go_wp2_with fail
        go_ret
        exact ⟨ret_bool HN.out.symm, hB03⟩
      have HY : Hid (BatsTo h.bs h.last (k + 1)) := YES.out ⟨pB_iff.1 q1, q3, HP.out q2⟩
      go_wp2_with fail
      go_roundw
      case rel => exact ⟨k + 1, x0.st, by omega, by go_num, rfl, ⟨fun e => by omega, HT.out, HY.out⟩, hB13⟩
      case measure => simp [intOf]; omega
    · have HY : Hid (pB (BatsOk h) = true) := pB_yes (by
        have := HI.out.2.2
        rwa [show k = h.bs.length by omega] at this)
      go_wp2_with fail
      go_ret
      exact ⟨ret_bool HY.out.symm, up_trans hB0 hB⟩
end Go.Proofs.YtlkpgiifdclijaaGreatDoor
