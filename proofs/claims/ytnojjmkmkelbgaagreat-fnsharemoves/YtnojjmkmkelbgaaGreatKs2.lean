/- The specification's walks over books (chapter 11): ok or not, who has what. -/
import Derived.Test.YtnojjmkmkelbgaaGreatJ1
namespace Go.Proofs.YtnojjmkmkelbgaaGreat
open Go.RowKit

/-- What the specification asks of the batch at place k. -/
def At11 (b : Bk) (k : Nat) : Prop := NamesTo (nms b.bs) k ∧ AscTo (nms b.bs) k ∧ BasTo b.things b.bs k ∧ ApartTo b.bs k 0
/-- What it is asked for its own sake. -/
def One11 (b : Bk) (k : Nat) (x : Ba) : Prop := nameB x.nm = true ∧ (∀ y, 0 < k → b.bs[k - 1]? = some y → ltS y.nm x.nm = true) ∧ PartOk x.needs b.things ∧ PartOk x.has x.needs
theorem nms_at {bs : List Ba} {k : Nat} {x : Ba} (h : bs[k]? = some x) : (nms bs)[k]? = some x.nm := by rw [nms, List.getElem?_map, h]; rfl
theorem one11_of {b : Bk} (h : BookOk b) {k : Nat} {x : Ba} (hx : b.bs[k]? = some x) : One11 b k x := by
  have hk := (List.getElem?_eq_some_iff.1 hx).1
  have hb := h.2.2.2.2.1 k x hk hx
  refine ⟨h.2.2.1 k _ (by rw [nms_length]; exact hk) (nms_at hx), fun y h0 hy => ?_, hb.1, hb.2⟩
  exact h.2.2.2.1 (k - 1) _ _ (by rw [nms_length]; omega) (nms_at hy) (by rw [show k - 1 + 1 = k by omega]; exact nms_at hx)
theorem at11_step {b : Bk} {k : Nat} {x : Ba} (h : At11 b k) (hx : b.bs[k]? = some x) (h1 : One11 b k x) (ha : ApartTo b.bs (k + 1) 0) : At11 b (k + 1) := by
  have hk := (List.getElem?_eq_some_iff.1 hx).1
  refine ⟨fun i a hi he => ?_, fun i a c hi he hc => ?_, fun i y hi hy => ?_, ha⟩
  · by_cases e : i = k
    · subst e
      rw [nms_at hx] at he
      obtain rfl := Option.some.inj he
      exact h1.1
    · exact h.1 i a (by omega) he
  · by_cases e : i + 1 = k
    · subst e
      rw [nms_at hx] at hc
      obtain rfl := Option.some.inj hc
      have hy : b.bs[i]? = some b.bs[i] := List.getElem?_eq_getElem (by omega)
      rw [nms_at hy] at he
      obtain rfl := Option.some.inj he
      exact h1.2.1 _ (by omega) (by rw [Nat.add_sub_cancel]; exact hy)
    · exact h.2.1 i a c (by omega) he hc
  · by_cases e : i = k
    · subst e
      rw [hx] at hy
      obtain rfl := Option.some.inj hy
      exact ⟨h1.2.2.1, h1.2.2.2⟩
    · exact h.2.2.1 i y (by omega) hy
theorem at11_end {b : Bk} {k : Nat} (h : At11 b k) (hk : ¬ k < b.bs.length) (ht : ThingsOk b.things) (h5 : b.bs.length ≤ 5) : BookOk b :=
  ⟨ht, h5, names_end h.1 (by rw [nms_length]; exact hk), asc_end h.2.1 (by rw [nms_length]; exact hk), bas_end h.2.2.1 hk, apart_end h.2.2.2 hk⟩

set_option maxHeartbeats 4000000 in
theorem specBook_any (b : Bk) (v : Value) (w : World) (h : BkV w v b) :
    Calls Tryz.prog 11 #[v] w fun e w' => e = .returned (.bool (bookB b)) ∧ Below w.heap.size w w' := by
  obtain ⟨a1, c1, a2, c2, rfl, h1, h2⟩ := h.parts
  have hC : CB (w.alloc (.cells #[.slice a1 (b).things.length c1, .slice a2 (b).bs.length c2] 26)) w.heap.size [.slice a1 b.things.length c1, .slice a2 b.bs.length c2] := cb_alloc w _ _
  have hB0 := (Below.refl w.heap.size w).alloc (Nat.le_refl _) (.cells #[.slice a1 (b).things.length c1, .slice a2 (b).bs.length c2] 26)
  have g1 := h1.inv.1
  have g2 := h2.at.1
  unfold maxLen at g1 g2
  go_enter Tryz.func11, Tryz.ntmps11
  go_upto_region 1 with fail
  generalize w.alloc (.cells #[.slice a1 (b).things.length c1, .slice a2 (b).bs.length c2] 26) = W1 at *
  have l1 := h1.up hB0
  have l2 := h2.up hB0
  clear h h1 h2
  obtain ⟨tv, htv⟩ : ∃ tv, Value.slice a1 b.things.length c1 = tv := ⟨_, rfl⟩
  rw [htv] at l1 hC
  clear htv
  obtain ⟨e0, e1⟩ := hC.c2'
  have hlt := hC.2.2
  go_wp2_with fail
  refine (thingsOk11_any b.things tv _ l1).mono ?_
  rintro e w2 ⟨rfl, m2, hw2⟩
  have hB : Below W1.heap.size W1 w2 := by rw [hw2]; exact below_drewN (Below.refl _ _) _
  clear hw2
  cases ho : pB (ThingsOk b.things)
  · have Hq : Hid (bookB b = false) := pB_no fun h => pB_not.1 ho h.1
    go_wp2_with fail
    go_ret
    exact ⟨ret_bool Hq.out.symm, up_trans hB0 hB⟩
  have Ho : Hid (ThingsOk b.things) := pB_iff.1 ho
  clear ho
  obtain ⟨hc, hf⟩ := bcell hB
  by_cases h5 : 5 < b.bs.length
  · have Hq : Hid (bookB b = false) := pB_no fun h => by have := h.2.1; omega
    go_wp2_with fail
    go_ret
    exact ⟨ret_bool Hq.out.symm, up_trans hB0 hB⟩
  obtain ⟨-, hpos⟩ := l2.at
  go_wp2_with fail
  clear hc hf
  go_loopw [3, 4, 5] (fun i _ _ w' => ∃ k : Nat, k ≤ b.bs.length ∧ i = .int .i64 k ∧ At11 b k ∧ Below W1.heap.size W1 w') (fun i _ _ _ => b.bs.length - (intOf i).toNat)
  case atStart => exact ⟨0, by omega, rfl, ⟨NamesTo.zero _, AscTo.zero _, BasTo.zero _ _, ApartTo.zero _⟩, hB⟩
  case round =>
    clear hB
    obtain ⟨k, hk, rfl, hal, hB⟩ := hrel
    have Hal : Hid (At11 b k) := hal
    clear hal
    have f0 := (hB.cell (p := ⟨w.heap.size, 0, none⟩) hlt).trans e0
    have f1 := (hB.cell (p := ⟨w.heap.size, 1, none⟩) hlt).trans e1
    have hsz := hB.size
    by_cases hp : k < b.bs.length
    · obtain ⟨bb, o, rfl, hS, hb⟩ := hpos (by omega)
      obtain ⟨a3, d3, a4, d4, c3, c4, c5, l3, l4, z0⟩ := ((hS.at hp).up hB hb).cells
      have Hx : Hid (b.bs[k]? = some b.bs[k]) := List.getElem?_eq_getElem hp
      have HP : Hid (∀ (m : Nat) (hm : m < b.bs.length), ApartTo b.bs k m → m < k → shareB (b.bs[k]).has (b.bs[m]).has = false → ApartTo b.bs k (m + 1)) := fun m hm h h1 h2 => h.step hp h1 h2
      have HA : Hid (∀ (m : Nat) (hm : m < b.bs.length), m < k → shareB (b.bs[k]).has (b.bs[m]).has = true → bookB b = false) := fun m hm h1 h2 => pB_no fun hb => by
        rw [hb.2.2.2.2.2.at hp h1] at h2; cases h2
      generalize b.bs[k] = x0 at *
      have HN : Hid (¬ One11 b k x0 → bookB b = false) := fun h => pB_no fun hb => h (one11_of hb Hx.out)
      have hC1 : CB (wr.alloc (.cells #[.string (x0).nm, .slice a3 (x0).has.length d3, .slice a4 (x0).needs.length d4] 32)) wr.heap.size [.string x0.nm, .slice a3 x0.has.length d3, .slice a4 x0.needs.length d4] := cb_alloc wr _ _
      have hb5 := (Below.refl wr.heap.size wr).alloc (Nat.le_refl _) (.cells #[.string (x0).nm, .slice a3 (x0).has.length d3, .slice a4 (x0).needs.length d4] 32)
      go_upto_region 7 with fail
      generalize wr.alloc (.cells #[.string (x0).nm, .slice a3 (x0).has.length d3, .slice a4 (x0).needs.length d4] 32) = W2 at *
      have hB5 := up_trans hB hb5
      have l3 := l3.up hb5
      have l4 := l4.up hb5
      have l1' := l1.up hB5
      obtain ⟨hv, hhv⟩ : ∃ hv, Value.slice a3 x0.has.length d3 = hv := ⟨_, rfl⟩
      obtain ⟨nv, hnv⟩ : ∃ nv, Value.slice a4 x0.needs.length d4 = nv := ⟨_, rfl⟩
      rw [hhv] at l3 hC1
      rw [hnv] at l4 hC1
      have f0 := (hB5.cell (p := ⟨w.heap.size, 0, none⟩) hlt).trans e0
      have f1 := (hB5.cell (p := ⟨w.heap.size, 1, none⟩) hlt).trans e1
      have hxl := hC1.2.2
      obtain ⟨⟨q0, q1, q2⟩, -⟩ := hC1.c3
      have hne : wr.heap.size ≠ w.heap.size := by omega
      have hS5 := hS.up hB5 hb
      clear hhv hnv c3 c4 c5 hb5 hB hS hsz
      generalize wr.heap.size = xb at *
      have Q0 : Hid (∀ n, Calls Tryz.prog 25 #[.string x0.nm] (W2.drewN n) fun e w'' => e = .returned (.bool (nameB x0.nm)) ∧ ∃ m, w'' = W2.drewN m) := fun n => Calls.quiet_of_same (name11_any _ _ z0)
      have Q1 : Hid (∀ n, Calls Tryz.prog 26 #[nv, tv] (W2.drewN n) fun e w'' => e = .returned (.bool (pB (PartOk x0.needs b.things))) ∧ ∃ m, w'' = W2.drewN m) := fun n => Calls.quiet_of (namesOk11_any x0.needs b.things nv tv _ l4.drewN l1'.drewN)
      have Q2 : Hid (∀ n, Calls Tryz.prog 26 #[hv, nv] (W2.drewN n) fun e w'' => e = .returned (.bool (pB (PartOk x0.has x0.needs))) ∧ ∃ m, w'' = W2.drewN m) := fun n => Calls.quiet_of (namesOk11_any x0.has x0.needs hv nv _ l3.drewN l4.drewN)
      cases hq : nameB x0.nm
      · have Hq : Hid (¬ One11 b k x0) := fun h => by rw [h.1] at hq; cases hq
        (go_wp2_with fail; go_quiet ((first | (go_at_call 25; exact Q0.out _) | (go_at_call_of 26 tv; exact Q1.out _) | (go_at_call_of 26 hv; exact Q2.out _))); go_wp2; go_ret; exact ⟨ret_bool (HN.out (by first | exact Hq.out)).symm, up_trans hB0 (below_drewN hB5 _)⟩)
      have H1 : Hid (nameB x0.nm = true) := hq
      cases k with
      | zero =>
        have H2 : Hid (∀ y, 0 < 0 → b.bs[0 - 1]? = some y → ltS y.nm x0.nm = true) := fun y h => by omega
        cases hq1 : pB (PartOk x0.needs b.things)
        · have Hq : Hid (¬ One11 b (0) x0) := fun h => pB_not.1 hq1 h.2.2.1
          (go_wp2_with fail; go_quiet ((first | (go_at_call 25; exact Q0.out _) | (go_at_call_of 26 tv; exact Q1.out _) | (go_at_call_of 26 hv; exact Q2.out _))); go_wp2; go_ret; exact ⟨ret_bool (HN.out (by first | exact Hq.out)).symm, up_trans hB0 (below_drewN hB5 _)⟩)
        have H3 : Hid (PartOk x0.needs b.things) := pB_iff.1 hq1
        cases hq2 : pB (PartOk x0.has x0.needs)
        · have Hq : Hid (¬ One11 b (0) x0) := fun h => pB_not.1 hq2 h.2.2.2
          (go_wp2_with fail; go_quiet ((first | (go_at_call 25; exact Q0.out _) | (go_at_call_of 26 tv; exact Q1.out _) | (go_at_call_of 26 hv; exact Q2.out _))); go_wp2; go_ret; exact ⟨ret_bool (HN.out (by first | exact Hq.out)).symm, up_trans hB0 (below_drewN hB5 _)⟩)
        have H4 : Hid (One11 b (0) x0) := ⟨H1.out, H2.out, H3.out, pB_iff.1 hq2⟩
        go_wp2_with fail
        go_quiet ((first | (go_at_call 25; exact Q0.out _) | (go_at_call_of 26 tv; exact Q1.out _) | (go_at_call_of 26 hv; exact Q2.out _)))
        have hBX : Below W1.heap.size W1 (W2.drewN nq) := below_drewN hB5 _
        have x1 : (W2.drewN nq).cell? ⟨xb, 1, none⟩ = some hv := q1
        have y1 : (W2.drewN nq).cell? ⟨w.heap.size, 1, none⟩ = some (.slice (some ⟨bb, o, none⟩) b.bs.length c2) := f1
        have lX : Ls (W2.drewN nq) hv x0.has := l3
        have sX : BsAt (W2.drewN nq) bb o b.bs := hS5
        clear Q0 Q1 Q2 hB5 q0 q1 q2 f0 f1 l3 l4 l1' hS5 hC1 HN H1 H2 H3 hq1 hq2 hq
        generalize W2.drewN nq = X at *
        go_wp2_with fail
        go_loopw [5] (fun j w' => ∃ m n : Nat, m ≤ 0 ∧ j = .int .i64 m ∧ ApartTo b.bs (0) m ∧ w' = X.drewN n) (fun j _ => 0 - (intOf j).toNat)
        case atStart => exact ⟨0, 0, by omega, rfl, Hal.out.2.2.2, rfl⟩
        case round =>
          obtain ⟨m, n, hm, rfl, hap, hw⟩ := hrel
          have Hw : Hid (wr = X.drewN n) := hw
          have Hap : Hid (ApartTo b.bs (0) m) := hap
          clear hw hap
          have hBw : Below W1.heap.size W1 wr := by rw [Hw.out]; exact below_drewN hBX _
          by_cases hmk : m < 0
          · omega
          · have Hs : Hid (At11 b (0 + 1)) := at11_step Hal.out Hx.out H4.out (Hap.out.next hmk)
            go_wp2_with fail
            go_roundw
            case rel => exact ⟨0 + 1, by omega, by go_num, Hs.out, hBw⟩
            case measure => simp [intOf]; omega
      | succ k =>
        obtain ⟨-, -, -, -, p0, -⟩ := (hS5.at (k := k) (by omega)).cells
        have Hy : Hid (b.bs[k + 1 - 1]? = some (b.bs[k]'(by omega))) := by show _ = _; rw [Nat.add_sub_cancel]; exact List.getElem?_eq_getElem _
        generalize b.bs[k]'(by omega) = y0 at *
        cases hl : ltS y0.nm x0.nm
        · have Hq : Hid (¬ One11 b (k + 1) x0) := fun h => by rw [h.2.1 y0 (by omega) Hy.out] at hl; cases hl
          unfold ltS at hl
          (go_wp2_with fail; go_quiet ((first | (go_at_call 25; exact Q0.out _) | (go_at_call_of 26 tv; exact Q1.out _) | (go_at_call_of 26 hv; exact Q2.out _))); go_wp2; go_ret; exact ⟨ret_bool (HN.out (by first | exact Hq.out)).symm, up_trans hB0 (below_drewN hB5 _)⟩)
        have H2 : Hid (∀ y, 0 < k + 1 → b.bs[k + 1 - 1]? = some y → ltS y.nm x0.nm = true) := fun y _ hy => by
          rw [Hy.out] at hy
          obtain rfl := Option.some.inj hy
          exact hl
        unfold ltS at hl
        cases hq1 : pB (PartOk x0.needs b.things)
        · have Hq : Hid (¬ One11 b (k + 1) x0) := fun h => pB_not.1 hq1 h.2.2.1
          (go_wp2_with fail; go_quiet ((first | (go_at_call 25; exact Q0.out _) | (go_at_call_of 26 tv; exact Q1.out _) | (go_at_call_of 26 hv; exact Q2.out _))); go_wp2; go_ret; exact ⟨ret_bool (HN.out (by first | exact Hq.out)).symm, up_trans hB0 (below_drewN hB5 _)⟩)
        have H3 : Hid (PartOk x0.needs b.things) := pB_iff.1 hq1
        cases hq2 : pB (PartOk x0.has x0.needs)
        · have Hq : Hid (¬ One11 b (k + 1) x0) := fun h => pB_not.1 hq2 h.2.2.2
          (go_wp2_with fail; go_quiet ((first | (go_at_call 25; exact Q0.out _) | (go_at_call_of 26 tv; exact Q1.out _) | (go_at_call_of 26 hv; exact Q2.out _))); go_wp2; go_ret; exact ⟨ret_bool (HN.out (by first | exact Hq.out)).symm, up_trans hB0 (below_drewN hB5 _)⟩)
        have H4 : Hid (One11 b (k + 1) x0) := ⟨H1.out, H2.out, H3.out, pB_iff.1 hq2⟩
        go_wp2_with fail
        go_quiet ((first | (go_at_call 25; exact Q0.out _) | (go_at_call_of 26 tv; exact Q1.out _) | (go_at_call_of 26 hv; exact Q2.out _)))
        have hBX : Below W1.heap.size W1 (W2.drewN nq) := below_drewN hB5 _
        have x1 : (W2.drewN nq).cell? ⟨xb, 1, none⟩ = some hv := q1
        have y1 : (W2.drewN nq).cell? ⟨w.heap.size, 1, none⟩ = some (.slice (some ⟨bb, o, none⟩) b.bs.length c2) := f1
        have lX : Ls (W2.drewN nq) hv x0.has := l3
        have sX : BsAt (W2.drewN nq) bb o b.bs := hS5
        clear Q0 Q1 Q2 hB5 q0 q1 q2 f0 f1 l3 l4 l1' hS5 hC1 HN H1 H2 H3 hq1 hq2 hq
        clear p0
        generalize W2.drewN nq = X at *
        go_wp2_with fail
        go_loopw [5] (fun j w' => ∃ m n : Nat, m ≤ k + 1 ∧ j = .int .i64 m ∧ ApartTo b.bs (k + 1) m ∧ w' = X.drewN n) (fun j _ => k + 1 - (intOf j).toNat)
        case atStart => exact ⟨0, 0, by omega, rfl, Hal.out.2.2.2, rfl⟩
        case round =>
          obtain ⟨m, n, hm, rfl, hap, hw⟩ := hrel
          have Hw : Hid (wr = X.drewN n) := hw
          have Hap : Hid (ApartTo b.bs (k + 1) m) := hap
          clear hw hap
          have hBw : Below W1.heap.size W1 wr := by rw [Hw.out]; exact below_drewN hBX _
          by_cases hmk : m < k + 1
          · have hml : m < b.bs.length := by omega
            obtain ⟨a5, d5, a6, d6, -, r1, -, l5, -, -⟩ := (sX.at hml).cells
            have r1' : wr.cell? ⟨bb, o + m * 3 + 1, none⟩ = some (.slice a5 (b.bs[m]).has.length d5) := by rw [Hw.out]; exact r1
            have x1' : wr.cell? ⟨xb, 1, none⟩ = some hv := by rw [Hw.out]; exact x1
            have y1' : wr.cell? ⟨w.heap.size, 1, none⟩ = some (.slice (some ⟨bb, o, none⟩) b.bs.length c2) := by rw [Hw.out]; exact y1
            have HP1 : Hid (shareB x0.has (b.bs[m]).has = false → ApartTo b.bs (k + 1) (m + 1)) := HP.out m hml Hap.out hmk
            have HA1 : Hid (shareB x0.has (b.bs[m]).has = true → bookB b = false) := HA.out m hml hmk
            have lX' : Ls wr hv x0.has := by rw [Hw.out]; exact lX
            have l5' : Ls wr (.slice a5 (b.bs[m]).has.length d5) (b.bs[m]).has := by rw [Hw.out]; exact l5
            clear r1 l5
            generalize b.bs[m] = y0 at *
            obtain ⟨uv, huv⟩ : ∃ uv, Value.slice a5 y0.has.length d5 = uv := ⟨_, rfl⟩
            rw [huv] at r1' l5'
            clear huv
            cases hs : shareB x0.has y0.has
            · have Hs : Hid (ApartTo b.bs (k + 1) (m + 1)) := HP1.out hs
              have Q3 : Hid (∀ n, Calls Tryz.prog 27 #[hv, uv] (wr.drewN n) fun e w'' => e = .returned (.bool false) ∧ ∃ m, w'' = wr.drewN m) := fun n => by rw [← hs]; exact Calls.quiet_of_same (share11_any x0.has y0.has hv uv _ lX'.drewN l5'.drewN)
              go_wp2_with fail
              go_quiet ((go_at_call 27; exact Q3.out _))
              go_wp2_with fail
              go_roundw
              case rel =>
                obtain ⟨m', hm'⟩ := drew_more (n := nq) Hw.out
                exact ⟨m + 1, m', by omega, by go_num, Hs.out, hm'⟩
              case measure => simp [intOf]; omega
            · have Hs : Hid (bookB b = false) := HA1.out hs
              have Q3 : Hid (∀ n, Calls Tryz.prog 27 #[hv, uv] (wr.drewN n) fun e w'' => e = .returned (.bool true) ∧ ∃ m, w'' = wr.drewN m) := fun n => by rw [← hs]; exact Calls.quiet_of_same (share11_any x0.has y0.has hv uv _ lX'.drewN l5'.drewN)
              go_wp2_with fail
              go_quiet ((go_at_call 27; exact Q3.out _))
              go_wp2_with fail
              go_ret
              exact ⟨ret_bool Hs.out.symm, up_trans hB0 (below_drewN hBw _)⟩
          · have Hs : Hid (At11 b (k + 1 + 1)) := at11_step Hal.out Hx.out H4.out (Hap.out.next hmk)
            go_wp2_with fail
            go_roundw
            case rel => exact ⟨k + 1 + 1, by omega, by go_num, Hs.out, hBw⟩
            case measure => simp [intOf]; omega
    · have Hq : Hid (bookB b = true) := pB_yes (at11_end Hal.out hp Ho.out (by omega))
      go_wp2_with fail
      go_ret
      exact ⟨ret_bool Hq.out.symm, up_trans hB0 hB⟩
end Go.Proofs.YtnojjmkmkelbgaaGreat
