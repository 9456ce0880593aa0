/- The law of promise 4: its walk. -/
import Derived.Test.YtkfclahdofjhjaaDoorDv
import Derived.Test.YtkfclahdofjhjaaDoorWq
import Derived.Test.YtkfclahdofjhjaaDoorWbInt
import Derived.Test.YtkfclahdofjhjaaDoorWbSpec
import Derived.Deep.RegionHeld
namespace Go.Proofs.YtkfclahdofjhjaaDoor
open Go.RowKit

theorem Drawn.rec {w : World} {B : Nat} {u : Value} {qs : List Ph} (h : Drawn w B u qs) : ∃ g c, u = .slice (some ⟨g, 0, none⟩) qs.length c ∧ RecAt w g 0 qs ∧ g < w.heap.size ∧ qs.length ≤ c ∧ c ≤ 9223372036854775807 ∧ Sized qs ∧ qs.length ≤ 13 := by
  obtain ⟨g, cap, rfl, hown, h13, hz⟩ := h
  refine ⟨g, cap, rfl, recAt_own hown, (hown.lt g rfl).2, ?_, ?_, fun p hp => ?_, h13⟩
  · rcases hown.2 with ⟨h0, _⟩ | ⟨g', cap', cur, h', _, _, hc, _⟩
    · cases h0
    · cases h'; exact hc
  · rcases hown.2 with ⟨h0, _⟩ | ⟨g', cap', cur, h', _, _, _, hc, _⟩
    · cases h0
    · cases h'; unfold maxLen at hc; exact hc
  · obtain ⟨z0, z1, z2, z3, z4, _⟩ := hz p hp
    exact ⟨z0, z1, z2, z3, z4⟩
theorem slotsV_len (ps : List Ph) (nm : ByteArray) : (slotsV ps nm).length ≤ 24 := by
  unfold slotsV
  split
  · rename_i hok
    have := slE_len ps nm
    have h12 : ps.length ≤ 12 := ((recB_iff ps).1 hok).2.1
    omega
  · simp

set_option maxRecDepth 20000 in
set_option maxHeartbeats 4000000 in
theorem lawBound4_any (a : Option Addr) (n cap : Nat) (w : World) (hE : Ends w) (h : BytesAt w w.heap.size (.slice a n cap) n) (hcap : n ≤ cap) (hbig : cap ≤ maxLen) :
    Calls Tryd.prog 3 #[.slice a n cap] w fun e' w' => e' = .returned (.bool true) ∧ Below w.heap.size w w' := by
  by_cases hn : 1048576 < n
  · go_enter Tryd.func3, Tryd.ntmps3
    go_wp2_with fail
    go_ret
    exact ⟨rfl, Below.refl _ _⟩
  go_enter Tryd.func3, Tryd.ntmps3
  go_wp2_with fail
  refine (drawBound_any a n cap _ h hcap hbig).mono ?_
  rintro e w1 ⟨⟨u, ps, nm, rfl, hD, hnm⟩, hB1⟩
  obtain ⟨g, c, rfl, hr1, hg1, hlc, hc9, hs, h13⟩ := hD.rec
  have hsl := slotsV_len ps nm
  clear hD h
  go_wp2_with fail
  refine (recBound_big ps g 0 c nm _ (hE.up hB1) hr1 hg1 hs hlc hc9).mono ?_
  rintro e w2 ⟨rfl, hB2⟩
  have hr2 := hr1.up hB2 hg1
  have hg2 := Nat.lt_of_lt_of_le hg1 hB2.size
  have hB12 := up_trans hB1 hB2
  clear hr1 hB2
  go_wp2_with fail
  refine (recSlots_big ps g 0 c nm _ (hE.up hB12) hr2 hg2 hs hlc hc9).mono ?_
  rintro e w3 ⟨⟨us, rfl, hO3⟩, hB3⟩
  have hr3 := hr2.up hB3 hg2
  have hg3 := Nat.lt_of_lt_of_le hg2 hB3.size
  have hB13 := up_trans hB12 hB3
  have hL3 := hO3.lst
  clear hr2 hB3 hB12 hO3
  go_wp2_with fail
  refine (specBound_any ps g 0 c nm _ hr3 hg3 hs (by omega)).mono ?_
  rintro e w4 ⟨rfl, hB4⟩
  have hr4 := hr3.up hB4 hg3
  have hg4 := Nat.lt_of_lt_of_le hg3 hB4.size
  have hB14 := up_trans hB13 hB4
  have hL4 := hL3.up hB4
  clear hr3 hB4 hB13 hL3
  go_wp2_with fail
  refine (specSlots_any ps g 0 c nm _ hr4 hg4 hs (by omega)).mono ?_
  rintro e w5 ⟨⟨ut, rfl, hT5⟩, hB5⟩
  have hr5 := hr4.up hB5 hg4
  have hg5 := Nat.lt_of_lt_of_le hg4 hB5.size
  have hB15 := up_trans hB14 hB5
  have hL5 := hL4.up hB5
  clear hr4 hB5 hB14 hL4
  go_wp2_with fail
  refine (wrTexts_any (slotsV ps nm) us ut _ hL5 (.inr hT5) (by omega)).mono ?_
  rintro e w6 ⟨rfl, hB6⟩
  have hr6 := hr5.up hB6 hg5
  have hg6 := Nat.lt_of_lt_of_le hg5 hB6.size
  have hB16 := up_trans hB15 hB6
  have hL6 := hL5.up hB6
  clear hr5 hB6 hB15 hL5 hT5
  go_wp2_with fail
  have hsm : ∃ W6, W6 = w6.alloc (.cells #[] 9) := ⟨_, rfl⟩
  obtain ⟨W6, hW6⟩ := hsm
  have hBW : Below w6.heap.size w6 W6 := by rw [hW6]; exact (Below.refl _ _).alloc (Nat.le_refl _) _
  have hOW : W6.ownsRow w6.heap.size 9 1 (.slice (some ⟨w6.heap.size, 0, none⟩) 0 0) 0 [] := by rw [hW6]; exact World.ownsRow_lit w6 #[] 0 (Nat.le_refl _) (by unfold maxLen; omega) rfl
  rw [← hW6]
  clear hW6
  obtain ⟨ii, hi, iz0, iz1, iz2⟩ := info_parts infoStr
  cases hok : recB ps
  · have hb0 : boundV ps nm = 0 := by unfold boundV; rw [if_neg (by simp [hok])]
    have hs0 : slotsV ps nm = [] := by unfold slotsV; rw [if_neg (by simp [hok])]
    rw [hb0]
    rw [hs0] at hL6
    clear hb0 hs0 hsl
    go_loopw [7, 10] (fun sm kk w' => sm = .int .i64 0 ∧ kk = .int .i64 0 ∧ Below W6.heap.size W6 w') (fun _ _ _ => 0)
    case atStart => exact ⟨rfl, rfl, Below.refl _ _⟩
    case round =>
      obtain ⟨rfl, rfl, hB⟩ := hrel
      have hBk := up_trans hBW hB
      have hrk := hr6.up hBk hg6
      have hgk := Nat.lt_of_lt_of_le hg6 hBk.size
      by_cases hp : 0 < ps.length
      · go_wp2_with fail
        refine (specOk_any ps g 0 c _ hrk hgk hs (by omega)).mono ?_
        rintro e wx ⟨he, hBx⟩
        rw [hok] at he
        subst he
        have hB8 := up_trans hB hBx
        clear hBk hrk hgk hBx hB
        go_wp2_with fail
        go_loopw [8, 12] (fun uu iv w' => uu = .slice (some ⟨w6.heap.size, 0, none⟩) 0 0 ∧ iv = .int .i64 0 ∧ Below W6.heap.size W6 w') (fun _ _ _ => 0)
        case atStart => exact ⟨rfl, rfl, hB8⟩
        case round =>
          clear hB8
          obtain ⟨rfl, rfl, hB9⟩ := hrel
          have hB10 := up_trans hBW hB9
          go_wp2_with fail
          refine (specOk_any ps g 0 c _ (hr6.up hB10 hg6) (Nat.lt_of_lt_of_le hg6 hB10.size) hs (by omega)).mono ?_
          rintro e wy ⟨he, hBy⟩
          rw [hok] at he
          subst he
          have hB11 := up_trans hB9 hBy
          clear hB9 hB10 hBy
          have hOu : OwnT _ w6.heap.size (.slice (some ⟨w6.heap.size, 0, none⟩) 0 0) [] := own_up hOW hB11
          have hLu := hOu.lst
          have hLs := hL6.up (up_trans hBW hB11)
          have hBf := up_trans hB16 (up_trans hBW hB11)
          clear hOu
          go_wp2_with fail
          refine (wrAll_any [] [] _ us _ hLu hLs (by simp) (by simp) rfl).mono ?_
          rintro e w' ⟨rfl, hw⟩; obtain rfl := hw.symm; clear hw
          go_wp2_with fail
          refine (wrAll_any [] [] us _ _ hLs hLu (by simp) (by simp) rfl).mono ?_
          rintro e w' ⟨rfl, hw⟩; obtain rfl := hw.symm; clear hw
          go_wp2_with fail
          go_ret
          exact ⟨rfl, hBf⟩
      · clear hBk hrk hgk
        go_wp2_with fail
        go_loopw [8, 12] (fun uu iv w' => uu = .slice (some ⟨w6.heap.size, 0, none⟩) 0 0 ∧ iv = .int .i64 0 ∧ Below W6.heap.size W6 w') (fun _ _ _ => 0)
        case atStart => exact ⟨rfl, rfl, hB⟩
        case round =>
          clear hB
          obtain ⟨rfl, rfl, hB9⟩ := hrel
          have hOu : OwnT _ w6.heap.size (.slice (some ⟨w6.heap.size, 0, none⟩) 0 0) [] := own_up hOW hB9
          have hLu := hOu.lst
          have hLs := hL6.up (up_trans hBW hB9)
          have hBf := up_trans hB16 (up_trans hBW hB9)
          clear hOu
          go_wp2_with fail
          refine (wrAll_any [] [] _ us _ hLu hLs (by simp) (by simp) rfl).mono ?_
          rintro e w' ⟨rfl, hw⟩; obtain rfl := hw.symm; clear hw
          go_wp2_with fail
          refine (wrAll_any [] [] us _ _ hLs hLu (by simp) (by simp) rfl).mono ?_
          rintro e w' ⟨rfl, hw⟩; obtain rfl := hw.symm; clear hw
          go_wp2_with fail
          go_ret
          exact ⟨rfl, hBf⟩
  have h1 : 0 < ps.length := ((recB_iff ps).1 hok).1
  have h12 : ps.length ≤ 12 := ((recB_iff ps).1 hok).2.1
  have hbV : ∀ x, boundV ps x = evL feI fpI 0 ps x := fun x => by unfold boundV; rw [if_pos hok]
  have hbd : ∀ x, 0 ≤ evL feI fpI 0 ps x ∧ evL feI fpI 0 ps x ≤ 12000 := fun x => by
    have := evI_bd ps (wi_of_recB hok) x; omega
  rw [hbV]
  have HbV : Hid (∀ x, boundV ps x = evL feI fpI 0 ps x) := hbV
  have Hbd : Hid (∀ x, 0 ≤ evL feI fpI 0 ps x ∧ evL feI fpI 0 ps x ≤ 12000) := hbd
  have hn0 := hbd nm
  clear hbV hbd
  go_loopw [7, 9, 10] (fun sm at_ kk w' => ∃ (k : Nat) (s : Int) (t : ByteArray), k ≤ ps.length ∧ kk = .int .i64 k ∧ sm = .int .i64 s ∧ at_ = .string t ∧ s + evL feI fpI 0 ps t = evL feI fpI 0 ps nm ∧ 0 ≤ s ∧ (atI ps t < 0 ∨ (k : Int) ≤ atI ps t) ∧ Below W6.heap.size W6 w') (fun _ _ kk _ => ps.length - (intOf kk).toNat)
  case atStart => exact ⟨0, 0, nm, by omega, rfl, rfl, rfl, by omega, by omega, by omega, Below.refl _ _⟩
  case round =>
    obtain ⟨k, s, t, hk, rfl, rfl, rfl, hst, hs0, hat, hB⟩ := hrel
    have hBk := up_trans hBW hB
    have hrk := hr6.up hBk hg6
    have hgk := Nat.lt_of_lt_of_le hg6 hBk.size
    by_cases hp : k < ps.length
    · go_wp2_with fail
      refine (specOk_any ps g 0 c _ hrk hgk hs (by omega)).mono ?_
      rintro e wx ⟨he, hBx⟩
      rw [hok] at he
      subst he
      have hB2 := up_trans hB hBx
      clear hBk hrk hgk hBx hB
      go_wp2_with fail
      go_loopw [7, 9, 11] (fun sm at_ iv w' => ∃ j : Nat, j ≤ ps.length ∧ iv = .int .i64 j ∧ sm = .int .i64 s ∧ at_ = .string t ∧ hasB (ps.take j) t = false ∧ Below W6.heap.size W6 w') (fun _ _ iv _ => ps.length - (intOf iv).toNat)
      case atStart => exact ⟨0, by omega, rfl, rfl, rfl, rfl, hB2⟩
      case round =>
        clear hB2
        obtain ⟨j, hj, rfl, rfl, rfl, hno, hB3⟩ := hrel
        have hBj := up_trans hBW hB3
        have hrj := hr6.up hBj hg6
        have hgj := Nat.lt_of_lt_of_le hg6 hBj.size
        have Hno : Hid (hasB (ps.take j) t = false) := hno
        clear hno
        by_cases hpj : j < ps.length
        · obtain ⟨c0, c1, c2, c3, c4, c5, c6, c7⟩ := hrj.cells j hpj
          simp only [Nat.zero_add] at c0 c1 c2 c3 c4 c5 c6 c7
          cases hq : ((ps[j]).nm.toList == t.toList)
          · have Hq : Hid (((ps[j]).nm.toList == t.toList) = false) := hq
            clear c1 c2 c3 c4 c5 c6 c7
            go_wp2_with fail
            go_roundw
            case rel => exact ⟨j + 1, by omega, by go_num, rfl, rfl, by rw [hasB_take ps t j hpj, Hno.out, Hq.out]; rfl, hB3⟩
            case measure => simp [intOf]; omega
          · have ha := atI_found ps t j hpj Hno.out hq
            obtain ⟨g1, g2⟩ := goes_of hok hpj
            have hl1 := atI_later hok hpj _ g1
            have hl2 := atI_later hok hpj _ g2
            have hV : evL feI fpI 0 ps t = (ps[j]).wi + max (evL feI fpI 0 ps (ps[j]).t) (evL feI fpI 0 ps (ps[j]).e) := evL_step hok feI fpI 0 t hpj ha
            have hwi := wi_of_recB hok ps[j] (by simp)
            have d1 := Hbd.out (ps[j]).t
            have d2 := Hbd.out (ps[j]).e
            have d0 := Hbd.out t
            have b1 := HbV.out (ps[j]).t
            have b2 := HbV.out (ps[j]).e
            have hkj : (k : Int) ≤ j := by omega
            clear ha g1 g2
            have Hl1 : Hid (atI ps (ps[j]).t < 0 ∨ (j : Int) < atI ps (ps[j]).t) := hl1
            have Hl2 : Hid (atI ps (ps[j]).e < 0 ∨ (j : Int) < atI ps (ps[j]).e) := hl2
            have Hst : Hid (s + ((ps[j]).wi + max (evL feI fpI 0 ps (ps[j]).t) (evL feI fpI 0 ps (ps[j]).e)) = evL feI fpI 0 ps nm) := by show _ = _; rw [← hV]; exact hst
            clear hl1 hl2 hst hV
            have C1 : Hid (∀ w', Ends w' → RecAt w' g 0 ps → g < w'.heap.size → Calls Tryd.prog 8 #[.slice (some ⟨g, 0, none⟩) ps.length c, .string (ps[j]).t] w' fun e w'' => e = .returned (.int .i64 (evL feI fpI 0 ps (ps[j]).t)) ∧ Below w'.heap.size w' w'') := by
              show _; intro w' hE' hr' hg'; rw [← b1]; exact recBound_big ps g 0 c _ w' hE' hr' hg' hs hlc hc9
            have C2 : Hid (∀ w', Ends w' → RecAt w' g 0 ps → g < w'.heap.size → Calls Tryd.prog 8 #[.slice (some ⟨g, 0, none⟩) ps.length c, .string (ps[j]).e] w' fun e w'' => e = .returned (.int .i64 (evL feI fpI 0 ps (ps[j]).e)) ∧ Below w'.heap.size w' w'') := by
              show _; intro w' hE' hr' hg'; rw [← b2]; exact recBound_big ps g 0 c _ w' hE' hr' hg' hs hlc hc9
            clear b1 b2
            have d3 := Hbd.out nm
            obtain ⟨bt, h_t⟩ : ∃ bt, evL feI fpI 0 ps (ps[j]).t = bt := ⟨_, rfl⟩
            obtain ⟨be, h_e⟩ : ∃ be, evL feI fpI 0 ps (ps[j]).e = be := ⟨_, rfl⟩
            rw [h_t] at d1 C1 Hst
            rw [h_e] at d2 C2 Hst
            have H_t : Hid (evL feI fpI 0 ps (ps[j]).t = bt) := h_t
            have H_e : Hid (evL feI fpI 0 ps (ps[j]).e = be) := h_e
            clear h_t h_e
            generalize ps[j] = p at *
            have Hr : Hid (RecAt wr g 0 ps) := hrj
            clear hrj
            have hsmall : s ≤ 12000 := by have := Hst.out; omega
            go_wp2_with fail
            clear hq
            have hS0 : Below wr.heap.size wr wr ∧ wr.cell? ⟨g, j * 8, none⟩ = some (.string p.nm) ∧ wr.cell? ⟨g, j * 8 + 1, none⟩ = some (.int .i64 p.k) ∧ wr.cell? ⟨g, j * 8 + 2, none⟩ = some (.string p.a) ∧ wr.cell? ⟨g, j * 8 + 3, none⟩ = some (.string p.b) ∧ wr.cell? ⟨g, j * 8 + 4, none⟩ = some (.int .i64 p.n) ∧ wr.cell? ⟨g, j * 8 + 5, none⟩ = some (.int .i64 p.wi) ∧ wr.cell? ⟨g, j * 8 + 6, none⟩ = some (.string p.t) ∧ wr.cell? ⟨g, j * 8 + 7, none⟩ = some (.string p.e) := ⟨Below.refl _ _, c0, c1, c2, c3, c4, c5, c6, c7⟩
            clear c0 c1 c2 c3 c4 c5 c6 c7
            have HE : Hid (∀ w', Below wr.heap.size wr w' → Ends w') := by
              show _; intro w' hb'; exact hE.up (up_trans hB16 (up_trans hBj hb'))
            go_region_held (fun w' => Below wr.heap.size wr w' ∧ w'.cell? ⟨g, j * 8, none⟩ = some (.string p.nm) ∧ w'.cell? ⟨g, j * 8 + 1, none⟩ = some (.int .i64 p.k) ∧ w'.cell? ⟨g, j * 8 + 2, none⟩ = some (.string p.a) ∧ w'.cell? ⟨g, j * 8 + 3, none⟩ = some (.string p.b) ∧ w'.cell? ⟨g, j * 8 + 4, none⟩ = some (.int .i64 p.n) ∧ w'.cell? ⟨g, j * 8 + 5, none⟩ = some (.int .i64 p.wi) ∧ w'.cell? ⟨g, j * 8 + 6, none⟩ = some (.string p.t) ∧ w'.cell? ⟨g, j * 8 + 7, none⟩ = some (.string p.e)) (first | exact hp_drew hS0 | exact hp_up hgj (by assumption) (by assumption))
              (first
                | (go_at_call_of 8 (Value.string p.t); refine (C1.out _ (HE.out _ (And.left (by assumption))) (Hr.out.up (And.left (by assumption)) hgj) (Nat.lt_of_lt_of_le hgj (Below.size (And.left (by assumption))))).mono ?_; rintro e wa ⟨rfl, hba⟩)
                | (go_at_call_of 8 (Value.string p.e); refine (C2.out _ (HE.out _ (And.left (by assumption))) (Hr.out.up (And.left (by assumption)) hgj) (Nat.lt_of_lt_of_le hgj (Below.size (And.left (by assumption))))).mono ?_; rintro e wb ⟨rfl, hbb⟩))
            rename_i hHeld
            obtain ⟨hU, c0, c1, c2, c3, c4, c5, c6, c7⟩ := hHeld
            have hB4 := up_trans hB3 hU
            clear hU hS0 hba hbb hB3 c0 c1 c2 c3 c4 c5 c7
            by_cases hgt : be < bt
            · go_wp2_with fail
              go_roundw
              case rel => exact ⟨k + 1, s + p.wi, p.t, by omega, by go_num, by go_num, rfl, by have := Hst.out; rw [H_t.out]; omega, by omega, by have := Hl1.out; omega, hB4⟩
              case measure => simp [intOf]; omega
            · go_wp2_with fail
              go_roundw
              case rel => exact ⟨k + 1, s + p.wi, p.e, by omega, by go_num, by go_num, rfl, by have := Hst.out; rw [H_e.out]; omega, by omega, by have := Hl2.out; omega, hB4⟩
              case measure => simp [intOf]; omega
        · have ha := atI_none ps t (hasB_all ps t j hpj Hno.out)
          have hst' := hst
          go_wp2_with fail
          go_roundw
          case rel => exact ⟨k + 1, s, t, by omega, by go_num, rfl, rfl, hst', hs0, by omega, hB3⟩
          case measure => simp [intOf]; omega
    · have hz : evL feI fpI 0 ps t = 0 := by
        rw [evL_out ps _ _ _ t (by have := atI_lt ps t; omega)]; split <;> rfl
      obtain rfl : s = evL feI fpI 0 ps nm := by omega
      have hOk := own_up hOW hB
      have hus := used_same hok nm
      clear hz hst hs0 hat hOW hBW hB hrk hgk
      generalize evL feI fpI 0 ps nm = bN at *
      go_wp2_with fail
      go_loopw [8, 12] (fun u iv w' => ∃ k : Nat, k ≤ ps.length ∧ iv = .int .i64 k ∧ w'.ownsRow w6.heap.size 9 1 u (usedL ps nm k).length ((usedL ps nm k).map Value.string) ∧ Below w6.heap.size w6 w') (fun _ iv _ => ps.length - (intOf iv).toNat)
      case atStart => exact ⟨0, by omega, rfl, by simpa [usedL] using hOk, hBk⟩
      case round =>
        clear hOk hBk
        obtain ⟨m, hm, rfl, hown, hB⟩ := hrel
        have hrm := hr6.up hB hg6
        have hgm := Nat.lt_of_lt_of_le hg6 hB.size
        have hul := usedL_len ps nm m
        by_cases hpm : m < ps.length
        · go_wp2_with fail
          refine (specOk_any ps g 0 c _ hrm hgm hs (by omega)).mono ?_
          rintro e wx ⟨he, hBx⟩
          rw [hok] at he
          subst he
          have hownx := own_up hown hBx
          have hBy := up_trans hB hBx
          have hry := hr6.up hBy hg6
          have hgy := Nat.lt_of_lt_of_le hg6 hBy.size
          clear hown hB hBx hrm hgm
          obtain ⟨c0, c1, c2, c3, c4, c5, c6, c7⟩ := hry.cells m hpm
          simp only [Nat.zero_add] at c0 c1 c2 c3 c4 c5 c6 c7
          have Hus : Hid (usedL ps nm (m + 1) = usedL ps nm m ++ (if reachV ps (ps[m]).nm nm = true then ownB ps[m] else [])) := usedL_succ ps nm m hpm
          have CR : Hid (∀ w', RecAt w' g 0 ps → Calls Tryd.prog 14 #[.slice (some ⟨g, 0, none⟩) ps.length c, .string nm, .string (ps[m]).nm] w' fun e w'' => e = .returned (.bool (reachV ps (ps[m]).nm nm)) ∧ w'' = w') :=
            fun w' hr' => reach_any ps g 0 c _ hok (.inr ((hasB_iff _ _).2 ⟨m, ps[m], by simp [hpm], by simp⟩)) 20 nm w' hr' (by have := atI_lt ps nm; omega)
          obtain ⟨rv, hrv⟩ : ∃ rv, reachV ps (ps[m]).nm nm = rv := ⟨_, rfl⟩
          rw [hrv] at CR Hus
          clear hrv
          generalize ps[m] = p at *
          go_wp2_with fail
          refine (CR.out _ hry).mono ?_
          rintro e w' ⟨rfl, hw⟩; obtain rfl := hw.symm; clear hw
          cases rv
          · go_wp2_with fail
            go_roundw
            case rel => exact ⟨m + 1, by omega, by go_num, by rw [Hus.out]; simpa using hownx, hBy⟩
            case measure => simp [intOf]; omega
          · have hownA := hownx.alloc (.cells #[.string p.a] 9)
            have hBA := hBy.alloc hBy.size (.cells #[.string p.a] 9)
            have hszA := hBy.size
            go_wp2_with (at_builtin; refine wpList_append_own _ rfl _ _ 27 rfl w6.heap.size 9 ii _ 1 16 Tryd.underlying27 hi iz0 iz1 iz2 rfl (by decide) u8 _ _ rfl hownA ⟨wx.heap.size, 0, none⟩ 1 1 [.string p.a] rfl rfl (one_new _ _ _) (oneV _) (by unfold maxLen; omega) (by omega) (by simp; omega) ?_)
            intro v' wy hownY hgrowY _
            have hBz := below_own hBA hownA hgrowY (Nat.le_refl _)
            have k1 := (hBz.cell (p := ⟨g, m * 8 + 1, none⟩) hg6).trans ((hBy.cell (p := ⟨g, m * 8 + 1, none⟩) hg6).symm.trans c1)
            have k3 := (hBz.cell (p := ⟨g, m * 8 + 3, none⟩) hg6).trans ((hBy.cell (p := ⟨g, m * 8 + 3, none⟩) hg6).symm.trans c3)
            have hszB := hBz.size
            clear hownA hBA hgrowY hownx hBy hry hgy c0 c1 c2 c3 c4 c5 c6 c7
            by_cases hk2 : p.k = 2
            · have hk2' : (p.k == 2) = true := by simpa using hk2
              have Hown2 : Hid (ownB p = [p.a, p.b]) := by show _ = _; rw [ownB, if_pos hk2]
              rw [hk2] at k1
              clear hk2 hk2'
              have hownB := hownY.alloc (.cells #[.string p.b] 9)
              have hBB := hBz.alloc hBz.size (.cells #[.string p.b] 9)
              go_wp2_with (at_builtin; refine wpList_append_own _ rfl _ _ 27 rfl w6.heap.size 9 ii _ 1 16 Tryd.underlying27 hi iz0 iz1 iz2 rfl (by decide) v' _ _ rfl hownB ⟨wy.heap.size, 0, none⟩ 1 1 [.string p.b] rfl rfl (one_new _ _ _) (oneV _) (by unfold maxLen; omega) (by omega) (by simp; omega) ?_)
              intro v2 wz hownZ hgrowZ _
              have hBq := below_own hBB hownB hgrowZ (Nat.le_refl _)
              clear hownB hBB hgrowZ hownY hBz k1 k3
              go_wp2_with fail
              go_roundw
              case rel => exact ⟨m + 1, by omega, by go_num, by rw [Hus.out, if_pos trivial, Hown2.out]; simpa using hownZ, hBq⟩
              case measure => simp [intOf]; omega
            · have hk2' : (p.k == 2) = false := by simpa using hk2
              have Hown2 : Hid (ownB p = [p.a]) := by show _ = _; rw [ownB, if_neg hk2]
              go_wp2_with fail
              go_roundw
              case rel => exact ⟨m + 1, by omega, by go_num, by rw [Hus.out, if_pos trivial, Hown2.out]; simpa using hownY, hBz⟩
              case measure => simp [intOf]; omega
        · obtain rfl : m = ps.length := by omega
          have hOu : OwnT wr w6.heap.size u8 (usedL ps nm ps.length) := hown
          have hLu := hOu.lst
          have hLs := hL6.up hB
          have hBf := up_trans hB16 hB
          clear hown hOu
          go_wp2_with fail
          refine (wrAll_any (usedL ps nm ps.length) (slotsV ps nm) u8 us _ hLu hLs (by omega) (by omega) hus.1).mono ?_
          rintro e w' ⟨rfl, hw⟩; obtain rfl := hw.symm; clear hw
          go_wp2_with fail
          refine (wrAll_any (slotsV ps nm) (usedL ps nm ps.length) us u8 _ hLs hLu (by omega) (by omega) hus.2).mono ?_
          rintro e w' ⟨rfl, hw⟩; obtain rfl := hw.symm; clear hw
          go_wp2_with fail
          go_ret
          exact ⟨rfl, hBf⟩
end Go.Proofs.YtkfclahdofjhjaaDoor
