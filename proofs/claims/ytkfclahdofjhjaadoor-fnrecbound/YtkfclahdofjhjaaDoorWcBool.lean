/- RecCan: both sides. -/
import Derived.Test.YtkfclahdofjhjaaDoorWfBool
import Derived.Test.YtkfclahdofjhjaaDoorWr2
import Derived.Test.YtkfclahdofjhjaaDoorWr3
namespace Go.Proofs.YtkfclahdofjhjaaDoor
open Go.RowKit

theorem endN_03 (nm : ByteArray) : 0 ≤ endN nm ∧ endN nm ≤ 3 := by
  unfold endN
  split
  · omega
  · split
    · omega
    · split <;> omega
theorem evB_out (en : Int) (h : ¬ (1 ≤ en ∧ en ≤ 3)) : ∀ (l : List Ph) (nm : ByteArray), evL (feB en) fpB false l nm = false
  | [], nm => by
    have := endN_03 nm
    rw [evL]
    split
    · rfl
    · simp only [feB, beq_eq_false_iff_ne]; omega
  | p :: rest, nm => by
    rw [evL]
    split
    · rw [evB_out en h rest, evB_out en h rest]; rfl
    · exact evB_out en h rest nm
/-- What RecCan answers. -/
def canV (ps : List Ph) (nm : ByteArray) (en : Int) : Bool := recB ps && inB en 1 3 && evL (feB en) fpB false ps nm

set_option maxHeartbeats 1000000 in
theorem l2Can_any (ps : List Ph) (b o c : Nat) (en : Int) (hen : 1 ≤ en ∧ en ≤ 3) (hok : recB ps = true) (f : Nat) : ∀ (nm : ByteArray) (w : World), RecAt w b o ps → (atI ps nm < 0 ∨ (ps.length : Int) ≤ atI ps nm + f) →
    Calls Tryd.prog 57 #[.slice (some ⟨b, o, none⟩) ps.length c, .string nm, .int .i64 en] w fun e w' => e = .returned (.bool (evL (feB en) fpB false ps nm)) ∧ w' = w := by
  have h12 : ps.length ≤ 12 := ((recB_iff ps).1 hok).2.1
  have hn : ps.length ≤ 1048576 := by omega
  have hout : ∀ nm, atI ps nm < 0 → evL (feB en) fpB false ps nm = (endN nm == en) := by
    intro nm h0
    rw [evL_out ps _ _ _ nm h0]
    split
    · rename_i he
      rw [he]; symm; simp only [beq_eq_false_iff_ne]; omega
    · rfl
  induction f with
  | zero =>
    intro nm w hr hf
    have hlt := atI_lt ps nm
    have h0 : atI ps nm < 0 := by omega
    have HV : Hid (evL (feB en) fpB false ps nm = (endN nm == en)) := hout nm h0
    clear hout
    go_enter Tryd.func57, Tryd.ntmps57
    go_wp2_with (first | (go_at_call 40; refine (at_any _ _ _ _ _ _ hr hn).mono ?_; rintro e w' ⟨rfl, hw⟩; obtain rfl := hw.symm; clear hw) | (go_at_call 23; refine (specEnd_any _ _).mono ?_; rintro e w' ⟨rfl, hw⟩; obtain rfl := hw.symm; clear hw))
    go_ret
    exact ⟨ret_bool HV.out.symm, rfl⟩
  | succ f ih =>
    intro nm w hr hf
    have hlt := atI_lt ps nm
    by_cases h0 : atI ps nm < 0
    · have HV : Hid (evL (feB en) fpB false ps nm = (endN nm == en)) := hout nm h0
      clear hout ih
      go_enter Tryd.func57, Tryd.ntmps57
      go_wp2_with (first | (go_at_call 40; refine (at_any _ _ _ _ _ _ hr hn).mono ?_; rintro e w' ⟨rfl, hw⟩; obtain rfl := hw.symm; clear hw) | (go_at_call 23; refine (specEnd_any _ _).mono ?_; rintro e w' ⟨rfl, hw⟩; obtain rfl := hw.symm; clear hw))
      go_ret
      exact ⟨ret_bool HV.out.symm, rfl⟩
    · obtain ⟨k, hka⟩ : ∃ k : Nat, atI ps nm = (k : Int) := ⟨(atI ps nm).toNat, by omega⟩
      have hk : k < ps.length := by omega
      obtain ⟨g1, g2⟩ := goes_of hok hk
      have HV : Hid (evL (feB en) fpB false ps nm = fpB ps[k] (evL (feB en) fpB false ps (ps[k]).t) (evL (feB en) fpB false ps (ps[k]).e)) := evL_step hok (feB en) fpB false nm hk hka
      have I1 : Hid (∀ w, RecAt w b o ps → Calls Tryd.prog 57 #[.slice (some ⟨b, o, none⟩) ps.length c, .string (ps[k]).t, .int .i64 en] w fun e w' => e = .returned (.bool (evL (feB en) fpB false ps (ps[k]).t)) ∧ w' = w) := by
        show _; intro w hr; exact ih _ w hr (by have := atI_later hok hk _ g1; omega)
      have I2 : Hid (∀ w, RecAt w b o ps → Calls Tryd.prog 57 #[.slice (some ⟨b, o, none⟩) ps.length c, .string (ps[k]).e, .int .i64 en] w fun e w' => e = .returned (.bool (evL (feB en) fpB false ps (ps[k]).e)) ∧ w' = w) := by
        show _; intro w hr; exact ih _ w hr (by have := atI_later hok hk _ g2; omega)
      obtain ⟨c0, c1, c2, c3, c4, c5, c6, c7⟩ := hr.cells k hk
      have HH5 : Hid (∀ w, RecAt w b o ps → Calls Tryd.prog 40 #[.slice (some ⟨b, o, none⟩) ps.length c, .string nm] w fun e w' => e = .returned (.int .i64 (k : Int)) ∧ w' = w) := by
        show _; intro w hr; rw [← hka]; exact at_any _ _ _ _ _ _ hr hn
      clear hka hf hlt ih h0 hout
      generalize hx : evL (feB en) fpB false ps (ps[k]).t = x at *
      generalize hy : evL (feB en) fpB false ps (ps[k]).e = y at *
      clear hx hy
      cases x
      · go_enter Tryd.func57, Tryd.ntmps57
        go_wp2_with fail
        refine (HH5.out _ hr).mono ?_
        rintro e w' ⟨rfl, hw⟩; obtain rfl := hw.symm; clear hw
        go_wp2_with fail
        refine (I1.out _ hr).mono ?_
        rintro e w' ⟨rfl, hw⟩; obtain rfl := hw.symm; clear hw
        go_wp2_with fail
        refine (I2.out _ hr).mono ?_
        rintro e w' ⟨rfl, hw⟩; obtain rfl := hw.symm; clear hw
        go_wp2_with fail
        go_ret
        exact ⟨ret_bool (by rw [HV.out, fpB]; simp), rfl⟩
      · go_enter Tryd.func57, Tryd.ntmps57
        go_wp2_with fail
        refine (HH5.out _ hr).mono ?_
        rintro e w' ⟨rfl, hw⟩; obtain rfl := hw.symm; clear hw
        go_wp2_with fail
        refine (I1.out _ hr).mono ?_
        rintro e w' ⟨rfl, hw⟩; obtain rfl := hw.symm; clear hw
        go_wp2_with fail
        go_ret
        exact ⟨ret_bool (by rw [HV.out, fpB]; simp), rfl⟩

theorem specCan_any (ps : List Ph) (b o c : Nat) (nm : ByteArray) (en : Int) (w : World) (hr : RecAt w b o ps) (hb : b < w.heap.size) (hs : Sized ps) (hn : ps.length ≤ 1048576) :
    Calls Tryd.prog 21 #[.slice (some ⟨b, o, none⟩) ps.length c, .string nm, .int .i64 en] w fun e w' => e = .returned (.bool (canV ps nm en)) ∧ Below w.heap.size w w' := by
  cases hok : recB ps
  · go_enter Tryd.func21, Tryd.ntmps21
    go_wp2_with (go_at_call 13; refine (specOk_any _ _ _ _ _ hr hb hs hn).mono ?_; rintro e w1 ⟨rfl, hb1⟩; (first | (have hB' := up_trans hB hb1; clear hB; have hB := hB'; clear hB') | (have hB := hb1)); clear hb1; (try clear hc hf); obtain ⟨hc, hf⟩ := bcell hB)
    go_ret
    exact ⟨ret_bool (by simp [canV, hok]), hB⟩
  cases hin : inB en 1 3
  · go_enter Tryd.func21, Tryd.ntmps21
    go_wp2_with (first | (go_at_call 13; refine (specOk_any _ _ _ _ _ hr hb hs hn).mono ?_; rintro e w1 ⟨rfl, hb1⟩; (first | (have hB' := up_trans hB hb1; clear hB; have hB := hB'; clear hB') | (have hB := hb1)); clear hb1; (try clear hc hf); obtain ⟨hc, hf⟩ := bcell hB) | (go_at_call 39; refine (in_any _ _ _ _).mono ?_; rintro e w' ⟨rfl, hw⟩; obtain rfl := hw.symm; clear hw))
    go_ret
    exact ⟨ret_bool (by simp [canV, hin]), hB⟩
  · have h12 : ps.length ≤ 12 := ((recB_iff ps).1 hok).2.1
    have Hc : Hid (atI ps nm < 0 ∨ (ps.length : Int) ≤ atI ps nm + (12 : Nat)) := by show _ ∨ _; omega
    have HV : Hid (canV ps nm en = evL (feB en) fpB false ps nm) := by show _ = _; simp [canV, hok, hin]
    have Hin : Hid (1 ≤ en ∧ en ≤ 3) := (inB_iff _ _ _).1 hin
    go_enter Tryd.func21, Tryd.ntmps21
    go_wp2_with (first | (go_at_call 13; refine (specOk_any _ _ _ _ _ hr hb hs hn).mono ?_; rintro e w1 ⟨rfl, hb1⟩; (first | (have hB' := up_trans hB hb1; clear hB; have hB := hB'; clear hB') | (have hB := hb1)); clear hb1; (try clear hc hf); obtain ⟨hc, hf⟩ := bcell hB) | (go_at_call 39; refine (in_any _ _ _ _).mono ?_; rintro e w' ⟨rfl, hw⟩; obtain rfl := hw.symm; clear hw) | (go_at_call 57; refine (l2Can_any ps _ _ _ _ Hin.out hok 12 _ _ (hr.up hB hb) Hc.out).mono ?_; rintro e w' ⟨rfl, hw⟩; obtain rfl := hw.symm; clear hw))
    go_ret
    exact ⟨ret_bool HV.out.symm, hB⟩

theorem recCan_big (ps : List Ph) (b o c : Nat) (nm : ByteArray) (en : Int) (w : World) (hE : Ends w) (hr : RecAt w b o ps) (hb : b < w.heap.size) (hs : Sized ps) (hcap : ps.length ≤ c) (hc9 : c ≤ 9223372036854775807) :
    Calls Tryd.prog 20 #[.slice (some ⟨b, o, none⟩) ps.length c, .string nm, .int .i64 en] w fun e w' => e = .returned (.bool (canV ps nm en)) ∧ Below w.heap.size w w' := by
  have hbx : Below w.heap.size w (w.alloc (.cells #[.int .i64 en] 3)) := (Below.refl _ _).alloc (Nat.le_refl _) _
  have HE : Hid (Ends (w.alloc (.cells #[.int .i64 en] 3))) := hE.up hbx
  have Hr : Hid (RecAt (w.alloc (.cells #[.int .i64 en] 3)) b o ps) := hr.up hbx hb
  have hb' : b < (w.alloc (.cells #[.int .i64 en] 3)).heap.size := by simp; omega
  clear hE
  cases hok : recB ps
  · go_enter Tryd.func20, Tryd.ntmps20
    go_wp2_with (go_at_call 26; refine (recOk_big _ _ _ _ _ HE.out Hr.out hb' hs hcap hc9).mono ?_; rintro e w1 ⟨rfl, hb1⟩; (first | (have hB' := up_trans hB hb1; clear hB; have hB := hB'; clear hB') | (have hB := hb1)); clear hb1; (try clear hc hf); obtain ⟨hc, hf⟩ := bcell hB)
    go_ret
    exact ⟨ret_bool (by simp [canV, hok]), up_trans ((Below.refl _ _).alloc (Nat.le_refl _) _) hB⟩
  · have h12 : ps.length ≤ 12 := ((recB_iff ps).1 hok).2.1
    have HV : Hid (canV ps nm en = look (fill (feB en) fpB false ps) nm false) := by
      show _ = _
      have hd := dist_drop hok 0
      rw [List.drop_zero] at hd
      rw [fill_look (feB en) fpB false ps hd]
      simp only [canV, hok, Bool.true_and]
      cases hin : inB en 1 3
      · rw [evB_out en ((inB_no _ _ _).1 hin)]; rfl
      · simp
    have hlen : (fill (feB en) fpB false ps).length ≤ 1048576 := by rw [fill_len]; omega
    go_enter Tryd.func20, Tryd.ntmps20
    go_wp2_with (go_at_call 26; refine (recOk_big _ _ _ _ _ HE.out Hr.out hb' hs hcap hc9).mono ?_; rintro e w1 ⟨rfl, hb1⟩; (first | (have hB' := up_trans hB hb1; clear hB; have hB := hB'; clear hB') | (have hB := hb1)); clear hb1; (try clear hc hf); obtain ⟨hc, hf⟩ := bcell hB)
    refine (fillB_any ps _ _ _ _ en _ (HE.out.up hB) (Hr.out.up hB hb') (Nat.lt_of_lt_of_le hb' hB.size) hok (Nat.lt_of_lt_of_le (by simp) hB.size) ((hB.cell (p := ⟨w.heap.size, 0, none⟩) (by simp)).trans (by simp))).mono ?_
    rintro e w2 ⟨⟨g, cap, rfl, hT⟩, hb2⟩
    have hB2 := up_trans hB hb2
    clear hc hf hB
    have hB := hB2
    go_wp2_with fail
    refine (ofB_any _ _ _ _ _ hT hlen).mono ?_
    rintro e w3 ⟨rfl, hb3⟩
    have hB3 := up_trans hB2 hb3
    clear hB
    have hB := hB3
    go_wp2_with fail
    go_ret
    exact ⟨ret_bool HV.out.symm, up_trans ((Below.refl _ _).alloc (Nat.le_refl _) _) hB⟩
theorem recCan_any (ps : List Ph) (b o c : Nat) (nm : ByteArray) (en : Int) (w : World) (hE : Ends w) (hr : RecAt w b o ps) (hb : b < w.heap.size) (hs : Sized ps) (hcap : ps.length ≤ c) (hc9 : c ≤ 1048576) :
    Calls Tryd.prog 20 #[.slice (some ⟨b, o, none⟩) ps.length c, .string nm, .int .i64 en] w fun e w' => e = .returned (.bool (canV ps nm en)) ∧ Below w.heap.size w w' :=
  recCan_big ps b o c nm en w hE hr hb hs hcap (by omega)
end Go.Proofs.YtkfclahdofjhjaaDoor
