/- RecCan: both sides. -/
import Derived.Test.YtcofjoacehacjaaGreatDoorWfBool
import Derived.Test.YtcofjoacehacjaaGreatDoorWr2
import Derived.Test.YtcofjoacehacjaaGreatDoorWr3
namespace Go.Proofs.YtcofjoacehacjaaGreatDoor
open Go.RowKit

theorem endN_03 (nm : ByteArray) : 0 ≤ endN nm ∧ endN nm ≤ 3 := by
  unfold endN
  split
  · omega
  · split
    · omega
    · split <;> omega
theorem evB_out (en : Int) (h : ¬ (1 ≤ en ∧ en ≤ 3)) : ∀ (l : List Ph) (nm : ByteArray), evL (feB en) fpB false l nm = false
  | [], nm => by
    have := endN_03 nm
    rw [evL]
    split
    · rfl
    · simp only [feB, beq_eq_false_iff_ne]; omega
  | p :: rest, nm => by
    rw [evL]
    split
    · rw [evB_out en h rest, evB_out en h rest]; rfl
    · exact evB_out en h rest nm
/-- What RecCan answers. -/
def canV (ps : List Ph) (nm : ByteArray) (en : Int) : Bool := recB ps && inB en 1 3 && evL (feB en) fpB false ps nm

theorem recCan_big (ps : List Ph) (b o c : Nat) (nm : ByteArray) (en : Int) (w : World) (hE : Ends w) (hr : RecAt w b o ps) (hb : b < w.heap.size) (hs : Sized ps) (hcap : ps.length ≤ c) (hc9 : c ≤ 9223372036854775807) :
    Calls Tryz.prog 10 #[.slice (some ⟨b, o, none⟩) ps.length c, .string nm, .int .i64 en] w fun e w' => e = .returned (.bool (canV ps nm en)) ∧ Below w.heap.size w w' := by
  have hbx : Below w.heap.size w (w.alloc (.cells #[.int .i64 en] 3)) := (Below.refl _ _).alloc (Nat.le_refl _) _
  have HE : Hid (Ends (w.alloc (.cells #[.int .i64 en] 3))) := hE.up hbx
  have Hr : Hid (RecAt (w.alloc (.cells #[.int .i64 en] 3)) b o ps) := hr.up hbx hb
  have hb' : b < (w.alloc (.cells #[.int .i64 en] 3)).heap.size := by simp; omega
  clear hE
  cases hok : recB ps
  · go_enter Tryz.func10, Tryz.ntmps10
    go_wp2_with (go_at_call 20; refine (recOk_big _ _ _ _ _ HE.out Hr.out hb' hs hcap hc9).mono ?_; rintro e w1 ⟨rfl, hb1⟩; (first | (have hB' := up_trans hB hb1; clear hB; have hB := hB'; clear hB') | (have hB := hb1)); clear hb1; (try clear hc hf); obtain ⟨hc, hf⟩ := bcell hB)
    go_ret
    exact ⟨ret_bool (by simp [canV, hok]), up_trans ((Below.refl _ _).alloc (Nat.le_refl _) _) hB⟩
  · have h12 : ps.length ≤ 12 := ((recB_iff ps).1 hok).2.1
    have HV : Hid (canV ps nm en = look (fill (feB en) fpB false ps) nm false) := by
      show _ = _
      have hd := dist_drop hok 0
      rw [List.drop_zero] at hd
      rw [fill_look (feB en) fpB false ps hd]
      simp only [canV, hok, Bool.true_and]
      cases hin : inB en 1 3
      · rw [evB_out en ((inB_no _ _ _).1 hin)]; rfl
      · simp
    have hlen : (fill (feB en) fpB false ps).length ≤ 1048576 := by rw [fill_len]; omega
    go_enter Tryz.func10, Tryz.ntmps10
    go_wp2_with (go_at_call 20; refine (recOk_big _ _ _ _ _ HE.out Hr.out hb' hs hcap hc9).mono ?_; rintro e w1 ⟨rfl, hb1⟩; (first | (have hB' := up_trans hB hb1; clear hB; have hB := hB'; clear hB') | (have hB := hb1)); clear hb1; (try clear hc hf); obtain ⟨hc, hf⟩ := bcell hB)
    refine (fillB_any ps _ _ _ _ en _ (HE.out.up hB) (Hr.out.up hB hb') (Nat.lt_of_lt_of_le hb' hB.size) hok (Nat.lt_of_lt_of_le (by simp) hB.size) ((hB.cell (p := ⟨w.heap.size, 0, none⟩) (by simp)).trans (by simp))).mono ?_
    rintro e w2 ⟨⟨g, cap, rfl, hT⟩, hb2⟩
    have hB2 := up_trans hB hb2
    clear hc hf hB
    have hB := hB2
    go_wp2_with fail
    refine (ofB_any _ _ _ _ _ hT hlen).mono ?_
    rintro e w3 ⟨rfl, hb3⟩
    have hB3 := up_trans hB2 hb3
    clear hB
    have hB := hB3
    go_wp2_with fail
    go_ret
    exact ⟨ret_bool HV.out.symm, up_trans ((Below.refl _ _).alloc (Nat.le_refl _) _) hB⟩
theorem recCan_any (ps : List Ph) (b o c : Nat) (nm : ByteArray) (en : Int) (w : World) (hE : Ends w) (hr : RecAt w b o ps) (hb : b < w.heap.size) (hs : Sized ps) (hcap : ps.length ≤ c) (hc9 : c ≤ 1048576) :
    Calls Tryz.prog 10 #[.slice (some ⟨b, o, none⟩) ps.length c, .string nm, .int .i64 en] w fun e w' => e = .returned (.bool (canV ps nm en)) ∧ Below w.heap.size w w' :=
  recCan_big ps b o c nm en w hE hr hb hs hcap (by omega)
end Go.Proofs.YtcofjoacehacjaaGreatDoor
