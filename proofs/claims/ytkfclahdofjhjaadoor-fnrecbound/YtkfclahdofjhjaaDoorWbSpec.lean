/- RecBound by the specification. -/
import Derived.Test.YtkfclahdofjhjaaDoorWbInt
namespace Go.Proofs.YtkfclahdofjhjaaDoor
open Go.RowKit

theorem specBound_any (ps : List Ph) (b o c : Nat) (nm : ByteArray) (w : World) (hr : RecAt w b o ps) (hb : b < w.heap.size) (hs : Sized ps) (hn : ps.length ≤ 1048576) :
    Calls Tryd.prog 10 #[.slice (some ⟨b, o, none⟩) ps.length c, .string nm] w fun e w' => e = .returned (.int .i64 (boundV ps nm)) ∧ Below w.heap.size w w' := by
  cases hok : recB ps
  · go_enter Tryd.func10, Tryd.ntmps10
    go_wp2_with (go_at_call 13; refine (specOk_any _ _ _ _ _ hr hb hs hn).mono ?_; rintro e w1 ⟨rfl, hb1⟩; (first | (have hB' := up_trans hB hb1; clear hB; have hB := hB'; clear hB') | (have hB := hb1)); clear hb1; (try clear hc hf); obtain ⟨hc, hf⟩ := bcell hB)
    go_ret
    exact ⟨ret_int (by simp [boundV, hok]), hB⟩
  · have h12 : ps.length ≤ 12 := ((recB_iff ps).1 hok).2.1
    have Hc : Hid (atI ps nm < 0 ∨ (ps.length : Int) ≤ atI ps nm + (12 : Nat)) := by show _ ∨ _; omega
    have HV : Hid (boundV ps nm = evL feI fpI 0 ps nm) := by show _ = _; simp [boundV, hok]
    go_enter Tryd.func10, Tryd.ntmps10
    go_wp2_with (first | (go_at_call 13; refine (specOk_any _ _ _ _ _ hr hb hs hn).mono ?_; rintro e w1 ⟨rfl, hb1⟩; (first | (have hB' := up_trans hB hb1; clear hB; have hB := hB'; clear hB') | (have hB := hb1)); clear hb1; (try clear hc hf); obtain ⟨hc, hf⟩ := bcell hB) | (go_at_call 37; refine (l2Bound_any ps _ _ _ hok 12 _ _ (hr.up hB hb) Hc.out).mono ?_; rintro e w' ⟨rfl, hw⟩; obtain rfl := hw.symm; clear hw))
    go_ret
    exact ⟨ret_int HV.out.symm, hB⟩

end Go.Proofs.YtkfclahdofjhjaaDoor
