/- Structs in blocks of their own: their cells, copied, kept, handed back. -/
import Derived.Test.YtcofjoacehacjaaGreatDoorJ0
import Derived.Test.YtcofjoacehacjaaGreatDoorJ4
import Derived.Test.YtcofjoacehacjaaGreatDoorWa
import Derived.Deep.Cut
namespace Go.Proofs.YtcofjoacehacjaaGreatDoor
open Go.RowKit

theorem sizeP : (Tryz.prog.info? 37).map (·.size) = some 8 := by kernel_rfl
end Go.Proofs.YtcofjoacehacjaaGreatDoor

/- The walks over recipes: looking for a name. -/
namespace Go.Proofs.YtcofjoacehacjaaGreatDoor
open Go.RowKit

theorem at_any (ps : List Ph) (b o c : Nat) (nm : ByteArray) (w : World) (hr : RecAt w b o ps) (hn : ps.length ≤ 1048576) :
    Calls Tryz.prog 23 #[.slice (some ⟨b, o, none⟩) ps.length c, .string nm] w fun e w' => e = .returned (.int .i64 (atI ps nm)) ∧ w' = w := by
  go_enter Tryz.func23, Tryz.ntmps23
  go_wp2
  go_loop [5] (fun i => ∃ k : Nat, k ≤ ps.length ∧ i = .int .i64 k ∧ hasB (ps.take k) nm = false) (fun i => ps.length - (intOf i).toNat)
  case atStart => exact ⟨0, by omega, rfl, rfl⟩
  case round =>
    obtain ⟨k, hk, rfl, hal⟩ := hrel
    have Hal : Hid (hasB (ps.take k) nm = false) := hal
    clear hal
    by_cases hp : k < ps.length
    · obtain ⟨c0, -⟩ := hr.cells k hp
      cases hq : ((ps[k]).nm.toList == nm.toList)
      · have Hq : Hid (((ps[k]).nm.toList == nm.toList) = false) := hq
        go_wp2
        go_round
        case rel => exact ⟨k + 1, by omega, by go_num, by rw [hasB_take ps nm k hp, Hal.out, Hq.out]; rfl⟩
        case measure => simp [intOf]; omega
      · have Hq : Hid (((ps[k]).nm.toList == nm.toList) = true) := hq
        go_wp2
        go_ret
        exact ⟨ret_int (atI_found ps nm k hp Hal.out Hq.out).symm, rfl⟩
    · go_wp2
      go_ret
      exact ⟨ret_int (atI_none ps nm (hasB_all ps nm k hp Hal.out)).symm, rfl⟩

def Ph.none : Ph := ⟨⟨#[]⟩, 0, ⟨#[]⟩, ⟨#[]⟩, 0, 0, ⟨#[]⟩, ⟨#[]⟩⟩
set_option maxHeartbeats 1000000 in
/-- The first phase of a name, and whether there is one. -/
theorem phaseOf_any (ps : List Ph) (b o c : Nat) (nm : ByteArray) (w : World) (hr : RecAt w b o ps) (hb : b < w.heap.size) (hn : ps.length ≤ 1048576) :
    Calls Tryz.prog 37 #[.slice (some ⟨b, o, none⟩) ps.length c, .string nm] w fun e w' =>
      (∃ p : Ph, e = .returned (.tuple #[.agg #[.string (p).nm, .int .i64 (p).k, .string (p).a, .string (p).b, .int .i64 (p).n, .int .i64 (p).wi, .string (p).t, .string (p).e], .bool (hasB ps nm)]) ∧ ∀ (k : Nat) (hk : k < ps.length), atI ps nm = (k : Int) → p = ps[k]) ∧ Below w.heap.size w w' := by
  go_enter Tryz.func37, Tryz.ntmps37
  go_wp2
  go_loopw [10] (fun i w' => ∃ k : Nat, k ≤ ps.length ∧ i = .int .i64 k ∧ hasB (ps.take k) nm = false ∧ Below w.heap.size w w' ∧ CB w' w.heap.size Ph.none.cells) (fun i _ => ps.length - (intOf i).toNat)
  case atStart => exact ⟨0, by omega, rfl, rfl, (Below.refl _ _).alloc (Nat.le_refl _) _, cb_alloc w Ph.none.cells 37⟩
  case round =>
    obtain ⟨k, hk, rfl, hal, hB, hC⟩ := hrel
    have Hal : Hid (hasB (ps.take k) nm = false) := hal
    clear hal
    by_cases hp : k < ps.length
    · obtain ⟨c0, c1, c2, c3, c4, c5, c6, c7⟩ := (hr.up hB hb).cells k hp
      have hlt := hC.2.2
      have hne : ¬ w.heap.size = wr.heap.size := by omega
      have hen : ¬ wr.heap.size = w.heap.size := by omega
      cases hq : ((ps[k]).nm.toList == nm.toList)
      · have Hq : Hid (((ps[k]).nm.toList == nm.toList) = false) := hq
        go_wp2
        go_roundw
        case rel => exact ⟨k + 1, by omega, by go_num, by rw [hasB_take ps nm k hp, Hal.out, Hq.out]; rfl, hB.alloc hB.size _, hC.up ((Below.refl wr.heap.size _).alloc (Nat.le_refl _) _) hlt⟩
        case measure => simp [intOf]; omega
      · have Hq : Hid (((ps[k]).nm.toList == nm.toList) = true) := hq
        go_upto_region 5 with fail
        have hC2 : CB (wr.alloc (.cells #[.string (ps[k]).nm, .int .i64 (ps[k]).k, .string (ps[k]).a, .string (ps[k]).b, .int .i64 (ps[k]).n, .int .i64 (ps[k]).wi, .string (ps[k]).t, .string (ps[k]).e] 37)) w.heap.size Ph.none.cells := hC.up ((Below.refl wr.heap.size _).alloc (Nat.le_refl _) _) hlt
        have hP2 : CB (wr.alloc (.cells #[.string (ps[k]).nm, .int .i64 (ps[k]).k, .string (ps[k]).a, .string (ps[k]).b, .int .i64 (ps[k]).n, .int .i64 (ps[k]).wi, .string (ps[k]).t, .string (ps[k]).e] 37)) wr.heap.size (ps[k]).cells := cb_alloc wr (ps[k]).cells _
        have hB2 := hB.alloc hB.size (.cells #[.string (ps[k]).nm, .int .i64 (ps[k]).k, .string (ps[k]).a, .string (ps[k]).b, .int .i64 (ps[k]).n, .int .i64 (ps[k]).wi, .string (ps[k]).t, .string (ps[k]).e] 37)
        clear c0 c1 c2 c3 c4 c5 c6 c7
        generalize wr.alloc (.cells #[.string (ps[k]).nm, .int .i64 (ps[k]).k, .string (ps[k]).a, .string (ps[k]).b, .int .i64 (ps[k]).n, .int .i64 (ps[k]).wi, .string (ps[k]).t, .string (ps[k]).e] 37) = W2 at *
        obtain ⟨⟨c0, c1, c2, c3, c4, c5, c6, c7⟩, -⟩ := hP2.c8
        obtain ⟨⟨d0, d1, d2, d3, d4, d5, d6, d7⟩, f0, f1, f2, f3, f4, f5, f6, f7⟩ := hC2.c8
        go_wp2_with fail
        refine bodyPost_ret (ret_cb2 (v := .bool true) (rk := w.heap.size) (cs := (ps[k]).cells) Tryz.results37 Tryz.underlying37 rfl sizeP ?ht ?hv ?hZ) rfl ?_
        case ht => rfl
        case hv => rfl
        case hZ => exact hC2.copy8 _ _ _ _ _ _ _ _
        refine ⟨⟨ps[k], ?_, ?_⟩, below_set8 hB2 (Nat.le_refl _) _ _ _ _ _ _ _ _⟩
        · rw [hasB_yes ps nm k hp Hq.out]; rfl
        · intro j hj ha
          have := atI_found ps nm k hp Hal.out Hq.out
          obtain rfl : j = k := by omega
          rfl
    · obtain ⟨⟨d0, d1, d2, d3, d4, d5, d6, d7⟩, f0, f1, f2, f3, f4, f5, f6, f7⟩ := hC.c8
      go_wp2_with fail
      refine bodyPost_ret (ret_cb2 (v := .bool false) (rk := w.heap.size) (cs := Ph.none.cells) Tryz.results37 Tryz.underlying37 rfl sizeP ?ht ?hv ?hZ) rfl ?_
      case ht => rfl
      case hv => rfl
      case hZ => exact hC.copy8 _ _ _ _ _ _ _ _
      refine ⟨⟨Ph.none, ?_, ?_⟩, below_set8 hB (Nat.le_refl _) _ _ _ _ _ _ _ _⟩
      · rw [hasB_all ps nm k hp Hal.out]; rfl
      · intro j hj ha
        have := atI_none ps nm (hasB_all ps nm k hp Hal.out)
        omega

theorem has_any (ps : List Ph) (b o c : Nat) (nm : ByteArray) (w : World) (hr : RecAt w b o ps) (hb : b < w.heap.size) (hn : ps.length ≤ 1048576) :
    Calls Tryz.prog 48 #[.slice (some ⟨b, o, none⟩) ps.length c, .string nm] w fun e w' => e = .returned (.bool (hasB ps nm)) ∧ Below w.heap.size w w' := by
  go_enter Tryz.func48, Tryz.ntmps48
  go_wp2_with fail
  refine (phaseOf_any ps b o c nm _ hr hb hn).mono ?_
  rintro e w1 ⟨⟨p, rfl, -⟩, hB1⟩
  go_wp2_with fail
  go_ret
  exact ⟨rfl, hB1.alloc hB1.size _⟩

theorem goes_any (ps : List Ph) (b o c : Nat) (nm : ByteArray) (w : World) (hE : Ends w) (hr : RecAt w b o ps) (hb : b < w.heap.size) (hn : ps.length ≤ 1048576) :
    Calls Tryz.prog 49 #[.slice (some ⟨b, o, none⟩) ps.length c, .string nm] w fun e w' => e = .returned (.bool (goesB ps nm)) ∧ Below w.heap.size w w' := by
  have HE : Hid (Ends w) := hE
  clear hE
  cases h : (endN nm != 0)
  · go_enter Tryz.func49, Tryz.ntmps49
    go_wp2_with (first | (go_at_call 9; refine (recEnd_any _ _ HE.out).mono ?_; rintro e w' ⟨rfl, hw⟩; obtain rfl := hw.symm; clear hw) | (go_at_call 48; refine (has_any _ _ _ _ _ _ hr hb hn).mono ?_; rintro e w1 ⟨rfl, hb1⟩; (first | (have hB' := up_trans hB hb1; clear hB; have hB := hB'; clear hB') | (have hB := hb1)); clear hb1; (try clear hc hf); obtain ⟨hc, hf⟩ := bcell hB))
    go_ret
    exact ⟨ret_bool (by simp [goesB, h]), hB⟩
  · go_enter Tryz.func49, Tryz.ntmps49
    go_wp2_with (first | (go_at_call 9; refine (recEnd_any _ _ HE.out).mono ?_; rintro e w' ⟨rfl, hw⟩; obtain rfl := hw.symm; clear hw) | (go_at_call 48; refine (has_any _ _ _ _ _ _ hr hb hn).mono ?_; rintro e w1 ⟨rfl, hb1⟩; (first | (have hB' := up_trans hB hb1; clear hB; have hB := hB'; clear hB') | (have hB := hb1)); clear hb1; (try clear hc hf); obtain ⟨hc, hf⟩ := bcell hB))
    go_ret
    exact ⟨ret_bool (by simp [goesB, h]), Below.refl _ _⟩

theorem has_at (ps : List Ph) (n b o c : Nat) (nm : ByteArray) (w : World) (hl : ps.length = n) (hr : RecAt w b o ps) (hb : b < w.heap.size) (hn : ps.length ≤ 1048576) :
    Calls Tryz.prog 48 #[.slice (some ⟨b, o, none⟩) n c, .string nm] w fun e w' => e = .returned (.bool (hasB ps nm)) ∧ Below w.heap.size w w' := by
  subst hl; exact has_any ps b o c nm w hr hb hn
theorem goes_at (ps : List Ph) (n b o c : Nat) (nm : ByteArray) (w : World) (hl : ps.length = n) (hE : Ends w) (hr : RecAt w b o ps) (hb : b < w.heap.size) (hn : ps.length ≤ 1048576) :
    Calls Tryz.prog 49 #[.slice (some ⟨b, o, none⟩) n c, .string nm] w fun e w' => e = .returned (.bool (goesB ps nm)) ∧ Below w.heap.size w w' := by
  subst hl; exact goes_any ps b o c nm w hE hr hb hn
end Go.Proofs.YtcofjoacehacjaaGreatDoor
