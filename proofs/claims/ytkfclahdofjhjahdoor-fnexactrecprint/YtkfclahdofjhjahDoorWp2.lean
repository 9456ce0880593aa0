/- The specification's text of a recipe: its walk. -/
import Derived.Test.YtkfclahdofjhjahDoorPq
import Derived.Test.YtkfclahdofjhjahDoorWr2
import Derived.Test.YtkfclahdofjhjahDoorWx
import Derived.Deep.RegionHeld
namespace Go.Proofs.YtkfclahdofjhjahDoor
open Go.RowKit

set_option maxHeartbeats 4000000 in
theorem specPrint_any (ps : List Ph) (b o c : Nat) (w : World) (hr : RecAt w b o ps) (hb : b < w.heap.size) (hs : Sized ps) (hn : ps.length ≤ 1048576) :
    Calls Tryd.prog 13 #[.slice (some ⟨b, o, none⟩) ps.length c] w fun e w' => e = .returned (.string (printS ps)) ∧ Below w.heap.size w w' := by
  cases hok : recB ps
  case false =>
    have Hp : Hid (printS ps = ⟨#[]⟩) := by show _ = _; unfold printS; rw [hok]; rfl
    go_enter Tryd.func13, Tryd.ntmps13
    go_wp2_with (go_at_call 34; refine (specOk_any ps b o c _ hr hb hs hn).mono ?_; rintro e w1 ⟨rfl, hB⟩)
    go_ret
    exact ⟨by rw [Hp.out]; rfl, hB⟩
  have Hp : Hid (printS ps = ofL (textL ps)) := by show _ = _; unfold printS; rw [if_pos hok]
  have Hok : Hid (recB ps = true) := hok
  go_enter Tryd.func13, Tryd.ntmps13
  go_wp2_with (go_at_call 34; refine (specOk_any ps b o c _ hr hb hs hn).mono ?_; rintro e w1 ⟨rfl, hB1⟩)
  go_loopw [3, 4] (fun u i w' => ∃ (k : Nat) (s : ByteArray), k ≤ ps.length ∧ i = .int .i64 k ∧ u = .string s ∧ s = ofL (textL (ps.take k)) ∧ s.size ≤ k * 90 ∧ Below w.heap.size w w') (fun _ i _ => ps.length - (intOf i).toNat)
  case atStart => exact ⟨0, ⟨#[]⟩, by omega, rfl, rfl, rfl, Nat.le_refl _, hB1⟩
  case round =>
    obtain ⟨k, s, hk, rfl, rfl, hS, hz, hB⟩ := hrel
    have HS : Hid (s = ofL (textL (ps.take k))) := hS
    clear hS
    by_cases hp : k < ps.length
    · obtain ⟨c0, c1, c2, c3, c4, c5, c6, c7⟩ := hr.cells k hp
      obtain ⟨hc, hf⟩ := bcell hB
      have ho := ok_of Hok.out hp
      obtain ⟨z0, z1, z2, z3, z4⟩ := ph_short _ ho
      obtain ⟨hkk, hw, hkd⟩ := ph_kinds _ ho
      generalize hpk : ps[k] = p at *
      have Hpk : Hid (ps[k] = p) := hpk
      clear hpk
      go_wp2_with fail
      have hx := box_alloc wr p 63
      have hBW := hB.alloc hB.size (.cells #[.string p.nm, .int .i64 p.k, .string p.a, .string p.b, .int .i64 p.n, .int .i64 p.wi, .string p.t, .string p.e] 63)
      clear hc hf c0 c1 c2 c3 c4 c5 c6 c7
      generalize wr.alloc (.cells #[.string p.nm, .int .i64 p.k, .string p.a, .string p.b, .int .i64 p.n, .int .i64 p.wi, .string p.t, .string p.e] 63) = W at hx hBW ⊢
      generalize wr.heap.size = N at hx ⊢
      have hNW := hx.lt
      obtain ⟨d0, d1, d2, d3, d4, d5, d6, d7⟩ := hx.cells
      have hS0 : Below W.heap.size W W ∧ W.cell? ⟨N, 0, none⟩ = some (.string p.nm) ∧ W.cell? ⟨N, 1, none⟩ = some (.int .i64 p.k) ∧ W.cell? ⟨N, 2, none⟩ = some (.string p.a) ∧ W.cell? ⟨N, 3, none⟩ = some (.string p.b) ∧ W.cell? ⟨N, 4, none⟩ = some (.int .i64 p.n) ∧ W.cell? ⟨N, 5, none⟩ = some (.int .i64 p.wi) ∧ W.cell? ⟨N, 6, none⟩ = some (.string p.t) ∧ W.cell? ⟨N, 7, none⟩ = some (.string p.e) := ⟨Below.refl _ _, d0, d1, d2, d3, d4, d5, d6, d7⟩
      clear hx d0 d1 d2 d3 d4 d5 d6 d7
      obtain ⟨t, ht, ht5⟩ : ∃ t, Hid (t = kindS p.k) ∧ t.size ≤ 5 := ⟨_, rfl, kind_len _⟩
      obtain ⟨dw, hdw, hdw5⟩ : ∃ t, Hid (t = decS p.wi) ∧ t.size ≤ 4 := ⟨_, rfl, decS_size _ (by omega)⟩
      have Hkk : Hid (∀ w : World, Calls Tryd.prog 44 #[.int .i64 p.k] w fun e w' => e = .returned (.string t) ∧ Below w.heap.size w w') := fun w => by rw [ht.out]; exact kind_is _ w hkk
      have Hdw : Hid (∀ w : World, Calls Tryd.prog 45 #[.int .i64 p.wi] w fun e w' => e = .returned (.string dw) ∧ Below w.heap.size w w') := fun w => by rw [hdw.out]; exact dec_is _ w (by omega) (by omega)
      have hz9 : s.size ≤ 1080 := by have := ((recB_iff ps).1 Hok.out).2.1; omega
      go_region_held (fun w' => Below W.heap.size W w' ∧ w'.cell? ⟨N, 0, none⟩ = some (.string p.nm) ∧ w'.cell? ⟨N, 1, none⟩ = some (.int .i64 p.k) ∧ w'.cell? ⟨N, 2, none⟩ = some (.string p.a) ∧ w'.cell? ⟨N, 3, none⟩ = some (.string p.b) ∧ w'.cell? ⟨N, 4, none⟩ = some (.int .i64 p.n) ∧ w'.cell? ⟨N, 5, none⟩ = some (.int .i64 p.wi) ∧ w'.cell? ⟨N, 6, none⟩ = some (.string p.t) ∧ w'.cell? ⟨N, 7, none⟩ = some (.string p.e)) (first | assumption | exact held_drew hS0 | exact held_up hNW (by assumption) (by assumption))
        (first | (go_at_call 44; refine (Hkk.out _).mono ?_; rintro e w2 ⟨rfl, hB2⟩))
      all_goals
        rename_i hHeld
        obtain ⟨hB3, d0, d1, d2, d3, d4, d5, d6, d7⟩ := hHeld
        have hBX := up_trans hBW hB3
        have hN2 := Nat.lt_of_lt_of_le hNW hB3.size
        have Hbw : Hid (Below w.heap.size w w2) := hBX
        clear hB2 hB3 hS0 hBX
        rcases hkd with ⟨hk1, hb1, -, hn1, hn2⟩ | ⟨hk3, hb3, hn1, hn2⟩ | ⟨hk4, hb4, hn4⟩
        · have hbe : p.b.toList.isEmpty = false := by
            rw [Go.ByteArray.toList_eq]
            cases hl : p.b.data.toList with
            | nil =>
              have : p.b.size = 0 := by show p.b.data.size = 0; rw [← Array.length_toList, hl]; rfl
              omega
            | cons x r => rfl
          obtain ⟨dn, hdn, hdn5⟩ : ∃ t, Hid (t = decS p.n) ∧ t.size ≤ 4 := ⟨_, rfl, decS_size _ (by omega)⟩
          have Hdn : Hid (∀ w : World, Calls Tryd.prog 45 #[.int .i64 p.n] w fun e w' => e = .returned (.string dn) ∧ Below w.heap.size w w') := fun w => by rw [hdn.out]; exact dec_is _ w (by omega) (by omega)
          go_wp2_with (go_at_call 45; refine (Hdn.out _).mono ?_; rintro e w3 ⟨rfl, hB3⟩)
          have hS3 : Below w3.heap.size w3 w3 ∧ w3.cell? ⟨N, 0, none⟩ = some (.string p.nm) ∧ w3.cell? ⟨N, 1, none⟩ = some (.int .i64 p.k) ∧ w3.cell? ⟨N, 2, none⟩ = some (.string p.a) ∧ w3.cell? ⟨N, 3, none⟩ = some (.string p.b) ∧ w3.cell? ⟨N, 4, none⟩ = some (.int .i64 p.n) ∧ w3.cell? ⟨N, 5, none⟩ = some (.int .i64 p.wi) ∧ w3.cell? ⟨N, 6, none⟩ = some (.string p.t) ∧ w3.cell? ⟨N, 7, none⟩ = some (.string p.e) := ⟨Below.refl _ _, (hB3.cell (p := ⟨N, 0, none⟩) hN2).trans d0, (hB3.cell (p := ⟨N, 1, none⟩) hN2).trans d1, (hB3.cell (p := ⟨N, 2, none⟩) hN2).trans d2, (hB3.cell (p := ⟨N, 3, none⟩) hN2).trans d3, (hB3.cell (p := ⟨N, 4, none⟩) hN2).trans d4, (hB3.cell (p := ⟨N, 5, none⟩) hN2).trans d5, (hB3.cell (p := ⟨N, 6, none⟩) hN2).trans d6, (hB3.cell (p := ⟨N, 7, none⟩) hN2).trans d7⟩
          have hN3 := Nat.lt_of_lt_of_le hN2 hB3.size
          have Hb3 : Hid (Below w.heap.size w w3) := up_trans Hbw.out hB3
          clear d0 d1 d2 d3 d4 d5 d6 d7 hB3
          go_region_held (fun w' => Below w3.heap.size w3 w' ∧ w'.cell? ⟨N, 0, none⟩ = some (.string p.nm) ∧ w'.cell? ⟨N, 1, none⟩ = some (.int .i64 p.k) ∧ w'.cell? ⟨N, 2, none⟩ = some (.string p.a) ∧ w'.cell? ⟨N, 3, none⟩ = some (.string p.b) ∧ w'.cell? ⟨N, 4, none⟩ = some (.int .i64 p.n) ∧ w'.cell? ⟨N, 5, none⟩ = some (.int .i64 p.wi) ∧ w'.cell? ⟨N, 6, none⟩ = some (.string p.t) ∧ w'.cell? ⟨N, 7, none⟩ = some (.string p.e)) (first | assumption | exact held_drew hS3 | exact held_up hN3 (by assumption) (by assumption))
            (first | (go_at_call 45; refine (Hdw.out _).mono ?_; rintro e w4 ⟨rfl, hB4⟩))
          all_goals
            rename_i hHeld
            have Hb4 : Hid (Below w.heap.size w w4) := up_trans Hb3.out hHeld.1
            clear hHeld hS3 hB4
            go_wp2_with fail
            go_roundw
            case rel =>
              have HL := line12 hp Hpk.out HS.out hk1 rfl ht.out rfl rfl hdn.out hdw.out rfl rfl
              exact ⟨k + 1, _, by omega, by go_num, rfl, HL, text_size Hok.out (by omega) HL, Hb4.out⟩
            case measure => simp [intOf]; omega
        · have hbe : p.b.toList.isEmpty = true := by rw [hb3, Go.ByteArray.toList_eq]; rfl
          obtain ⟨dn, hdn, hdn5⟩ : ∃ t, Hid (t = decS p.n) ∧ t.size ≤ 4 := ⟨_, rfl, decS_size _ (by omega)⟩
          have Hdn : Hid (∀ w : World, Calls Tryd.prog 45 #[.int .i64 p.n] w fun e w' => e = .returned (.string dn) ∧ Below w.heap.size w w') := fun w => by rw [hdn.out]; exact dec_is _ w (by omega) (by omega)
          go_wp2_with (go_at_call 45; refine (Hdn.out _).mono ?_; rintro e w3 ⟨rfl, hB3⟩)
          have hS3 : Below w3.heap.size w3 w3 ∧ w3.cell? ⟨N, 0, none⟩ = some (.string p.nm) ∧ w3.cell? ⟨N, 1, none⟩ = some (.int .i64 p.k) ∧ w3.cell? ⟨N, 2, none⟩ = some (.string p.a) ∧ w3.cell? ⟨N, 3, none⟩ = some (.string p.b) ∧ w3.cell? ⟨N, 4, none⟩ = some (.int .i64 p.n) ∧ w3.cell? ⟨N, 5, none⟩ = some (.int .i64 p.wi) ∧ w3.cell? ⟨N, 6, none⟩ = some (.string p.t) ∧ w3.cell? ⟨N, 7, none⟩ = some (.string p.e) := ⟨Below.refl _ _, (hB3.cell (p := ⟨N, 0, none⟩) hN2).trans d0, (hB3.cell (p := ⟨N, 1, none⟩) hN2).trans d1, (hB3.cell (p := ⟨N, 2, none⟩) hN2).trans d2, (hB3.cell (p := ⟨N, 3, none⟩) hN2).trans d3, (hB3.cell (p := ⟨N, 4, none⟩) hN2).trans d4, (hB3.cell (p := ⟨N, 5, none⟩) hN2).trans d5, (hB3.cell (p := ⟨N, 6, none⟩) hN2).trans d6, (hB3.cell (p := ⟨N, 7, none⟩) hN2).trans d7⟩
          have hN3 := Nat.lt_of_lt_of_le hN2 hB3.size
          have Hb3 : Hid (Below w.heap.size w w3) := up_trans Hbw.out hB3
          clear d0 d1 d2 d3 d4 d5 d6 d7 hB3
          go_region_held (fun w' => Below w3.heap.size w3 w' ∧ w'.cell? ⟨N, 0, none⟩ = some (.string p.nm) ∧ w'.cell? ⟨N, 1, none⟩ = some (.int .i64 p.k) ∧ w'.cell? ⟨N, 2, none⟩ = some (.string p.a) ∧ w'.cell? ⟨N, 3, none⟩ = some (.string p.b) ∧ w'.cell? ⟨N, 4, none⟩ = some (.int .i64 p.n) ∧ w'.cell? ⟨N, 5, none⟩ = some (.int .i64 p.wi) ∧ w'.cell? ⟨N, 6, none⟩ = some (.string p.t) ∧ w'.cell? ⟨N, 7, none⟩ = some (.string p.e)) (first | assumption | exact held_drew hS3 | exact held_up hN3 (by assumption) (by assumption))
            (first | (go_at_call 45; refine (Hdw.out _).mono ?_; rintro e w4 ⟨rfl, hB4⟩))
          all_goals
            rename_i hHeld
            have Hb4 : Hid (Below w.heap.size w w4) := up_trans Hb3.out hHeld.1
            clear hHeld hS3 hB4
            go_wp2_with fail
            go_roundw
            case rel =>
              have HL := line3 hp Hpk.out HS.out hk3 rfl ht.out rfl hdn.out hdw.out rfl rfl
              exact ⟨k + 1, _, by omega, by go_num, rfl, HL, text_size Hok.out (by omega) HL, Hb4.out⟩
            case measure => simp [intOf]; omega
        · have hbe : p.b.toList.isEmpty = true := by rw [hb4, Go.ByteArray.toList_eq]; rfl
          go_wp2_with fail
          obtain ⟨w3, hw3, hB3⟩ : ∃ w3, Hid (w3 = w2) ∧ Below w2.heap.size w2 w3 := ⟨w2, rfl, Below.refl _ _⟩
          rw [← hw3.out]
          have hS3 : Below w3.heap.size w3 w3 ∧ w3.cell? ⟨N, 0, none⟩ = some (.string p.nm) ∧ w3.cell? ⟨N, 1, none⟩ = some (.int .i64 p.k) ∧ w3.cell? ⟨N, 2, none⟩ = some (.string p.a) ∧ w3.cell? ⟨N, 3, none⟩ = some (.string p.b) ∧ w3.cell? ⟨N, 4, none⟩ = some (.int .i64 p.n) ∧ w3.cell? ⟨N, 5, none⟩ = some (.int .i64 p.wi) ∧ w3.cell? ⟨N, 6, none⟩ = some (.string p.t) ∧ w3.cell? ⟨N, 7, none⟩ = some (.string p.e) := ⟨Below.refl _ _, (hB3.cell (p := ⟨N, 0, none⟩) hN2).trans d0, (hB3.cell (p := ⟨N, 1, none⟩) hN2).trans d1, (hB3.cell (p := ⟨N, 2, none⟩) hN2).trans d2, (hB3.cell (p := ⟨N, 3, none⟩) hN2).trans d3, (hB3.cell (p := ⟨N, 4, none⟩) hN2).trans d4, (hB3.cell (p := ⟨N, 5, none⟩) hN2).trans d5, (hB3.cell (p := ⟨N, 6, none⟩) hN2).trans d6, (hB3.cell (p := ⟨N, 7, none⟩) hN2).trans d7⟩
          have hN3 := Nat.lt_of_lt_of_le hN2 hB3.size
          have Hb3 : Hid (Below w.heap.size w w3) := up_trans Hbw.out hB3
          clear d0 d1 d2 d3 d4 d5 d6 d7 hB3
          go_region_held (fun w' => Below w3.heap.size w3 w' ∧ w'.cell? ⟨N, 0, none⟩ = some (.string p.nm) ∧ w'.cell? ⟨N, 1, none⟩ = some (.int .i64 p.k) ∧ w'.cell? ⟨N, 2, none⟩ = some (.string p.a) ∧ w'.cell? ⟨N, 3, none⟩ = some (.string p.b) ∧ w'.cell? ⟨N, 4, none⟩ = some (.int .i64 p.n) ∧ w'.cell? ⟨N, 5, none⟩ = some (.int .i64 p.wi) ∧ w'.cell? ⟨N, 6, none⟩ = some (.string p.t) ∧ w'.cell? ⟨N, 7, none⟩ = some (.string p.e)) (first | assumption | exact held_drew hS3 | exact held_up hN3 (by assumption) (by assumption))
            (first | (go_at_call 45; refine (Hdw.out _).mono ?_; rintro e w4 ⟨rfl, hB4⟩))
          all_goals
            rename_i hHeld
            have Hb4 : Hid (Below w.heap.size w w4) := up_trans Hb3.out hHeld.1
            clear hHeld hS3 hB4
            go_wp2_with fail
            go_roundw
            case rel =>
              have HL := line45 hp Hpk.out HS.out hk4 rfl ht.out rfl hdw.out rfl rfl
              exact ⟨k + 1, _, by omega, by go_num, rfl, HL, text_size Hok.out (by omega) HL, Hb4.out⟩
            case measure => simp [intOf]; omega
    · go_wp2_with fail
      go_ret
      exact ⟨by rw [Hp.out, ← textL_all ps k hp, ← HS.out]; rfl, hB⟩
end Go.Proofs.YtkfclahdofjhjahDoor
