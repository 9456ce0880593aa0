/- The specification's slots from a name on. -/
import Derived.Test.YtkapodkidlgkjafGreatDoorJ8
import Derived.Test.YtkapodkidlgkjafGreatDoorSp2
import Derived.Test.YtkapodkidlgkjafGreatDoorWr1
import Derived.Test.YtkapodkidlgkjafGreatDoorWr2
import Derived.Deep.RegionWith
import Derived.Deep.RegionHeld
namespace Go.Proofs.YtkapodkidlgkjafGreatDoor
open Go.RowKit

theorem txt_nil (w : World) : Txt (w.alloc (.cells #[] 9)) (.slice (some ⟨w.heap.size, 0, none⟩) 0 0) [] :=
  ⟨w.heap.size, 0, rfl, fun i s hs => by simp at hs, by simp, by simp, by unfold maxLen; omega⟩

theorem hp_drew {W w0 : World} {b o : Nat} {x0 x1 x2 x3 x4 x5 x6 x7 : Value} (h : Below W.heap.size W w0 ∧ w0.cell? ⟨b, o, none⟩ = some x0 ∧ w0.cell? ⟨b, o + 1, none⟩ = some x1 ∧ w0.cell? ⟨b, o + 2, none⟩ = some x2 ∧ w0.cell? ⟨b, o + 3, none⟩ = some x3 ∧ w0.cell? ⟨b, o + 4, none⟩ = some x4 ∧ w0.cell? ⟨b, o + 5, none⟩ = some x5 ∧ w0.cell? ⟨b, o + 6, none⟩ = some x6 ∧ w0.cell? ⟨b, o + 7, none⟩ = some x7) : Below W.heap.size W w0.drew ∧ w0.drew.cell? ⟨b, o, none⟩ = some x0 ∧ w0.drew.cell? ⟨b, o + 1, none⟩ = some x1 ∧ w0.drew.cell? ⟨b, o + 2, none⟩ = some x2 ∧ w0.drew.cell? ⟨b, o + 3, none⟩ = some x3 ∧ w0.drew.cell? ⟨b, o + 4, none⟩ = some x4 ∧ w0.drew.cell? ⟨b, o + 5, none⟩ = some x5 ∧ w0.drew.cell? ⟨b, o + 6, none⟩ = some x6 ∧ w0.drew.cell? ⟨b, o + 7, none⟩ = some x7 :=
  ⟨h.1.drew, h.2⟩
theorem hp_up {W w0 w1 : World} {b o : Nat} {x0 x1 x2 x3 x4 x5 x6 x7 : Value} (hb : b < W.heap.size) (h : Below W.heap.size W w0 ∧ w0.cell? ⟨b, o, none⟩ = some x0 ∧ w0.cell? ⟨b, o + 1, none⟩ = some x1 ∧ w0.cell? ⟨b, o + 2, none⟩ = some x2 ∧ w0.cell? ⟨b, o + 3, none⟩ = some x3 ∧ w0.cell? ⟨b, o + 4, none⟩ = some x4 ∧ w0.cell? ⟨b, o + 5, none⟩ = some x5 ∧ w0.cell? ⟨b, o + 6, none⟩ = some x6 ∧ w0.cell? ⟨b, o + 7, none⟩ = some x7) (hB : Below w0.heap.size w0 w1) : Below W.heap.size W w1 ∧ w1.cell? ⟨b, o, none⟩ = some x0 ∧ w1.cell? ⟨b, o + 1, none⟩ = some x1 ∧ w1.cell? ⟨b, o + 2, none⟩ = some x2 ∧ w1.cell? ⟨b, o + 3, none⟩ = some x3 ∧ w1.cell? ⟨b, o + 4, none⟩ = some x4 ∧ w1.cell? ⟨b, o + 5, none⟩ = some x5 ∧ w1.cell? ⟨b, o + 6, none⟩ = some x6 ∧ w1.cell? ⟨b, o + 7, none⟩ = some x7 := by
  obtain ⟨h1, a0, a1, a2, a3, a4, a5, a6, a7⟩ := h
  have hl : b < w0.heap.size := Nat.lt_of_lt_of_le hb h1.size
  exact ⟨up_trans h1 hB, (hB.cell (p := ⟨b, o, none⟩) hl).trans a0, (hB.cell (p := ⟨b, o + 1, none⟩) hl).trans a1, (hB.cell (p := ⟨b, o + 2, none⟩) hl).trans a2, (hB.cell (p := ⟨b, o + 3, none⟩) hl).trans a3, (hB.cell (p := ⟨b, o + 4, none⟩) hl).trans a4, (hB.cell (p := ⟨b, o + 5, none⟩) hl).trans a5, (hB.cell (p := ⟨b, o + 6, none⟩) hl).trans a6, (hB.cell (p := ⟨b, o + 7, none⟩) hl).trans a7⟩

set_option maxHeartbeats 4000000 in
theorem l2Slots_any (ps : List Ph) (b o c : Nat) (hok : recB ps = true) (f : Nat) : ∀ (nm : ByteArray) (w : World), RecAt w b o ps → b < w.heap.size → (atI ps nm < 0 ∨ (ps.length : Int) < atI ps nm + f) →
    Calls Tryz.prog 128 #[.slice (some ⟨b, o, none⟩) ps.length c, .string nm] w fun e w' => (∃ u, e = .returned u ∧ Txt w' u (slE ps nm)) ∧ Below w.heap.size w w' := by
  have h12 : ps.length ≤ 12 := ((recB_iff ps).1 hok).2.1
  have hn : ps.length ≤ 1048576 := by omega
  have hlen : ∀ nm, (slE ps nm).length ≤ 24 := fun nm => by have := slE_len ps nm; omega
  have hout : ∀ nm w, atI ps nm < 0 → RecAt w b o ps → Calls Tryz.prog 128 #[.slice (some ⟨b, o, none⟩) ps.length c, .string nm] w fun e w' => (∃ u, e = .returned u ∧ Txt w' u (slE ps nm)) ∧ Below w.heap.size w w' := by
    intro nm w h0 hr
    have hv : slE ps nm = [] := by
      unfold slE; rw [evL_out ps _ _ _ nm h0]; split <;> rfl
    have HV : Hid (slE ps nm = []) := hv
    clear hv hlen
    go_enter Tryz.func128, Tryz.ntmps128
    go_wp2_with (go_at_call 38; refine (at_any _ _ _ _ _ _ hr hn).mono ?_; rintro e w' ⟨rfl, hw⟩; obtain rfl := hw.symm; clear hw)
    go_ret
    exact ⟨⟨_, rfl, by rw [HV.out]; exact txt_nil w⟩, (Below.refl _ _).alloc (Nat.le_refl _) _⟩
  induction f with
  | zero =>
    intro nm w hr hb hf
    have hlt := atI_lt ps nm
    exact hout nm w (by omega) hr
  | succ f ih =>
    intro nm w hr hb hf
    have hlt := atI_lt ps nm
    by_cases h0 : atI ps nm < 0
    · exact hout nm w h0 hr
    · obtain ⟨k, hka⟩ : ∃ k : Nat, atI ps nm = (k : Int) := ⟨(atI ps nm).toNat, by omega⟩
      have hk : k < ps.length := by omega
      obtain ⟨g1, g2⟩ := goes_of hok hk
      have HV : Hid (slE ps nm = bothL (bothL (ofL ps[k]) (slE ps (ps[k]).t)) (slE ps (ps[k]).e)) := evL_step hok _ _ _ nm hk hka
      have I1 : Hid (∀ w, RecAt w b o ps → b < w.heap.size → Calls Tryz.prog 128 #[.slice (some ⟨b, o, none⟩) ps.length c, .string (ps[k]).t] w fun e w' => (∃ u, e = .returned u ∧ Txt w' u (slE ps (ps[k]).t)) ∧ Below w.heap.size w w') := by
        show _; intro w hr hb; exact ih _ w hr hb (by have := atI_later hok hk _ g1; omega)
      have I2 : Hid (∀ w, RecAt w b o ps → b < w.heap.size → Calls Tryz.prog 128 #[.slice (some ⟨b, o, none⟩) ps.length c, .string (ps[k]).e] w fun e w' => (∃ u, e = .returned u ∧ Txt w' u (slE ps (ps[k]).e)) ∧ Below w.heap.size w w') := by
        show _; intro w hr hb; exact ih _ w hr hb (by have := atI_later hok hk _ g2; omega)
      obtain ⟨c0, c1, c2, c3, c4, c5, c6, c7⟩ := hr.cells k hk
      have HH5 : Hid (∀ w, RecAt w b o ps → Calls Tryz.prog 38 #[.slice (some ⟨b, o, none⟩) ps.length c, .string nm] w fun e w' => e = .returned (.int .i64 (k : Int)) ∧ w' = w) := by
        show _; intro w hr; rw [← hka]; exact at_any _ _ _ _ _ _ hr hn
      have hl1 := hlen (ps[k]).t
      have hl2 := hlen (ps[k]).e
      have hl0 : (ofL ps[k]).length ≤ 2 := by
        unfold ofL; split
        · have := insL_len [(ps[k]).a] (ps[k]).b; simpa using this
        · simp
      clear hka hf hlt ih h0 hout hlen g1 g2
      generalize ps[k] = p at *
      go_enter Tryz.func128, Tryz.ntmps128
      go_wp2_with fail
      refine (HH5.out _ hr).mono ?_
      rintro e w' ⟨rfl, hw⟩; obtain rfl := hw.symm; clear hw
      go_wp2_with fail
      have hS0 : Below w.heap.size w w ∧ w.cell? ⟨b, o + k * 8, none⟩ = some (.string p.nm) ∧ w.cell? ⟨b, o + k * 8 + 1, none⟩ = some (.int .i64 p.k) ∧ w.cell? ⟨b, o + k * 8 + 2, none⟩ = some (.string p.a) ∧ w.cell? ⟨b, o + k * 8 + 3, none⟩ = some (.string p.b) ∧ w.cell? ⟨b, o + k * 8 + 4, none⟩ = some (.int .i64 p.n) ∧ w.cell? ⟨b, o + k * 8 + 5, none⟩ = some (.int .i64 p.wi) ∧ w.cell? ⟨b, o + k * 8 + 6, none⟩ = some (.string p.t) ∧ w.cell? ⟨b, o + k * 8 + 7, none⟩ = some (.string p.e) := ⟨Below.refl _ _, c0, c1, c2, c3, c4, c5, c6, c7⟩
      clear c0 c1 c2 c3 c4 c5 c6 c7
      have Hr : Hid (RecAt w b o ps) := hr
      clear hr
      go_region_held (fun w' => Below w.heap.size w w' ∧ w'.cell? ⟨b, o + k * 8, none⟩ = some (.string p.nm) ∧ w'.cell? ⟨b, o + k * 8 + 1, none⟩ = some (.int .i64 p.k) ∧ w'.cell? ⟨b, o + k * 8 + 2, none⟩ = some (.string p.a) ∧ w'.cell? ⟨b, o + k * 8 + 3, none⟩ = some (.string p.b) ∧ w'.cell? ⟨b, o + k * 8 + 4, none⟩ = some (.int .i64 p.n) ∧ w'.cell? ⟨b, o + k * 8 + 5, none⟩ = some (.int .i64 p.wi) ∧ w'.cell? ⟨b, o + k * 8 + 6, none⟩ = some (.string p.t) ∧ w'.cell? ⟨b, o + k * 8 + 7, none⟩ = some (.string p.e)) (first | exact hp_drew hS0 | exact hp_up hb (by assumption) (by assumption))
        (first
          | (go_at_call 37; refine (of_any2 p _).mono ?_; rintro e w1 ⟨⟨u1, rfl, hT1⟩, hb1⟩)
          | (go_at_call_of 128 (Value.string p.t); refine (I1.out _ (Hr.out.up (And.left (by assumption)) hb) (Nat.lt_of_lt_of_le hb (Below.size (And.left (by assumption))))).mono ?_; rintro e w2 ⟨⟨u2, rfl, hT2⟩, hb2⟩; have hT1' := hT1.up hb2)
          | (go_at_call_of 128 (Value.string p.e); refine (I2.out _ (Hr.out.up (And.left (by assumption)) hb) (Nat.lt_of_lt_of_le hb (Below.size (And.left (by assumption))))).mono ?_; rintro e w4 ⟨⟨u4, rfl, hT4⟩, hb4⟩; have hT3' := hT3.up hb4)
          | (go_at_call 166; revert hT4; intro hT4; refine (both_any _ _ u3 u4 _ hT3' hT4 (by have := bothL_len (ofL p) (slE ps p.t); omega)).mono ?_; rintro e w5 ⟨⟨u5, rfl, hT5⟩, hb5⟩)
          | (go_at_call 166; refine (both_any _ _ u1 u2 _ hT1' hT2 (by omega)).mono ?_; rintro e w3 ⟨⟨u3, rfl, hT3⟩, hb3⟩))
      rename_i hHeld
      have hB5 := hHeld.1
      clear hHeld hb1 hb2 hb3 hb4 hb5 hT1 hT2 hT3 hT4 hT1' hT3' hS0
      go_wp2_with fail
      go_ret
      exact ⟨⟨_, rfl, by rw [HV.out]; exact hT5⟩, hB5⟩
end Go.Proofs.YtkapodkidlgkjafGreatDoor
