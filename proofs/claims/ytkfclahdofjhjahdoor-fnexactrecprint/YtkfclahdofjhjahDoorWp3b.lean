/- The program's words of a phase: holding. -/
import Derived.Test.YtkfclahdofjhjahDoorWp3
namespace Go.Proofs.YtkfclahdofjhjahDoor
open Go.RowKit

set_option maxHeartbeats 2000000 in
set_option maxRecDepth 20000 in
theorem words3 (nm a b t e ks : ByteArray) (kn : Nat) (n wi : Int) (w : World) (hT : Tabs w) (hk : 1 ≤ kn ∧ kn ≤ 5) (hks : w.cell? ⟨1, kn, none⟩ = some (.string ks)) (hb : b.toList.isEmpty = true) (hn : 1 ≤ n ∧ n ≤ 1000) (hw : 1 ≤ wi ∧ wi ≤ 1000) :
    Calls Tryd.prog 48 #[.agg #[.string nm, .int .i64 kn, .string a, .string b, .int .i64 n, .int .i64 wi, .string t, .string e]] w fun r w' => (∃ u, r = .returned u ∧ w'.ownsRow w.heap.size 9 1 u 10 ([nm, ks, a, decS n, wWithin, decS wi, wThen, t, wElse, e].map Value.string)) ∧ Below w.heap.size w w' := by
  have hi0 : (0 : Int) ≤ (kn : Int) := by omega
  have hi1 : (kn : Int) < 6 := by omega
  have hG := hT.lt
  have HT : Hid (Tabs w) := hT
  clear hT
  go_enter Tryd.func48, Tryd.ntmps48
  go_wp2_with fail
  have hx := box_alloc w ⟨nm, kn, a, b, n, wi, t, e⟩ 63
  have hBW := (Below.refl w.heap.size w).alloc (Nat.le_refl _) (.cells #[.string nm, .int .i64 kn, .string a, .string b, .int .i64 n, .int .i64 wi, .string t, .string e] 63)
  simp only at hx
  generalize w.alloc (.cells #[.string nm, .int .i64 kn, .string a, .string b, .int .i64 n, .int .i64 wi, .string t, .string e] 63) = W at hx hBW ⊢
  have hNW := hx.lt
  obtain ⟨d0, d1, d2, d3, d4, d5, d6, d7⟩ := hx.cells
  simp only at d0 d1 d2 d3 d4 d5 d6 d7
  have hGW : W.cell? ⟨1, kn, none⟩ = some (.string ks) := (hBW.cell (p := ⟨1, kn, none⟩) hG).trans hks
  have hGw : 1 < W.heap.size := Nat.lt_of_lt_of_le hG hBW.size
  generalize hN : w.heap.size = N at d0 d1 d2 d3 d4 d5 d6 d7 hNW hx ⊢
  have hS0 : Below W.heap.size W W ∧ (W.cell? ⟨N, 0, none⟩ = some (.string nm) ∧ W.cell? ⟨N, 1, none⟩ = some (.int .i64 kn) ∧ W.cell? ⟨N, 2, none⟩ = some (.string a) ∧ W.cell? ⟨N, 3, none⟩ = some (.string b) ∧ W.cell? ⟨N, 4, none⟩ = some (.int .i64 n) ∧ W.cell? ⟨N, 5, none⟩ = some (.int .i64 wi) ∧ W.cell? ⟨N, 6, none⟩ = some (.string t) ∧ W.cell? ⟨N, 7, none⟩ = some (.string e)) ∧ W.cell? ⟨1, kn, none⟩ = some (.string ks) := ⟨Below.refl _ _, ⟨d0, d1, d2, d3, d4, d5, d6, d7⟩, hGW⟩
  clear hx d0 d1 d2 d3 d4 d5 d6 d7 hGW hks
  go_region_held (fun w' => Below W.heap.size W w' ∧ (w'.cell? ⟨N, 0, none⟩ = some (.string nm) ∧ w'.cell? ⟨N, 1, none⟩ = some (.int .i64 kn) ∧ w'.cell? ⟨N, 2, none⟩ = some (.string a) ∧ w'.cell? ⟨N, 3, none⟩ = some (.string b) ∧ w'.cell? ⟨N, 4, none⟩ = some (.int .i64 n) ∧ w'.cell? ⟨N, 5, none⟩ = some (.int .i64 wi) ∧ w'.cell? ⟨N, 6, none⟩ = some (.string t) ∧ w'.cell? ⟨N, 7, none⟩ = some (.string e)) ∧ w'.cell? ⟨1, kn, none⟩ = some (.string ks)) (first | assumption | exact nine_up hNW hGw hS0 (Below.refl _ _).drew | exact nine_up hNW hGw hS0 (((Below.refl _ _).alloc (Nat.le_refl _) _).drew)) (fail)
  rename_i hHeld
  have hown := World.ownsRow_lit (e := 9) (size := 1) (base := W.heap.size) W #[.string nm, .string ks, .string a] 3 (Nat.le_refl _) (by decide) rfl
  have hown : (W.alloc (.cells #[.string nm, .string ks, .string a] 9)).drew.ownsRow W.heap.size 9 1 (.slice (some ⟨W.heap.size, 0, none⟩) 3 3) 3 [.string nm, .string ks, .string a] := hown
  generalize (W.alloc (.cells #[.string nm, .string ks, .string a] 9)).drew = W1 at hHeld hown ⊢
  obtain ⟨hB1, ⟨d0, d1, d2, d3, d4, d5, d6, d7⟩, -⟩ := hHeld
  obtain ⟨ii, hi, iz0, iz1, iz2⟩ := info_parts infoStr
  have HS0 : Hid (Below W.heap.size W W ∧ (W.cell? ⟨N, 0, none⟩ = some (.string nm) ∧ W.cell? ⟨N, 1, none⟩ = some (.int .i64 kn) ∧ W.cell? ⟨N, 2, none⟩ = some (.string a) ∧ W.cell? ⟨N, 3, none⟩ = some (.string b) ∧ W.cell? ⟨N, 4, none⟩ = some (.int .i64 n) ∧ W.cell? ⟨N, 5, none⟩ = some (.int .i64 wi) ∧ W.cell? ⟨N, 6, none⟩ = some (.string t) ∧ W.cell? ⟨N, 7, none⟩ = some (.string e)) ∧ W.cell? ⟨1, kn, none⟩ = some (.string ks)) := hS0
  clear hS0
  have HOW1 : Hid (W1.ownsRow W.heap.size 9 1 (.slice (some ⟨W.heap.size, 0, none⟩) 3 3) 3 [.string nm, .string ks, .string a]) := hown
  have HBW1 : Hid (Below W.heap.size W W1) := hB1
  clear hown hB1
  go_wp2_with fail
  refine (itoa_is n W1 (by omega) (by omega) (HT.out.up (up_trans hBW HBW1.out))).mono ?_
  obtain ⟨dn, hdn⟩ : ∃ s, Hid (s = decS n) := ⟨_, rfl⟩
  rw [← hdn.out]
  rintro r W3 ⟨rfl, hBW3⟩
  have hBW3' := up_trans HBW1.out hBW3
  have ownW3 := own_up HOW1.out hBW3
  clear d0 d1 d2 d3 d4 d5 d6 d7 hBW3
  obtain ⟨-, ⟨d0, d1, d2, d3, d4, d5, d6, d7⟩, -⟩ := nine_up hNW hGw HS0.out hBW3'
  go_wp2_with (at_builtin; refine wpList_append_own _ rfl _ _ 47 rfl W.heap.size 9 ii _ 1 16 Tryd.underlying47 hi iz0 iz1 iz2 rfl (by decide) (.slice (some ⟨W.heap.size, 0, none⟩) 3 3) _ _ rfl (ownW3.alloc _) ⟨W3.heap.size, 0, none⟩ 1 _ [.string dn] rfl rfl (one_new _ _ _) (oneV _) (by unfold maxLen; omega) (by omega) (hBW3'.alloc hBW3'.size _).size ?_)
  intro v4 W4 ownW4 growW4 _
  have hBW4 := below_own (hBW3'.alloc hBW3'.size _) (ownW3.alloc _) growW4 (Nat.le_refl _)
  have HOW4 : Hid (W4.ownsRow W.heap.size 9 1 v4 4 [.string nm, .string ks, .string a, .string dn]) := ownW4
  have HBW4 : Hid (Below W.heap.size W W4) := hBW4
  clear ownW3 ownW4 growW4 hBW3' d0 d1 d2 d3 d4 d5 d6 d7
  obtain ⟨-, ⟨d0, d1, d2, d3, d4, d5, d6, d7⟩, -⟩ := nine_up hNW hGw HS0.out hBW4
  clear hBW4
  go_wp2_with fail
  obtain ⟨dw, hdw⟩ : ∃ s, Hid (s = decS wi) := ⟨_, rfl⟩
  have Hit : Hid (Calls Tryd.prog 68 #[.int .i64 wi] W4.drew fun e w' => e = .returned (.string dw) ∧ Below W4.drew.heap.size W4.drew w') := by
    rw [hdw.out]; exact itoa_is wi _ (by omega) (by omega) (HT.out.up (up_trans hBW HBW4.out).drew)
  go_region_law (first
    | (go_simp; go_at_call 68; refine (Hit.out).mono ?_; rintro r W9 ⟨rfl, hB9⟩; have own9 := own_up (W := W4.drew) HOW4.out hB9; have hB9' := up_trans HBW4.out.drew hB9; obtain ⟨-, ⟨e0, e1, e2, e3, e4, e5, e6, e7⟩, -⟩ := nine_up hNW hGw HS0.out hB9')
    | (refine step_append_own rfl _ _ 47 rfl W.heap.size 9 ii _ 1 16 Tryd.underlying47 hi iz0 iz1 iz2 rfl (by decide) v4 _ _ rfl (own9.alloc _) ⟨W9.heap.size, 0, none⟩ 6 _ [.string wWithin, .string dw, .string wThen, .string t, .string wElse, .string e] rfl rfl (six_new W9 [.string wWithin, .string dw, .string wThen, .string t, .string wElse, .string e] 9) (oneL [wWithin, dw, wThen, t, wElse, e]) (by unfold maxLen; omega) (by omega) (hB9'.alloc hB9'.size _).size ?_; intro v10 W10 own10 grow10))
  all_goals
    have hB10 := up_trans hBW (below_own (hB9'.alloc hB9'.size _) (own9.alloc _) grow10 (Nat.le_refl _))
    have own11 := own_low own10 (show N ≤ W.heap.size by omega)
    clear own9 own10 grow10 hB9 hB9' e0 e1 e2 e3 e4 e5 e6 e7 d0 d1 d2 d3 d4 d5 d6 d7
    go_wp2_with fail
    go_ret
    rw [hN] at *
    exact ⟨⟨_, rfl, by rw [← hdn.out, ← hdw.out]; exact own11⟩, hB10⟩
end Go.Proofs.YtkfclahdofjhjahDoor
