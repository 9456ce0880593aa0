/- The program fills its table of the instance int. -/
import Derived.Test.YtcofjoacehacjaaGreatDoorJ14
import Derived.Test.YtcofjoacehacjaaGreatDoorJ12
namespace Go.Proofs.YtcofjoacehacjaaGreatDoor
open Go.RowKit

def feI (_ : Int) : Int := 0
def fpI (p : Ph) (a b : Int) : Int := p.wi + max a b
theorem evI_bd : ∀ (l : List Ph), (∀ p ∈ l, 1 ≤ p.wi ∧ p.wi ≤ 1000) → ∀ nm, 0 ≤ evL feI fpI 0 l nm ∧ evL feI fpI 0 l nm ≤ 1000 * l.length
  | [], _, nm => by simp [evL, feI]
  | p :: rest, h, nm => by
    have ih := evI_bd rest fun q hq => h q (by simp [hq])
    have hp := h p (by simp)
    have h1 := ih p.t
    have h2 := ih p.e
    have h3 := ih nm
    rw [evL]
    split
    · simp only [fpI, List.length_cons]; omega
    · simp only [List.length_cons]; omega
theorem wi_of_recB {ps : List Ph} (h : recB ps = true) : ∀ p ∈ ps, 1 ≤ p.wi ∧ p.wi ≤ 1000 := by
  obtain ⟨_, _, ha⟩ := (recB_iff ps).1 h
  intro p hp
  obtain ⟨i, hi, rfl⟩ := List.getElem_of_mem hp
  have hs := ha i ps[i] hi (by simp [hi])
  simp only [stepI, Bool.and_eq_true, Ph.okB, phaseB, inB, decide_eq_true_eq] at hs
  exact hs.1.1.1.1.1.1.2

theorem looks_bd {ps : List Ph} (hok : recB ps = true) {m : Nat} (hm : m < ps.length) :
    (0 ≤ look (fill feI fpI 0 (ps.drop (m + 1))) (ps[m]).t 0 ∧ look (fill feI fpI 0 (ps.drop (m + 1))) (ps[m]).t 0 ≤ 12000) ∧ (0 ≤ look (fill feI fpI 0 (ps.drop (m + 1))) (ps[m]).e 0 ∧ look (fill feI fpI 0 (ps.drop (m + 1))) (ps[m]).e 0 ≤ 12000) := by
  have h12 : ps.length ≤ 12 := ((recB_iff ps).1 hok).2.1
  have hw : ∀ p ∈ ps.drop (m + 1), 1 ≤ p.wi ∧ p.wi ≤ 1000 := fun p hp => wi_of_recB hok p (List.mem_of_mem_drop hp)
  have h1 := evI_bd _ hw (ps[m]).t
  have h2 := evI_bd _ hw (ps[m]).e
  rw [fill_look _ _ _ _ (dist_drop hok (m + 1)), fill_look _ _ _ _ (dist_drop hok (m + 1))]
  rw [List.length_drop] at h1 h2
  omega

theorem endBound_any (n : Int) (w : World) : Calls Tryz.prog 33 #[.int .i64 n] w fun e w' => e = .returned (.int .i64 0) ∧ w' = w := by
  go_enter Tryz.func33, Tryz.ntmps33
  go_wp2
  go_ret
  exact ⟨rfl, rfl⟩
theorem boundFrom_any (nm : ByteArray) (k : Int) (a b : ByteArray) (n wi : Int) (t e : ByteArray) (x y : Int) (w : World) (h1 : 1 ≤ wi) (h2 : wi ≤ 1000) (hx : 0 ≤ x) (hx' : x ≤ 12000) (hy : 0 ≤ y) (hy' : y ≤ 12000) :
    Calls Tryz.prog 34 #[.agg #[.string nm, .int .i64 k, .string a, .string b, .int .i64 n, .int .i64 wi, .string t, .string e], .int .i64 x, .int .i64 y] w fun e w' => e = .returned (.int .i64 (wi + max x y)) ∧ Below w.heap.size w w' := by
  go_enter Tryz.func34, Tryz.ntmps34
  go_wp2
  all_goals
    go_ret
    exact ⟨ret_int (by omega), (Below.refl _ _).alloc (Nat.le_refl _) _⟩

theorem infoRowI : (Tryz.prog.info? 91).map (fun i => (i.zero, i.size, i.bytes)) = some (some (.agg #[.string ⟨#[]⟩, .int .i64 0]), 2, 24) := by kernel_rfl

set_option maxHeartbeats 2000000 in
theorem fillI_any (ps : List Ph) (b o c : Nat) (w : World) (hE : Ends w) (hr : RecAt w b o ps) (hb : b < w.heap.size) (hok : recB ps = true) :
    Calls Tryz.prog 32 #[.slice (some ⟨b, o, none⟩) ps.length c, .func (.func 33) #[] #[], .func (.func 34) #[] #[]] w
      fun e w' => (∃ g cap, e = .returned (.slice (some ⟨g, 0, none⟩) (fill feI fpI 0 ps).length cap) ∧ TabI w' g (fill feI fpI 0 ps)) ∧ Below w.heap.size w w' := by
  have HE : Hid (Ends w) := hE
  obtain ⟨g0, g1, g2, _⟩ := hE
  have i0 : ∀ w, (Instr.index 56 (.agg #[.string ⟨#[103, 111, 111, 100]⟩, .string ⟨#[115, 97, 118, 101, 100]⟩, .string ⟨#[115, 99, 114, 97, 112, 112, 101, 100]⟩]) (.int .i64 0)).run Tryz.prog w = .ok (.string ⟨#[103, 111, 111, 100]⟩) w := fun _ => by kernel_rfl
  have i1 : ∀ w, (Instr.index 56 (.agg #[.string ⟨#[103, 111, 111, 100]⟩, .string ⟨#[115, 97, 118, 101, 100]⟩, .string ⟨#[115, 99, 114, 97, 112, 112, 101, 100]⟩]) (.int .i64 1)).run Tryz.prog w = .ok (.string ⟨#[115, 97, 118, 101, 100]⟩) w := fun _ => by kernel_rfl
  have i2 : ∀ w, (Instr.index 56 (.agg #[.string ⟨#[103, 111, 111, 100]⟩, .string ⟨#[115, 97, 118, 101, 100]⟩, .string ⟨#[115, 99, 114, 97, 112, 112, 101, 100]⟩]) (.int .i64 2)).run Tryz.prog w = .ok (.string ⟨#[115, 99, 114, 97, 112, 112, 101, 100]⟩) w := fun _ => by kernel_rfl
  go_enter Tryz.func32, Tryz.ntmps32
  obtain ⟨ii, hi, hz0, hz1, hz2⟩ := info_parts infoRowI
  go_wp2_with fail
  go_loopw [7, 14] (fun v i w' => ∃ (k : Nat) (j : Int), k ≤ 3 ∧ j = k ∧ i = .int .i64 j ∧ w'.ownsRow w.heap.size 91 2 v ((endsT feI).take k).length (rowBI ((endsT feI).take k)) ∧ Below w.heap.size w w') (fun _ i _ => 3 - (intOf i).toNat)
  case atStart => exact ⟨0, 0, by omega, by omega, rfl, World.ownsRow_nil _ _ _ _, Below.refl _ _⟩
  case round =>
    obtain ⟨k, j, hk, hj, rfl, hown, hB⟩ := hrel
    obtain rfl | rfl | rfl | rfl : k = 0 ∨ k = 1 ∨ k = 2 ∨ k = 3 := by omega
    · obtain rfl : j = 0 := by omega
      clear hj
      go_wp2_with (first | (go_at_call 9; refine (recEnd_any _ _ (HE.out.up hB)).mono ?_; rintro e w' ⟨rfl, hw⟩; obtain rfl := hw.symm; clear hw) | (go_at_call 33; refine (endBound_any _ _).mono ?_; rintro e w' ⟨rfl, hw⟩; obtain rfl := hw.symm; clear hw) | (at_builtin; refine wpList_append_own _ rfl _ _ 64 rfl w.heap.size 91 ii _ 2 24 Tryz.underlying64 hi hz0 hz1 hz2 rfl (by decide) _ _ _ rfl (hown.alloc _) ⟨wr.heap.size, 0, none⟩ 1 1 [.string ⟨#[103, 111, 111, 100]⟩, .int .i64 0] rfl rfl (fun j u hj => new2 _ _ _ _ hj) (fun u hu => one2 rfl hu) (by simp [maxLen, endsT]) (by simp [endsT]) (by have := hB.size; simp; omega) ?_))
      intro v' w1 hown' hgrow _
      have hB1 : Below w.heap.size w w1 := (hB.alloc hB.size _).grown hgrow (by have := hB.size; simp; omega) (fun k hk => (hown.lt k hk).1)
      clear hgrow hown hB
      go_wp2_with fail
      go_roundw
      case rel => exact ⟨1, 1, by omega, by omega, rfl, by simpa [endsT, rowBI, feI, good, saved, scrapped] using hown', hB1⟩
      case measure => simp [intOf]
    · obtain rfl : j = 1 := by omega
      clear hj
      go_wp2_with (first | (go_at_call 9; refine (recEnd_any _ _ (HE.out.up hB)).mono ?_; rintro e w' ⟨rfl, hw⟩; obtain rfl := hw.symm; clear hw) | (go_at_call 33; refine (endBound_any _ _).mono ?_; rintro e w' ⟨rfl, hw⟩; obtain rfl := hw.symm; clear hw) | (at_builtin; refine wpList_append_own _ rfl _ _ 64 rfl w.heap.size 91 ii _ 2 24 Tryz.underlying64 hi hz0 hz1 hz2 rfl (by decide) _ _ _ rfl (hown.alloc _) ⟨wr.heap.size, 0, none⟩ 1 1 [.string ⟨#[115, 97, 118, 101, 100]⟩, .int .i64 0] rfl rfl (fun j u hj => new2 _ _ _ _ hj) (fun u hu => one2 rfl hu) (by simp [maxLen, endsT]) (by simp [endsT]) (by have := hB.size; simp; omega) ?_))
      intro v' w1 hown' hgrow _
      have hB1 : Below w.heap.size w w1 := (hB.alloc hB.size _).grown hgrow (by have := hB.size; simp; omega) (fun k hk => (hown.lt k hk).1)
      clear hgrow hown hB
      go_wp2_with fail
      go_roundw
      case rel => exact ⟨2, 2, by omega, by omega, rfl, by simpa [endsT, rowBI, feI, good, saved, scrapped] using hown', hB1⟩
      case measure => simp [intOf]
    · obtain rfl : j = 2 := by omega
      clear hj
      go_wp2_with (first | (go_at_call 9; refine (recEnd_any _ _ (HE.out.up hB)).mono ?_; rintro e w' ⟨rfl, hw⟩; obtain rfl := hw.symm; clear hw) | (go_at_call 33; refine (endBound_any _ _).mono ?_; rintro e w' ⟨rfl, hw⟩; obtain rfl := hw.symm; clear hw) | (at_builtin; refine wpList_append_own _ rfl _ _ 64 rfl w.heap.size 91 ii _ 2 24 Tryz.underlying64 hi hz0 hz1 hz2 rfl (by decide) _ _ _ rfl (hown.alloc _) ⟨wr.heap.size, 0, none⟩ 1 1 [.string ⟨#[115, 99, 114, 97, 112, 112, 101, 100]⟩, .int .i64 0] rfl rfl (fun j u hj => new2 _ _ _ _ hj) (fun u hu => one2 rfl hu) (by simp [maxLen, endsT]) (by simp [endsT]) (by have := hB.size; simp; omega) ?_))
      intro v' w1 hown' hgrow _
      have hB1 : Below w.heap.size w w1 := (hB.alloc hB.size _).grown hgrow (by have := hB.size; simp; omega) (fun k hk => (hown.lt k hk).1)
      clear hgrow hown hB
      go_wp2_with fail
      go_roundw
      case rel => exact ⟨3, 3, by omega, by omega, rfl, by simpa [endsT, rowBI, feI, good, saved, scrapped] using hown', hB1⟩
      case measure => simp [intOf]
    · obtain rfl : j = 3 := by omega
      clear i0 i1 i2 g0 g1 g2 hj
      have h12 : ps.length ≤ 12 := ((recB_iff ps).1 hok).2.1
      go_wp2_with fail
      go_loopw [7, 10] (fun v i w' => ∃ k : Nat, k ≤ ps.length ∧ i = .int .i64 ((k : Int) - 1) ∧ w'.ownsRow w.heap.size 91 2 v (fill feI fpI 0 (ps.drop k)).length (rowBI (fill feI fpI 0 (ps.drop k))) ∧ Below w.heap.size w w') (fun _ i _ => (intOf i + 1).toNat)
      case atStart => exact ⟨ps.length, Nat.le_refl _, rfl, by rw [List.drop_length]; exact hown, hB⟩
      case round =>
        obtain ⟨k, hk2, rfl, hown2, hB2⟩ := hrel
        obtain ⟨g, cap, rfl⟩ := own_ptr hown2 (fill_pos _ _ _ _)
        have hT := TabI.of_own hown2
        cases k with
        | zero =>
          simp only [List.drop_zero] at hT hown2
          go_wp2_with fail
          go_ret
          exact ⟨⟨g, cap, rfl, hT⟩, hB2⟩
        | succ m =>
          have hm : m < ps.length := by omega
          obtain ⟨c0, c1, c2, c3, c4, c5, c6, c7⟩ := hr.cells m hm
          obtain ⟨hc, hf⟩ := bcell hB2
          go_wp2_with fail
          have hS : ∃ W1, W1 = wr.alloc (.cells #[.string (ps[m]).nm, .int .i64 (ps[m]).k, .string (ps[m]).a, .string (ps[m]).b, .int .i64 (ps[m]).n, .int .i64 (ps[m]).wi, .string (ps[m]).t, .string (ps[m]).e] 37) := ⟨_, rfl⟩
          obtain ⟨W1, hW1⟩ := hS
          rw [← hW1]
          have hW2 : wr.heap.size < W1.heap.size := by rw [hW1]; simp
          have hS : Below W1.heap.size W1 W1 ∧ W1.cell? ⟨wr.heap.size, 0, none⟩ = some (.string (ps[m]).nm) ∧ W1.cell? ⟨wr.heap.size, 1, none⟩ = some (.int .i64 (ps[m]).k) ∧ W1.cell? ⟨wr.heap.size, 2, none⟩ = some (.string (ps[m]).a) ∧ W1.cell? ⟨wr.heap.size, 3, none⟩ = some (.string (ps[m]).b) ∧ W1.cell? ⟨wr.heap.size, 4, none⟩ = some (.int .i64 (ps[m]).n) ∧ W1.cell? ⟨wr.heap.size, 5, none⟩ = some (.int .i64 (ps[m]).wi) ∧ W1.cell? ⟨wr.heap.size, 6, none⟩ = some (.string (ps[m]).t) ∧ W1.cell? ⟨wr.heap.size, 7, none⟩ = some (.string (ps[m]).e) := by rw [hW1]; exact ⟨Below.refl _ _, by simp, by simp, by simp, by simp, by simp, by simp, by simp, by simp⟩
          have hup : Below wr.heap.size wr W1 := by rw [hW1]; exact (Below.refl _ _).alloc (Nat.le_refl _) _
          have hT1 := hT.up hup
          have Hown := own_up hown2 hup
          have hB3 := up_trans hB2 hup
          clear hW1 c0 c1 c2 c3 c4 c5 c6 c7 hc hf hT hown2 hup hown
          obtain ⟨hl1, hl2⟩ := looks_bd hok hm
          have hlen : (fill feI fpI 0 (ps.drop (m + 1))).length ≤ 1048576 := by rw [fill_len, List.length_drop]; omega
          have hwi := wi_of_recB hok ps[m] (by simp)
          go_region_held (fun w' => Below W1.heap.size W1 w' ∧ w'.cell? ⟨wr.heap.size, 0, none⟩ = some (.string (ps[m]).nm) ∧ w'.cell? ⟨wr.heap.size, 1, none⟩ = some (.int .i64 (ps[m]).k) ∧ w'.cell? ⟨wr.heap.size, 2, none⟩ = some (.string (ps[m]).a) ∧ w'.cell? ⟨wr.heap.size, 3, none⟩ = some (.string (ps[m]).b) ∧ w'.cell? ⟨wr.heap.size, 4, none⟩ = some (.int .i64 (ps[m]).n) ∧ w'.cell? ⟨wr.heap.size, 5, none⟩ = some (.int .i64 (ps[m]).wi) ∧ w'.cell? ⟨wr.heap.size, 6, none⟩ = some (.string (ps[m]).t) ∧ w'.cell? ⟨wr.heap.size, 7, none⟩ = some (.string (ps[m]).e)) (first | exact held_drew hS | exact held_up hW2 (by assumption) (by assumption))
            (first | (go_at_call 35; refine (ofI_any _ _ _ _ _ (hT1.up (And.left (by assumption))) hlen).mono ?_; rintro e w1 ⟨rfl, hb1⟩) | (go_at_call 34; refine (boundFrom_any _ _ _ _ _ _ _ _ _ _ _ hwi.1 hwi.2 hl1.1 hl1.2 hl2.1 hl2.2).mono ?_; rintro e w1 ⟨rfl, hb1⟩))
          rename_i hHeld
          obtain ⟨hU, e0, -⟩ := hHeld
          have hown3 := own_up Hown hU
          have hB4 := up_trans hB3 hU
          obtain ⟨X, hX⟩ : ∃ X, X = fpI ps[m] (look (fill feI fpI 0 (ps.drop (m + 1))) (ps[m]).t 0) (look (fill feI fpI 0 (ps.drop (m + 1))) (ps[m]).e 0) := ⟨_, rfl⟩
          have hX' : (ps[m]).wi + max (look (fill feI fpI 0 (ps.drop (m + 1))) (ps[m]).t 0) (look (fill feI fpI 0 (ps.drop (m + 1))) (ps[m]).e 0) = X := hX.symm
          rw [hX']
          have HX : Hid (X = fpI ps[m] (look (fill feI fpI 0 (ps.drop (m + 1))) (ps[m]).t 0) (look (fill feI fpI 0 (ps.drop (m + 1))) (ps[m]).e 0)) := hX
          have Hlen : (fill feI fpI 0 (ps.drop (m + 1))).length ≤ 16 := by rw [fill_len, List.length_drop]; omega
          clear hX hX' hS hT1 Hown hl1 hl2 hU hB3
          go_wp2_with (at_builtin; refine wpList_append_own _ rfl _ _ 64 rfl w.heap.size 91 ii _ 2 24 Tryz.underlying64 hi hz0 hz1 hz2 rfl (by decide) _ _ _ rfl (hown3.alloc _) ⟨w1.heap.size, 0, none⟩ 1 1 [.string (ps[m]).nm, .int .i64 X] rfl rfl (fun j u hj => new2 _ _ _ _ hj) (fun u hu => one2 rfl hu) (by simp only [maxLen]; omega) (by omega) (by have := hB4.size; simp; omega) ?_)
          intro v' w2 hown' hgrow _
          have hB5 : Below w.heap.size w w2 := (hB4.alloc hB4.size _).grown hgrow (by have := hB4.size; simp; omega) (fun k hk => (hown3.lt k hk).1)
          clear hgrow hown3 hB4
          go_wp2_with fail
          go_roundw
          case rel => exact ⟨m, by omega, by go_num, by rw [fill_drop _ _ _ hm, ← HX.out, rowBI_append, List.length_append]; exact hown', hB5⟩
          case measure => simp [intOf]
end Go.Proofs.YtcofjoacehacjaaGreatDoor
