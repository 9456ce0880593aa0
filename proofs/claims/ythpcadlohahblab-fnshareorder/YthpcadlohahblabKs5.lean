/- The specification's walk of ShareFits (chapter 12). -/
import Derived.Test.YthpcadlohahblabKs4
namespace Go.Proofs.Ythpcadlohahblab
open Go.RowKit

set_option maxHeartbeats 4000000 in
theorem specFits_any (b : Bk) (v : Value) (ss : List ByteArray) (a : Option Addr) (c : Nat) (w : World) (h : BkV w v b) (ho : Ls w (.slice a ss.length c) ss) (hc : ss.length ≤ c) (hc9 : c ≤ maxLen) :
    Calls Try.prog 15 #[v, .slice a ss.length c] w fun e w' => e = .returned (.bool (pB (Fits b ss))) ∧ Below w.heap.size w w' := by
  obtain ⟨a1, c1, a2, c2, rfl, h1, h2⟩ := h.parts
  have hC : CB (w.alloc (.cells #[.slice a1 (b).things.length c1, .slice a2 (b).bs.length c2] 26)) w.heap.size [.slice a1 b.things.length c1, .slice a2 b.bs.length c2] := cb_alloc w _ _
  have hB0 := (Below.refl w.heap.size w).alloc (Nat.le_refl _) (.cells #[.slice a1 (b).things.length c1, .slice a2 (b).bs.length c2] 26)
  have g2 := h2.at.1
  unfold maxLen at g2 hc9
  go_enter Try.func15, Try.ntmps15
  go_upto_region 1 with fail
  generalize w.alloc (.cells #[.slice a1 (b).things.length c1, .slice a2 (b).bs.length c2] 26) = W1 at *
  have hk := h.up hB0
  have lo := ho.up hB0
  clear h h1 h2 ho
  obtain ⟨e0, e1⟩ := hC.c2'
  have hlt := hC.2.2
  go_wp2_with fail
  refine (specBook_any b _ _ hk).mono ?_
  rintro e w2 ⟨rfl, hB2⟩
  cases hq : bookB b
  · have Hq : Hid (¬ Fits b ss) := fun h => by rw [bookB, pB_yes h.1] at hq; cases hq
    go_wp2_with fail
    go_ret
    exact ⟨ret_bool (pB_no Hq.out).symm, up_trans hB0 hB2⟩
  have Hok : Hid (BookOk b) := pB_iff.1 hq
  clear hq
  have f1 := (hB2.cell (p := ⟨w.heap.size, 1, none⟩) hlt).trans e1
  by_cases hl : ss.length = b.bs.length
  case neg =>
    have Hq : Hid (¬ Fits b ss) := fun h => hl h.2.1
    have hlb : ((ss.length : Int) != (b.bs.length : Int)) = true := by rw [bne_iff_ne]; omega
    go_wp2_with fail
    go_ret
    exact ⟨ret_bool (pB_no Hq.out).symm, up_trans hB0 hB2⟩
  have Hl : Hid (ss.length = b.bs.length) := hl
  have hlb : ((ss.length : Int) != (b.bs.length : Int)) = false := by rw [bne_eq_false_iff_eq]; omega
  clear hl
  go_wp2_with fail
  clear hlb f1
  go_loopw [5, 6] (fun i _ w' => ∃ k : Nat, k ≤ ss.length ∧ i = .int .i64 k ∧ FitsTo b.bs ss k ∧ Below W1.heap.size W1 w') (fun i _ _ => ss.length - (intOf i).toNat)
  case atStart => exact ⟨0, by omega, rfl, FitsTo.zero _ _, hB2⟩
  case round =>
    clear hB2
    obtain ⟨k, hkl, rfl, hal, hB⟩ := hrel
    have Hal : Hid (FitsTo b.bs ss k) := hal
    clear hal
    by_cases hp : k < ss.length
    · obtain ⟨-, -, hpos⟩ := lo.inv
      obtain ⟨g, o, rfl, hS, hg⟩ := hpos (by omega)
      have f0 := (hB.cell (p := ⟨w.heap.size, 0, none⟩) hlt).trans e0
      have f1 := (hB.cell (p := ⟨w.heap.size, 1, none⟩) hlt).trans e1
      have s0 := (hB.cell (p := ⟨g, o + k, none⟩) hg).trans (hS.cell hp)
      have HY : Hid (0 ≤ idxI (nms b.bs) ss[k] ∧ memS (ss.take k) ss[k] = false ∧ Can b.bs (idxI (nms b.bs) ss[k]).toNat (ss.take k) → FitsTo b.bs ss (k + 1)) := fun h => Hal.out.step hp h
      have HN : Hid (¬ (0 ≤ idxI (nms b.bs) ss[k] ∧ memS (ss.take k) ss[k] = false ∧ Can b.bs (idxI (nms b.bs) ss[k]).toNat (ss.take k)) → ¬ Fits b ss) := fun h hf => h (fits_at hf hp)
      have hidx : 0 ≤ idxI (nms b.bs) ss[k] → ∃ n : Nat, idxI (nms b.bs) ss[k] = (n : Int) ∧ n < b.bs.length := fun h => by
        obtain ⟨n, e, hn, -⟩ := idxI_at h
        exact ⟨n, e, by rwa [nms_length] at hn⟩
      obtain ⟨s, hs⟩ : ∃ s, ss[k] = s := ⟨_, rfl⟩
      rw [hs] at s0 HY HN hidx
      have e2 := hS.cell hp
      rw [hs] at e2
      clear hs s0 f0 f1
      have mk : ∀ w', Below W1.heap.size W1 w' → Below W1.heap.size W1 w' ∧ World.cell? w' ⟨w.heap.size, 0, none⟩ = some (.slice a1 b.things.length c1) ∧ World.cell? w' ⟨w.heap.size, 1, none⟩ = some (.slice a2 b.bs.length c2) ∧ World.cell? w' ⟨g, o + k, none⟩ = some (.string s) := fun w' hb => ⟨hb, (hb.cell (p := ⟨w.heap.size, 0, none⟩) hlt).trans e0, (hb.cell (p := ⟨w.heap.size, 1, none⟩) hlt).trans e1, (hb.cell (p := ⟨g, o + k, none⟩) hg).trans e2⟩
      go_wp2_with fail
      go_region_held (fun w' => Below W1.heap.size W1 w' ∧ World.cell? w' ⟨w.heap.size, 0, none⟩ = some (.slice a1 b.things.length c1) ∧ World.cell? w' ⟨w.heap.size, 1, none⟩ = some (.slice a2 b.bs.length c2) ∧ World.cell? w' ⟨g, o + k, none⟩ = some (.string s)) (first | exact mk _ hB.drew | exact mk _ (up_trans (And.left (by assumption)) hb3))
        (first | (go_at_call 38; refine (at11_any b _ s _ (hk.up (And.left (by assumption)))).mono ?_; rintro e w3 ⟨rfl, hb3⟩))
      rename_i hHeld
      have hB3 := hHeld.1
      clear hHeld hB
      by_cases hneg : idxI (nms b.bs) s < 0
      · have Hs : Hid (¬ Fits b ss) := HN.out fun h => by omega
        go_wp2_with fail
        go_quiet (fail)
        go_wp2_with fail
        go_ret
        exact ⟨ret_bool (pB_no Hs.out).symm, up_trans hB0 (below_drewN hB3 _)⟩
      obtain ⟨n, hn, hnl⟩ := hidx (by omega)
      rw [hn] at HY HN ⊢
      clear hn hneg hidx
      have l3 := lo.up hB3
      have lt3 : Ls w3 (.slice (some ⟨g, o, none⟩) k c) (ss.take k) := l3.take (by omega) c
      obtain ⟨-, q0, q1, q2⟩ := mk _ hB3
      have hkc : k ≤ c := by omega
      have hnb : decide ((n : Int) < 0) = false := by simp
      cases hm : memS (ss.take k) s
      case true =>
        have Hs : Hid (¬ Fits b ss) := HN.out fun h => by rw [h.2.1] at hm; cases hm
        have r1 : ∀ n, Calls Try.prog 39 #[.slice (some ⟨g, o, none⟩) k c, .string s] (w3.drewN n) fun e w'' => e = .returned (.bool true) ∧ ∃ m, w'' = w3.drewN m := fun n => by rw [← hm]; exact Calls.quiet_of_same (has11_any _ _ _ _ lt3)
        have R1 : Hid (∀ n, Calls Try.prog 39 #[.slice (some ⟨g, o, none⟩) k c, .string s] (w3.drewN n) fun e w'' => e = .returned (.bool true) ∧ ∃ m, w'' = w3.drewN m) := r1
        clear r1 HY HN
        go_wp2_with fail
        go_quiet ((go_at_call 39; exact R1.out _))
        go_wp2_with fail
        go_ret
        exact ⟨ret_bool (pB_no Hs.out).symm, up_trans hB0 (below_drewN hB3 _)⟩
      have lt1 : Ls W1 (.slice (some ⟨g, o, none⟩) k c) (ss.take k) := lo.take (by omega) c
      clear q0 q1 q2 l3 lt3
      cases hcn : pB (Can b.bs n (ss.take k))
      · have Hs : Hid (¬ Fits b ss) := HN.out fun h => pB_not.1 hcn (by simpa using h.2.2)
        clear HY HN
        go_wp2_with fail
        go_region_held (fun w' => Below W1.heap.size W1 w' ∧ World.cell? w' ⟨w.heap.size, 0, none⟩ = some (.slice a1 b.things.length c1) ∧ World.cell? w' ⟨w.heap.size, 1, none⟩ = some (.slice a2 b.bs.length c2) ∧ World.cell? w' ⟨g, o + k, none⟩ = some (.string s)) (first | exact mk _ hB3.drew | exact mk _ (up_trans (And.left (by assumption)) hb4) | exact mk _ (And.left (by assumption)))
          (first
            | (go_at_call 39; refine (has11_any (ss.take k) _ s _ (lt1.up (And.left (by assumption)))).mono ?_; rintro e w' ⟨rfl, hw⟩; obtain rfl := hw.symm; clear hw; rw [hm])
            | (go_at_call 40; refine (can12_any b _ _ n (ss.take k) _ (hk.up (And.left (by assumption))) (lt1.up (And.left (by assumption))) hnl).mono ?_; rintro e w4 ⟨rfl, hb4⟩; rw [hcn]))
        rename_i hHeld
        have hB4 := hHeld.1
        clear hHeld hB3
        go_wp2_with fail
        go_ret
        exact ⟨ret_bool (pB_no Hs.out).symm, up_trans hB0 hB4⟩
      · have Hs : Hid (FitsTo b.bs ss (k + 1)) := HY.out ⟨by omega, hm, by simpa using pB_iff.1 hcn⟩
        clear HY HN
        go_wp2_with fail
        go_region_held (fun w' => Below W1.heap.size W1 w' ∧ World.cell? w' ⟨w.heap.size, 0, none⟩ = some (.slice a1 b.things.length c1) ∧ World.cell? w' ⟨w.heap.size, 1, none⟩ = some (.slice a2 b.bs.length c2) ∧ World.cell? w' ⟨g, o + k, none⟩ = some (.string s)) (first | exact mk _ hB3.drew | exact mk _ (up_trans (And.left (by assumption)) hb4) | exact mk _ (And.left (by assumption)))
          (first
            | (go_at_call 39; refine (has11_any (ss.take k) _ s _ (lt1.up (And.left (by assumption)))).mono ?_; rintro e w' ⟨rfl, hw⟩; obtain rfl := hw.symm; clear hw; rw [hm])
            | (go_at_call 40; refine (can12_any b _ _ n (ss.take k) _ (hk.up (And.left (by assumption))) (lt1.up (And.left (by assumption))) hnl).mono ?_; rintro e w4 ⟨rfl, hb4⟩; rw [hcn]))
        rename_i hHeld
        have hB4 := hHeld.1
        clear hHeld hB3
        go_wp2_with fail
        go_roundw
        case rel => exact ⟨k + 1, by omega, by go_num, Hs.out, hB4⟩
        case measure => simp [intOf]; omega
    · have Hs : Hid (Fits b ss) := fits_end Hok.out Hl.out Hal.out hp
      go_wp2_with fail
      go_ret
      exact ⟨ret_bool (pB_yes Hs.out).symm, up_trans hB0 hB⟩
end Go.Proofs.Ythpcadlohahblab
