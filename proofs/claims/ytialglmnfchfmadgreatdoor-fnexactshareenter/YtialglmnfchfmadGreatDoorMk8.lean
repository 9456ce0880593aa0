/- The laws' marks over a book of one's own: held. -/
import Derived.Test.YtialglmnfchfmadGreatDoorMk7
namespace Go.Proofs.YtialglmnfchfmadGreatDoor
open Go.RowKit

set_option maxRecDepth 20000 in
set_option maxHeartbeats 4000000 in
theorem heldBsF_any (t : Value × List ByteArray) (bs : List Ba) (base : Nat) (v : Value) (ps : List Bv) (m : Int) (w : World) (hrow : w.ownsRow base 45 3 v bs.length (rowsB ps)) (hq : ps.map (·.1) = mkBas m bs) (hF : Fam w base none (t :: famB ps))
    (hn : bs.length ≤ 100) (hs : ∀ x ∈ bs, x.has.length ≤ 100 ∧ x.needs.length ≤ 100) (hm : 1 ≤ m) (hm9 : m ≤ 1000) :
    Calls Tryz.prog 31 #[v, .int .i64 m] w fun e w' => e = .returned (.int .i64 (m + szBas bs)) ∧ Below w.heap.size w w' := by
  rcases Nat.eq_zero_or_pos bs.length with h0 | h0
  · obtain rfl : bs = [] := List.length_eq_zero_iff.1 h0
    obtain ⟨a, c, rfl⟩ := own_shape hrow
    clear hrow hF hq
    simp only [List.length_nil]
    go_enter Tryz.func31, Tryz.ntmps31
    go_wp2
    go_rounds 1
    go_ret
    exact ⟨by simp [szBas], Below.refl _ _⟩
  obtain ⟨g, cap, rfl⟩ := own_ptr2 hrow h0
  have hgl := (hrow.lt g rfl).2
  have Hq : Hid (ps.map (·.1) = mkBas m bs) := hq
  have Hrow : Hid (w.ownsRow base 45 3 (.slice (some ⟨g, 0, none⟩) bs.length cap) bs.length (rowsB ps)) := hrow
  have HF : Hid (Fam w base none (t :: famB ps)) := hF
  clear hq hrow hF
  go_enter Tryz.func31, Tryz.ntmps31
  go_wp2
  go_loopw [1, 5] (fun kk i w' => ∃ (k : Nat) (y : Int), k ≤ bs.length ∧ i = .int .i64 k ∧ kk = .int .i64 y ∧ y = m + szBas (bs.take k) ∧ 1 ≤ y ∧ y ≤ 1000 + 201 * (k : Int) ∧ Below w.heap.size w w') (fun _ i _ => bs.length - (intOf i).toNat)
  case atStart => exact ⟨0, m, by omega, rfl, rfl, by simp [szBas], hm, by omega, Below.refl _ _⟩
  case round =>
    obtain ⟨k, y, hk, rfl, rfl, hy, hy1, hy9, hB⟩ := hrel
    have Hy : Hid (y = m + szBas (bs.take k)) := hy
    clear hy
    by_cases hp : k < bs.length
    · obtain ⟨s1, s2⟩ := hs bs[k] (by simp)
      have Hpk : Hid (∃ hv nv, ps[k]? = some (mkBa y bs[k], hv, nv)) := by
        have h1 : (ps.map (·.1))[k]? = some (mkBa y bs[k]) := by rw [Hq.out, mkBas_at m bs k hp, Hy.out]
        rw [List.getElem?_map] at h1
        obtain ⟨p, hp, e⟩ := Option.map_eq_some_iff.1 h1
        exact ⟨p.2.1, p.2.2, by rw [hp, ← e]⟩
      have Hsz : Hid (m + (szBas (bs.take (k + 1)) : Int) = y + szBa bs[k]) := by
        show _ = _
        rw [List.take_succ_eq_append_getElem hp, szBas_snoc, Hy.out]; omega
      generalize bs[k] = x0 at *
      obtain ⟨hv, nv, hpk⟩ := Hpk.out
      have hF3 := HF.out.front hpk
      have hoh := hF3.own _ List.mem_cons_self
      have hon := hF3.own _ (List.mem_cons_of_mem _ List.mem_cons_self)
      have hoh : OwnT w base hv (mkL (y + 1) x0.has.length) := hoh
      have hon : OwnT w base nv (mkL (y + 1 + x0.has.length) x0.needs.length) := hon
      obtain ⟨ah, ch, hhv⟩ := hoh.lst.shape
      obtain ⟨an, cn, hnv⟩ := hon.lst.shape
      rw [mkL_len] at hhv hnv
      subst hhv hnv
      have c0 := Hrow.out.cellAt (k * 3) (by omega)
      rw [show (rowsB ps)[k * 3]? = some (Value.string (mkB y)) from rowsB_at ps k _ hpk 0 _ rfl] at c0
      have c1 := Hrow.out.cellAt (k * 3 + 1) (by omega)
      rw [rowsB_at ps k _ hpk 1 _ rfl] at c1
      have c2 := Hrow.out.cellAt (k * 3 + 2) (by omega)
      rw [rowsB_at ps k _ hpk 2 _ rfl] at c2
      have C1 : Hid (∀ W, Below w.heap.size w W → W.cell? ⟨g, k * 3 + 1, none⟩ = some (.slice ah x0.has.length ch)) := fun W hW => (hW.cell (p := ⟨g, k * 3 + 1, none⟩) hgl).trans c1
      have C2 : Hid (∀ W, Below w.heap.size w W → W.cell? ⟨g, k * 3 + 2, none⟩ = some (.slice an x0.needs.length cn)) := fun W hW => (hW.cell (p := ⟨g, k * 3 + 2, none⟩) hgl).trans c2
      have OH : Hid (∀ W, Below w.heap.size w W → OwnT W base (.slice ah x0.has.length ch) (mkL (y + 1) x0.has.length)) := fun W hW => hoh.up hW
      have ON : Hid (∀ W, Below w.heap.size w W → OwnT W base (.slice an x0.needs.length cn) (mkL (y + 1 + x0.has.length) x0.needs.length)) := fun W hW => hon.up hW
      have d0 := (hB.cell (p := ⟨g, k * 3, none⟩) hgl).trans c0
      have hS : Below w.heap.size w wr ∧ wr.cell? ⟨g, k * 3, none⟩ = some (.string (mkB y)) := ⟨hB, d0⟩
      clear hpk Hpk hF3 hoh hon c0 c1 c2 d0
      go_wp2_with fail
      go_region_held (fun w' => Below w.heap.size w w' ∧ w'.cell? ⟨g, k * 3, none⟩ = some (.string (mkB y))) (first | exact ⟨hS.1.drew, hS.2⟩ | exact keep1 hgl (by assumption) (by assumption))
        (first | (go_at_call 29; refine (mark_any y _ (by omega)).mono ?_; rintro e w1 ⟨rfl, hB1⟩))
      rename_i hHeld
      have hB3 := hHeld.1
      clear hHeld hS hB
      generalize mkB y = mb at *
      have d1 := C1.out _ hB3
      go_wp2_with fail
      refine (heldS_any (mkL (y + 1) x0.has.length) base _ (y + 1) _ (OH.out _ hB3) (by rw [mkL_len]; exact mkL_marked _ _) (by rw [mkL_len]; omega) (by omega) (by omega)).mono ?_
      rw [mkL_len]
      rintro e w4 ⟨rfl, hB4⟩
      have hB5 := up_trans hB3 hB4
      have d2 := C2.out _ hB5
      clear d1 hB3 hB4
      have hn1 : ¬ (y + 1 + (x0.has.length : Int) < 0) := by omega
      go_wp2_with fail
      refine (heldS_any (mkL (y + 1 + x0.has.length) x0.needs.length) base _ (y + 1 + x0.has.length) _ (ON.out _ hB5) (by rw [mkL_len]; exact mkL_marked _ _) (by rw [mkL_len]; omega) (by omega) (by omega)).mono ?_
      rw [mkL_len]
      rintro e w6 ⟨rfl, hB6⟩
      have hB7 := up_trans hB5 hB6
      clear d2 hB5 hB6
      have hn2 : ¬ (y + 1 + (x0.has.length : Int) + (x0.needs.length : Int) < 0) := by omega
      go_wp2_with fail
      go_roundw
      case rel => exact ⟨k + 1, _, by omega, by go_num, rfl, by rw [Hsz.out]; simp [szBa]; omega, by omega, by omega, hB7⟩
      case measure => simp [intOf]; omega
    · obtain rfl : k = bs.length := by omega
      have HE : Hid (y = m + szBas bs) := by have := Hy.out; rwa [List.take_length] at this
      go_wp2_with fail
      go_ret
      exact ⟨by rw [← HE.out]; rfl, hB⟩
set_option maxRecDepth 20000 in
set_option maxHeartbeats 2000000 in
theorem heldBookF_any (b : Bk) (base : Nat) (v : Value) (w : World) (h : BkF w base v (mkBk b)) (hl : Lit b) :
    Calls Tryz.prog 15 #[v, .int .i64 1] w fun e w' => e = .returned (.int .i64 (mkEnd b)) ∧ Below w.heap.size w w' := by
  obtain ⟨a1, c1, a2, c2, ps, rfl, x1, x2, hF⟩ := h
  obtain ⟨l1, l2, l3⟩ := hl
  have e1 : (mkBk b).things.length = b.things.length := mkL_len _ _
  have e2 : (mkBk b).bs.length = b.bs.length := mkBas_len _ _
  have hps : ps.length = b.bs.length := by rw [← e2, ← x2, List.length_map]
  have hrow := x1.1
  rw [e1, e2]
  rw [e2, hps] at hrow
  rw [e1] at hF
  have x2 : ps.map (·.1) = mkBas (1 + b.things.length) b.bs := x2
  have hot : OwnT w base (.slice a1 b.things.length c1) (mkL 1 b.things.length) := hF.own _ List.mem_cons_self
  obtain ⟨W1, hW1, kA, hB1, hs1⟩ : ∃ W1, w.alloc (.cells #[.slice a1 b.things.length c1, .slice a2 b.bs.length c2] 30) = W1 ∧ CB W1 w.heap.size [.slice a1 b.things.length c1, .slice a2 b.bs.length c2] ∧ Below w.heap.size w W1 ∧ W1.heap.size = w.heap.size + 1 := ⟨_, rfl, cb1 w _ _⟩
  have Hsz : Hid (szBas b.bs ≤ 201 * b.bs.length) := szBas_lid b.bs l3
  clear x1 e1 e2
  go_enter Tryz.func15, Tryz.ntmps15
  go_upto_region 1 with fail
  try rw [hW1]
  clear hW1
  obtain ⟨p0, p1⟩ := kA.c2'
  go_wp2_with fail
  refine (heldS_any (mkL 1 b.things.length) base _ 1 _ (hot.up hB1) (by rw [mkL_len]; exact mkL_marked _ _) (by rw [mkL_len]; omega) (by omega) (by omega)).mono ?_
  rw [mkL_len]
  rintro e w2 ⟨rfl, hB2⟩
  have kA2 := kA.up hB2 (by omega)
  have hB12 := up_trans hB1 hB2
  clear p0 p1 kA
  obtain ⟨p0, p1⟩ := kA2.c2'
  have hn1 : ¬ (1 + (b.things.length : Int) < 0) := by omega
  have hr2 := own_up hrow hB12
  have hF2 := hF.up hB12
  go_wp2_with fail
  refine (heldBsF_any _ b.bs base _ ps (1 + b.things.length) _ hr2 x2 hF2 l2 l3 (by omega) (by omega)).mono ?_
  rintro e w3 ⟨rfl, hB3⟩
  have hB13 := up_trans hB12 hB3
  clear p0 p1 kA2 hr2 hF2
  have hn2 : ¬ (1 + (b.things.length : Int) + (szBas b.bs : Int) < 0) := by omega
  have HE : Hid (mkEnd b = 1 + b.things.length + szBas b.bs) := rfl
  generalize szBas b.bs = z at *
  go_wp2_with fail
  go_ret
  exact ⟨by rw [HE.out]; rfl, hB13⟩
end Go.Proofs.YtialglmnfchfmadGreatDoor
