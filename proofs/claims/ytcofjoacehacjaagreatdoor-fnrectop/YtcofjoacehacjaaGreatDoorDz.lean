/- Drawing: a recipe, and how its phases go. -/
import Derived.Test.YtcofjoacehacjaaGreatDoorJ12
import Derived.Test.YtcofjoacehacjaaGreatDoorDw
import Derived.Test.YtcofjoacehacjaaGreatDoorJ26
import Derived.Test.YtcofjoacehacjaaGreatDoorWh0
namespace Go.Proofs.YtcofjoacehacjaaGreatDoor
open Go.RowKit

theorem infoSy2 : (Tryz.prog.info? 41).map (fun i => (i.zero, i.size, i.bytes)) = some (some (.agg #[.int .i64 0, .bool false]), 2, 16) := by kernel_rfl
def rowY : List Sy → List Value
  | [] => []
  | y :: r => y.cellsR ++ rowY r
theorem rowY_append (a b : List Sy) : rowY (a ++ b) = rowY a ++ rowY b := by
  induction a with
  | nil => rfl
  | cons p rest ih => simp [rowY, ih]
theorem rowY_length (a : List Sy) : (rowY a).length = a.length * 2 := by
  induction a with
  | nil => rfl
  | cons p rest ih => simp [rowY, ih, Sy.cellsR]; omega
theorem rowY_at : ∀ (a : List Sy) (i : Nat) (p : Sy), a[i]? = some p → ∀ (j : Nat) (u : Value), p.cellsR[j]? = some u → (rowY a)[i * 2 + j]? = some u
  | q :: rest, 0, p, hp, j, u, hu => by
    simp at hp; subst hp
    have hj : j < q.cellsR.length := (List.getElem?_eq_some_iff.1 hu).1
    rw [rowY, Nat.zero_mul, Nat.zero_add, List.getElem?_append_left hj]; exact hu
  | q :: rest, i + 1, p, hp, j, u, hu => by
    have := rowY_at rest i p (by simpa using hp) j u hu
    have hl : q.cellsR.length = 2 := rfl
    rw [rowY, List.getElem?_append_right (by rw [hl]; omega), hl, show (i + 1) * 2 + j - 2 = i * 2 + j by omega]; exact this
theorem sayAt_own {w : World} {base e g cap : Nat} {ys : List Sy} (h : w.ownsRow base e 2 (.slice (some ⟨g, 0, none⟩) ys.length cap) ys.length (rowY ys)) : SayAt w g 0 ys := fun i p hp j u hu => by
  have := rowY_at ys i p hp j u hu
  have hj : i * 2 + j < ys.length * 2 := by rw [← rowY_length]; exact (List.getElem?_eq_some_iff.1 this).1
  rw [Nat.zero_add, h.cellAt (i * 2 + j) hj]; exact this
theorem newY (w : World) (y : Sy) (ty : TypeId) {j : Nat} {u : Value} (h : y.cellsR[j]? = some u) : (w.alloc (.cells #[.int .i64 y.t, .bool y.well] ty)).cell? ((⟨w.heap.size, 0, none⟩ : Addr).add j) = some u := by
  have := (cb_alloc w y.cellsR ty).1 j u h
  rw [Addr.add_mid]; exact this
theorem oneY (y : Sy) : ∀ u ∈ y.cellsR, u.oneCell' = true := fun u hu => by
  simp [Sy.cellsR] at hu
  rcases hu with rfl | rfl <;> rfl
theorem own_cap {w : World} {base e size n g cap : Nat} {xs : List Value} (h : w.ownsRow base e size (.slice (some ⟨g, 0, none⟩) n cap) n xs) : n ≤ cap ∧ cap ≤ 9223372036854775807 := by
  rcases h.2 with ⟨h0, _⟩ | ⟨g', cap', cur, h', _, _, hc, hm, _⟩
  · simp at h0
  · simp only [Value.slice.injEq] at h'; unfold maxLen at hm; omega

set_option maxRecDepth 20000 in
set_option maxHeartbeats 4000000 in
theorem drawRun_any (a : Option Addr) (n cap : Nat) (w : World) (h : BytesAt w w.heap.size (.slice a n cap) n) (hcap : n ≤ cap) (hbig : cap ≤ maxLen) :
    Calls Tryz.prog 4 #[.slice a n cap] w
      fun e w' => (∃ (g c : Nat) (qs : List Ph) (g2 c2 : Nat) (ys : List Sy), e = .returned (.tuple #[.slice (some ⟨g, 0, none⟩) qs.length c, .slice (some ⟨g2, 0, none⟩) ys.length c2]) ∧ RecAt w' g 0 qs ∧ g < w'.heap.size ∧ qs.length ≤ c ∧ c ≤ 9223372036854775807 ∧ Sized qs ∧ qs.length ≤ 13 ∧
        SayAt w' g2 0 ys ∧ g2 < w'.heap.size ∧ ys.length ≤ c2 ∧ c2 ≤ 9223372036854775807 ∧ ys.length ≤ 12) ∧ Below w.heap.size w w' := by
  obtain ⟨ii, hi, iz0, iz1, iz2⟩ := info_parts infoSy2
  go_enter Tryz.func4, Tryz.ntmps4
  go_wp2_with fail
  refine (open_any a n cap _ h hcap hbig).mono ?_
  rintro e w1 ⟨⟨rb, len, v, rfl, hR1, hrb⟩, hB1⟩
  have hs1 := hB1.size
  clear h
  go_wp2_with fail
  refine (anyR_any rb len 0 v _ hR1 (by omega)).mono ?_
  rintro e w2 ⟨⟨u, qs, rfl, hD⟩, hR2, hG2⟩
  have hlt := hR1.lt
  clear hR1
  have hDg := hD
  obtain ⟨g, cp, rfl, -, -, -⟩ := hDg
  have hG1 : w.grownBy w2 (some rb) := grown_trans (grown_below hB1) hG2
  have hs2 := hG2.size
  clear hG2 hB1
  go_wp2_with fail
  refine (pick_any rb len _ v 12 _ (hR2.alloc (.cells #[] 41)) (by omega)).mono ?_
  rintro e w3 ⟨⟨x, rfl, hx0, hx1⟩, hR3, hg3⟩
  have hx2 := hx1 (by omega)
  obtain ⟨m, rfl⟩ : ∃ m : Nat, x = (m : Int) := ⟨x.toNat, by omega⟩
  have hown3 := own_grown (World.ownsRow_lit w2 #[] 0 (Nat.le_refl _) (by unfold maxLen; omega) rfl : (w2.alloc (.cells #[] 41)).ownsRow w2.heap.size 41 2 (.slice (some ⟨w2.heap.size, 0, none⟩) 0 0) 0 []) hg3 (by omega)
  have hG3 : w2.grownBy w3 (some rb) := grown_trans (grown_alloc (grown_refl w2 (some rb)) (.cells #[] 41)) hg3
  have hs3 := hG3.size
  clear hx1 hg3 hR2
  go_wp2_with fail
  go_loopw [6, 7] (fun u i w' => ∃ (k g2 c2 : Nat) (ys : List Sy), i = .int .i64 k ∧ ys.length + k ≤ 12 ∧ u = .slice (some ⟨g2, 0, none⟩) ys.length c2 ∧ w'.ownsRow w2.heap.size 41 2 u ys.length (rowY ys) ∧ Rd w' rb v len (1000 + 10 * ys.length) ∧ w2.grownBy w' (some rb)) (fun _ i _ => (intOf i).toNat)
  case atStart => exact ⟨m, w2.heap.size, 0, [], rfl, by simp; omega, rfl, hown3, hR3.mono (by omega), hG3⟩
  case round =>
    clear hown3 hR3 hG3 hs3
    obtain ⟨k, g2, c2, ys, rfl, hk, rfl, hown, hRk, hGk⟩ := hrel
    have hws := hGk.size
    by_cases h0 : 0 < k
    · go_wp2_with fail
      refine (say_any rb len _ v _ hRk (by omega)).mono ?_
      rintro e w4 ⟨⟨q, rfl⟩, hR4, hg4⟩
      have hs4 := hg4.size
      have hown4 := (own_grown hown hg4 (by omega)).alloc (.cells #[.int .i64 q.t, .bool q.well] 41)
      have hG4 := grown_alloc (grown_trans hGk hg4) (.cells #[.int .i64 q.t, .bool q.well] 41)
      clear hRk hGk hown hg4
      go_wp2_with (at_builtin; refine wpList_append_own _ rfl _ _ 24 rfl w2.heap.size 41 ii _ 2 16 Tryz.underlying24 hi iz0 iz1 iz2 rfl (by decide) (.slice (some ⟨g2, 0, none⟩) ys.length c2) _ _ rfl hown4 ⟨w4.heap.size, 0, none⟩ 1 1 q.cellsR rfl rfl (fun j u hj => newY _ _ _ hj) (oneY q) (by unfold maxLen; omega) (by omega) (by simp; omega) ?_)
      intro v' w5 hown5 hgrow5 _
      have hR5 := (hR4.alloc (.cells #[.int .i64 q.t, .bool q.well] 41)).own hown4 hgrow5 (by omega)
      have hG5 := grown_own hG4 hown4 hgrow5 (Nat.le_refl _)
      obtain ⟨g5, c5, rfl⟩ := own_ptr2 hown5 (by omega)
      clear hR4 hG4 hgrow5 hown4
      go_wp2_with fail
      go_roundw
      case rel => exact ⟨k - 1, g5, c5, ys ++ [q], by go_num, by simp; omega, by simp, by rw [rowY_append, List.length_append]; simpa [rowY] using hown5, hR5.mono (by simp; omega), hG5⟩
      case measure => simp [intOf]; omega
    · obtain rfl : k = 0 := by omega
      have hD5 := hD.kept hGk hlt
      have hB : Below w.heap.size w wr := below_of_grown' (grown_trans hG1 hGk) hrb
      obtain ⟨g', c', e5, hr, -, hg, hc, hc9, hsz, h13⟩ := hD5.rec'
      obtain ⟨hc2, hc3⟩ := own_cap hown
      have hy := sayAt_own hown
      have hgl := (hown.lt g2 rfl).2
      simp only [Value.slice.injEq, Option.some.injEq, Addr.mk.injEq, true_and, and_true] at e5
      obtain ⟨rfl, rfl⟩ := e5
      clear hD5 hD hown hRk hGk hG1
      go_wp2_with fail
      go_ret2
      exact ⟨⟨_, _, qs, _, _, ys, rfl, hr, hg, hc, hc9, hsz, h13, hy, hgl, hc2, hc3, by omega⟩, hB⟩
end Go.Proofs.YtcofjoacehacjaaGreatDoor
