/- Runs by the program: the iterator that tells a run. -/
import Derived.Test.YtcofjoacehacjaaGreatDoorWh3
import Derived.Test.YtcofjoacehacjaaGreatDoorWg4
import Derived.Test.YtcofjoacehacjaaGreatDoorWg5
import Derived.OwnWalkIn
import Derived.TacticsIn
import Derived.TacticsInMore
import Derived.LoopIn
import Derived.RegionIn
import Derived.WalkKit
import Derived.Deep.RegionWith
import Derived.Shelf.RegionOpen
namespace Go.Proofs.YtcofjoacehacjaaGreatDoor
open Go Go.RowKit Go.Shelf

set_option maxRecDepth 100000 in
set_option maxHeartbeats 4000000 in
theorem statesRun_any (m : Nat) (w W1 : World) (qa q6 q7 qr qs D L b o c b2 o2 c2 : Nat) (ps : List Ph) (ys : List Sy) (lp : Loop) (hE : Ends w) (hok : recB ps = true) (hs : Sized ps) (hcap : ps.length ≤ c) (hc9 : c ≤ 9223372036854775807) (hb : b < w.heap.size) (hb2 : b2 < w.heap.size) (hyc : ys.length ≤ c2) (hyc9 : c2 ≤ 9223372036854775807)
    (hord : w.heap.size ≤ qa ∧ qa < q6 ∧ q6 < q7 ∧ q7 < qr ∧ qr < qs ∧ qs < D ∧ D < L ∧ L < W1.heap.size)
    (kA : CB W1 qa St.none.cells) (kS : CB W1 q6 St.none.cells) (kP : CB W1 q7 [.slice none 0 0]) (kR : CB W1 qr [.slice (some ⟨b, o, none⟩) ps.length c]) (kQ : CB W1 qs [.slice (some ⟨b2, o2, none⟩) ys.length c2]) (hD : W1.heap[D]? = some (.deferred (some []))) (hL : W1.heap[L]? = some (.loop lp)) (hr : RecAt W1 b o ps) (hy : SayAt W1 b2 o2 ys) (hB : Below w.heap.size w W1)
    (hY : ∀ (n t z i : Nat) (W : World) (y : St), L < n → n < t → t < z → RJ w W ⟨qa, q6, q7, qr, D, L, n, t, z⟩ b o c b2 ps ys lp i i i y → Went ps ys i → YieldAt Fence.wide m Tryz.prog L #[.agg #[.string (stN ps ys i).nm, .int .i64 (stN ps ys i).now, .int .i64 (stN ps ys i).left]] W fun e W' =>
      (endN (stN ps ys i).nm = 0 ∧ e = .returned (.bool true) ∧ RJ w W' ⟨qa, q6, q7, qr, D, L, n, t, z⟩ b o c b2 ps ys lp (i + 1) i i (stN ps ys i)) ∨
      (endN (stN ps ys i).nm ≠ 0 ∧ e = .returned (.bool false) ∧ RJ w W' ⟨qa, q6, q7, qr, D, L, n, t, z⟩ b o c b2 ps ys { lp with state := .done, pending := some (.exit 0) } i i i (stN ps ys i))) :
    CallsIn Fence.wide (m + 1) Tryz.prog 50 #[.func (.yield L) #[] #[], .pointer (some ⟨qs, 0, none⟩), .pointer (some ⟨qr, 0, none⟩)] W1 fun e W' => (∃ v, e = .returned v) ∧ ∃ n t z i, L < n ∧ n < t ∧ t < z ∧ Went ps ys i ∧ endN (stN ps ys i).nm ≠ 0 ∧
      RJ w W' ⟨qa, q6, q7, qr, D, L, n, t, z⟩ b o c b2 ps ys { lp with state := .done, pending := some (.exit 0) } i i i (stN ps ys i) := by
  refine callsIn_of_wp Tryz.func50 rfl trivial ?_ rfl
  simp only [Tryz.ntmps50, List.size_toArray, List.length_cons, List.length_nil, Nat.reduceAdd, Nat.reduceSub, Array.replicate_succ, Array.replicate_zero, List.push_toArray, List.append_toArray, List.nil_append, List.cons_append]
  obtain ⟨q0, -⟩ := kQ.c1
  gi_wp2_with fail
  refine ⟨trivial, (callsIn_wide.2 (recSaid_any _ _ _ _)).mono ?_⟩
  rintro e W2 ⟨rfl, hW2⟩
  have hb1 : Below W1.heap.size W1 W2 := by rw [hW2]; exact (Below.refl _ _).alloc (Nat.le_refl _) _
  have kN : CB W2 W1.heap.size [.slice (some ⟨b2, o2, none⟩) ys.length c2] := by rw [hW2]; exact cb_alloc W1 [.slice (some ⟨b2, o2, none⟩) ys.length c2] _
  have hs2 : W2.heap.size = W1.heap.size + 1 := by rw [hW2]; simp
  have hLl : L < W1.heap.size := (Array.getElem?_eq_some_iff.1 hL).1
  have hDl : D < W1.heap.size := (Array.getElem?_eq_some_iff.1 hD).1
  clear hW2 q0 kQ
  have hz1 := hB.size
  have kA := kA.up hb1 kA.2.2
  have kS := kS.up hb1 kS.2.2
  have kP := kP.up hb1 kP.2.2
  have kR := kR.up hb1 kR.2.2
  have hD := (hb1.block _ hDl).trans hD
  have hL := (hb1.block _ hLl).trans hL
  have hr := hr.up hb1 (by omega)
  have hy := hy.up hb1 (by omega)
  have hB := up_trans hB hb1
  obtain ⟨q0, -⟩ := kR.c1
  clear hb1
  gi_wp2_with fail
  refine ⟨trivial, (callsIn_wide.2 (recBegin_big ps _ _ _ _ (hE.up hB) hr (by omega) hs hcap hc9)).mono ?_⟩
  rintro e w3 ⟨rfl, hb3⟩
  obtain ⟨z0, hz0⟩ : ∃ z0, beginS ps = z0 := ⟨_, rfl⟩
  rw [hz0]
  have Hz0 : Hid (stN ps ys 0 = z0) := hz0
  clear hz0 q0
  obtain ⟨W4, hW4, kT, hb4, hs4⟩ : ∃ W4, w3.alloc (.cells #[.string z0.nm, .int .i64 z0.now, .int .i64 z0.left] 28) = W4 ∧ CB W4 w3.heap.size z0.cells ∧ Below w3.heap.size w3 W4 ∧ W4.heap.size = w3.heap.size + 1 := ⟨_, rfl, cb1 w3 z0.cells _⟩
  have hz3 := hb3.size
  have hb34 : Below W2.heap.size W2 W4 := hb3.trans (hb4.mono hz3)
  have hJ : RJ w W4 ⟨qa, q6, q7, qr, D, L, W1.heap.size, w3.heap.size, w3.heap.size + 1⟩ b o c b2 ps ys lp 0 0 0 St.none :=
    ⟨kA.up hb34 kA.2.2, kS.up hb34 kS.2.2, ⟨_, kP.up hb34 kP.2.2, ⟨by simp [pathN], .inl ⟨rfl, rfl⟩⟩⟩, kR.up hb34 kR.2.2, ⟨_, _, kN.up hb34 kN.2.2, hyc, hyc9, .inr ⟨_, rfl, hy.up hb34 (by omega)⟩⟩, by rw [Hz0.out]; exact kT, hr.up hb34 (by omega), (hb34.block D (by omega)).trans hD, (hb34.block L (by omega)).trans hL, up_trans hB hb34, by show w3.heap.size + 1 ≤ W4.heap.size; omega⟩
  clear kA kS kP kR kN hr hy hB hD hL hb3 hb4 hb34 kT
  gi_wp2_with fail
  clear hW4 hs4
  obtain ⟨n, hn⟩ : ∃ n, W1.heap.size = n := ⟨_, rfl⟩
  obtain ⟨t, ht⟩ : ∃ t, w3.heap.size = t := ⟨_, rfl⟩
  rw [hn, ht] at hJ
  rw [hn, ht]
  have hLn : L < n := by omega
  have hnt : n < t := by omega
  have hk : (Bk.mk qa q6 q7 qr D L n t (t + 1)).ok w.heap.size := by show w.heap.size ≤ qa ∧ qa < q6 ∧ q6 < q7 ∧ q7 < qr ∧ qr < D ∧ D < L ∧ L < n ∧ n < t ∧ t < t + 1; omega
  clear hn ht hs2 hz3 hLl hDl
  gi_loopw [] (fun w' => ∃ (i : Nat) (y : St), RJ w w' ⟨qa, q6, q7, qr, D, L, n, t, t + 1⟩ b o c b2 ps ys lp i i i y ∧ Went ps ys i) (fun w' => 20 - plen q7 w')
  case atStart => exact ⟨0, _, hJ, went_zero ps ys⟩
  case round =>
    clear hJ
    obtain ⟨i, y, hJ, hw⟩ := hrel
    have Hw : Hid (Went ps ys i) := hw
    obtain ⟨s, hsk⟩ : ∃ s, stN ps ys i = s := ⟨_, rfl⟩
    have hYi := hY n t (t + 1) i wr y hLn hnt (by omega) hJ hw
    rw [hsk] at hYi
    have Hs : Hid (stN ps ys i = s) := hsk
    obtain ⟨fn, tmps, assign, body, hy1, hR⟩ := hYi
    have k5 := hJ.t
    rw [hsk] at k5
    obtain ⟨⟨a0, a1, a2⟩, -⟩ := k5.c3
    have hpl := hJ.plen
    have Hpl : Hid (plen q7 wr = i) := hpl
    clear hsk hw k5 hpl
    gi_wp2_with fail
    refine hR.mono ?_
    rintro e W5 (⟨h0, rfl, hJ5⟩ | ⟨h0, rfl, hJ5⟩)
    · have hat : 0 ≤ atI ps (stN ps ys i).nm := (went_end hok ys Hw.out).2 (by rw [Hs.out]; exact h0)
      have hw' := went_succ Hw.out hat
      have Hw' : Hid (Went ps ys (i + 1)) := hw'
      obtain ⟨y', hy'⟩ : ∃ y', (ys.drop i).head?.getD Sy.late = y' := ⟨_, rfl⟩
      have Hst : Hid (goS ps s y' = stN ps ys (i + 1)) := by show _ = _; rw [← hy', said_head, ← Hs.out]; exact went_step hok ys Hw.out hat
      have HSd : Hid (∀ X, SB X n b2 (ys.drop i) → b2 < X.heap.size → Calls Tryz.prog 67 #[.pointer (some ⟨n, 0, none⟩)] X fun e w' => e = .returned (.agg #[.int .i64 (y').t, .bool (y').well]) ∧ SB w' n b2 (ys.drop (i + 1)) ∧ X.grownBy w' (some n)) := fun X hX hl => by
        have := said_any (ys.drop i) n b2 X hX hl (by omega)
        rw [said_tail, hy'] at this
        exact this
      clear hat hw' hy' a0 a1 a2 hJ hR hy1
      have k5 := hJ5.t
      rw [Hs.out] at k5
      obtain ⟨⟨a0, a1, a2⟩, -⟩ := k5.c3
      obtain ⟨r0, -⟩ := hJ5.r.c1
      have hm5 := hJ5.bel.size
      clear k5
      gi_wp2_with fail
      refine wpIn_wide.2 ?_
      go_region_with (first
        | (go_at_call 67; refine (HSd.out _ hJ5.drew.n (Nat.lt_of_lt_of_le hb2 hm5)).mono ?_; rintro e W6 ⟨rfl, hn6, hg6⟩; have hJ6 := hJ5.drew.said hk hb hb2 hg6 hn6; have k6 := hJ6.t; rw [Hs.out] at k6; obtain ⟨⟨e0, e1, e2⟩, -⟩ := k6.c3; obtain ⟨r1, -⟩ := hJ6.r.c1)
        | (go_at_call 13; refine (recGo_big ps _ _ _ s y' _ (hE.up hJ6.bel) hJ6.re (Nat.lt_of_lt_of_le hb hJ6.bel.size) hs hcap hc9).mono ?_; rintro e W7 ⟨rfl, hb7⟩; have hJ7 := hJ6.up hk hb hb2 hb7; obtain ⟨⟨d0, d1, d2⟩, f0, f1, f2⟩ := hJ7.t.c3))
      all_goals
        have hJ8 := hJ7.setT hk hb hb2 (z := goS ps s y') (j' := i + 1) Hst.out.symm
        have hp8 := hJ8.plen
        have Hp8 : Hid (plen q7 (((W7.setCell ⟨t, 0, none⟩ (.string (goS ps s y').nm)).setCell ⟨t, 1, none⟩ (.int .i64 (goS ps s y').now)).setCell ⟨t, 2, none⟩ (.int .i64 (goS ps s y').left)) = i + 1) := hp8
        clear hp8
        gi_wp2_with fail
        go_roundw
        case rel => exact ⟨i + 1, _, hJ8, Hw'.out⟩
        case measure =>
          have h12 := ((recB_iff ps).1 hok).2.1
          have hi := went_le hok ys Hw'.out
          have e1 := Hp8.out
          have e2 := Hpl.out
          show 20 - plen q7 _ < 20 - plen q7 _
          rw [e1, e2]
          omega
    · gi_wp2_with fail
      go_end0
      exact ⟨⟨_, rfl⟩, n, t, t + 1, i, hLn, hnt, by omega, Hw.out, by rw [Hs.out]; exact h0, by rw [Hs.out]; exact hJ5⟩
end Go.Proofs.YtcofjoacehacjaaGreatDoor
