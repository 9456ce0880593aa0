/- The specification's slots of a batch, and which batch is ok (chapter 21). -/
import Derived.Test.YtkapodkidlgkjafGreatDoorU3
import Derived.Test.YtkapodkidlgkjafGreatDoorSp3a
namespace Go.Proofs.YtkapodkidlgkjafGreatDoor
open Go.RowKit

set_option maxRecDepth 20000 in
set_option maxHeartbeats 4000000 in
theorem slotsOkS_any (ps : List Ph) (l : List Sl) (b o c g q cc : Nat) (w : World) (hr : RecAt w b o ps) (hb : b < w.heap.size) (hok : recB ps = true)
    (hl : SlAt w g q l) (hg : g < w.heap.size) (hn : l.length ≤ 1048576) (hz : ∀ y ∈ l, y.s.size ≤ maxLen ∧ y.t.size ≤ maxLen) :
    Calls Tryz.prog 74 #[.slice (some ⟨b, o, none⟩) ps.length c, .slice (some ⟨g, q, none⟩) l.length cc] w fun e w' => e = .returned (.bool (pB (SlotsOk ps l))) ∧ Below w.heap.size w w' := by
  obtain ⟨hp1, hp12, -⟩ := (recB_iff ps).1 hok
  obtain ⟨c0, -⟩ := hr.cells 0 (by omega)
  rw [show o + 0 * 8 = o by omega] at c0
  have hsl := slE_len ps (fstN ps)
  have hcall := l2Slots_any ps b o c hok 20 (fstN ps) w hr hb (by omega)
  rw [← fstN_zero (by omega)] at c0
  have HP : Hid (SlotsOk ps l = SlOk l (slE ps (fstN ps))) := rfl
  have hlen24 : (slE ps (fstN ps)).length ≤ 24 := by omega
  clear hsl
  generalize slE ps (fstN ps) = ns at *
  generalize fstN ps = f0 at *
  go_enter Tryz.func74, Tryz.ntmps74
  go_wp2_with fail
  refine hcall.mono ?_
  rintro e w1 ⟨⟨u, rfl, hT⟩, hB1⟩
  obtain ⟨gu, cu, rfl, hS, hgu, -⟩ := hT
  clear hcall c0
  by_cases hll : l.length = ns.length
  case neg =>
    have HN : Hid (pB (SlotsOk ps l) = false) := pB_no (by rw [HP.out]; exact fun h => hll h.1)
    have hll' : ¬ ns.length = l.length := fun e => hll e.symm
    go_wp2_with fail
    go_ret
    exact ⟨ret_bool HN.out.symm, hB1⟩
  have Hll : Hid (l.length = ns.length) := hll
  go_upto_region 4 with fail
  clear hll
  have hn : ns.length ≤ 1048576 := by omega
  go_wp2_with fail
  go_loopw [6, 7] (fun i _ w' => ∃ k : Nat, k ≤ ns.length ∧ i = .int .i64 k ∧ SlP l ns k ∧ SlD l k ∧ Below w1.heap.size w1 w') (fun i _ _ => ns.length - (intOf i).toNat)
  case atStart => exact ⟨0, by omega, rfl, fun j x hj _ => by omega, fun j k x y hj => by omega, Below.refl _ _⟩
  case round =>
    obtain ⟨k, hk, rfl, hP, hD, hB⟩ := hrel
    have HPk : Hid (SlP l ns k) := hP
    have HDk : Hid (SlD l k) := hD
    clear hP hD
    by_cases hkn : k < ns.length
    · have hp : k < l.length := by have := Hll.out; omega
      have hl1 := hl.up (up_trans hB1 hB) hg
      obtain ⟨d0, d1⟩ := hl1.cells k hp
      have e0 : wr.cell? ⟨gu, k, none⟩ = some (.string ns[k]) := (hB.cell (p := ⟨gu, k, none⟩) hgu).trans (by have := hS k ns[k] (by simp); simpa using this)
      obtain ⟨zs, zt⟩ := hz l[k] (by simp)
      have N1 : Hid (((l[k]).s.toList == (ns[k]).toList) = false → ¬ SlOk l ns) := SlP.no1 hp hkn
      have N2 : Hid (nameB (l[k]).t = false → ¬ SlOk l ns) := SlP.no2 hp
      have N3 : Hid (((l[k]).s.toList == (ns[k]).toList) = true → nameB (l[k]).t = true → SlP l ns (k + 1)) := HPk.out.step hp hkn
      have N4 : Hid ((∀ (j : Nat) (y : Sl), j < k → l[j]? = some y → y.t.toList ≠ (l[k]).t.toList) → SlD l (k + 1)) := HDk.out.step hp
      have N5 : Hid (∀ (j : Nat) (hj : j < k), ((l[j]'(by omega)).t.toList == (l[k]).t.toList) = true → ¬ SlOk l ns) := fun j hj => SlD.no hp hj
      have q1 : ∀ m, Calls Tryz.prog 75 #[.string (l[k]).t] (wr.drewN m) fun e w' => e = .returned (.bool (nameB (l[k]).t)) ∧ ∃ n, w' = wr.drewN n := fun m => (specName_any _ _ zt).mono fun e w' ⟨h1, h2⟩ => ⟨h1, m, h2⟩
      generalize hy : l[k] = y at *
      generalize ns[k] = s0 at *
      cases h1 : (y.s.toList == s0.toList)
      · have Hno : Hid (pB (SlotsOk ps l) = false) := pB_no (by rw [HP.out]; exact N1.out h1)
        go_wp2_with fail
        go_quiet (fail)
        go_wp2
        go_ret
        exact ⟨ret_bool Hno.out.symm, below_drewN (up_trans hB1 hB) _⟩
      · cases h2 : nameB y.t
        · have Hno : Hid (pB (SlotsOk ps l) = false) := pB_no (by rw [HP.out]; exact N2.out h2)
          rw [h2] at q1
          go_wp2_with fail
          go_quiet ((go_at_call 75; exact q1 _))
          go_wp2_with fail
          go_ret
          exact ⟨ret_bool Hno.out.symm, below_drewN (up_trans hB1 hB) _⟩
        · have Hyes : Hid (SlP l ns (k + 1)) := N3.out h1 h2
          rw [h2] at q1
          go_wp2_with fail
          go_quiet ((go_at_call 75; exact q1 _))
          go_wp2_with fail
          go_loopw [7] (fun i w' => ∃ m : Nat, m ≤ k ∧ i = .int .i64 m ∧ (∀ (j : Nat) (z : Sl), j < m → l[j]? = some z → z.t.toList ≠ y.t.toList) ∧ ∃ nd, w' = wr.drewN nd) (fun i _ => k - (intOf i).toNat)
          case atStart => exact ⟨0, by omega, rfl, fun j z hj => by omega, _, rfl⟩
          case round =>
            obtain ⟨m, hm, rfl, hal, nd, rfl⟩ := hrel
            have Hal : Hid (∀ (j : Nat) (z : Sl), j < m → l[j]? = some z → z.t.toList ≠ y.t.toList) := hal
            clear hal
            by_cases hmk : m < k
            · have hml : m < l.length := by omega
              obtain ⟨f0', f1⟩ := hl1.cells m hml
              have f2 := f1
              cases h3 : ((l[m]).t.toList == y.t.toList)
              · have Hq : Hid (∀ (j : Nat) (z : Sl), j < m + 1 → l[j]? = some z → z.t.toList ≠ y.t.toList) := fun j z hj hz => by
                  rcases Nat.lt_or_ge j m with h' | h'
                  · exact Hal.out j z h' hz
                  · obtain rfl : j = m := by omega
                    obtain ⟨_, rfl⟩ := List.getElem?_eq_some_iff.1 hz
                    intro e
                    rw [e] at h3; simp at h3
                go_wp2_with fail
                go_quiet (fail)
                go_wp2_with fail
                go_roundw
                case rel => exact ⟨m + 1, by omega, by go_num, Hq.out, _, rfl⟩
                case measure => simp [intOf]; omega
              · have Hno : Hid (pB (SlotsOk ps l) = false) := pB_no (by rw [HP.out]; exact N5.out m hmk h3)
                go_wp2_with fail
                go_quiet (fail)
                go_wp2_with fail
                go_ret
                exact ⟨ret_bool Hno.out.symm, below_drewN (below_drewN (up_trans hB1 hB) _) _⟩
            · have Hd : Hid (SlD l (k + 1)) := N4.out fun j z hj hz => Hal.out j z (by omega) hz
              go_wp2_with fail
              go_roundw
              case rel => exact ⟨k + 1, by omega, by go_num, Hyes.out, Hd.out, below_drewN hB _⟩
              case measure => simp [intOf]; omega
    · have Hq : Hid (pB (SlotsOk ps l) = true) := pB_yes (by
        rw [HP.out]
        have e : k = l.length := by have := Hll.out; omega
        exact ⟨Hll.out, by have := HPk.out; rwa [e] at this, by have := HDk.out; rwa [e] at this⟩)
      go_wp2_with fail
      go_ret
      exact ⟨ret_bool Hq.out.symm, up_trans hB1 hB⟩
end Go.Proofs.YtkapodkidlgkjafGreatDoor
