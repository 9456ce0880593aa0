/- The program's batches (chapter 21): how a batch stands, its slots, which is ok. -/
import Derived.Test.YtliebjbbomghiaaGreatDoorJ10
import Derived.Test.YtliebjbbomghiaaGreatDoorJ12
import Derived.Deep.RegionWith
import Derived.Deep.RegionHeld
namespace Go.Proofs.YtliebjbbomghiaaGreatDoor
open Go.RowKit

theorem stand_wait (nm ad : ByteArray) (a1 a2 : Option Addr) (n1 n2 c1 c2 : Nat) (st : Int) (w : World) :
    Calls Tryz.prog 25 #[.agg #[.string nm, .slice a1 n1 c1, .slice a2 n2 c2, .string ad, .int .i64 (-1), .int .i64 st]] w fun e w' => e = .returned (.iface 84 (.agg #[])) ∧ Below w.heap.size w w' := by
  go_enter Tryz.func25, Tryz.ntmps25
  go_wp2
  go_ret
  exact ⟨rfl, by go_grown⟩
theorem stand_go (nm ad : ByteArray) (a1 a2 : Option Addr) (n1 n2 c1 c2 : Nat) (si st : Int) (w : World) (h : ¬ si = -1) :
    Calls Tryz.prog 25 #[.agg #[.string nm, .slice a1 n1 c1, .slice a2 n2 c2, .string ad, .int .i64 si, .int .i64 st]] w fun e w' => e = .returned (.iface 86 (.agg #[.int .i64 si])) ∧ Below w.heap.size w w' := by
  go_enter Tryz.func25, Tryz.ntmps25
  go_wp2
  go_ret
  exact ⟨rfl, by go_grown⟩
theorem mayBe_wait (n : Int) (w : World) : Calls Tryz.prog 150 #[.agg #[], .int .i64 n] w fun e w' => e = .returned (.bool true) ∧ Below w.heap.size w w' := by
  go_enter Tryz.func150, Tryz.ntmps150
  go_wp2
  go_ret
  exact ⟨rfl, by go_grown⟩
theorem mayBe_go (si n : Int) (w : World) : Calls Tryz.prog 151 #[.agg #[.int .i64 si], .int .i64 n] w fun e w' => e = .returned (.bool (decide (0 ≤ si) && decide (si < n))) ∧ Below w.heap.size w w' := by
  by_cases h : 0 ≤ si
  · go_enter Tryz.func151, Tryz.ntmps151
    go_wp2
    go_ret
    exact ⟨ret_bool (by simp [h]), by go_grown⟩
  · go_enter Tryz.func151, Tryz.ntmps151
    go_wp2
    go_ret
    exact ⟨ret_bool (by simp; omega), by go_grown⟩

theorem lst_cell {w : World} {v : Value} {ss : List ByteArray} (h : Lst w v ss) {k : Nat} (hk : k < ss.length) : ∃ g c, v = .slice (some ⟨g, 0, none⟩) ss.length c ∧ w.cell? ⟨g, k, none⟩ = some (.string ss[k]) ∧ g < w.heap.size := by
  rcases h with ⟨_, h2⟩ | ⟨g, c, h1, hS, hg, -⟩
  · subst h2; simp at hk
  · exact ⟨g, c, h1, by have := hS k ss[k] (by simp); simpa using this, hg⟩
theorem slE_sized {ps : List Ph} (hs : Sized ps) (nm : ByteArray) : ∀ s ∈ slE ps nm, s.size ≤ maxLen := fun s hs' => by
  have h1 : s.toList ∈ keys (slE ps nm) := List.mem_map.2 ⟨s, hs', rfl⟩
  rw [slots_keys] at h1
  have h2 := slots_mem ps nm _ h1
  obtain ⟨p, hp, h3⟩ := List.mem_flatMap.1 h2
  obtain ⟨_, z1, z2, _, _⟩ := hs p hp
  unfold ownK at h3
  split at h3
  · simp only [List.mem_cons, List.not_mem_nil, or_false] at h3
    rcases h3 with h3 | h3
    · rw [key_inj h3]; exact z1
    · rw [key_inj h3]; exact z2
  · simp only [List.mem_cons, List.not_mem_nil, or_false] at h3
    rw [key_inj h3]; exact z1

set_option maxRecDepth 20000 in
set_option maxHeartbeats 4000000 in
theorem slotsOkP_any (ps : List Ph) (l : List Sl) (b o c g q cc : Nat) (w : World) (hE : Ends w) (hr : RecAt w b o ps) (hb : b < w.heap.size) (hs : Sized ps) (hcap : ps.length ≤ c) (hc9 : c ≤ 9223372036854775807) (hok : recB ps = true)
    (hl : SlAt w g q l) (hg : g < w.heap.size) (hn : l.length ≤ 1048576) (hz : ∀ y ∈ l, y.s.size ≤ maxLen ∧ y.t.size ≤ maxLen) :
    Calls Tryz.prog 26 #[.slice (some ⟨g, q, none⟩) l.length cc, .slice (some ⟨b, o, none⟩) ps.length c] w fun e w' => e = .returned (.bool (pB (SlotsOk ps l))) ∧ Below w.heap.size w w' := by
  obtain ⟨hp1, hp12, -⟩ := (recB_iff ps).1 hok
  obtain ⟨c0, -⟩ := hr.cells 0 (by omega)
  rw [show o + 0 * 8 = o by omega] at c0
  have hsl := slE_len ps (fstN ps)
  have hcall := fun W (hB : Below w.heap.size w W) => recSlots_big ps b o c (fstN ps) W (hE.up hB) (hr.up hB hb) (Nat.lt_of_lt_of_le hb hB.size) hs hcap hc9
  have hV : slotsV ps (fstN ps) = slE ps (fstN ps) := by simp [slotsV, hok]
  rw [hV] at hcall
  rw [← fstN_zero (by omega)] at c0
  have hnd := slE_nodup ps (fstN ps)
  have hsz := slE_sized hs (fstN ps)
  have HP : Hid (SlotsOk ps l = SlOk l (slE ps (fstN ps))) := rfl
  have hlen24 : (slE ps (fstN ps)).length ≤ 24 := by omega
  clear hV hsl
  generalize slE ps (fstN ps) = ns at *
  generalize fstN ps = f0 at *
  go_enter Tryz.func26, Tryz.ntmps26
  go_wp2_with fail
  refine (hcall _ (Below.refl _ _)).mono ?_
  rintro e w1 ⟨⟨u, rfl, hO⟩, hB1⟩
  have hL := hO.lst
  obtain ⟨ua, uc, rfl⟩ := hL.shape
  have Hnd : Hid (keys ns).Nodup := hnd
  have Hcall : Hid True := trivial
  clear hcall c0 hnd
  by_cases hll : l.length = ns.length
  case neg =>
    have HN : Hid (pB (SlotsOk ps l) = false) := pB_no (by rw [HP.out]; exact fun h => hll h.1)
    go_wp2_with fail
    go_ret
    exact ⟨ret_bool HN.out.symm, hB1⟩
  have Hll : Hid (l.length = ns.length) := hll
  go_upto_region 4 with fail
  clear hll
  have hn : ns.length ≤ 1048576 := by omega
  go_wp2_with fail
  go_loopw [6, 7, 21] (fun _ _ i w' => ∃ k : Nat, k ≤ ns.length ∧ i = .int .i64 k ∧ SlP l ns k ∧ Below w1.heap.size w1 w') (fun _ _ i _ => ns.length - (intOf i).toNat)
  case atStart => exact ⟨0, by omega, rfl, fun j x hj _ => by omega, Below.refl _ _⟩
  case round =>
    obtain ⟨k, hk, rfl, hP, hB⟩ := hrel
    have HPk : Hid (SlP l ns k) := hP
    clear hP
    by_cases hkn : k < ns.length
    · have hp : k < l.length := by have := Hll.out; omega
      obtain ⟨d0, d1⟩ := (hl.up (up_trans hB1 hB) hg).cells k hp
      obtain ⟨gu, cu, hu, e0, hgu⟩ := lst_cell (hL.up hB) hkn
      simp only [Value.slice.injEq] at hu
      obtain ⟨rfl, -, rfl⟩ := hu
      obtain ⟨zs, zt⟩ := hz l[k] (by simp)
      have N1 : Hid (((l[k]).s.toList == (ns[k]).toList) = false → ¬ SlOk l ns) := SlP.no1 hp hkn
      have N2 : Hid (nameB (l[k]).t = false → ¬ SlOk l ns) := SlP.no2 hp
      have N3 : Hid (((l[k]).s.toList == (ns[k]).toList) = true → nameB (l[k]).t = true → SlP l ns (k + 1)) := HPk.out.step hp hkn
      generalize l[k] = y at *
      generalize ns[k] = s0 at *
      have hB2 := hB.alloc hB.size (.cells #[.string (y).s, .string (y).t] 69)
      have hC : CB (wr.alloc (.cells #[.string (y).s, .string (y).t] 69)) wr.heap.size [.string y.s, .string y.t] := cb_alloc wr _ _
      have e1 := ((Below.refl wr.heap.size wr).alloc (Nat.le_refl _) (.cells #[.string (y).s, .string (y).t] 69)).cell (p := ⟨gu, k, none⟩) hgu |>.trans e0
      go_upto_region 7 with fail
      generalize wr.alloc (.cells #[.string (y).s, .string (y).t] 69) = W1 at *
      obtain ⟨⟨f0', f1⟩, -⟩ := hC.c2
      clear d0 d1 e0 hB
      cases h1 : (y.s.toList == s0.toList)
      · have Hno : Hid (pB (SlotsOk ps l) = false) := pB_no (by rw [HP.out]; exact N1.out h1)
        go_wp2_with fail
        go_quiet (fail)
        go_wp2
        go_ret
        exact ⟨ret_bool Hno.out.symm, below_drewN (up_trans hB1 hB2) _⟩
      · cases h2 : nameB y.t
        · have Hno : Hid (pB (SlotsOk ps l) = false) := pB_no (by rw [HP.out]; exact N2.out h2)
          go_wp2_with fail
          go_region_with (go_at_call 22; refine (shName_any _ _ zt).mono ?_; rintro e w3 ⟨rfl, hb3⟩)
          all_goals
            have hB3 := up_trans (up_trans hB1 hB2).drew hb3
            go_wp2_with fail
            go_ret
            exact ⟨ret_bool Hno.out.symm, hB3⟩
        · have Hyes : Hid (SlP l ns (k + 1)) := N3.out h1 h2
          go_wp2_with fail
          go_region_with (go_at_call 22; refine (shName_any _ _ zt).mono ?_; rintro e w3 ⟨rfl, hb3⟩)
          all_goals
            have hB3 := up_trans hB2.drew hb3
            go_wp2_with fail
            go_roundw
            case rel => exact ⟨k + 1, by omega, by go_num, Hyes.out, hB3⟩
            case measure => simp [intOf]; omega
    · have HPl : Hid (SlP l ns l.length) := by
        have := HPk.out
        rwa [show k = l.length by have := Hll.out; omega] at this
      have hB13 := up_trans hB1 hB
      go_wp2_with fail
      refine (slotMap_at l _ g q cc _ Hll.out (hl.up hB13 hg) (Nat.lt_of_lt_of_le hg hB13.size) hn (fun y hy => (hz y hy).1)).mono ?_
      rintro e w4 ⟨⟨M, D, rfl, hM, hD, -⟩, hB4⟩
      go_wp2_with fail
      refine (thingsM_any l ns M _ D _ _ hM hD ((hL.up hB).up hB4) hsz (by omega)).mono ?_
      rintro e w5 ⟨⟨u5, rfl, hO5⟩, hB5⟩
      obtain ⟨a5, c5, rfl⟩ := hO5.lst.shape
      have hlen : (namesOf (thI l ns)).length = (thI l ns).length := by simp [namesOf]
      have Hc : Hid ((thI l ns).length = l.length ↔ SlOk l ns) := SlP.count Hll.out HPl.out Hnd.out
      have hB15 := up_trans (up_trans hB13 hB4) hB5
      have hth := thI_len l ns
      rw [hlen]
      clear hO5 hM hD hB4 hB5 hlen
      rw [Hll.out] at Hc
      by_cases hq : (thI l ns).length = ns.length
      · have Hq : Hid (pB (SlotsOk ps l) = true) := pB_yes (by rw [HP.out]; exact Hc.out.1 hq)
        go_wp2_with fail
        go_ret
        exact ⟨ret_bool (by rw [Hq.out]), hB15⟩
      · have Hq : Hid (pB (SlotsOk ps l) = false) := pB_no (by rw [HP.out]; exact fun h => hq (Hc.out.2 h))
        go_wp2_with fail
        go_ret
        exact ⟨ret_bool (by rw [Hq.out]; simp; omega), hB15⟩
end Go.Proofs.YtliebjbbomghiaaGreatDoor
