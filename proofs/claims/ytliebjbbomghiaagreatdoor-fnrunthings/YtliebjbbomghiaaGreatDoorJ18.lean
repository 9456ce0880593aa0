/- The specification's slots from a name on. -/
import Derived.Test.YtliebjbbomghiaaGreatDoorJ5
import Derived.Test.YtliebjbbomghiaaGreatDoorJ16
import Derived.Test.YtliebjbbomghiaaGreatDoorJ12
import Derived.Test.YtliebjbbomghiaaGreatDoorWr2
import Derived.Deep.RegionWith
import Derived.Deep.RegionHeld
import Derived.Test.YtliebjbbomghiaaGreatDoorU3
namespace Go.Proofs.YtliebjbbomghiaaGreatDoor
open Go.RowKit

theorem txt_nil (w : World) : Txt (w.alloc (.cells #[] 9)) (.slice (some ⟨w.heap.size, 0, none⟩) 0 0) [] :=
  ⟨w.heap.size, 0, rfl, fun i s hs => by simp at hs, by simp, by simp, by unfold maxLen; omega⟩

theorem hp_drew {W w0 : World} {b o : Nat} {x0 x1 x2 x3 x4 x5 x6 x7 : Value} (h : Below W.heap.size W w0 ∧ w0.cell? ⟨b, o, none⟩ = some x0 ∧ w0.cell? ⟨b, o + 1, none⟩ = some x1 ∧ w0.cell? ⟨b, o + 2, none⟩ = some x2 ∧ w0.cell? ⟨b, o + 3, none⟩ = some x3 ∧ w0.cell? ⟨b, o + 4, none⟩ = some x4 ∧ w0.cell? ⟨b, o + 5, none⟩ = some x5 ∧ w0.cell? ⟨b, o + 6, none⟩ = some x6 ∧ w0.cell? ⟨b, o + 7, none⟩ = some x7) : Below W.heap.size W w0.drew ∧ w0.drew.cell? ⟨b, o, none⟩ = some x0 ∧ w0.drew.cell? ⟨b, o + 1, none⟩ = some x1 ∧ w0.drew.cell? ⟨b, o + 2, none⟩ = some x2 ∧ w0.drew.cell? ⟨b, o + 3, none⟩ = some x3 ∧ w0.drew.cell? ⟨b, o + 4, none⟩ = some x4 ∧ w0.drew.cell? ⟨b, o + 5, none⟩ = some x5 ∧ w0.drew.cell? ⟨b, o + 6, none⟩ = some x6 ∧ w0.drew.cell? ⟨b, o + 7, none⟩ = some x7 :=
  ⟨h.1.drew, h.2⟩
theorem hp_up {W w0 w1 : World} {b o : Nat} {x0 x1 x2 x3 x4 x5 x6 x7 : Value} (hb : b < W.heap.size) (h : Below W.heap.size W w0 ∧ w0.cell? ⟨b, o, none⟩ = some x0 ∧ w0.cell? ⟨b, o + 1, none⟩ = some x1 ∧ w0.cell? ⟨b, o + 2, none⟩ = some x2 ∧ w0.cell? ⟨b, o + 3, none⟩ = some x3 ∧ w0.cell? ⟨b, o + 4, none⟩ = some x4 ∧ w0.cell? ⟨b, o + 5, none⟩ = some x5 ∧ w0.cell? ⟨b, o + 6, none⟩ = some x6 ∧ w0.cell? ⟨b, o + 7, none⟩ = some x7) (hB : Below w0.heap.size w0 w1) : Below W.heap.size W w1 ∧ w1.cell? ⟨b, o, none⟩ = some x0 ∧ w1.cell? ⟨b, o + 1, none⟩ = some x1 ∧ w1.cell? ⟨b, o + 2, none⟩ = some x2 ∧ w1.cell? ⟨b, o + 3, none⟩ = some x3 ∧ w1.cell? ⟨b, o + 4, none⟩ = some x4 ∧ w1.cell? ⟨b, o + 5, none⟩ = some x5 ∧ w1.cell? ⟨b, o + 6, none⟩ = some x6 ∧ w1.cell? ⟨b, o + 7, none⟩ = some x7 := by
  obtain ⟨h1, a0, a1, a2, a3, a4, a5, a6, a7⟩ := h
  have hl : b < w0.heap.size := Nat.lt_of_lt_of_le hb h1.size
  exact ⟨up_trans h1 hB, (hB.cell (p := ⟨b, o, none⟩) hl).trans a0, (hB.cell (p := ⟨b, o + 1, none⟩) hl).trans a1, (hB.cell (p := ⟨b, o + 2, none⟩) hl).trans a2, (hB.cell (p := ⟨b, o + 3, none⟩) hl).trans a3, (hB.cell (p := ⟨b, o + 4, none⟩) hl).trans a4, (hB.cell (p := ⟨b, o + 5, none⟩) hl).trans a5, (hB.cell (p := ⟨b, o + 6, none⟩) hl).trans a6, (hB.cell (p := ⟨b, o + 7, none⟩) hl).trans a7⟩

set_option maxHeartbeats 4000000 in
theorem l2Slots_any (ps : List Ph) (b o c : Nat) (hok : recB ps = true) (f : Nat) : ∀ (nm : ByteArray) (w : World), RecAt w b o ps → b < w.heap.size → (atI ps nm < 0 ∨ (ps.length : Int) < atI ps nm + f) →
    Calls Tryz.prog 21 #[.slice (some ⟨b, o, none⟩) ps.length c, .string nm] w fun e w' => (∃ u, e = .returned u ∧ Txt w' u (slE ps nm)) ∧ Below w.heap.size w w' := by
  have h12 : ps.length ≤ 12 := ((recB_iff ps).1 hok).2.1
  have hn : ps.length ≤ 1048576 := by omega
  have hlen : ∀ nm, (slE ps nm).length ≤ 24 := fun nm => by have := slE_len ps nm; omega
  have hout : ∀ nm w, atI ps nm < 0 → RecAt w b o ps → Calls Tryz.prog 21 #[.slice (some ⟨b, o, none⟩) ps.length c, .string nm] w fun e w' => (∃ u, e = .returned u ∧ Txt w' u (slE ps nm)) ∧ Below w.heap.size w w' := by
    intro nm w h0 hr
    have hv : slE ps nm = [] := by
      unfold slE; rw [evL_out ps _ _ _ nm h0]; split <;> rfl
    have HV : Hid (slE ps nm = []) := hv
    clear hv hlen
    go_enter Tryz.func21, Tryz.ntmps21
    go_wp2_with (go_at_call 30; refine (at_any _ _ _ _ _ _ hr hn).mono ?_; rintro e w' ⟨rfl, hw⟩; obtain rfl := hw.symm; clear hw)
    go_ret
    exact ⟨⟨_, rfl, by rw [HV.out]; exact txt_nil w⟩, (Below.refl _ _).alloc (Nat.le_refl _) _⟩
  induction f with
  | zero =>
    intro nm w hr hb hf
    have hlt := atI_lt ps nm
    exact hout nm w (by omega) hr
  | succ f ih =>
    intro nm w hr hb hf
    have hlt := atI_lt ps nm
    by_cases h0 : atI ps nm < 0
    · exact hout nm w h0 hr
    · obtain ⟨k, hka⟩ : ∃ k : Nat, atI ps nm = (k : Int) := ⟨(atI ps nm).toNat, by omega⟩
      have hk : k < ps.length := by omega
      obtain ⟨g1, g2⟩ := goes_of hok hk
      have HV : Hid (slE ps nm = bothL (bothL (ofL ps[k]) (slE ps (ps[k]).t)) (slE ps (ps[k]).e)) := evL_step hok _ _ _ nm hk hka
      have I1 : Hid (∀ w, RecAt w b o ps → b < w.heap.size → Calls Tryz.prog 21 #[.slice (some ⟨b, o, none⟩) ps.length c, .string (ps[k]).t] w fun e w' => (∃ u, e = .returned u ∧ Txt w' u (slE ps (ps[k]).t)) ∧ Below w.heap.size w w') := by
        show _; intro w hr hb; exact ih _ w hr hb (by have := atI_later hok hk _ g1; omega)
      have I2 : Hid (∀ w, RecAt w b o ps → b < w.heap.size → Calls Tryz.prog 21 #[.slice (some ⟨b, o, none⟩) ps.length c, .string (ps[k]).e] w fun e w' => (∃ u, e = .returned u ∧ Txt w' u (slE ps (ps[k]).e)) ∧ Below w.heap.size w w') := by
        show _; intro w hr hb; exact ih _ w hr hb (by have := atI_later hok hk _ g2; omega)
      obtain ⟨c0, c1, c2, c3, c4, c5, c6, c7⟩ := hr.cells k hk
      have HH5 : Hid (∀ w, RecAt w b o ps → Calls Tryz.prog 30 #[.slice (some ⟨b, o, none⟩) ps.length c, .string nm] w fun e w' => e = .returned (.int .i64 (k : Int)) ∧ w' = w) := by
        show _; intro w hr; rw [← hka]; exact at_any _ _ _ _ _ _ hr hn
      have hl1 := hlen (ps[k]).t
      have hl2 := hlen (ps[k]).e
      have hl0 : (ofL ps[k]).length ≤ 2 := by
        unfold ofL; split
        · have := insL_len [(ps[k]).a] (ps[k]).b; simpa using this
        · simp
      clear hka hf hlt ih h0 hout hlen g1 g2
      generalize ps[k] = p at *
      go_enter Tryz.func21, Tryz.ntmps21
      go_wp2_with fail
      refine (HH5.out _ hr).mono ?_
      rintro e w' ⟨rfl, hw⟩; obtain rfl := hw.symm; clear hw
      go_wp2_with fail
      have hS0 : Below w.heap.size w w ∧ w.cell? ⟨b, o + k * 8, none⟩ = some (.string p.nm) ∧ w.cell? ⟨b, o + k * 8 + 1, none⟩ = some (.int .i64 p.k) ∧ w.cell? ⟨b, o + k * 8 + 2, none⟩ = some (.string p.a) ∧ w.cell? ⟨b, o + k * 8 + 3, none⟩ = some (.string p.b) ∧ w.cell? ⟨b, o + k * 8 + 4, none⟩ = some (.int .i64 p.n) ∧ w.cell? ⟨b, o + k * 8 + 5, none⟩ = some (.int .i64 p.wi) ∧ w.cell? ⟨b, o + k * 8 + 6, none⟩ = some (.string p.t) ∧ w.cell? ⟨b, o + k * 8 + 7, none⟩ = some (.string p.e) := ⟨Below.refl _ _, c0, c1, c2, c3, c4, c5, c6, c7⟩
      clear c0 c1 c2 c3 c4 c5 c6 c7
      have Hr : Hid (RecAt w b o ps) := hr
      clear hr
      go_region_held (fun w' => Below w.heap.size w w' ∧ w'.cell? ⟨b, o + k * 8, none⟩ = some (.string p.nm) ∧ w'.cell? ⟨b, o + k * 8 + 1, none⟩ = some (.int .i64 p.k) ∧ w'.cell? ⟨b, o + k * 8 + 2, none⟩ = some (.string p.a) ∧ w'.cell? ⟨b, o + k * 8 + 3, none⟩ = some (.string p.b) ∧ w'.cell? ⟨b, o + k * 8 + 4, none⟩ = some (.int .i64 p.n) ∧ w'.cell? ⟨b, o + k * 8 + 5, none⟩ = some (.int .i64 p.wi) ∧ w'.cell? ⟨b, o + k * 8 + 6, none⟩ = some (.string p.t) ∧ w'.cell? ⟨b, o + k * 8 + 7, none⟩ = some (.string p.e)) (first | exact hp_drew hS0 | exact hp_up hb (by assumption) (by assumption))
        (first
          | (go_at_call 35; refine (of_any2 p _).mono ?_; rintro e w1 ⟨⟨u1, rfl, hT1⟩, hb1⟩)
          | (go_at_call_of 21 (Value.string p.t); refine (I1.out _ (Hr.out.up (And.left (by assumption)) hb) (Nat.lt_of_lt_of_le hb (Below.size (And.left (by assumption))))).mono ?_; rintro e w2 ⟨⟨u2, rfl, hT2⟩, hb2⟩; have hT1' := hT1.up hb2)
          | (go_at_call_of 21 (Value.string p.e); refine (I2.out _ (Hr.out.up (And.left (by assumption)) hb) (Nat.lt_of_lt_of_le hb (Below.size (And.left (by assumption))))).mono ?_; rintro e w4 ⟨⟨u4, rfl, hT4⟩, hb4⟩; have hT3' := hT3.up hb4)
          | (go_at_call 48; revert hT4; intro hT4; refine (both_any _ _ u3 u4 _ hT3' hT4 (by have := bothL_len (ofL p) (slE ps p.t); omega)).mono ?_; rintro e w5 ⟨⟨u5, rfl, hT5⟩, hb5⟩)
          | (go_at_call 48; refine (both_any _ _ u1 u2 _ hT1' hT2 (by omega)).mono ?_; rintro e w3 ⟨⟨u3, rfl, hT3⟩, hb3⟩))
      rename_i hHeld
      have hB5 := hHeld.1
      clear hHeld hb1 hb2 hb3 hb4 hb5 hT1 hT2 hT3 hT4 hT1' hT3' hS0
      go_wp2_with fail
      go_ret
      exact ⟨⟨_, rfl, by rw [HV.out]; exact hT5⟩, hB5⟩
end Go.Proofs.YtliebjbbomghiaaGreatDoor

/- The specification's slots of a batch, and which batch is ok (chapter 21). -/
namespace Go.Proofs.YtliebjbbomghiaaGreatDoor
open Go.RowKit

set_option maxRecDepth 20000 in
set_option maxHeartbeats 4000000 in
theorem slotsOkS_any (ps : List Ph) (l : List Sl) (b o c g q cc : Nat) (w : World) (hr : RecAt w b o ps) (hb : b < w.heap.size) (hok : recB ps = true)
    (hl : SlAt w g q l) (hg : g < w.heap.size) (hn : l.length ≤ 1048576) (hz : ∀ y ∈ l, y.s.size ≤ maxLen ∧ y.t.size ≤ maxLen) :
    Calls Tryz.prog 29 #[.slice (some ⟨b, o, none⟩) ps.length c, .slice (some ⟨g, q, none⟩) l.length cc] w fun e w' => e = .returned (.bool (pB (SlotsOk ps l))) ∧ Below w.heap.size w w' := by
  obtain ⟨hp1, hp12, -⟩ := (recB_iff ps).1 hok
  obtain ⟨c0, -⟩ := hr.cells 0 (by omega)
  rw [show o + 0 * 8 = o by omega] at c0
  have hsl := slE_len ps (fstN ps)
  have hcall := l2Slots_any ps b o c hok 20 (fstN ps) w hr hb (by omega)
  rw [← fstN_zero (by omega)] at c0
  have HP : Hid (SlotsOk ps l = SlOk l (slE ps (fstN ps))) := rfl
  have hlen24 : (slE ps (fstN ps)).length ≤ 24 := by omega
  clear hsl
  generalize slE ps (fstN ps) = ns at *
  generalize fstN ps = f0 at *
  go_enter Tryz.func29, Tryz.ntmps29
  go_wp2_with fail
  refine hcall.mono ?_
  rintro e w1 ⟨⟨u, rfl, hT⟩, hB1⟩
  obtain ⟨gu, cu, rfl, hS, hgu, -⟩ := hT
  clear hcall c0
  by_cases hll : l.length = ns.length
  case neg =>
    have HN : Hid (pB (SlotsOk ps l) = false) := pB_no (by rw [HP.out]; exact fun h => hll h.1)
    have hll' : ¬ ns.length = l.length := fun e => hll e.symm
    go_wp2_with fail
    go_ret
    exact ⟨ret_bool HN.out.symm, hB1⟩
  have Hll : Hid (l.length = ns.length) := hll
  go_upto_region 4 with fail
  clear hll
  have hn : ns.length ≤ 1048576 := by omega
  go_wp2_with fail
  go_loopw [6, 7] (fun i _ w' => ∃ k : Nat, k ≤ ns.length ∧ i = .int .i64 k ∧ SlP l ns k ∧ SlD l k ∧ Below w1.heap.size w1 w') (fun i _ _ => ns.length - (intOf i).toNat)
  case atStart => exact ⟨0, by omega, rfl, fun j x hj _ => by omega, fun j k x y hj => by omega, Below.refl _ _⟩
  case round =>
    obtain ⟨k, hk, rfl, hP, hD, hB⟩ := hrel
    have HPk : Hid (SlP l ns k) := hP
    have HDk : Hid (SlD l k) := hD
    clear hP hD
    by_cases hkn : k < ns.length
    · have hp : k < l.length := by have := Hll.out; omega
      have hl1 := hl.up (up_trans hB1 hB) hg
      obtain ⟨d0, d1⟩ := hl1.cells k hp
      have e0 : wr.cell? ⟨gu, k, none⟩ = some (.string ns[k]) := (hB.cell (p := ⟨gu, k, none⟩) hgu).trans (by have := hS k ns[k] (by simp); simpa using this)
      obtain ⟨zs, zt⟩ := hz l[k] (by simp)
      have N1 : Hid (((l[k]).s.toList == (ns[k]).toList) = false → ¬ SlOk l ns) := SlP.no1 hp hkn
      have N2 : Hid (nameB (l[k]).t = false → ¬ SlOk l ns) := SlP.no2 hp
      have N3 : Hid (((l[k]).s.toList == (ns[k]).toList) = true → nameB (l[k]).t = true → SlP l ns (k + 1)) := HPk.out.step hp hkn
      have N4 : Hid ((∀ (j : Nat) (y : Sl), j < k → l[j]? = some y → y.t.toList ≠ (l[k]).t.toList) → SlD l (k + 1)) := HDk.out.step hp
      have N5 : Hid (∀ (j : Nat) (hj : j < k), ((l[j]'(by omega)).t.toList == (l[k]).t.toList) = true → ¬ SlOk l ns) := fun j hj => SlD.no hp hj
      have q1 : ∀ m, Calls Tryz.prog 27 #[.string (l[k]).t] (wr.drewN m) fun e w' => e = .returned (.bool (nameB (l[k]).t)) ∧ ∃ n, w' = wr.drewN n := fun m => (specName_any _ _ zt).mono fun e w' ⟨h1, h2⟩ => ⟨h1, m, h2⟩
      generalize hy : l[k] = y at *
      generalize ns[k] = s0 at *
      cases h1 : (y.s.toList == s0.toList)
      · have Hno : Hid (pB (SlotsOk ps l) = false) := pB_no (by rw [HP.out]; exact N1.out h1)
        go_wp2_with fail
        go_quiet (fail)
        go_wp2
        go_ret
        exact ⟨ret_bool Hno.out.symm, below_drewN (up_trans hB1 hB) _⟩
      · cases h2 : nameB y.t
        · have Hno : Hid (pB (SlotsOk ps l) = false) := pB_no (by rw [HP.out]; exact N2.out h2)
          rw [h2] at q1
          go_wp2_with fail
          go_quiet ((go_at_call 27; exact q1 _))
          go_wp2_with fail
          go_ret
          exact ⟨ret_bool Hno.out.symm, below_drewN (up_trans hB1 hB) _⟩
        · have Hyes : Hid (SlP l ns (k + 1)) := N3.out h1 h2
          rw [h2] at q1
          go_wp2_with fail
          go_quiet ((go_at_call 27; exact q1 _))
          go_wp2_with fail
          go_loopw [7] (fun i w' => ∃ m : Nat, m ≤ k ∧ i = .int .i64 m ∧ (∀ (j : Nat) (z : Sl), j < m → l[j]? = some z → z.t.toList ≠ y.t.toList) ∧ ∃ nd, w' = wr.drewN nd) (fun i _ => k - (intOf i).toNat)
          case atStart => exact ⟨0, by omega, rfl, fun j z hj => by omega, _, rfl⟩
          case round =>
            obtain ⟨m, hm, rfl, hal, nd, rfl⟩ := hrel
            have Hal : Hid (∀ (j : Nat) (z : Sl), j < m → l[j]? = some z → z.t.toList ≠ y.t.toList) := hal
            clear hal
            by_cases hmk : m < k
            · have hml : m < l.length := by omega
              obtain ⟨f0', f1⟩ := hl1.cells m hml
              have f2 := f1
              cases h3 : ((l[m]).t.toList == y.t.toList)
              · have Hq : Hid (∀ (j : Nat) (z : Sl), j < m + 1 → l[j]? = some z → z.t.toList ≠ y.t.toList) := fun j z hj hz => by
                  rcases Nat.lt_or_ge j m with h' | h'
                  · exact Hal.out j z h' hz
                  · obtain rfl : j = m := by omega
                    obtain ⟨_, rfl⟩ := List.getElem?_eq_some_iff.1 hz
                    intro e
                    rw [e] at h3; simp at h3
                go_wp2_with fail
                go_quiet (fail)
                go_wp2_with fail
                go_roundw
                case rel => exact ⟨m + 1, by omega, by go_num, Hq.out, _, rfl⟩
                case measure => simp [intOf]; omega
              · have Hno : Hid (pB (SlotsOk ps l) = false) := pB_no (by rw [HP.out]; exact N5.out m hmk h3)
                go_wp2_with fail
                go_quiet (fail)
                go_wp2_with fail
                go_ret
                exact ⟨ret_bool Hno.out.symm, below_drewN (below_drewN (up_trans hB1 hB) _) _⟩
            · have Hd : Hid (SlD l (k + 1)) := N4.out fun j z hj hz => Hal.out j z (by omega) hz
              go_wp2_with fail
              go_roundw
              case rel => exact ⟨k + 1, by omega, by go_num, Hyes.out, Hd.out, below_drewN hB _⟩
              case measure => simp [intOf]; omega
    · have Hq : Hid (pB (SlotsOk ps l) = true) := pB_yes (by
        rw [HP.out]
        have e : k = l.length := by have := Hll.out; omega
        exact ⟨Hll.out, by have := HPk.out; rwa [e] at this, by have := HDk.out; rwa [e] at this⟩)
      go_wp2_with fail
      go_ret
      exact ⟨ret_bool Hq.out.symm, up_trans hB1 hB⟩
end Go.Proofs.YtliebjbbomghiaaGreatDoor
