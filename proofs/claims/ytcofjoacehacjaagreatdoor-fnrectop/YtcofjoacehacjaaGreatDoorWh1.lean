/- Runs by the specification: RecRun. -/
import Derived.Test.YtcofjoacehacjaaGreatDoorWh0
import Derived.Test.YtcofjoacehacjaaGreatDoorWg2
import Derived.OwnWalk
namespace Go.Proofs.YtcofjoacehacjaaGreatDoor
open Go.RowKit


set_option maxRecDepth 20000 in
set_option maxHeartbeats 4000000 in
theorem specRun_any (ps : List Ph) (ys : List Sy) (b o c b2 o2 c2 : Nat) (w : World) (hr : RecAt w b o ps) (hb : b < w.heap.size) (hy : SayAt w b2 o2 ys) (hb2 : b2 < w.heap.size) (hs : Sized ps) (hn : ps.length ≤ 1048576) (_hyn : ys.length ≤ 1048576) :
    Calls Tryz.prog 6 #[.slice (some ⟨b, o, none⟩) ps.length c, .slice (some ⟨b2, o2, none⟩) ys.length c2] w
      fun e w' => (∃ (s : St) (u : Value) (path : List ByteArray), e = .returned (.tuple #[.agg #[.string (s).nm, .int .i64 (s).now, .int .i64 (s).left], u]) ∧ RunEnd ps ys s path ∧ OwnT w' w.heap.size u path) ∧ Below w.heap.size w w' := by
  obtain ⟨ii, hi, iz0, iz1, iz2⟩ := info_parts infoStr
  go_enter Tryz.func6, Tryz.ntmps6
  go_wp2_with fail
  obtain ⟨W1, hW1, kA, hB1, hs1⟩ : ∃ W1, w.alloc (.cells #[.string ⟨#[]⟩, .int .i64 0, .int .i64 0] 28) = W1 ∧ CB W1 w.heap.size St.none.cells ∧ Below w.heap.size w W1 ∧ W1.heap.size = w.heap.size + 1 := ⟨_, rfl, cb1 w St.none.cells _⟩
  rw [hW1]
  clear hW1
  refine (specBegin_any ps _ _ _ _ (hr.up hB1 hb) (by omega) hs hn).mono ?_
  rintro e w2 ⟨rfl, hb2'⟩
  have hB := hB1.trans (hb2'.mono (by omega))
  have kA := kA.up hb2' kA.2.2
  have hz2 := hb2'.size
  rw [hs1] at hz2
  clear hB1 hb2' hs1
  obtain ⟨z, hz⟩ : ∃ z, beginS ps = z := ⟨_, rfl⟩
  rw [hz]
  have Hz : Hid (beginS ps = z) := hz
  clear hz
  go_upto_region 2 with fail
  obtain ⟨W3, hW3, kS, hB3, hs3⟩ : ∃ W3, w2.alloc (.cells #[.string z.nm, .int .i64 z.now, .int .i64 z.left] 28) = W3 ∧ CB W3 w2.heap.size z.cells ∧ Below w2.heap.size w2 W3 ∧ W3.heap.size = w2.heap.size + 1 := ⟨_, rfl, cb1 w2 z.cells _⟩
  rw [hW3]
  clear hW3
  have hB := up_trans hB hB3
  have kA := kA.up hB3 kA.2.2
  obtain ⟨q, hq⟩ : ∃ q, w2.heap.size = q := ⟨_, rfl⟩
  rw [hq] at kS hs3 hz2 ⊢
  clear hq hB3
  have hlit : OwnT (W3.alloc (.cells #[] 9)) (q + 1) (.slice (some ⟨W3.heap.size, 0, none⟩) 0 0) (pathN ps ys 0) := by
    rw [← hs3]
    exact World.ownsRow_lit W3 #[] 0 (Nat.le_refl _) (Nat.zero_le _) rfl
  have kA := kA.up ((Below.refl W3.heap.size W3).alloc (Nat.le_refl _) (.cells #[] 9)) kA.2.2
  have kS := kS.up ((Below.refl W3.heap.size W3).alloc (Nat.le_refl _) (.cells #[] 9)) kS.2.2
  have hB := hB.alloc hB.size (.cells #[] 9)
  rw [hs3] at hlit
  have hsz0 : q + 1 ≤ (W3.alloc (.cells #[] 9)).heap.size := by simp; omega
  go_wp2_with fail
  go_loopw [7, 8] (fun u i w' => ∃ k : Nat, i = .int .i64 k ∧ OwnT w' (q + 1) u (pathN ps ys k) ∧ CB w' w.heap.size St.none.cells ∧ CB w' q (stN ps ys k).cells ∧ Below w.heap.size w w' ∧ q + 1 ≤ w'.heap.size ∧ (recB ps = true → Went ps ys k) ∧ (recB ps = false → k = 0)) (fun _ i _ => 20 - (intOf i).toNat)
  case atStart => exact ⟨0, rfl, hlit, kA, by rw [stN, Hz.out]; exact kS, hB, hsz0, fun _ => went_zero ps ys, fun _ => rfl⟩
  case round =>
    rename_i u0 i0 wr
    clear hlit kA kS hB hsz0
    obtain ⟨k, rfl, hO, kA, kS, hB, hz, hwt, hk0⟩ := hrel
    have Hwt : Hid (recB ps = true → Went ps ys k) := hwt
    have Hk0 : Hid (recB ps = false → k = 0) := hk0
    clear hwt hk0
    obtain ⟨s, hsk⟩ : ∃ s, stN ps ys k = s := ⟨_, rfl⟩
    rw [hsk] at kS
    have Hs : Hid (stN ps ys k = s) := hsk
    clear hsk
    have hbw := Nat.lt_of_lt_of_le hb hB.size
    go_wp2_with fail
    refine (specOk_any ps _ _ _ _ (hr.up hB hb) hbw hs hn).mono ?_
    rintro e w5 ⟨rfl, hb5⟩
    have hO := hO.up hb5
    have kA := kA.up hb5 kA.2.2
    have kS := kS.up hb5 kS.2.2
    have hB := up_trans hB hb5
    have hz := Nat.le_trans hz hb5.size
    have hbw := Nat.lt_of_lt_of_le hbw hb5.size
    clear hb5
    obtain ⟨⟨a0, a1, a2⟩, -⟩ := kS.c3
    cases hok : recB ps
    · have hE : RunEnd ps ys s (pathN ps ys k) := .inl ⟨hok, by rw [← Hs.out, Hk0.out hok, stN, begin_no hok], by rw [Hk0.out hok]; rfl⟩
      have HE : Hid (RunEnd ps ys s (pathN ps ys k)) := hE
      clear hE
      obtain ⟨⟨d0, d1, d2⟩, f0, f1, f2⟩ := kA.c3
      go_wp2_with fail
      refine end_cb3b Tryz.results6 Tryz.underlying28 rfl sizeSt kA rfl rfl ?_; exact ⟨⟨s, _, pathN ps ys k, rfl, HE.out, (hO.set (grown_copies w.heap.size [.string s.nm, .int .i64 s.now, .int .i64 s.left] 0 _ _ _ (World.grownBy.refl' _) rfl) (by omega)).low (by omega)⟩, below_set3 hB (Nat.le_refl _) _ _ _⟩
    have h12 : ps.length ≤ 12 := ((recB_iff ps).1 hok).2.1
    have hk12 := went_le hok ys (Hwt.out hok)
    go_wp2_with fail
    refine (at_any ps _ _ _ _ _ (hr.up hB hb) hn).mono ?_
    rintro e w' ⟨rfl, hw⟩; obtain rfl := hw.symm; clear hw
    by_cases hneg : atI ps s.nm < 0
    · have hE : RunEnd ps ys s (pathN ps ys k) := .inr ⟨hok, k, Hwt.out hok, by rw [Hs.out]; exact hneg, Hs.out.symm, rfl⟩
      have HE : Hid (RunEnd ps ys s (pathN ps ys k)) := hE
      clear hE
      obtain ⟨⟨d0, d1, d2⟩, f0, f1, f2⟩ := kA.c3
      go_wp2_with fail
      refine end_cb3b Tryz.results6 Tryz.underlying28 rfl sizeSt kA rfl rfl ?_; exact ⟨⟨s, _, pathN ps ys k, rfl, HE.out, (hO.set (grown_copies w.heap.size [.string s.nm, .int .i64 s.now, .int .i64 s.left] 0 _ _ _ (World.grownBy.refl' _) rfl) (by omega)).low (by omega)⟩, below_set3 hB (Nat.le_refl _) _ _ _⟩
    have hat : 0 ≤ atI ps (stN ps ys k).nm := by rw [Hs.out]; omega
    have Hst : Hid (goS ps s (ys[k]?.getD Sy.late) = stN ps ys (k + 1)) := by show _ = _; rw [← Hs.out]; exact went_step hok ys (Hwt.out hok) hat
    have Hwt' : Hid (Went ps ys (k + 1)) := went_succ (Hwt.out hok) hat
    clear hat
    clear a0 a1 a2
    go_upto_region 7 with fail
    obtain ⟨W6, hW6, kY, hb6, hs6⟩ : ∃ W6, w5.alloc (.cells #[.int .i64 1001, .bool false] 41) = W6 ∧ CB W6 w5.heap.size [.int .i64 1001, .bool false] ∧ Below w5.heap.size w5 W6 ∧ W6.heap.size = w5.heap.size + 1 := ⟨_, rfl, cb1 w5 [.int .i64 1001, .bool false] _⟩
    rw [hW6]
    clear hW6
    have hne : ∀ v, OwnT w5 (q + 1) v (pathN ps ys k) → some w5.heap.size ≠ v.ownBlock := fun v hv e => by have := (World.ownsRow.lt hv _ e.symm).2; omega
    have hne := hne _ hO
    have hO := hO.up hb6
    have kA := kA.up hb6 kA.2.2
    have kS := kS.up hb6 kS.2.2
    have hB := up_trans hB hb6
    have hbw := Nat.lt_of_lt_of_le hbw hb6.size
    obtain ⟨q9, hq9⟩ : ∃ q9, w5.heap.size = q9 := ⟨_, rfl⟩
    rw [hq9] at kY hne hs6 hz ⊢
    clear hq9 hb6
    have hyy : (∃ y : Sy, ys[k]?.getD Sy.late = y) := ⟨_, rfl⟩
    obtain ⟨y, hyk⟩ := hyy
    have Hst : Hid (goS ps s y = stN ps ys (k + 1)) := by show _ = _; rw [← hyk]; exact Hst.out
    by_cases hky : k < ys.length
    case' pos =>
      have hyk' : ys[k] = y := by rw [← hyk]; simp [hky]
      obtain ⟨y0, y1⟩ := (hy.up hB hb2).cells k hky
      rw [hyk'] at y0 y1
      obtain ⟨⟨e0, e1⟩, j0, j1⟩ := kY.c2
      clear hyk hyk'
      go_upto_region 9 with fail
      have kY : CB ((W6.setCell ⟨q9, 0, none⟩ (.int .i64 y.t)).setCell ⟨q9, 1, none⟩ (.bool y.well)) q9 y.cellsR := kY.copy2 _ _
      have hgY := grown_copies q9 [.int .i64 y.t, .bool y.well] 0 W6 W6 (some q9) (World.grownBy.refl' _) rfl
      have hO : OwnT ((W6.setCell ⟨q9, 0, none⟩ (.int .i64 y.t)).setCell ⟨q9, 1, none⟩ (.bool y.well)) (q + 1) _ (pathN ps ys k) := hO.grown hgY hne.symm
      have kA : CB ((W6.setCell ⟨q9, 0, none⟩ (.int .i64 y.t)).setCell ⟨q9, 1, none⟩ (.bool y.well)) w.heap.size St.none.cells := kA.otherCopy (by omega) [.int .i64 y.t, .bool y.well]
      have kS : CB ((W6.setCell ⟨q9, 0, none⟩ (.int .i64 y.t)).setCell ⟨q9, 1, none⟩ (.bool y.well)) q s.cells := kS.otherCopy (by omega) [.int .i64 y.t, .bool y.well]
      have hB : Below w.heap.size w ((W6.setCell ⟨q9, 0, none⟩ (.int .i64 y.t)).setCell ⟨q9, 1, none⟩ (.bool y.well)) := below_set2 hB (by omega) _ _
      have hs7 : ((W6.setCell ⟨q9, 0, none⟩ (.int .i64 y.t)).setCell ⟨q9, 1, none⟩ (.bool y.well)).heap.size = q9 + 1 := by simp [hs6]
      clear y0 y1 e0 e1 j0 j1 hgY
      generalize (W6.setCell ⟨q9, 0, none⟩ (.int .i64 y.t)).setCell ⟨q9, 1, none⟩ (.bool y.well) = W7 at *
    case' neg =>
      have hyk' : Sy.late = y := by rw [← hyk, List.getElem?_eq_none (by omega)]; rfl
      have kY : CB W6 q9 y.cellsR := by rw [← hyk']; exact kY
      clear hyk hyk'
      go_upto_region 9 with fail
      have hs7 := hs6
      generalize W6 = W7 at *
    all_goals
      obtain ⟨⟨a0, a1, a2⟩, -⟩ := kS.c3
      have hownA := (ownT_path hO).alloc (.cells #[.string s.nm] 9)
      have hBA := hB.alloc hB.size (.cells #[.string s.nm] 9)
      have hnew : ∀ (j : Nat) (u : Value), [Value.string s.nm][j]? = some u → (W7.alloc (.cells #[.string s.nm] 9)).cell? ((⟨q9 + 1, 0, none⟩ : Addr).add j) = some u := by rw [← hs7]; exact one_new W7 s.nm _
      go_wp2_with (at_builtin; refine wpList_append_own _ rfl _ _ 29 rfl (q + 1) 9 ii _ 1 16 Tryz.underlying29 hi iz0 iz1 iz2 rfl (by decide) _ _ _ rfl hownA ⟨q9 + 1, 0, none⟩ 1 1 [.string s.nm] rfl rfl hnew (oneV _) (by unfold maxLen; omega) (by omega) (by simp; omega) ?_)
      intro v' w8 hO8 hg8 _
      have hb8 : Below W7.heap.size W7 (W7.alloc (.cells #[.string s.nm] 9)) := (Below.refl _ _).alloc (Nat.le_refl _) _
      have kA := (kA.up hb8 kA.2.2).own hownA hg8 (by omega)
      have kS := (kS.up hb8 kS.2.2).own hownA hg8 (by omega)
      have kY := (kY.up hb8 kY.2.2).kept hg8 hne
      have hB := below_own hBA hownA hg8 (by omega)
      rw [← Hs.out] at hO8
      have hO := ownT_snoc hO8
      rw [Hs.out] at hO8
      have hz8 := hg8.size
      have hbw := Nat.lt_of_lt_of_le hb hB.size
      clear hownA hBA hnew hO8 hb8 a0 a1 a2 hg8
      obtain ⟨⟨a0, a1, a2⟩, -⟩ := kS.c3
      obtain ⟨⟨e0, e1⟩, -⟩ := kY.c2
      go_wp2_with fail
      refine (specGo_any ps _ _ _ s y _ (hr.up hB hb) hbw hs hn).mono ?_
      rintro e w9 ⟨rfl, hb9⟩
      rw [Hst.out]
      have kA := kA.up hb9 kA.2.2
      have kS := kS.up hb9 kS.2.2
      have hO := hO.up hb9
      have hB := up_trans hB hb9
      have hz9 := hb9.size
      simp only [World.size_alloc] at hz8
      clear a0 a1 a2 e0 e1 hb9 kY
      obtain ⟨s', hs'⟩ : ∃ s', stN ps ys (k + 1) = s' := ⟨_, rfl⟩
      rw [hs']
      have Hs' : Hid (stN ps ys (k + 1) = s') := hs'
      clear hs'
      go_upto_region 11 with fail
      obtain ⟨W10, hW10, kX, hb10, hs10⟩ : ∃ W10, w9.alloc (.cells #[.string s'.nm, .int .i64 s'.now, .int .i64 s'.left] 28) = W10 ∧ CB W10 w9.heap.size s'.cells ∧ Below w9.heap.size w9 W10 ∧ W10.heap.size = w9.heap.size + 1 := ⟨_, rfl, cb1 w9 s'.cells _⟩
      rw [hW10]
      clear hW10
      have kA := kA.up hb10 kA.2.2
      have kS := kS.up hb10 kS.2.2
      have hO := hO.up hb10
      have hB := up_trans hB hb10
      clear hb10
      obtain ⟨⟨a0, a1, a2⟩, -⟩ := kX.c3
      obtain ⟨⟨d0, d1, d2⟩, f0, f1, f2⟩ := kS.c3
      go_wp2_with fail
      go_roundw
      case rel => exact ⟨k + 1, by go_num, hO.set (grown_copies q [.string s'.nm, .int .i64 s'.now, .int .i64 s'.left] 0 _ _ _ (World.grownBy.refl' _) rfl) (by omega), kA.otherCopy (by omega) [.string s'.nm, .int .i64 s'.now, .int .i64 s'.left], by rw [Hs'.out]; exact kS.copy3 _ _ _, below_set3 hB (by omega) _ _ _, by simp; omega, fun _ => Hwt'.out, fun h => by rw [hok] at h; cases h⟩
      case measure => simp [intOf]; omega
end Go.Proofs.YtcofjoacehacjaaGreatDoor
