/- The law of promises 1 to 3: its walk. -/
import Derived.Test.YtcofjoacehacjaaGreatDoorDz
import Derived.Test.YtcofjoacehacjaaGreatDoorJ33
import Derived.Test.YtcofjoacehacjaaGreatDoorWh1
import Derived.Test.YtcofjoacehacjaaGreatDoorWh5
import Derived.Test.YtcofjoacehacjaaGreatDoorSr3
import Derived.Test.YtcofjoacehacjaaGreatDoorWq
import Derived.Deep.RegionHeld
namespace Go.Proofs.YtcofjoacehacjaaGreatDoor
open Go.RowKit

theorem st_cells {s : St} {w : World} {b : Nat} (h : CB w b s.cells) : w.cell? ⟨b, 0, none⟩ = some (.string s.nm) ∧ w.cell? ⟨b, 1, none⟩ = some (.int .i64 s.now) ∧ w.cell? ⟨b, 2, none⟩ = some (.int .i64 s.left) := (CB.c3 h).1

theorem strs_up {w w' : World} {g o : Nat} {ss : List ByteArray} (h : StrsAt w g o ss) (hb : Below w.heap.size w w') (hg : g < w.heap.size) : StrsAt w' g o ss := fun i s hs => (hb.cell (p := ⟨g, o + i, none⟩) hg).trans (h i s hs)
theorem s11_drew {w7 w' : World} {q g gp : Nat} {snow : Int} {nm0 : ByteArray} (h : Below w7.heap.size w7 w' ∧ World.cell? w' ⟨q, 1, none⟩ = some (.int .i64 snow) ∧ World.cell? w' ⟨q, 2, none⟩ = some (.int .i64 0) ∧ World.cell? w' ⟨g, 0, none⟩ = some (.string nm0) ∧ World.cell? w' ⟨gp, 0, none⟩ = some (.string nm0)) : Below w7.heap.size w7 w'.drew ∧ World.cell? w'.drew ⟨q, 1, none⟩ = some (.int .i64 snow) ∧ World.cell? w'.drew ⟨q, 2, none⟩ = some (.int .i64 0) ∧ World.cell? w'.drew ⟨g, 0, none⟩ = some (.string nm0) ∧ World.cell? w'.drew ⟨gp, 0, none⟩ = some (.string nm0) := ⟨h.1.drew, h.2⟩
theorem s11_up {w7 w' w'' : World} {q g gp : Nat} {snow : Int} {nm0 : ByteArray} (hq : q < w7.heap.size) (hg : g < w7.heap.size) (hgp : gp < w7.heap.size) (h : Below w7.heap.size w7 w' ∧ World.cell? w' ⟨q, 1, none⟩ = some (.int .i64 snow) ∧ World.cell? w' ⟨q, 2, none⟩ = some (.int .i64 0) ∧ World.cell? w' ⟨g, 0, none⟩ = some (.string nm0) ∧ World.cell? w' ⟨gp, 0, none⟩ = some (.string nm0)) (hb : Below w'.heap.size w' w'') : Below w7.heap.size w7 w'' ∧ World.cell? w'' ⟨q, 1, none⟩ = some (.int .i64 snow) ∧ World.cell? w'' ⟨q, 2, none⟩ = some (.int .i64 0) ∧ World.cell? w'' ⟨g, 0, none⟩ = some (.string nm0) ∧ World.cell? w'' ⟨gp, 0, none⟩ = some (.string nm0) := by
  have hz := h.1.size
  exact ⟨up_trans h.1 hb, (hb.cell (p := ⟨q, 1, none⟩) (Nat.lt_of_lt_of_le hq hz)).trans h.2.1, (hb.cell (p := ⟨q, 2, none⟩) (Nat.lt_of_lt_of_le hq hz)).trans h.2.2.1, (hb.cell (p := ⟨g, 0, none⟩) (Nat.lt_of_lt_of_le hg hz)).trans h.2.2.2.1, (hb.cell (p := ⟨gp, 0, none⟩) (Nat.lt_of_lt_of_le hgp hz)).trans h.2.2.2.2⟩

theorem s21_drew {W15 w' : World} {r x gp k : Nat} {sa sb : St} (h : Below W15.heap.size W15 w' ∧ World.cell? w' ⟨r, 0, none⟩ = some (.string sa.nm) ∧ World.cell? w' ⟨r, 1, none⟩ = some (.int .i64 sa.now) ∧ World.cell? w' ⟨r, 2, none⟩ = some (.int .i64 sa.left) ∧ World.cell? w' ⟨x, 0, none⟩ = some (.string sb.nm) ∧ World.cell? w' ⟨x, 1, none⟩ = some (.int .i64 sb.now) ∧ World.cell? w' ⟨x, 2, none⟩ = some (.int .i64 sb.left) ∧ World.cell? w' ⟨gp, k, none⟩ = some (.string sa.nm)) : Below W15.heap.size W15 w'.drew ∧ World.cell? w'.drew ⟨r, 0, none⟩ = some (.string sa.nm) ∧ World.cell? w'.drew ⟨r, 1, none⟩ = some (.int .i64 sa.now) ∧ World.cell? w'.drew ⟨r, 2, none⟩ = some (.int .i64 sa.left) ∧ World.cell? w'.drew ⟨x, 0, none⟩ = some (.string sb.nm) ∧ World.cell? w'.drew ⟨x, 1, none⟩ = some (.int .i64 sb.now) ∧ World.cell? w'.drew ⟨x, 2, none⟩ = some (.int .i64 sb.left) ∧ World.cell? w'.drew ⟨gp, k, none⟩ = some (.string sa.nm) := ⟨h.1.drew, h.2⟩
theorem s21_up {W15 w' w'' : World} {r x gp k : Nat} {sa sb : St} (hr : r < W15.heap.size) (hx : x < W15.heap.size) (hgp : gp < W15.heap.size) (h : Below W15.heap.size W15 w' ∧ World.cell? w' ⟨r, 0, none⟩ = some (.string sa.nm) ∧ World.cell? w' ⟨r, 1, none⟩ = some (.int .i64 sa.now) ∧ World.cell? w' ⟨r, 2, none⟩ = some (.int .i64 sa.left) ∧ World.cell? w' ⟨x, 0, none⟩ = some (.string sb.nm) ∧ World.cell? w' ⟨x, 1, none⟩ = some (.int .i64 sb.now) ∧ World.cell? w' ⟨x, 2, none⟩ = some (.int .i64 sb.left) ∧ World.cell? w' ⟨gp, k, none⟩ = some (.string sa.nm)) (hb : Below w'.heap.size w' w'') : Below W15.heap.size W15 w'' ∧ World.cell? w'' ⟨r, 0, none⟩ = some (.string sa.nm) ∧ World.cell? w'' ⟨r, 1, none⟩ = some (.int .i64 sa.now) ∧ World.cell? w'' ⟨r, 2, none⟩ = some (.int .i64 sa.left) ∧ World.cell? w'' ⟨x, 0, none⟩ = some (.string sb.nm) ∧ World.cell? w'' ⟨x, 1, none⟩ = some (.int .i64 sb.now) ∧ World.cell? w'' ⟨x, 2, none⟩ = some (.int .i64 sb.left) ∧ World.cell? w'' ⟨gp, k, none⟩ = some (.string sa.nm) := by
  have hz := h.1.size
  obtain ⟨h0, h1, h2, h3, h4, h5, h6, h7⟩ := h
  have hr := Nat.lt_of_lt_of_le hr hz
  have hx := Nat.lt_of_lt_of_le hx hz
  have hgp := Nat.lt_of_lt_of_le hgp hz
  exact ⟨up_trans h0 hb, (hb.cell (p := ⟨r, 0, none⟩) hr).trans h1, (hb.cell (p := ⟨r, 1, none⟩) hr).trans h2, (hb.cell (p := ⟨r, 2, none⟩) hr).trans h3, (hb.cell (p := ⟨x, 0, none⟩) hx).trans h4, (hb.cell (p := ⟨x, 1, none⟩) hx).trans h5, (hb.cell (p := ⟨x, 2, none⟩) hx).trans h6, (hb.cell (p := ⟨gp, k, none⟩) hgp).trans h7⟩

set_option maxRecDepth 100000 in
set_option maxHeartbeats 4000000 in
theorem lawTop_any (a : Option Addr) (n cap : Nat) (w : World) (hE : Ends w) (h : BytesAt w w.heap.size (.slice a n cap) n) (hcap : n ≤ cap) (hbig : cap ≤ maxLen) :
    Calls Tryz.prog 3 #[.slice a n cap] w fun e' w' => e' = .returned (.bool true) ∧ Below w.heap.size w w' := by
  by_cases hn : 1048576 < n
  · go_enter Tryz.func3, Tryz.ntmps3
    go_wp2_with fail
    go_ret
    exact ⟨rfl, Below.refl _ _⟩
  have HE : Hid (Ends w) := hE
  clear hE
  go_enter Tryz.func3, Tryz.ntmps3
  go_wp2_with fail
  refine (drawRun_any a n cap _ h hcap hbig).mono ?_
  rintro e w1 ⟨⟨g, c, ps, g2, c2, ys, rfl, hr, hg, hlc, hc9, hs, h13, hy, hg2, hlc2, hc92, h12⟩, hB⟩
  clear h
  go_wp2_with fail
  refine (recRun_big ps ys g 0 c g2 0 c2 _ (HE.out.up hB) hr hg hy hg2 hs hlc hc9 hlc2 hc92).mono ?_
  rintro e w2 ⟨⟨s, u, path, rfl, hend, hown⟩, hb2⟩
  obtain ⟨au, cu, rfl⟩ := hown.lst.shape
  have hB := up_trans hB hb2; have hr := hr.up hb2 hg; have hg := Nat.lt_of_lt_of_le hg (hb2).size; have hy := hy.up hb2 hg2; have hg2 := Nat.lt_of_lt_of_le hg2 (hb2).size
  clear hb2
  go_upto_region 5 with fail
  obtain ⟨W3, hW3, k5, hb3, hs3⟩ : ∃ W3, w2.alloc (.cells #[.string (s).nm, .int .i64 (s).now, .int .i64 (s).left] 28) = W3 ∧ CB W3 w2.heap.size s.cells ∧ Below w2.heap.size w2 W3 ∧ W3.heap.size = w2.heap.size + 1 := ⟨_, rfl, cb1 w2 s.cells _⟩
  rw [hW3]
  have hB := up_trans hB hb3; have hr := hr.up hb3 hg; have hg := Nat.lt_of_lt_of_le hg (hb3).size; have hy := hy.up hb3 hg2; have hg2 := Nat.lt_of_lt_of_le hg2 (hb3).size
  have hown := hown.up hb3
  clear hW3 hb3 hs3
  go_wp2_with fail
  refine (specRun_any ps ys g 0 c g2 0 c2 _ hr hg hy hg2 hs (by omega) (by omega)).mono ?_
  rintro e w4 ⟨⟨s', u', path', rfl, hend', hown'⟩, hb4⟩
  obtain ⟨rfl, rfl⟩ := hend.uniq hend'
  obtain ⟨av, cv, rfl⟩ := hown'.lst.shape
  have hB := up_trans hB hb4; have hr := hr.up hb4 hg; have hg := Nat.lt_of_lt_of_le hg (hb4).size; have hy := hy.up hb4 hg2; have hg2 := Nat.lt_of_lt_of_le hg2 (hb4).size
  have hown := hown.up hb4
  have k5 := k5.up hb4 k5.2.2
  clear hend' hb4
  go_upto_region 6 with fail
  obtain ⟨W5, hW5, k7, hb5, hs5⟩ : ∃ W5, w4.alloc (.cells #[.string (s).nm, .int .i64 (s).now, .int .i64 (s).left] 28) = W5 ∧ CB W5 w4.heap.size s.cells ∧ Below w4.heap.size w4 W5 ∧ W5.heap.size = w4.heap.size + 1 := ⟨_, rfl, cb1 w4 s.cells _⟩
  rw [hW5]
  have hB := up_trans hB hb5; have hr := hr.up hb5 hg; have hg := Nat.lt_of_lt_of_le hg (hb5).size; have hy := hy.up hb5 hg2; have hg2 := Nat.lt_of_lt_of_le hg2 (hb5).size
  have hown := hown.up hb5
  have hown' := hown'.up hb5
  have k5 := k5.up hb5 k5.2.2
  clear hW5 hb5 hs5
  obtain ⟨q, hq⟩ : ∃ q, w2.heap.size = q := ⟨_, rfl⟩
  rw [hq] at k5 ⊢
  clear hq
  obtain ⟨a0, a1, a2⟩ := st_cells k5
  obtain ⟨b0, b1, b2⟩ := st_cells k7
  go_wp2_with fail
  refine (wrTexts_any path _ _ _ hown.lst hown'.lst (by have := hend.short; omega)).mono ?_
  rintro e w6 ⟨rfl, hb6⟩
  have hB := up_trans hB hb6; have hr := hr.up hb6 hg; have hg := Nat.lt_of_lt_of_le hg (hb6).size; have hy := hy.up hb6 hg2; have hg2 := Nat.lt_of_lt_of_le hg2 (hb6).size
  have hown := hown.up hb6
  have k5 := k5.up hb6 k5.2.2
  clear a0 a1 a2 b0 b1 b2 k7 hb6 hown'
  go_wp2_with fail
  refine (specOk_any ps g 0 c _ hr hg hs (by omega)).mono ?_
  rintro e w7 ⟨rfl, hb7⟩
  have hB := up_trans hB hb7; have hr := hr.up hb7 hg; have hg := Nat.lt_of_lt_of_le hg (hb7).size; have hy := hy.up hb7 hg2; have hg2 := Nat.lt_of_lt_of_le hg2 (hb7).size
  have hown := hown.up hb7
  have k5 := k5.up hb7 k5.2.2
  clear hb7
  cases hok : recB ps
  · rcases hend with ⟨-, rfl, rfl⟩ | ⟨h, _⟩
    · obtain ⟨a0, a1, a2⟩ := st_cells k5
      simp only [St.none, List.length_nil] at a0 a1 a2 ⊢
      go_wp2_with fail
      go_ret
      exact ⟨rfl, hB⟩
    · rw [hok] at h; cases h
  rcases hend with ⟨h, _⟩ | ⟨-, m, hw, hat, hst, hpa⟩
  · rw [hok] at h; cases h
  have hre := run_end hok ys hw hat
  rw [← hst] at hre
  obtain ⟨z0, z1, z2, z3, z4, z5, z6⟩ := hre
  have hbn : (beginS ps).nm = (ps[0]).nm := by rw [begin_yes hok z5]; rfl
  rw [hbn] at z1 z2
  have hpl : path.length = m := by rw [hpa, pathN_length]
  have Hst : Hid (s = stN ps ys m) := hst
  have Hpa : Hid (path = pathN ps ys m) := hpa
  have Hw : Hid (Went ps ys m) := hw
  have Hok : Hid (recB ps = true) := hok
  obtain ⟨gp, cp, hgp⟩ := own_ptr2 hown (by omega)
  obtain ⟨rfl, -, rfl⟩ := Value.slice.inj hgp
  have hP := strs_of_own hown rfl
  have hgpl := (hown.lt gp rfl).2
  have hp0 : path[0]? = some (ps[0]).nm := by
    rw [hpa, ← hbn]
    simp [pathN, z4, stN]
  have Hpl : Hid (path.length = m) := hpl
  rw [hpl]
  clear hst hpa hw hat hgp hpl hown
  have cP := hP 0 _ hp0
  obtain ⟨cR, -⟩ := hr.cells 0 z5
  simp only [Nat.zero_mul, Nat.add_zero] at cP cR
  obtain ⟨snm, snow, sleft⟩ := s
  simp only at z0 z1 z2 z3
  subst z3
  obtain ⟨a0, a1, a2⟩ := st_cells k5
  simp only at a0 a1 a2
  go_wp2_with fail
  refine (recEnd_any _ _ (HE.out.up hB)).mono ?_
  rintro e w' ⟨rfl, hw⟩; obtain rfl := hw.symm; clear hw
  have z7 : (endN snm == 0) = false := by simpa using z0
  have Hen : Hid (endN snm = endN snm) := rfl
  generalize endN snm = en at *
  generalize hnm0 : (ps[0]).nm = nm0 at *
  have hbd0 : boundV ps nm0 = boundV ps nm0 := rfl
  generalize hbd : boundV ps nm0 = bd at *
  have z8 : decide (bd < snow) = false := decide_eq_false (by omega)
  have z9 : ((m : Int) == 0) = false := by simp; omega
  have hS0 : Below w7.heap.size w7 w7 ∧ World.cell? w7 ⟨q, 1, none⟩ = some (.int .i64 snow) ∧ World.cell? w7 ⟨q, 2, none⟩ = some (.int .i64 0) ∧ World.cell? w7 ⟨g, 0, none⟩ = some (.string nm0) ∧ World.cell? w7 ⟨gp, 0, none⟩ = some (.string nm0) := ⟨Below.refl _ _, a1, a2, cR, cP⟩
  have Hr : Hid (RecAt w7 g 0 ps) := hr
  have HE7 : Hid (∀ w', Below w7.heap.size w7 w' → Ends w') := fun w' hb' => HE.out.up (up_trans hB hb')
  have hq7 := k5.2.2
  go_wp2_with fail
  go_region_held (fun w' => Below w7.heap.size w7 w' ∧ World.cell? w' ⟨q, 1, none⟩ = some (.int .i64 snow) ∧ World.cell? w' ⟨q, 2, none⟩ = some (.int .i64 0) ∧ World.cell? w' ⟨g, 0, none⟩ = some (.string nm0) ∧ World.cell? w' ⟨gp, 0, none⟩ = some (.string nm0)) (first | exact s11_drew hS0 | exact s11_up hq7 hg hgpl (by assumption) (by assumption))
    (first
      | (go_at_call 10; refine (recCan_big ps g 0 c nm0 en _ (HE7.out _ (And.left (by assumption))) (Hr.out.up (And.left (by assumption)) hg) (Nat.lt_of_lt_of_le hg (Below.size (And.left (by assumption)))) hs hlc hc9).mono ?_; rintro e wa ⟨rfl, hba⟩; rw [z1])
      | (go_at_call 11; refine (recBound_big ps g 0 c nm0 _ (HE7.out _ (And.left (by assumption))) (Hr.out.up (And.left (by assumption)) hg) (Nat.lt_of_lt_of_le hg (Below.size (And.left (by assumption)))) hs hlc hc9).mono ?_; rintro e wb ⟨rfl, hbb⟩; rw [hbd]))
  rename_i hHeld
  obtain ⟨hU, -, -, -, -⟩ := hHeld
  have hB := up_trans hB hU; have hr := hr.up hU hg; have hg := Nat.lt_of_lt_of_le hg (hU).size; have hy := hy.up hU hg2; have hg2 := Nat.lt_of_lt_of_le hg2 (hU).size
  have k5 := k5.up hU k5.2.2
  have hP : StrsAt _ gp 0 path := strs_up hP hU hgpl
  have hgpl := Nat.lt_of_lt_of_le hgpl hU.size
  clear hU hba hbb hS0 a0 a1 a2 cR cP z7 z8 z9 z1 z2 Hen HE7 Hr hq7 hbd0 hbd hbn hnm0
  go_wp2_with fail
  refine (recBegin_big ps g 0 c _ (HE.out.up hB) hr hg hs hlc hc9).mono ?_
  rintro e w9 ⟨rfl, hb9⟩
  have hB := up_trans hB hb9; have hr := hr.up hb9 hg; have hg := Nat.lt_of_lt_of_le hg (hb9).size; have hy := hy.up hb9 hg2; have hg2 := Nat.lt_of_lt_of_le hg2 (hb9).size
  have k5 := k5.up hb9 k5.2.2
  have hP : StrsAt _ gp 0 path := strs_up hP hb9 hgpl
  have hgpl := Nat.lt_of_lt_of_le hgpl hb9.size
  clear hb9
  go_upto_region 14 with fail
  obtain ⟨W10, hW10, k10, hb10, hs10⟩ : ∃ W10, w9.alloc (.cells #[.string (beginS ps).nm, .int .i64 (beginS ps).now, .int .i64 (beginS ps).left] 28) = W10 ∧ CB W10 w9.heap.size (stN ps ys 0).cells ∧ Below w9.heap.size w9 W10 ∧ W10.heap.size = w9.heap.size + 1 := ⟨_, rfl, cb1 w9 (beginS ps).cells _⟩
  rw [hW10]
  clear hW10 hs10
  obtain ⟨r, hrr⟩ : ∃ r, w9.heap.size = r := ⟨_, rfl⟩
  rw [hrr] at k10 ⊢
  go_wp2_with fail
  go_loopw [11] (fun i w' => ∃ k : Nat, k ≤ m ∧ i = .int .i64 k ∧ CB w' r (stN ps ys k).cells ∧ Below w9.heap.size w9 w') (fun i _ => m - (intOf i).toNat)
  case atStart => exact ⟨0, by omega, rfl, k10, hb10⟩
  case round =>
    clear k10 hb10
    obtain ⟨k, hk, rfl, kA, hBk⟩ := hrel
    by_cases hp : k < m
    · have hpk : path[k]? = some (stN ps ys k).nm := by rw [Hpa.out]; simp [pathN, hp]
      have cP := (strs_up hP hBk hgpl) k _ hpk
      simp only [Nat.zero_add] at cP
      obtain ⟨o1, o2, o3, o4, o5, o6, o7⟩ := run_round Hok.out ys Hw.out hp
      have hrk := hr.up hBk hg
      have hgk := Nat.lt_of_lt_of_le hg hBk.size
      have hyk := hy.up hBk hg2
      have hsay : ∀ hl : k < ys.length, ys[k]?.getD Sy.late = ys[k] := fun hl => by simp [hl]
      have hlate : ¬ k < ys.length → ys[k]?.getD Sy.late = ⟨1001, false⟩ := fun hl => by simp [List.getElem?_eq_none (Nat.le_of_not_lt hl), Sy.late]
      have hrk9 : r < wr.heap.size := kA.2.2
      have hgpk := Nat.lt_of_lt_of_le hgpl hBk.size
      generalize hY : ys[k]?.getD Sy.late = y at *
      have HN : Hid (stN ps ys (k + 1) = stN ps ys (k + 1)) := rfl
      generalize hsa : stN ps ys k = sa at *
      obtain ⟨sb, hsb⟩ : ∃ sb, stN ps ys (k + 1) = sb := ⟨_, rfl⟩
      have Hsb : Hid (stN ps ys (k + 1) = sb) := hsb
      rw [hsb] at o2 o3 o4 o5 o7
      clear hpk hsa hsb HN hY
      go_upto_region 18 with fail
      obtain ⟨W11, hW11, k12, hb11, hs11⟩ : ∃ W11, wr.alloc (.cells #[.int .i64 1001, .bool false] 41) = W11 ∧ CB W11 wr.heap.size [.int .i64 1001, .bool false] ∧ Below wr.heap.size wr W11 ∧ W11.heap.size = wr.heap.size + 1 := ⟨_, rfl, cb1 wr [.int .i64 1001, .bool false] _⟩
      rw [hW11]
      clear hW11 hs11
      obtain ⟨t, ht⟩ : ∃ t, wr.heap.size = t := ⟨_, rfl⟩
      rw [ht] at k12 ⊢
      by_cases hl : k < ys.length
      case' pos =>
        obtain ⟨y0, y1⟩ := (hyk.up hb11 (Nat.lt_of_lt_of_le hg2 hBk.size)).cells k hl
        simp only [Nat.zero_add] at y0 y1
        have hye := hsay hl
        clear hsay hlate
        rw [← hye] at y0 y1
        clear hye
        obtain ⟨⟨d0, d1⟩, f0, f1⟩ := k12.c2
        go_upto_region 20 with fail
        have k13 : CB _ t y.cellsR := k12.copy2 (.int .i64 y.t) (.bool y.well)
        have hb13 : Below wr.heap.size wr _ := below_set2 hb11 (Nat.le_of_eq ht) (.int .i64 y.t) (.bool y.well)
        have kA := kA.up hb13 hrk9
        clear y0 y1 d0 d1 f0 f1 k12 hb11
        generalize (W11.setCell ⟨t, 0, none⟩ (.int .i64 y.t)).setCell ⟨t, 1, none⟩ (.bool y.well) = W13 at *
      case' neg =>
        have hye := hlate hl
        clear hsay hlate
        have k13 : CB W11 t y.cellsR := by rw [hye]; exact k12
        clear hye
        have kA := kA.up hb11 hrk9
        have hb13 := hb11
        clear k12 hb11
        go_upto_region 20 with fail
        generalize W11 = W13 at *
      all_goals
        obtain ⟨a0, a1, a2⟩ := st_cells kA
        obtain ⟨⟨d0, d1⟩, -⟩ := CB.c2 k13
        go_wp2_with fail
        refine (recGo_big ps g 0 c sa y _ (HE.out.up (up_trans hB (up_trans hBk hb13))) (hrk.up hb13 hgk) (Nat.lt_of_lt_of_le hgk hb13.size) hs hlc hc9).mono ?_
        rintro e w14 ⟨rfl, hb14⟩
        rw [o2, o1]
        have kA := kA.up hb14 kA.2.2
        clear a0 a1 a2 d0 d1 k13
        go_upto_region 21 with fail
        obtain ⟨W15, hW15, kX, hb15, hs15⟩ : ∃ W15, w14.alloc (.cells #[.string (sb).nm, .int .i64 (sb).now, .int .i64 (sb).left] 28) = W15 ∧ CB W15 w14.heap.size sb.cells ∧ Below w14.heap.size w14 W15 ∧ W15.heap.size = w14.heap.size + 1 := ⟨_, rfl, cb1 w14 sb.cells _⟩
        rw [hW15]
        clear hW15 hs15
        obtain ⟨x, hx⟩ : ∃ x, w14.heap.size = x := ⟨_, rfl⟩
        rw [hx] at kX ⊢
        have hxr : r < x := by have := kA.2.2; omega
        have kA := kA.up hb15 kA.2.2
        have hbW : Below wr.heap.size wr W15 := up_trans hb13 (up_trans hb14 hb15)
        have cP := (hbW.cell (p := ⟨gp, k, none⟩) hgpk).trans cP
        have hr15 := hrk.up hbW hgk
        have hg15 := Nat.lt_of_lt_of_le hgk hbW.size
        have hgp15 := Nat.lt_of_lt_of_le hgpk hbW.size
        obtain ⟨a0, a1, a2⟩ := st_cells kA
        obtain ⟨x0, x1, x2⟩ := st_cells kX
        have hrl := kA.2.2
        have hxl := kX.2.2
        have hS0 : Below W15.heap.size W15 W15 ∧ World.cell? W15 ⟨r, 0, none⟩ = some (.string sa.nm) ∧ World.cell? W15 ⟨r, 1, none⟩ = some (.int .i64 sa.now) ∧ World.cell? W15 ⟨r, 2, none⟩ = some (.int .i64 sa.left) ∧ World.cell? W15 ⟨x, 0, none⟩ = some (.string sb.nm) ∧ World.cell? W15 ⟨x, 1, none⟩ = some (.int .i64 sb.now) ∧ World.cell? W15 ⟨x, 2, none⟩ = some (.int .i64 sb.left) ∧ World.cell? W15 ⟨gp, k, none⟩ = some (.string sa.nm) := ⟨Below.refl _ _, a0, a1, a2, x0, x1, x2, cP⟩
        have p1 : decide (sb.now < sa.now) = false := decide_eq_false (by omega)
        have p2 : decide (sa.now + sa.left < sb.now + sb.left) = false := decide_eq_false (by omega)
        have pw1 : IntKind.i64.wrap (sb.now + sb.left) = sb.now + sb.left := by rw [IntKind.wrap_i64]; omega
        have pw2 : IntKind.i64.wrap (sa.now + sa.left) = sa.now + sa.left := by rw [IntKind.wrap_i64]; omega
        have Hr : Hid (RecAt W15 g 0 ps) := hr15
        have HE15 : Hid (∀ w', Below W15.heap.size W15 w' → Ends w') := fun w' hb' => HE.out.up (up_trans hB (up_trans hBk (up_trans hbW hb')))
        have Hsl : Hid (allB2 (slotsV ps sb.nm) (slotsV ps sa.nm) = true) := o5
        have l1 := slotsV_len ps sb.nm h13
        have l2 := slotsV_len ps sa.nm h13
        have Ho : Hid (sb.now + sb.left ≤ sa.now + sa.left) := o4
        clear a0 a1 a2 x0 x1 x2 cP o5 o4 o3 o1 o2 hr15
        go_wp2_with fail
        go_region_held (fun w' => Below W15.heap.size W15 w' ∧ World.cell? w' ⟨r, 0, none⟩ = some (.string sa.nm) ∧ World.cell? w' ⟨r, 1, none⟩ = some (.int .i64 sa.now) ∧ World.cell? w' ⟨r, 2, none⟩ = some (.int .i64 sa.left) ∧ World.cell? w' ⟨x, 0, none⟩ = some (.string sb.nm) ∧ World.cell? w' ⟨x, 1, none⟩ = some (.int .i64 sb.now) ∧ World.cell? w' ⟨x, 2, none⟩ = some (.int .i64 sb.left) ∧ World.cell? w' ⟨gp, k, none⟩ = some (.string sa.nm)) (first | assumption | exact s21_drew hS0 | exact s21_up hrl hxl hgp15 (by assumption) (by assumption))
          (first
            | (go_at_call_of 15 (Value.string sb.nm); refine (recSlots_big ps g 0 c sb.nm _ (HE15.out _ (And.left (by assumption))) (Hr.out.up (And.left (by assumption)) hg15) (Nat.lt_of_lt_of_le hg15 (Below.size (And.left (by assumption)))) hs hlc hc9).mono ?_; rintro e wa ⟨⟨u1, rfl, hO1⟩, hba⟩)
            | (go_at_call_of 15 (Value.string sa.nm); refine (recSlots_big ps g 0 c sa.nm _ (HE15.out _ (And.left (by assumption))) (Hr.out.up (And.left (by assumption)) hg15) (Nat.lt_of_lt_of_le hg15 (Below.size (And.left (by assumption)))) hs hlc hc9).mono ?_; rintro e wb ⟨⟨u2, rfl, hO2⟩, hbb⟩)
            | (go_at_call 14; first
                | (refine (wrAll_any _ _ u1 u2 _ (hO1.up hbb).lst hO2.lst l1 l2 Hsl.out).mono ?_; rintro e wc ⟨rfl, hwc⟩; obtain rfl := hwc.symm; clear hwc)
                | (refine (wrAll_any _ _ u1 u2 _ hO1.lst (hO2.up hba).lst l1 l2 Hsl.out).mono ?_; rintro e wc ⟨rfl, hwc⟩; obtain rfl := hwc.symm; clear hwc)))
        rename_i hHeld
        obtain ⟨hU, -, -, -, -, -, -, -⟩ := hHeld
        have kA := kA.up hU hrl
        have kX := kX.up hU hxl
        have hBe := up_trans hBk (up_trans hbW hU)
        clear hU hS0 hO1 hO2 hba hbb p1 p2 pw1 pw2 HE15 Hr Hsl l1 l2 Ho
        obtain ⟨⟨a0, a1, a2⟩, e0, e1, e2⟩ := CB.c3 kA
        obtain ⟨x0, x1, x2⟩ := st_cells kX
        go_wp2_with fail
        go_roundw
        case rel => exact ⟨k + 1, by omega, by go_num, by rw [Hsb.out]; exact kA.copy3 _ _ _, below_set3 hBe (Nat.le_of_eq hrr) _ _ _⟩
        case measure => simp [intOf]; omega
    · obtain rfl : k = m := by omega
      have k5 := k5.up hBk k5.2.2
      have hB := up_trans hB hBk
      rw [← Hst.out] at kA
      obtain ⟨a0, a1, a2⟩ := st_cells kA
      obtain ⟨b0, b1, b2⟩ := st_cells k5
      go_wp2_with fail
      go_ret
      exact ⟨rfl, hB⟩
end Go.Proofs.YtcofjoacehacjaaGreatDoor
