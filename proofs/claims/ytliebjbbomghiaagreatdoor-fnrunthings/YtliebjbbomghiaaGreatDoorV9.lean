/- The specification's shares of a house (chapter 22). -/
import Derived.Test.YtliebjbbomghiaaGreatDoorJ33
import Derived.Test.YtliebjbbomghiaaGreatDoorJ26
import Derived.Test.YtliebjbbomghiaaGreatDoorJ20
import Derived.Deep.Cut
namespace Go.Proofs.YtliebjbbomghiaaGreatDoor
open Go.RowKit

theorem n14_drew {W w0 : World} {q r z o1 o2 : Nat} {x0 x1 x2 x3 x4 x5 x6 x7 x8 x9 x10 x11 x12 x13 : Value} (h : Below W.heap.size W w0 ∧ w0.cell? ⟨q, 0, none⟩ = some x0 ∧ w0.cell? ⟨q, 1, none⟩ = some x1 ∧ w0.cell? ⟨q, 2, none⟩ = some x2 ∧ w0.cell? ⟨q, 3, none⟩ = some x3 ∧ w0.cell? ⟨q, 4, none⟩ = some x4 ∧ w0.cell? ⟨q, 5, none⟩ = some x5 ∧ w0.cell? ⟨r, 0, none⟩ = some x6 ∧ w0.cell? ⟨r, 1, none⟩ = some x7 ∧ w0.cell? ⟨r, 2, none⟩ = some x8 ∧ w0.cell? ⟨r, 3, none⟩ = some x9 ∧ w0.cell? ⟨r, 4, none⟩ = some x10 ∧ w0.cell? ⟨r, 5, none⟩ = some x11 ∧ w0.cell? ⟨z, o1, none⟩ = some x12 ∧ w0.cell? ⟨z, o2, none⟩ = some x13) : Below W.heap.size W w0.drew ∧ w0.drew.cell? ⟨q, 0, none⟩ = some x0 ∧ w0.drew.cell? ⟨q, 1, none⟩ = some x1 ∧ w0.drew.cell? ⟨q, 2, none⟩ = some x2 ∧ w0.drew.cell? ⟨q, 3, none⟩ = some x3 ∧ w0.drew.cell? ⟨q, 4, none⟩ = some x4 ∧ w0.drew.cell? ⟨q, 5, none⟩ = some x5 ∧ w0.drew.cell? ⟨r, 0, none⟩ = some x6 ∧ w0.drew.cell? ⟨r, 1, none⟩ = some x7 ∧ w0.drew.cell? ⟨r, 2, none⟩ = some x8 ∧ w0.drew.cell? ⟨r, 3, none⟩ = some x9 ∧ w0.drew.cell? ⟨r, 4, none⟩ = some x10 ∧ w0.drew.cell? ⟨r, 5, none⟩ = some x11 ∧ w0.drew.cell? ⟨z, o1, none⟩ = some x12 ∧ w0.drew.cell? ⟨z, o2, none⟩ = some x13 :=
  ⟨h.1.drew, h.2⟩
theorem n14_up {W w0 w1 : World} {q r z o1 o2 : Nat} {x0 x1 x2 x3 x4 x5 x6 x7 x8 x9 x10 x11 x12 x13 : Value} (hq : q < W.heap.size) (hr : r < W.heap.size) (hz : z < W.heap.size) (h : Below W.heap.size W w0 ∧ w0.cell? ⟨q, 0, none⟩ = some x0 ∧ w0.cell? ⟨q, 1, none⟩ = some x1 ∧ w0.cell? ⟨q, 2, none⟩ = some x2 ∧ w0.cell? ⟨q, 3, none⟩ = some x3 ∧ w0.cell? ⟨q, 4, none⟩ = some x4 ∧ w0.cell? ⟨q, 5, none⟩ = some x5 ∧ w0.cell? ⟨r, 0, none⟩ = some x6 ∧ w0.cell? ⟨r, 1, none⟩ = some x7 ∧ w0.cell? ⟨r, 2, none⟩ = some x8 ∧ w0.cell? ⟨r, 3, none⟩ = some x9 ∧ w0.cell? ⟨r, 4, none⟩ = some x10 ∧ w0.cell? ⟨r, 5, none⟩ = some x11 ∧ w0.cell? ⟨z, o1, none⟩ = some x12 ∧ w0.cell? ⟨z, o2, none⟩ = some x13) (hB : Below w0.heap.size w0 w1) : Below W.heap.size W w1 ∧ w1.cell? ⟨q, 0, none⟩ = some x0 ∧ w1.cell? ⟨q, 1, none⟩ = some x1 ∧ w1.cell? ⟨q, 2, none⟩ = some x2 ∧ w1.cell? ⟨q, 3, none⟩ = some x3 ∧ w1.cell? ⟨q, 4, none⟩ = some x4 ∧ w1.cell? ⟨q, 5, none⟩ = some x5 ∧ w1.cell? ⟨r, 0, none⟩ = some x6 ∧ w1.cell? ⟨r, 1, none⟩ = some x7 ∧ w1.cell? ⟨r, 2, none⟩ = some x8 ∧ w1.cell? ⟨r, 3, none⟩ = some x9 ∧ w1.cell? ⟨r, 4, none⟩ = some x10 ∧ w1.cell? ⟨r, 5, none⟩ = some x11 ∧ w1.cell? ⟨z, o1, none⟩ = some x12 ∧ w1.cell? ⟨z, o2, none⟩ = some x13 := by
  obtain ⟨h0, a0, a1, a2, a3, a4, a5, a6, a7, a8, a9, a10, a11, a12, a13⟩ := h
  have lq : q < w0.heap.size := Nat.lt_of_lt_of_le hq h0.size
  have lr : r < w0.heap.size := Nat.lt_of_lt_of_le hr h0.size
  have lz : z < w0.heap.size := Nat.lt_of_lt_of_le hz h0.size
  exact ⟨up_trans h0 hB, (hB.cell (p := ⟨q, 0, none⟩) lq).trans a0, (hB.cell (p := ⟨q, 1, none⟩) lq).trans a1, (hB.cell (p := ⟨q, 2, none⟩) lq).trans a2, (hB.cell (p := ⟨q, 3, none⟩) lq).trans a3, (hB.cell (p := ⟨q, 4, none⟩) lq).trans a4, (hB.cell (p := ⟨q, 5, none⟩) lq).trans a5, (hB.cell (p := ⟨r, 0, none⟩) lr).trans a6, (hB.cell (p := ⟨r, 1, none⟩) lr).trans a7, (hB.cell (p := ⟨r, 2, none⟩) lr).trans a8, (hB.cell (p := ⟨r, 3, none⟩) lr).trans a9, (hB.cell (p := ⟨r, 4, none⟩) lr).trans a10, (hB.cell (p := ⟨r, 5, none⟩) lr).trans a11, (hB.cell (p := ⟨z, o1, none⟩) lz).trans a12, (hB.cell (p := ⟨z, o2, none⟩) lz).trans a13⟩
/-- What the specification asks of the book's batches. -/
def ShareAt (h : House) (b : Rb) : Prop := b.nm ∈ nms h.sh.bs ∧ (shOf h.sh b.nm).needs = rbThings b b.ad ∧ (0 ≤ b.si → Part (rbOwn b) (shOf h.sh b.nm).has)
def ShareTo (h : House) (k : Nat) : Prop := ∀ (i : Nat) (b : Rb), i < k → h.bs[i]? = some b → ShareAt h b
def SharesOk (h : House) : Prop := h.sh.bs.length = h.bs.length ∧ ShareTo h h.bs.length
set_option maxRecDepth 20000 in
set_option maxHeartbeats 8000000 in
theorem sharesS_any (h : House) (tv bv xv dv : Value) (w : World) (H : HV w h tv bv xv dv) (hok : BookOk h.sh) :
    Calls Tryz.prog 122 #[.agg #[.int .i64 h.now, .int .i64 h.last, tv, bv, xv, dv]] w fun e w' => e = .returned (.bool (pB (SharesOk h))) ∧ Below w.heap.size w w' := by
  obtain ⟨a1, c1, a2, c2, a3, c3, a4, c4, rfl, rfl, rfl, rfl⟩ := H.shapes
  obtain ⟨hmax, hpos⟩ := H.x.inv rfl
  unfold maxLen at hmax
  have HK := H.book
  have hbp : 0 < h.sh.bs.length → ∃ b o, a2 = some ⟨b, o, none⟩ ∧ BsAt w b o h.sh.bs ∧ b < w.heap.size := by
    obtain ⟨a', c', e', -, hp⟩ := H.b
    simp only [Value.slice.injEq] at e'
    obtain ⟨rfl, -, -⟩ := e'
    exact hp
  clear H
  have Hok : Hid (BookOk h.sh) := hok
  clear hok
  have hB0 := (Below.refl w.heap.size w).alloc (Nat.le_refl _) (.cells #[.int .i64 h.now, .int .i64 h.last, .slice a1 h.sh.things.length c1, .slice a2 h.sh.bs.length c2, .slice a3 h.bs.length c3, .slice a4 h.ds.length c4] 99)
  have hC : CB (w.alloc (.cells #[.int .i64 h.now, .int .i64 h.last, .slice a1 h.sh.things.length c1, .slice a2 h.sh.bs.length c2, .slice a3 h.bs.length c3, .slice a4 h.ds.length c4] 99)) w.heap.size [.int .i64 h.now, .int .i64 h.last, .slice a1 h.sh.things.length c1, .slice a2 h.sh.bs.length c2, .slice a3 h.bs.length c3, .slice a4 h.ds.length c4] := cb_alloc w _ _
  go_enter Tryz.func122, Tryz.ntmps122
  go_upto_region 1 with fail
  generalize w.alloc (.cells #[.int .i64 h.now, .int .i64 h.last, .slice a1 h.sh.things.length c1, .slice a2 h.sh.bs.length c2, .slice a3 h.bs.length c3, .slice a4 h.ds.length c4] 99) = W1 at *
  have hlt := hC.2.2
  obtain ⟨d0, d1, d2, d3, d4, d5⟩ := hC.c6
  by_cases hll : h.sh.bs.length = h.bs.length
  case neg =>
    have HN : Hid (pB (SharesOk h) = false) := pB_no fun t => hll t.1
    go_wp2_with fail
    go_ret
    exact ⟨ret_bool HN.out.symm, hB0⟩
  have Hll : Hid (h.sh.bs.length = h.bs.length) := hll
  go_upto_region 3 with fail
  clear hll
  go_wp2_with fail
  go_loopw [3, 4, 5] (fun i _ _ w' => ∃ k : Nat, k ≤ h.bs.length ∧ i = .int .i64 k ∧ ShareTo h k ∧ Below W1.heap.size W1 w') (fun i _ _ _ => h.bs.length - (intOf i).toNat)
  case atStart => exact ⟨0, by omega, rfl, fun i b hi => by omega, Below.refl _ _⟩
  case round =>
    obtain ⟨k, hk, rfl, hinv, hB⟩ := hrel
    have HI : Hid (ShareTo h k) := hinv
    clear hinv d0 d1 d2 d3 d4 d5
    obtain ⟨d0, d1, d2, d3, d4, d5⟩ := (hC.up hB hlt).c6
    by_cases hp : k < h.bs.length
    · obtain ⟨b, o, ha3, hS, hb⟩ := hpos (by omega)
      subst ha3
      have hB01 := up_trans hB0 hB
      obtain ⟨p, q, c, g, r, d, ⟨e0, e1, e2, e3, e4, e5⟩, hv⟩ := ((hS.at hp).up hB01 hb).open
      have NO : Hid (¬ ShareAt h h.bs[k] → pB (SharesOk h) = false) := fun hn => pB_no fun t => hn (t.2 k _ hp (List.getElem?_eq_getElem hp))
      have YES : Hid (ShareAt h h.bs[k] → ShareTo h (k + 1)) := fun hy => to_step (P := fun _ (b : Rb) => ShareAt h b) HI.out hp hy
      generalize h.bs[k] = x0 at *
      clear hS
      have hB1 := hB.alloc hB.size (.cells #[.string x0.nm, .slice (some ⟨p, q, none⟩) x0.ps.length c, .slice (some ⟨g, r, none⟩) x0.sl.length d, .string x0.ad, .int .i64 x0.si, .int .i64 x0.st] 26)
      have hX : CB (wr.alloc (.cells #[.string x0.nm, .slice (some ⟨p, q, none⟩) x0.ps.length c, .slice (some ⟨g, r, none⟩) x0.sl.length d, .string x0.ad, .int .i64 x0.si, .int .i64 x0.st] 26)) wr.heap.size [.string x0.nm, .slice (some ⟨p, q, none⟩) x0.ps.length c, .slice (some ⟨g, r, none⟩) x0.sl.length d, .string x0.ad, .int .i64 x0.si, .int .i64 x0.st] := cb_alloc wr _ _
      have hv2 := hv.up ((Below.refl wr.heap.size wr).alloc (Nat.le_refl _) (.cells #[.string x0.nm, .slice (some ⟨p, q, none⟩) x0.ps.length c, .slice (some ⟨g, r, none⟩) x0.sl.length d, .string x0.ad, .int .i64 x0.si, .int .i64 x0.st] 26))
      go_upto_region 7 with fail
      generalize wr.alloc (.cells #[.string x0.nm, .slice (some ⟨p, q, none⟩) x0.ps.length c, .slice (some ⟨g, r, none⟩) x0.sl.length d, .string x0.ad, .int .i64 x0.si, .int .i64 x0.st] 26) = W0 at *
      clear d0 d1 d2 d3 d4 d5 e0 e1 e2 e3 e4 e5
      obtain ⟨f0, f1, f2, f3, f4, f5⟩ := hX.c6
      obtain ⟨d0, d1, d2, d3, d4, d5⟩ := (hC.up hB1 hlt).c6
      have hB00 := up_trans hB0 hB1
      cases hm : memS (nms h.sh.bs) x0.nm
      · have HN : Hid (pB (SharesOk h) = false) := NO.out fun t => by rw [(memS_iff _ _).2 t.1] at hm; cases hm
        have hat := at11_any h.sh _ x0.nm W0 (HK.up hB00)
        rw [idxI_none hm] at hat
        go_upto_region 8 with (go_at_call 124; refine hat.mono ?_; rintro e w3 ⟨rfl, hb3⟩)
        have hB03 := up_trans hB00 hb3
        clear f0 f1 f2 f3 f4 f5 d0 d1 d2 d3 d4 d5
        go_wp2_with fail
        go_quiet (fail)
        go_wp2_with fail
        go_ret
        exact ⟨ret_bool HN.out.symm, below_drewN hB03 _⟩
      · have hmem : x0.nm ∈ nms h.sh.bs := (memS_iff _ _).1 hm
        obtain ⟨m, hml, hmn⟩ := mem_at hmem
        have hsh := shOf_at Hok.out.2.2.2.1 hml hmn
        have hix : idxI (nms h.sh.bs) x0.nm = (m : Int) := idxI_found (by rw [nms_length]; exact hml) (by
          rw [memS_no]
          intro hin
          obtain ⟨j, hj, e⟩ := List.mem_take_iff_getElem.1 hin
          have := asc_ne Hok.out.2.2.2.1 (List.getElem?_eq_getElem (by omega)) (show (nms h.sh.bs)[m]? = some ((nms h.sh.bs)[j]'(by omega)) by
            rw [List.getElem?_eq_getElem (by rw [nms_length]; exact hml), nms_get _ _ hml, hmn, e])
          omega) (by rw [nms_get _ _ hml, hmn]; simp)
        have hat := at11_any h.sh _ x0.nm W0 (HK.up hB00)
        rw [hix] at hat
        have hm5 : h.sh.bs.length ≤ 5 := Hok.out.2.1
        obtain ⟨bb, oo, ha2, hSb, hbb⟩ := hbp (by omega)
        subst ha2
        go_upto_region 8 with (go_at_call 124; refine hat.mono ?_; rintro e W2 ⟨rfl, hb3⟩)
        have hB02 := up_trans hB00 hb3
        have hB12 := up_trans hB1 hb3
        have hv3 := hv2.up hb3
        have hX2 := hX.up hb3 hX.2.2
        have hXlt := hX2.2.2
        have hqlt : w.heap.size < W2.heap.size := Nat.lt_of_lt_of_le hlt hB12.size
        have hzlt : bb < W2.heap.size := Nat.lt_of_lt_of_le hbb hB02.size
        clear f0 f1 f2 f3 f4 f5 d0 d1 d2 d3 d4 d5
        obtain ⟨f0, f1, f2, f3, f4, f5⟩ := hX2.c6
        obtain ⟨d0, d1, d2, d3, d4, d5⟩ := (hC.up hB12 hlt).c6
        have HAT : Hid (ShareAt h x0 ↔ (h.sh.bs[m]).needs = rbThings x0 x0.ad ∧ (0 ≤ x0.si → Part (rbOwn x0) (h.sh.bs[m]).has)) := by
          show _ ↔ _
          unfold ShareAt
          rw [hsh]
          exact ⟨fun t => t.2, fun t => ⟨hmem, t⟩⟩
        obtain ⟨ah, dh, an, dn, s0, s1, s2, hLh0, hLn0, -⟩ := ((hSb.at hml).up hB02 hbb).cells
        have hLn := hLn0
        have hLh := hLh0
        have Hsz : Hid (∀ s ∈ rbThings x0 x0.ad, s.size ≤ maxLen) := rbThings_sized hv3 x0.ad
        have Hsz2 : Hid (∀ s ∈ rbOwn x0, s.size ≤ maxLen) := rbOwn_sized hv3
        have hvd := hv3.up (Below.refl _ _).drew
        clear hmem hmn hsh hix hat hm hSb hv2 hLh0 hLn0 hX2
        generalize h.sh.bs[m] = y at *
        have hS0 : Below W2.heap.size W2 W2 ∧ W2.cell? ⟨w.heap.size, 0, none⟩ = some (.int .i64 h.now) ∧ W2.cell? ⟨w.heap.size, 1, none⟩ = some (.int .i64 h.last) ∧ W2.cell? ⟨w.heap.size, 2, none⟩ = some (.slice a1 h.sh.things.length c1) ∧ W2.cell? ⟨w.heap.size, 3, none⟩ = some (.slice (some ⟨bb, oo, none⟩) h.sh.bs.length c2) ∧ W2.cell? ⟨w.heap.size, 4, none⟩ = some (.slice (some ⟨b, o, none⟩) h.bs.length c3) ∧ W2.cell? ⟨w.heap.size, 5, none⟩ = some (.slice a4 h.ds.length c4) ∧ W2.cell? ⟨wr.heap.size, 0, none⟩ = some (.string x0.nm) ∧ W2.cell? ⟨wr.heap.size, 1, none⟩ = some (.slice (some ⟨p, q, none⟩) x0.ps.length c) ∧ W2.cell? ⟨wr.heap.size, 2, none⟩ = some (.slice (some ⟨g, r, none⟩) x0.sl.length d) ∧ W2.cell? ⟨wr.heap.size, 3, none⟩ = some (.string x0.ad) ∧ W2.cell? ⟨wr.heap.size, 4, none⟩ = some (.int .i64 x0.si) ∧ W2.cell? ⟨wr.heap.size, 5, none⟩ = some (.int .i64 x0.st) ∧ World.cell? W2 ⟨bb, oo + m * 3 + 1, none⟩ = some (.slice ah y.has.length dh) ∧ World.cell? W2 ⟨bb, oo + m * 3 + 2, none⟩ = some (.slice an y.needs.length dn) := ⟨Below.refl _ _, d0, d1, d2, d3, d4, d5, f0, f1, f2, f3, f4, f5, s1, s2⟩
        clear f0 f1 f2 f3 f4 f5 d0 d1 d2 d3 d4 d5 s0 s1 s2
        have hS1 : Below W2.heap.size W2 W2.drew ∧ W2.drew.cell? ⟨w.heap.size, 0, none⟩ = some (.int .i64 h.now) ∧ W2.drew.cell? ⟨w.heap.size, 1, none⟩ = some (.int .i64 h.last) ∧ W2.drew.cell? ⟨w.heap.size, 2, none⟩ = some (.slice a1 h.sh.things.length c1) ∧ W2.drew.cell? ⟨w.heap.size, 3, none⟩ = some (.slice (some ⟨bb, oo, none⟩) h.sh.bs.length c2) ∧ W2.drew.cell? ⟨w.heap.size, 4, none⟩ = some (.slice (some ⟨b, o, none⟩) h.bs.length c3) ∧ W2.drew.cell? ⟨w.heap.size, 5, none⟩ = some (.slice a4 h.ds.length c4) ∧ W2.drew.cell? ⟨wr.heap.size, 0, none⟩ = some (.string x0.nm) ∧ W2.drew.cell? ⟨wr.heap.size, 1, none⟩ = some (.slice (some ⟨p, q, none⟩) x0.ps.length c) ∧ W2.drew.cell? ⟨wr.heap.size, 2, none⟩ = some (.slice (some ⟨g, r, none⟩) x0.sl.length d) ∧ W2.drew.cell? ⟨wr.heap.size, 3, none⟩ = some (.string x0.ad) ∧ W2.drew.cell? ⟨wr.heap.size, 4, none⟩ = some (.int .i64 x0.si) ∧ W2.drew.cell? ⟨wr.heap.size, 5, none⟩ = some (.int .i64 x0.st) ∧ World.cell? W2.drew ⟨bb, oo + m * 3 + 1, none⟩ = some (.slice ah y.has.length dh) ∧ World.cell? W2.drew ⟨bb, oo + m * 3 + 2, none⟩ = some (.slice an y.needs.length dn) := n14_drew hS0
        go_cut [65] (fun v65 wc => ∃ cb : Bool, v65 = .bool cb ∧ (cb = true → ¬ ShareAt h x0) ∧ (cb = false → ShareAt h x0) ∧ Below W2.heap.size W2 wc)
        case first =>
          clear NO YES HI
          cases hq : pB (y.needs = rbThings x0 x0.ad)
          · have HN : Hid (¬ ShareAt h x0) := fun t => pB_not.1 hq (HAT.out.1 t).1
            clear hS0
            refine wp_region_x 99 (fun w' => Below W2.heap.size W2 w' ∧ w'.cell? ⟨w.heap.size, 0, none⟩ = some (.int .i64 h.now) ∧ w'.cell? ⟨w.heap.size, 1, none⟩ = some (.int .i64 h.last) ∧ w'.cell? ⟨w.heap.size, 2, none⟩ = some (.slice a1 h.sh.things.length c1) ∧ w'.cell? ⟨w.heap.size, 3, none⟩ = some (.slice (some ⟨bb, oo, none⟩) h.sh.bs.length c2) ∧ w'.cell? ⟨w.heap.size, 4, none⟩ = some (.slice (some ⟨b, o, none⟩) h.bs.length c3) ∧ w'.cell? ⟨w.heap.size, 5, none⟩ = some (.slice a4 h.ds.length c4) ∧ w'.cell? ⟨wr.heap.size, 0, none⟩ = some (.string x0.nm) ∧ w'.cell? ⟨wr.heap.size, 1, none⟩ = some (.slice (some ⟨p, q, none⟩) x0.ps.length c) ∧ w'.cell? ⟨wr.heap.size, 2, none⟩ = some (.slice (some ⟨g, r, none⟩) x0.sl.length d) ∧ w'.cell? ⟨wr.heap.size, 3, none⟩ = some (.string x0.ad) ∧ w'.cell? ⟨wr.heap.size, 4, none⟩ = some (.int .i64 x0.si) ∧ w'.cell? ⟨wr.heap.size, 5, none⟩ = some (.int .i64 x0.st) ∧ World.cell? w' ⟨bb, oo + m * 3 + 1, none⟩ = some (.slice ah y.has.length dh) ∧ World.cell? w' ⟨bb, oo + m * 3 + 2, none⟩ = some (.slice an y.needs.length dn)) (by kernel_rfl) ?_
            refine tkx 0 rfl hS1 ?_
            refine tkx 1 rfl hS1 ?_
            refine tkx 2 rfl hS1 ?_
            refine tkx 3 rfl hS1 ?_
            refine tkx 4 rfl hS1 ?_
            refine tkx 5 rfl hS1 ?_
            refine tkx 6 rfl hS1 ?_
            refine tkx 7 rfl hS1 ?_
            refine tkx 8 rfl hS1 ?_
            refine tkx 9 rfl hS1 ?_
            refine tkx 10 rfl hS1 ?_
            refine tkx 11 rfl hS1 ?_
            refine tkx 12 rfl hS1 ?_
            refine anyX_one (i := 13) (by kernel_rfl) rfl (fun K hK => ?_)
            go_simp
            go_wp2_with (go_at_call 7; refine (thingsS_any x0 _ _ x0.ad _ hvd).mono ?_; rintro e w4 ⟨⟨u4, rfl, hT4⟩, hb4⟩)
            have hS2 : Below W2.heap.size W2 w4 ∧ w4.cell? ⟨w.heap.size, 0, none⟩ = some (.int .i64 h.now) ∧ w4.cell? ⟨w.heap.size, 1, none⟩ = some (.int .i64 h.last) ∧ w4.cell? ⟨w.heap.size, 2, none⟩ = some (.slice a1 h.sh.things.length c1) ∧ w4.cell? ⟨w.heap.size, 3, none⟩ = some (.slice (some ⟨bb, oo, none⟩) h.sh.bs.length c2) ∧ w4.cell? ⟨w.heap.size, 4, none⟩ = some (.slice (some ⟨b, o, none⟩) h.bs.length c3) ∧ w4.cell? ⟨w.heap.size, 5, none⟩ = some (.slice a4 h.ds.length c4) ∧ w4.cell? ⟨wr.heap.size, 0, none⟩ = some (.string x0.nm) ∧ w4.cell? ⟨wr.heap.size, 1, none⟩ = some (.slice (some ⟨p, q, none⟩) x0.ps.length c) ∧ w4.cell? ⟨wr.heap.size, 2, none⟩ = some (.slice (some ⟨g, r, none⟩) x0.sl.length d) ∧ w4.cell? ⟨wr.heap.size, 3, none⟩ = some (.string x0.ad) ∧ w4.cell? ⟨wr.heap.size, 4, none⟩ = some (.int .i64 x0.si) ∧ w4.cell? ⟨wr.heap.size, 5, none⟩ = some (.int .i64 x0.st) ∧ World.cell? w4 ⟨bb, oo + m * 3 + 1, none⟩ = some (.slice ah y.has.length dh) ∧ World.cell? w4 ⟨bb, oo + m * 3 + 2, none⟩ = some (.slice an y.needs.length dn) := n14_up hqlt hXlt hzlt hS1 hb4
            have hL4 := (hLn.up (Below.refl _ _).drew).up hb4
            obtain ⟨gu, cu, hu4, -⟩ := id hT4
            subst hu4
            refine hK.out _ _ (fun _ => hS2) ?_; clear hK K
            refine anyX_one (i := 14) (by kernel_rfl) rfl (fun K hK => ?_)
            go_simp
            go_wp2_with (go_at_call 129; refine (alikeS_any _ _ _ _ _ hL4 ((Lst.ls (.inr hT4)) Hsz.out)).mono ?_; rw [hq]; rintro e w5 ⟨rfl, hb5⟩)
            have hS3 : Below W2.heap.size W2 w5 ∧ w5.cell? ⟨w.heap.size, 0, none⟩ = some (.int .i64 h.now) ∧ w5.cell? ⟨w.heap.size, 1, none⟩ = some (.int .i64 h.last) ∧ w5.cell? ⟨w.heap.size, 2, none⟩ = some (.slice a1 h.sh.things.length c1) ∧ w5.cell? ⟨w.heap.size, 3, none⟩ = some (.slice (some ⟨bb, oo, none⟩) h.sh.bs.length c2) ∧ w5.cell? ⟨w.heap.size, 4, none⟩ = some (.slice (some ⟨b, o, none⟩) h.bs.length c3) ∧ w5.cell? ⟨w.heap.size, 5, none⟩ = some (.slice a4 h.ds.length c4) ∧ w5.cell? ⟨wr.heap.size, 0, none⟩ = some (.string x0.nm) ∧ w5.cell? ⟨wr.heap.size, 1, none⟩ = some (.slice (some ⟨p, q, none⟩) x0.ps.length c) ∧ w5.cell? ⟨wr.heap.size, 2, none⟩ = some (.slice (some ⟨g, r, none⟩) x0.sl.length d) ∧ w5.cell? ⟨wr.heap.size, 3, none⟩ = some (.string x0.ad) ∧ w5.cell? ⟨wr.heap.size, 4, none⟩ = some (.int .i64 x0.si) ∧ w5.cell? ⟨wr.heap.size, 5, none⟩ = some (.int .i64 x0.st) ∧ World.cell? w5 ⟨bb, oo + m * 3 + 1, none⟩ = some (.slice ah y.has.length dh) ∧ World.cell? w5 ⟨bb, oo + m * 3 + 2, none⟩ = some (.slice an y.needs.length dn) := n14_up hqlt hXlt hzlt hS2 hb5
            refine hK.out _ _ (fun _ => hS3) ?_; clear hK K
            refine tkx 15 rfl hS3 ?_
            refine tkx 16 rfl hS3 ?_
            refine tkx 17 rfl hS3 ?_
            refine skx 18 rfl hS3 ?_
            refine skx 19 rfl hS3 ?_
            refine skx 20 rfl hS3 ?_
            refine skx 21 rfl hS3 ?_
            refine skx 22 rfl hS3 ?_
            refine skx 23 rfl hS3 ?_
            refine skx 24 rfl hS3 ?_
            refine skx 25 rfl hS3 ?_
            refine skx 26 rfl hS3 ?_
            refine skx 27 rfl hS3 ?_
            refine skx 28 rfl hS3 ?_
            refine skx 29 rfl hS3 ?_
            refine skx 30 rfl hS3 ?_
            refine skx 31 rfl hS3 ?_
            refine skx 32 rfl hS3 ?_
            refine skx 33 rfl hS3 ?_
            refine anyX_one (i := 34) (by kernel_rfl) rfl (fun K hK => ?_)
            go_simp
            refine hK.out _ _ (fun _ => hS3) ?_
            clear hK K
            refine anyX_done (by kernel_rfl) ?_ _
            have hB5 := hS3.1
            clear hS1 hS2 hS3
            go_wp2_with fail
            go_meet
            case rel => exact ⟨true, rfl, fun _ => HN.out, (fun e => by cases e), hB5⟩
          · by_cases hsi : 0 ≤ x0.si
            case neg =>
              have HY : Hid (ShareAt h x0) := HAT.out.2 ⟨pB_iff.1 hq, fun t => absurd t hsi⟩
              have hsd : decide (0 ≤ x0.si) = false := by simpa using hsi
              clear hS0
              refine wp_region_x 99 (fun w' => Below W2.heap.size W2 w' ∧ w'.cell? ⟨w.heap.size, 0, none⟩ = some (.int .i64 h.now) ∧ w'.cell? ⟨w.heap.size, 1, none⟩ = some (.int .i64 h.last) ∧ w'.cell? ⟨w.heap.size, 2, none⟩ = some (.slice a1 h.sh.things.length c1) ∧ w'.cell? ⟨w.heap.size, 3, none⟩ = some (.slice (some ⟨bb, oo, none⟩) h.sh.bs.length c2) ∧ w'.cell? ⟨w.heap.size, 4, none⟩ = some (.slice (some ⟨b, o, none⟩) h.bs.length c3) ∧ w'.cell? ⟨w.heap.size, 5, none⟩ = some (.slice a4 h.ds.length c4) ∧ w'.cell? ⟨wr.heap.size, 0, none⟩ = some (.string x0.nm) ∧ w'.cell? ⟨wr.heap.size, 1, none⟩ = some (.slice (some ⟨p, q, none⟩) x0.ps.length c) ∧ w'.cell? ⟨wr.heap.size, 2, none⟩ = some (.slice (some ⟨g, r, none⟩) x0.sl.length d) ∧ w'.cell? ⟨wr.heap.size, 3, none⟩ = some (.string x0.ad) ∧ w'.cell? ⟨wr.heap.size, 4, none⟩ = some (.int .i64 x0.si) ∧ w'.cell? ⟨wr.heap.size, 5, none⟩ = some (.int .i64 x0.st) ∧ World.cell? w' ⟨bb, oo + m * 3 + 1, none⟩ = some (.slice ah y.has.length dh) ∧ World.cell? w' ⟨bb, oo + m * 3 + 2, none⟩ = some (.slice an y.needs.length dn)) (by kernel_rfl) ?_
              refine tkx 0 rfl hS1 ?_
              refine tkx 1 rfl hS1 ?_
              refine tkx 2 rfl hS1 ?_
              refine tkx 3 rfl hS1 ?_
              refine tkx 4 rfl hS1 ?_
              refine tkx 5 rfl hS1 ?_
              refine tkx 6 rfl hS1 ?_
              refine tkx 7 rfl hS1 ?_
              refine tkx 8 rfl hS1 ?_
              refine tkx 9 rfl hS1 ?_
              refine tkx 10 rfl hS1 ?_
              refine tkx 11 rfl hS1 ?_
              refine tkx 12 rfl hS1 ?_
              refine anyX_one (i := 13) (by kernel_rfl) rfl (fun K hK => ?_)
              go_simp
              go_wp2_with (go_at_call 7; refine (thingsS_any x0 _ _ x0.ad _ hvd).mono ?_; rintro e w4 ⟨⟨u4, rfl, hT4⟩, hb4⟩)
              have hS2 : Below W2.heap.size W2 w4 ∧ w4.cell? ⟨w.heap.size, 0, none⟩ = some (.int .i64 h.now) ∧ w4.cell? ⟨w.heap.size, 1, none⟩ = some (.int .i64 h.last) ∧ w4.cell? ⟨w.heap.size, 2, none⟩ = some (.slice a1 h.sh.things.length c1) ∧ w4.cell? ⟨w.heap.size, 3, none⟩ = some (.slice (some ⟨bb, oo, none⟩) h.sh.bs.length c2) ∧ w4.cell? ⟨w.heap.size, 4, none⟩ = some (.slice (some ⟨b, o, none⟩) h.bs.length c3) ∧ w4.cell? ⟨w.heap.size, 5, none⟩ = some (.slice a4 h.ds.length c4) ∧ w4.cell? ⟨wr.heap.size, 0, none⟩ = some (.string x0.nm) ∧ w4.cell? ⟨wr.heap.size, 1, none⟩ = some (.slice (some ⟨p, q, none⟩) x0.ps.length c) ∧ w4.cell? ⟨wr.heap.size, 2, none⟩ = some (.slice (some ⟨g, r, none⟩) x0.sl.length d) ∧ w4.cell? ⟨wr.heap.size, 3, none⟩ = some (.string x0.ad) ∧ w4.cell? ⟨wr.heap.size, 4, none⟩ = some (.int .i64 x0.si) ∧ w4.cell? ⟨wr.heap.size, 5, none⟩ = some (.int .i64 x0.st) ∧ World.cell? w4 ⟨bb, oo + m * 3 + 1, none⟩ = some (.slice ah y.has.length dh) ∧ World.cell? w4 ⟨bb, oo + m * 3 + 2, none⟩ = some (.slice an y.needs.length dn) := n14_up hqlt hXlt hzlt hS1 hb4
              have hL4 := (hLn.up (Below.refl _ _).drew).up hb4
              obtain ⟨gu, cu, hu4, -⟩ := id hT4
              subst hu4
              refine hK.out _ _ (fun _ => hS2) ?_; clear hK K
              refine anyX_one (i := 14) (by kernel_rfl) rfl (fun K hK => ?_)
              go_simp
              go_wp2_with (go_at_call 129; refine (alikeS_any _ _ _ _ _ hL4 ((Lst.ls (.inr hT4)) Hsz.out)).mono ?_; rw [hq]; rintro e w5 ⟨rfl, hb5⟩)
              have hS3 : Below W2.heap.size W2 w5 ∧ w5.cell? ⟨w.heap.size, 0, none⟩ = some (.int .i64 h.now) ∧ w5.cell? ⟨w.heap.size, 1, none⟩ = some (.int .i64 h.last) ∧ w5.cell? ⟨w.heap.size, 2, none⟩ = some (.slice a1 h.sh.things.length c1) ∧ w5.cell? ⟨w.heap.size, 3, none⟩ = some (.slice (some ⟨bb, oo, none⟩) h.sh.bs.length c2) ∧ w5.cell? ⟨w.heap.size, 4, none⟩ = some (.slice (some ⟨b, o, none⟩) h.bs.length c3) ∧ w5.cell? ⟨w.heap.size, 5, none⟩ = some (.slice a4 h.ds.length c4) ∧ w5.cell? ⟨wr.heap.size, 0, none⟩ = some (.string x0.nm) ∧ w5.cell? ⟨wr.heap.size, 1, none⟩ = some (.slice (some ⟨p, q, none⟩) x0.ps.length c) ∧ w5.cell? ⟨wr.heap.size, 2, none⟩ = some (.slice (some ⟨g, r, none⟩) x0.sl.length d) ∧ w5.cell? ⟨wr.heap.size, 3, none⟩ = some (.string x0.ad) ∧ w5.cell? ⟨wr.heap.size, 4, none⟩ = some (.int .i64 x0.si) ∧ w5.cell? ⟨wr.heap.size, 5, none⟩ = some (.int .i64 x0.st) ∧ World.cell? w5 ⟨bb, oo + m * 3 + 1, none⟩ = some (.slice ah y.has.length dh) ∧ World.cell? w5 ⟨bb, oo + m * 3 + 2, none⟩ = some (.slice an y.needs.length dn) := n14_up hqlt hXlt hzlt hS2 hb5
              refine hK.out _ _ (fun _ => hS3) ?_; clear hK K
              refine tkx 15 rfl hS3 ?_
              refine tkx 16 rfl hS3 ?_
              refine tkx 17 rfl hS3 ?_
              refine tkx 18 rfl hS3 ?_
              refine tkx 19 rfl hS3 ?_
              refine tkx 20 rfl hS3 ?_
              try rw [hsd]
              refine tkx 21 rfl hS3 ?_
              refine skx 22 rfl hS3 ?_
              refine skx 23 rfl hS3 ?_
              refine skx 24 rfl hS3 ?_
              refine skx 25 rfl hS3 ?_
              refine skx 26 rfl hS3 ?_
              refine skx 27 rfl hS3 ?_
              refine skx 28 rfl hS3 ?_
              refine skx 29 rfl hS3 ?_
              refine skx 30 rfl hS3 ?_
              refine skx 31 rfl hS3 ?_
              refine skx 32 rfl hS3 ?_
              refine tkx 33 rfl hS3 ?_
              refine anyX_one (i := 34) (by kernel_rfl) rfl (fun K hK => ?_)
              go_simp
              refine hK.out _ _ (fun _ => hS3) ?_
              clear hK K
              refine anyX_done (by kernel_rfl) ?_ _
              have hB5 := hS3.1
              clear hS1 hS2 hS3
              go_wp2_with fail
              go_meet
              case rel => exact ⟨false, rfl, (fun e => by cases e), fun _ => HY.out, hB5⟩
            case pos =>
              clear hS1
              go_wp2_with fail
              go_region_held (fun w' => Below W2.heap.size W2 w' ∧ w'.cell? ⟨w.heap.size, 0, none⟩ = some (.int .i64 h.now) ∧ w'.cell? ⟨w.heap.size, 1, none⟩ = some (.int .i64 h.last) ∧ w'.cell? ⟨w.heap.size, 2, none⟩ = some (.slice a1 h.sh.things.length c1) ∧ w'.cell? ⟨w.heap.size, 3, none⟩ = some (.slice (some ⟨bb, oo, none⟩) h.sh.bs.length c2) ∧ w'.cell? ⟨w.heap.size, 4, none⟩ = some (.slice (some ⟨b, o, none⟩) h.bs.length c3) ∧ w'.cell? ⟨w.heap.size, 5, none⟩ = some (.slice a4 h.ds.length c4) ∧ w'.cell? ⟨wr.heap.size, 0, none⟩ = some (.string x0.nm) ∧ w'.cell? ⟨wr.heap.size, 1, none⟩ = some (.slice (some ⟨p, q, none⟩) x0.ps.length c) ∧ w'.cell? ⟨wr.heap.size, 2, none⟩ = some (.slice (some ⟨g, r, none⟩) x0.sl.length d) ∧ w'.cell? ⟨wr.heap.size, 3, none⟩ = some (.string x0.ad) ∧ w'.cell? ⟨wr.heap.size, 4, none⟩ = some (.int .i64 x0.si) ∧ w'.cell? ⟨wr.heap.size, 5, none⟩ = some (.int .i64 x0.st) ∧ World.cell? w' ⟨bb, oo + m * 3 + 1, none⟩ = some (.slice ah y.has.length dh) ∧ World.cell? w' ⟨bb, oo + m * 3 + 2, none⟩ = some (.slice an y.needs.length dn)) (first | assumption | exact n14_drew hS0 | exact n14_up hqlt hXlt hzlt (by assumption) (by assumption))
                (first
                  | (go_at_call 7; refine (thingsS_any x0 _ _ x0.ad _ hvd).mono ?_; rintro e w4 ⟨⟨u4, rfl, hT4⟩, hb4⟩; have hL4 := (hLn.up (Below.refl _ _).drew).up hb4; have hv4 := hvd.up hb4; have hH4 := (hLh.up (Below.refl _ _).drew).up hb4)
                  | (go_at_call 129; refine (alikeS_any _ _ _ _ _ hL4 ((Lst.ls (.inr hT4)) Hsz.out)).mono ?_; rw [hq]; rintro e w5 ⟨rfl, hb5⟩; have hv5 := hv4.up hb5; have hH5 := hH4.up hb5)
                  | (go_at_call 13; refine (ownS_any x0 _ _ _ hv5).mono ?_; rintro e w6 ⟨⟨u6, rfl, hT6⟩, hb6⟩; have hH6 := hH5.up hb6)
                  | (go_at_call 130; refine (all22_any _ _ _ _ _ ((Lst.ls (.inr hT6)) Hsz2.out) hH6).mono ?_; rintro e w7 ⟨rfl, hw7⟩; obtain rfl := hw7.symm; clear hw7))
              rename_i hHeld
              have hB7 := hHeld.1
              clear hHeld hS0 hL4 hv4 hH4 hv5 hH5 hH6 hT4 hT6 hb4 hb5 hb6
              have HY : Hid (ShareAt h x0 ↔ Part (rbOwn x0) y.has) := ⟨fun t => (HAT.out.1 t).2 hsi, fun t => HAT.out.2 ⟨pB_iff.1 hq, fun _ => t⟩⟩
              cases hr : pB (Part (rbOwn x0) y.has)
              · go_wp2_with fail
                go_meet
                case rel => exact ⟨true, rfl, fun _ t => pB_not.1 hr (HY.out.1 t), (fun e => by cases e), hB7⟩
              · go_wp2_with fail
                go_meet
                case rel => exact ⟨false, rfl, (fun e => by cases e), fun _ => HY.out.2 (pB_iff.1 hr), hB7⟩
        case rest =>
          obtain ⟨cb, rfl, hc1, hc0, hBc⟩ := hcut
          have hB7 := up_trans hB12 hBc
          have hB07 := up_trans hB0 hB7
          clear hS0 hS1
          cases cb
          · have HY : Hid (ShareTo h (k + 1)) := YES.out (hc0 rfl)
            clear hc0 hc1
            go_wp2_with fail
            go_roundw
            case rel => exact ⟨k + 1, by omega, by go_num, HY.out, hB7⟩
            case measure => simp [intOf]; omega
          · have HN : Hid (pB (SharesOk h) = false) := NO.out (hc1 rfl)
            clear hc0 hc1
            go_wp2_with fail
            go_ret
            exact ⟨ret_bool HN.out.symm, hB07⟩
    · have HY : Hid (pB (SharesOk h) = true) := pB_yes ⟨Hll.out, by
        have := HI.out
        rwa [show k = h.bs.length by omega] at this⟩
      go_wp2_with fail
      go_ret
      exact ⟨ret_bool HY.out.symm, up_trans hB0 hB⟩
end Go.Proofs.YtliebjbbomghiaaGreatDoor
