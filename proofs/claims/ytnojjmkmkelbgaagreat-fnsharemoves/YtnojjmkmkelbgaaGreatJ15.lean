/- The walk of a rune of a name. -/
import Derived.Test.YtnojjmkmkelbgaaGreatJ1
import Derived.Test.YtnojjmkmkelbgaaGreatJ11
import Derived.Test.YtnojjmkmkelbgaaGreatKt4
import Derived.Test.YtnojjmkmkelbgaaGreatJ6
namespace Go.Proofs.YtnojjmkmkelbgaaGreat
open Go.RowKit

theorem rune_any (n : Nat) (w : World) :
    Calls Tryz.prog 75 #[.int .i32 n] w fun e w' => e = .returned (.bool (nbB n)) ∧ w' = w := by
  go_enter Tryz.func75, Tryz.ntmps75
  go_wp2
  all_goals
    go_ret
    exact ⟨ret_bool (by rw [Bool.eq_iff_iff, nbB_iff]; simp; omega), rfl⟩
end Go.Proofs.YtnojjmkmkelbgaaGreat

/- Copies, as the specification's chapter 13 makes them. -/
namespace Go.Proofs.YtnojjmkmkelbgaaGreat
open Go.RowKit

theorem copyW_any (b : Bk) (v : Value) (w : World) (h : BkV w v b) (hok : BookOk b) :
    Calls Tryz.prog 49 #[v] w fun e w' => (∃ v', e = .returned v' ∧ BkW w' w.heap.size v' b) ∧ Below w.heap.size w w' := by
  obtain ⟨s1, s2, s3⟩ := ok_small hok
  refine (copy11_any b v w h (by omega) (by omega) (fun y hy => by have := s3 y hy; omega)).mono ?_
  rintro e w' ⟨⟨tu, bu, ps, rfl, h1, h2, h3, -⟩, hb⟩
  exact ⟨⟨_, rfl, tu, bu, ps, rfl, h1, h2, h3⟩, hb⟩
theorem copyS_any (b : Bk) (v : Value) (w : World) (h : BkV w v b) (h1 : b.things.length ≤ 100) (h2 : b.bs.length ≤ 100) (h3 : ∀ y ∈ b.bs, y.has.length ≤ 100 ∧ y.needs.length ≤ 100) :
    Calls Tryz.prog 49 #[v] w fun e w' => (∃ v', e = .returned v' ∧ BkW w' w.heap.size v' b) ∧ Below w.heap.size w w' := by
  refine (copy11_any b v w h (by omega) (by omega) (fun y hy => by have := h3 y hy; omega)).mono ?_
  rintro e w' ⟨⟨tu, bu, ps, rfl, h1, h2, h3, -⟩, hb⟩
  exact ⟨⟨_, rfl, tu, bu, ps, rfl, h1, h2, h3⟩, hb⟩
/-- A copy, its lists apart from each other. -/
theorem copyF_any (b : Bk) (v : Value) (w : World) (h : BkV w v b) (h1 : b.things.length ≤ 100) (h2 : b.bs.length ≤ 100) (h3 : ∀ y ∈ b.bs, y.has.length ≤ 100 ∧ y.needs.length ≤ 100) :
    Calls Tryz.prog 49 #[v] w fun e w' => (∃ a1 c1 a2 c2 ps, e = .returned (.agg #[.slice a1 b.things.length c1, .slice a2 b.bs.length c2]) ∧ BsW w' w.heap.size (.slice a2 b.bs.length c2) ps ∧ ps.map (·.1) = b.bs ∧ Fam w' w.heap.size none ((.slice a1 b.things.length c1, b.things) :: famB ps)) ∧ Below w.heap.size w w' := by
  refine (copy11_any b v w h (by omega) (by omega) (fun y hy => by have := h3 y hy; omega)).mono ?_
  rintro e w' ⟨⟨tu, bu, ps, rfl, h1, h2, h3, hF, -⟩, hb⟩
  obtain ⟨a1, c1, rfl⟩ := h1.lst.shape
  obtain ⟨a2, c2, rfl⟩ := own_shape h2.1
  have hl : ps.length = b.bs.length := by rw [← h3, List.length_map]
  rw [hl] at h2
  exact ⟨⟨a1, c1, a2, c2, ps, by rw [hl], h2, h3, hF⟩, hb⟩
end Go.Proofs.YtnojjmkmkelbgaaGreat

/- A row of batches, a list of one of them turned. -/
namespace Go.Proofs.YtnojjmkmkelbgaaGreat
open Go.RowKit

theorem rowsB_set1 : ∀ (ps : List Bv) (k : Nat) (p : Bv) (u : Value) (x : Ba), ps[k]? = some p → x.nm = p.1.nm → (rowsB ps).set (k * 3 + 1) u = rowsB (ps.set k (x, u, p.2.2))
  | q :: r, 0, p, u, x, hp, hx => by
    simp at hp; subst hp
    simp [rowsB, rowB, hx]
  | q :: r, k + 1, p, u, x, hp, hx => by
    have ih := rowsB_set1 r k p u x (by simpa using hp) hx
    have hl : (rowB q).length = 3 := rfl
    rw [List.set_cons_succ, rowsB, rowsB, ← ih, List.set_append_right _ _ (by rw [hl]; omega), hl, show (k + 1) * 3 + 1 - 3 = k * 3 + 1 by omega]
theorem rowsB_set2 : ∀ (ps : List Bv) (k : Nat) (p : Bv) (u : Value) (x : Ba), ps[k]? = some p → x.nm = p.1.nm → (rowsB ps).set (k * 3 + 2) u = rowsB (ps.set k (x, p.2.1, u))
  | q :: r, 0, p, u, x, hp, hx => by
    simp at hp; subst hp
    simp [rowsB, rowB, hx]
  | q :: r, k + 1, p, u, x, hp, hx => by
    have ih := rowsB_set2 r k p u x (by simpa using hp) hx
    have hl : (rowB q).length = 3 := rfl
    rw [List.set_cons_succ, rowsB, rowsB, ← ih, List.set_append_right _ _ (by rw [hl]; omega), hl, show (k + 1) * 3 + 2 - 3 = k * 3 + 2 by omega]

end Go.Proofs.YtnojjmkmkelbgaaGreat

/- The specification's ShareLeave. -/
namespace Go.Proofs.YtnojjmkmkelbgaaGreat
open Go.RowKit


set_option maxRecDepth 20000 in
set_option maxHeartbeats 4000000 in
theorem specLeave_any (b : Bk) (v : Value) (nm : ByteArray) (w : World) (h : BkV w v b) :
    Calls Tryz.prog 72 #[v, .string nm] w fun e w' => (∃ v', e = .returned (.tuple #[v', .int .i64 (leaveC b nm)]) ∧ BkW w' w.heap.size v' (leaveB b nm)) ∧ Below w.heap.size w w' := by
  obtain ⟨a1, c1, a2, c2, rfl, -, -⟩ := h.parts
  obtain ⟨ii, hi, iz0, iz1, iz2⟩ := info_parts infoBat1
  obtain ⟨W1, hW1, kA, kR, hB1, hs1⟩ : ∃ W1, (w.alloc (.cells #[.slice a1 (b).things.length c1, .slice a2 (b).bs.length c2] 26)).alloc (.cells #[.slice none 0 0, .slice none 0 0] 26) = W1 ∧ CB W1 w.heap.size [.slice a1 b.things.length c1, .slice a2 b.bs.length c2] ∧ CB W1 (w.heap.size + 1) [.slice none 0 0, .slice none 0 0] ∧ Below w.heap.size w W1 ∧ W1.heap.size = w.heap.size + 2 := ⟨_, rfl, cb2 w _ _ _ _⟩
  go_enter Tryz.func72, Tryz.ntmps72
  go_upto_region 1 with fail
  try rw [hW1]
  clear hW1
  have hk := h.up hB1
  clear h
  obtain ⟨e0, e1⟩ := kA.c2'
  go_wp2_with fail
  refine (specBook_any b _ _ hk).mono ?_
  rintro e w2 ⟨rfl, hb2⟩
  have hz2 := hb2.size
  have kA := kA.up hb2 (by omega)
  have kR := kR.up hb2 (by omega)
  have hk := hk.up hb2
  have hB := up_trans hB1 hb2
  clear e0 e1 hB1 hb2
  cases hok : bookB b
  · obtain ⟨⟨y0, y1⟩, f0, f1⟩ := kR.c2
    have HC : Hid (leaveC b nm = 1 ∧ leaveB b nm = nobody) := leave_no hok
    go_wp2_with fail
    refine end_cb2b Tryz.results72 Tryz.underlying26 rfl sizeBk1 kR rfl rfl ?_
    exact ⟨⟨_, ret_pair HC.out.1.symm, by rw [HC.out.2]; exact bkW_none _ _⟩, below_set2 hB (Nat.le_succ _) _ _⟩
  obtain ⟨e0, e1⟩ := kA.c2'
  go_wp2_with fail
  refine (copyW_any b _ _ hk (book_ok hok)).mono ?_
  rintro e w3 ⟨⟨xv, rfl, hX⟩, hb3⟩
  obtain ⟨a3, c3, a4, c4, ps, rfl, x1, x2, x3⟩ := hX.parts
  have hz3 := hb3.size
  have kA := kA.up hb3 (by omega)
  have kR := kR.up hb3 (by omega)
  have hk := hk.up hb3
  have hB := up_trans hB hb3
  clear e0 e1 hb3 hX
  go_upto_region 4 with fail
  obtain ⟨W4, hW4, kX, hb4, hs4⟩ : ∃ W4, w3.alloc (.cells #[.slice a3 b.things.length c3, .slice a4 b.bs.length c4] 26) = W4 ∧ CB W4 w3.heap.size [.slice a3 b.things.length c3, .slice a4 b.bs.length c4] ∧ Below w3.heap.size w3 W4 ∧ W4.heap.size = w3.heap.size + 1 := ⟨_, rfl, cb1 w3 _ _⟩
  rw [hW4]
  clear hW4
  have kA := kA.up hb4 (by omega)
  have kR := kR.up hb4 (by omega)
  have hk := hk.up hb4
  have hB := up_trans hB hb4
  have X1 := x1
  have X2 := x2
  have hL := hb4
  have x1 := x1.up hb4
  have x2 := x2.up hb4
  clear hb4
  obtain ⟨e0, e1⟩ := kA.c2'
  go_wp2_with fail
  refine (at11_any b _ nm _ hk).mono ?_
  rintro e w5 ⟨rfl, hb5⟩
  have hz5 := hb5.size
  have kR := kR.up hb5 (by omega)
  have kX := kX.up hb5 (by omega)
  have hB := up_trans hB hb5
  have x1 := x1.up hb5
  have x2 := x2.up hb5
  have hL := up_trans hL hb5
  clear e0 e1 hb5 kA hk
  cases hm : memS (nms b.bs) nm
  · have HC : Hid (leaveC b nm = 3 ∧ leaveB b nm = b) := leave_none hok hm
    rw [idxI_none hm]
    obtain ⟨⟨y0, y1⟩, f0, f1⟩ := kR.c2
    obtain ⟨⟨z0, z1⟩, -⟩ := kX.c2
    go_wp2_with fail
    refine end_cb2b Tryz.results72 Tryz.underlying26 rfl sizeBk1 kR rfl rfl ?_
    refine ⟨⟨_, ret_pair HC.out.1.symm, ?_⟩, below_set2 hB (Nat.le_succ _) _ _⟩
    rw [HC.out.2]
    exact ((BkW.set (BkW.set ⟨_, _, ps, rfl, x1, x2, x3⟩ (by omega)) (by omega)).low (by omega))
  have HC : Hid (leaveC b nm = 0 ∧ leaveB b nm = ⟨b.things, b.bs.take (plN b nm) ++ b.bs.drop (plN b nm + 1)⟩) := leave_yes hok hm
  obtain ⟨hidx, hlt⟩ := plN_lt hm
  rw [hidx]
  generalize plN b nm = p at *
  have hn5 := (book_ok hok).2.1
  have hps : ps.length = b.bs.length := by rw [← x3, List.length_map]
  have hrow := x2.1
  rw [hps] at hrow
  obtain ⟨g, cp, hgp⟩ := own_ptr2 hrow (by omega)
  obtain ⟨rfl, -, rfl⟩ := Value.slice.inj hgp
  clear hgp hidx hm
  obtain ⟨hc4, hc9⟩ := own_cap2 hrow
  have hgl := hrow.lt g rfl
  obtain ⟨⟨z0, z1⟩, -⟩ := kX.c2
  have hS1 : World.cell? w5.drew ⟨w3.heap.size, 1, none⟩ = some (.slice (some ⟨g, 0, none⟩) b.bs.length c4) := z1
  clear z0 z1
  unfold maxLen at hc9
  have hpc : p ≤ c4 := by omega
  have hp1 : p + 1 ≤ b.bs.length := hlt
  have hw1 : IntKind.i64.wrap ((p : Int) + 1) = (p : Int) + 1 := by rw [IntKind.wrap_i64]; omega
  have hw2 : (p : Int) + 1 ≤ (b.bs.length : Int) := by omega
  have hw3 : 0 ≤ (p : Int) + 1 := by omega
  have hw4 : ¬ (b.bs.length : Int) < (p : Int) + 1 := by omega
  obtain ⟨o2, ho2, hq2⟩ : ∃ o2 : Nat, (if c4 = p + 1 then some (⟨g, 0, none⟩ : Addr) else some ⟨g, (p + 1) * 3, none⟩) = some ⟨g, o2, none⟩ ∧ (b.bs.length - (p + 1) ≠ 0 → o2 = (p + 1) * 3) := by
    by_cases h7 : c4 = p + 1
    · exact ⟨0, by rw [if_pos h7], fun h => by omega⟩
    · exact ⟨(p + 1) * 3, by rw [if_neg h7], fun _ => rfl⟩
  go_wp2_with fail
  refine wp_region_x 13 (fun w' => World.cell? w' ⟨w3.heap.size, 1, none⟩ = some (.slice (some ⟨g, 0, none⟩) b.bs.length c4)) (by kernel_rfl) ?_
  refine tkx 1 rfl hS1 ?_
  refine tkx 2 rfl hS1 ?_
  refine tkx 3 rfl hS1 ?_
  refine tkx 4 rfl hS1 ?_
  refine tkx 6 rfl hS1 ?_
  refine tkx 7 rfl hS1 ?_
  refine tkx 8 rfl hS1 ?_
  refine tkx 9 rfl hS1 ?_
  refine tkx 10 rfl hS1 ?_
  have hrowL := (own_drew hrow).alloc (.cells #[] 32)
  have hown0 : (w5.drew.alloc (.cells #[] 32)).ownsRow w5.heap.size 32 3 (.slice (some ⟨w5.heap.size, 0, none⟩) 0 0) 0 [] := World.ownsRow_lit w5.drew #[] 0 (Nat.le_refl _) (by unfold maxLen; omega) rfl
  have hb0 : Below w5.heap.size w5 (w5.drew.alloc (.cells #[] 32)) := ((Below.refl w5.heap.size w5).drew).alloc (Nat.le_refl _) _
  have hSl : World.cell? (w5.drew.alloc (.cells #[] 32)) ⟨w3.heap.size, 1, none⟩ = some (.slice (some ⟨g, 0, none⟩) b.bs.length c4) := (hb0.cell (p := ⟨w3.heap.size, 1, none⟩) (by show w3.heap.size < _; omega)).trans hS1
  refine onx 0 rfl (fun K hK => ?_)
  go_simp
  refine gox hK hSl ?_; clear hK K
  have hsrc1 := rows_cells hrowL 0 (ps.take p) (take_at ps p)
  have hone1 := x2.one (ps.take p) (fun q hq => List.mem_of_mem_take hq)
  have hone2 := x2.one (ps.drop (p + 1)) (fun q hq => List.mem_of_mem_drop hq)
  have hlen1 : (rowsB (ps.take p)).length = p * 3 := by rw [rowsB_length, List.length_take]; omega
  have hlen2 : (rowsB (ps.drop (p + 1))).length = (b.bs.length - (p + 1)) * 3 := by rw [rowsB_length, List.length_drop]; omega
  refine onx 5 rfl (fun K hK => ?_)
  refine step_append_own rfl _ _ 24 rfl w5.heap.size 32 ii _ 3 64 Tryz.underlying24 hi iz0 iz1 iz2 rfl (by decide) _ 0 [] rfl hown0 ⟨g, 0, none⟩ p c4 (rowsB (ps.take p)) rfl hlen1 hsrc1 hone1 (by unfold maxLen; omega) (by omega) hb0.size ?_
  intro v1 w6 hown6 hgr6
  have hb6 := below_own hb0 hown0 hgr6 (Nat.le_refl _)
  have hrow6 := own_keep2 hrowL hgr6 (slice_ne (own_ne hown0 hgl.2))
  have hS6 : World.cell? w6 ⟨w3.heap.size, 1, none⟩ = some (.slice (some ⟨g, 0, none⟩) b.bs.length c4) := (hb6.cell (p := ⟨w3.heap.size, 1, none⟩) (by show w3.heap.size < _; omega)).trans hS1
  have hsrc2 : ∀ (j : Nat) (u : Value), (rowsB (ps.drop (p + 1)))[j]? = some u → w6.cell? ((⟨g, o2, none⟩ : Addr).add j) = some u := fun j u hu => by
    have hj := (List.getElem?_eq_some_iff.1 hu).1
    rw [hq2 (by omega)]
    exact rows_cells hrow6 (p + 1) (ps.drop (p + 1)) (drop_at ps (p + 1)) j u hu
  clear hrowL hsrc1 hgr6 hrow6 hSl
  refine gox hK hS6 ?_; clear hK K
  refine onx 11 rfl (fun K hK => ?_)
  refine step_append_own rfl _ _ 24 rfl w5.heap.size 32 ii _ 3 64 Tryz.underlying24 hi iz0 iz1 iz2 rfl (by decide) v1 _ _ rfl hown6 ⟨g, o2, none⟩ (b.bs.length - (p + 1)) _ (rowsB (ps.drop (p + 1))) rfl hlen2 hsrc2 hone2 (by unfold maxLen; omega) (by omega) hb6.size ?_
  intro v2 w7 hown7 hgr7
  have hb7 := below_own hb6 hown6 hgr7 (Nat.le_refl _)
  have hS7 : World.cell? w7 ⟨w3.heap.size, 1, none⟩ = some (.slice (some ⟨g, 0, none⟩) b.bs.length c4) := (hb7.cell (p := ⟨w3.heap.size, 1, none⟩) (by show w3.heap.size < _; omega)).trans hS1
  have kX7 := kX.up hb7 (by omega)
  have kR7 := kR.up hb7 (by omega)
  have hBB := up_trans hB hb7
  obtain ⟨a7, c7, rfl⟩ := own_shape hown7
  obtain ⟨⟨j0, j1⟩, m0, m1⟩ := kX7.c2
  clear hsrc2 hgr7 hown6 hown0 hS6 hb6 hb0
  refine gox hK hS7 ?_; clear hK K
  refine tkx 12 rfl hS7 ?_
  refine onx 13 rfl (fun K hK => ?_)
  go_simp
  refine finx hK ?_
  clear hK K
  refine anyX_done (by kernel_rfl) ?_ _
  have hV : (.slice a7 (0 + p + (b.bs.length - (p + 1))) c7 : Value) = .slice a7 (p + (b.bs.length - (p + 1))) c7 := by rw [Nat.zero_add]
  rw [hV] at hown7
  have hx3 : w3.heap.size < w5.heap.size := by omega
  generalize hU : (Value.slice a7 (p + (b.bs.length - (p + 1))) c7) = u7 at *
  have kX8 : CB (w7.setCell ⟨w3.heap.size, 1, none⟩ u7) w3.heap.size [.slice a3 b.things.length c3, u7] := kX7.set (j := 1) (by simp)
  have kR8 : CB (w7.setCell ⟨w3.heap.size, 1, none⟩ u7) (w.heap.size + 1) [.slice none 0 0, .slice none 0 0] := kR7.other (by omega)
  have hL8 : Below w3.heap.size w3 (w7.setCell ⟨w3.heap.size, 1, none⟩ u7) := ((hL.trans (hb7.mono (by omega))).setCell (p := ⟨w3.heap.size, 1, none⟩) (Nat.le_refl _) _)
  have hB8 : Below w.heap.size w (w7.setCell ⟨w3.heap.size, 1, none⟩ u7) := hBB.setCell (p := ⟨w3.heap.size, 1, none⟩) (by show _ ≤ w3.heap.size; omega) _
  have hrow8 : (w7.setCell ⟨w3.heap.size, 1, none⟩ u7).ownsRow w5.heap.size 32 3 u7 _ _ := own_grown hown7 (grown_setCell (grown_refl _ _) _) hx3
  have x18 := X1.up hL8
  have hW8 : BsW (w7.setCell ⟨w3.heap.size, 1, none⟩ u7) w2.heap.size u7 (ps.take p ++ ps.drop (p + 1)) := bsW_mk (own_low hrow8 (by omega)) (by rw [rowsB_append]; rfl) (by rw [List.length_append, List.length_take, List.length_drop]; omega) (fun q hq => by
    have hq' : q ∈ ps := by
      rcases List.mem_append.1 hq with h | h
      · exact List.mem_of_mem_take h
      · exact List.mem_of_mem_drop h
    obtain ⟨q1, q2, q3⟩ := X2.2 q hq'
    exact ⟨q1.up hL8, q2.up hL8, q3⟩)
  have HM : Hid ((ps.take p ++ ps.drop (p + 1)).map (·.1) = b.bs.take p ++ b.bs.drop (p + 1)) := by
    show _ = _
    rw [← x3, List.map_append, List.map_take, List.map_drop]
  subst hU
  clear hS1 hS7 hown7 kX7 kR7 j0 j1 m0 m1 hb7 hBB hrow8 X1 X2 x1 x2 kX kR hB hL hL8
  generalize w7.setCell ⟨w3.heap.size, 1, none⟩ (.slice a7 (p + (b.bs.length - (p + 1))) c7) = W8 at *
  obtain ⟨⟨y0, y1⟩, f0, f1⟩ := kR8.c2
  obtain ⟨⟨z0, z1⟩, -⟩ := kX8.c2
  go_wp2_with fail
  refine end_cb2b Tryz.results72 Tryz.underlying26 rfl sizeBk1 kR8 rfl rfl ?_
  refine ⟨⟨_, ret_pair HC.out.1.symm, ?_⟩, below_set2 hB8 (Nat.le_succ _) _ _⟩
  rw [HC.out.2]
  exact ((BkW.set (BkW.set (b := ⟨b.things, b.bs.take p ++ b.bs.drop (p + 1)⟩) ⟨_, _, _, rfl, x18, hW8, HM.out⟩ (by omega)) (by omega)).low (by omega))
end Go.Proofs.YtnojjmkmkelbgaaGreat
