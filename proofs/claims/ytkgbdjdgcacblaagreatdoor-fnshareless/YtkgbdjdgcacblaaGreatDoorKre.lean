/- The program's chapter 13: what is done where somebody needs less. -/
import Derived.Test.YtkgbdjdgcacblaaGreatDoorKr8
import Derived.Test.YtkgbdjdgcacblaaGreatDoorJ43
namespace Go.Proofs.YtkgbdjdgcacblaaGreatDoor
open Go.RowKit

theorem asc_k {l : List ByteArray} (h : Asc l) : (keys l).Pairwise (· < ·) := by
  rw [List.pairwise_iff_getElem]
  intro i j hi hj hij
  have hi' : i < l.length := by simpa [keys] using hi
  have hj' : j < l.length := by simpa [keys] using hj
  have := asc_lt h (j - i - 1) i _ _ (List.getElem?_eq_getElem hi') (by rw [show i + 1 + (j - i - 1) = j by omega]; exact List.getElem?_eq_getElem hj')
  rw [ltS_iff] at this
  simpa [keys] using this
theorem k_inj {a b : List ByteArray} (h : keys a = keys b) : a = b := by
  refine List.ext_getElem (by simpa [keys] using congrArg List.length h) fun i h1 h2 => ?_
  have : (keys a)[i]? = (keys b)[i]? := by rw [h]
  simp only [keys, List.getElem?_map, List.getElem?_eq_getElem h1, List.getElem?_eq_getElem h2, Option.map_some, Option.some.injEq] at this
  exact key_inj this
/-- Two ascending lists with the same members are one. -/
theorem asc_same {a b : List ByteArray} (ha : Asc a) (hb : Asc b) (f g : ByteArray → Bool) (h : ∀ s, (s ∈ a ∧ f s = true) ↔ (s ∈ b ∧ g s = true)) : a.filter f = b.filter g := by
  refine k_inj (asc_unique _ _ ?_ ?_ fun x => ?_)
  · exact (asc_k ha).sublist (List.Sublist.map _ List.filter_sublist)
  · exact (asc_k hb).sublist (List.Sublist.map _ List.filter_sublist)
  · simp only [keys, List.mem_map, List.mem_filter]
    exact ⟨fun ⟨s, hs, e⟩ => ⟨s, (h s).1 hs, e⟩, fun ⟨s, hs, e⟩ => ⟨s, (h s).2 hs, e⟩⟩
theorem same_filter {a b : List ByteArray} (ha : Asc a) (hb : Asc b) : a.filter (memS b) = b.filter (memS a) := asc_same ha hb _ _ fun s => by
  rw [memS_iff, memS_iff]; exact And.comm
theorem rowsB_nd : ∀ (ps : List Bv) (k : Nat) (p : Bv) (x : Ba) (u : Value), ps[k]? = some p → x.nm = p.1.nm → (rowsB ps).set (k * 3 + 2) u = rowsB (ps.set k ((x, p.2.1, u) : Bv))
  | q :: r, 0, p, x, u, h, e => by
    obtain rfl : q = p := by simpa using h
    simp [rowsB, rowB, e]
  | q :: r, k + 1, p, x, u, h, e => by
    have := rowsB_nd r k p x u (by simpa using h) e
    rw [show (k + 1) * 3 + 2 = (k * 3 + 2) + 3 by omega]
    simp [rowsB, rowB, this]
theorem rowsB_hs : ∀ (ps : List Bv) (k : Nat) (p : Bv) (x : Ba) (u : Value), ps[k]? = some p → x.nm = p.1.nm → (rowsB ps).set (k * 3 + 1) u = rowsB (ps.set k ((x, u, p.2.2) : Bv))
  | q :: r, 0, p, x, u, h, e => by
    obtain rfl : q = p := by simpa using h
    simp [rowsB, rowB, e]
  | q :: r, k + 1, p, x, u, h, e => by
    have := rowsB_hs r k p x u (by simpa using h) e
    rw [show (k + 1) * 3 + 1 = (k * 3 + 1) + 3 by omega]
    simp [rowsB, rowB, this]
theorem o2_drew {W w0 : World} {q i j : Nat} {x0 x1 : Value} (h : Below W.heap.size W w0 ∧ w0.cell? ⟨q, i, none⟩ = some x0 ∧ w0.cell? ⟨q, j, none⟩ = some x1) : Below W.heap.size W w0.drew ∧ w0.drew.cell? ⟨q, i, none⟩ = some x0 ∧ w0.drew.cell? ⟨q, j, none⟩ = some x1 := ⟨h.1.drew, h.2⟩
theorem o2_up {W w0 w1 : World} {q i j : Nat} {x0 x1 : Value} (hq : q < W.heap.size) (h : Below W.heap.size W w0 ∧ w0.cell? ⟨q, i, none⟩ = some x0 ∧ w0.cell? ⟨q, j, none⟩ = some x1) (hB : Below w0.heap.size w0 w1) : Below W.heap.size W w1 ∧ w1.cell? ⟨q, i, none⟩ = some x0 ∧ w1.cell? ⟨q, j, none⟩ = some x1 := by
  have lq : q < w0.heap.size := Nat.lt_of_lt_of_le hq h.1.size
  exact ⟨up_trans h.1 hB, (hB.cell (p := ⟨q, i, none⟩) lq).trans h.2.1, (hB.cell (p := ⟨q, j, none⟩) lq).trans h.2.2⟩
theorem set_two (ps : List Bv) (k : Nat) (a b : Bv) : (ps.set k a).set k b = ps.set k b := by simp
theorem catL_one (f : Value × List ByteArray) : catL [f] [f].length = f.2 := by simp [catL]
theorem among1_any (ss has : List ByteArray) (v hv : Value) (sb : Nat) (w : World) (h : Ls w v ss) (hs : ss.length ≤ 100) (hc : w.cell? ⟨sb, 0, none⟩ = some hv) (hl : Ls w hv has) (hsb : sb < w.heap.size) (hn : has.length ≤ 900) :
    Calls Tryz.prog 62 #[v, .slice (some ⟨sb, 0, none⟩) 1 1] w fun e w' => (∃ u, e = .returned u ∧ OwnT w' w.heap.size u (ss.filter (memS has))) ∧ Below w.heap.size w w' := by
  have := among_any ss v [(hv, has)] sb w h hs (fun i f hf => by
    match i, hf with
    | 0, hf =>
      obtain rfl : (hv, has) = f := by simpa using hf
      exact ⟨hc, hl⟩) hsb (by simp) (by rw [catL_one]; exact hn)
  rw [catL_one] at this
  exact this
set_option maxRecDepth 20000 in
set_option maxHeartbeats 8000000 in
theorem doneLess_any (b : Bk) (v : Value) (nm : ByteArray) (lv : Value) (ls : List ByteArray) (w : World) (h : BkV w v b) (hl : Ls w lv ls) (hls : ls.length ≤ 100) (hok : BookOk b) (hasc : Asc ls) (hm : memS (nms b.bs) nm = true) :
    Calls Tryz.prog 42 #[v, .iface 40 (.agg #[.string nm, lv])] w fun e w' => (∃ u, e = .returned u ∧ BkF w' w.heap.size u (chg b (plN b nm) (lessF ls))) ∧ Below w.heap.size w w' := by
  have f1 := as_whoL
  have f2 := ta_LE
  have f3 := ta_LA
  have f4 := ta_LL
  obtain ⟨a1, c1, a2, c2, rfl, -, -⟩ := h.parts
  obtain ⟨la, lc, rfl, -, hzl, -⟩ := id hl
  have hszb := h.szb
  obtain ⟨s1, s2, s3⟩ := ok_small hok
  obtain ⟨W1, hW1, kA, kR, hB1, hs1⟩ : ∃ W1, (w.alloc (.cells #[.slice a1 (b).things.length c1, .slice a2 (b).bs.length c2] 26)).alloc (.cells #[.slice none 0 0, .slice none 0 0] 26) = W1 ∧ CB W1 w.heap.size [.slice a1 b.things.length c1, .slice a2 b.bs.length c2] ∧ CB W1 (w.heap.size + 1) [.slice none 0 0, .slice none 0 0] ∧ Below w.heap.size w W1 ∧ W1.heap.size = w.heap.size + 2 := ⟨_, rfl, cb2 w _ _ _ _⟩
  go_enter Tryz.func42, Tryz.ntmps42
  go_upto_region 1 with fail
  try rw [hW1]
  clear hW1
  have hk := h.up hB1
  obtain ⟨e0, e1⟩ := kA.c2'
  go_wp2_with fail
  refine (copyP_any b _ _ hk (by omega) (by omega) (fun y hy => by have := s3 y hy; omega)).mono ?_
  rintro e w2 ⟨⟨a3, c3, a4, c4, ps, rfl, x2, x3, hF⟩, hb2⟩
  have hz2 := hb2.size
  have hlt2 : ∀ g', (Value.slice a4 b.bs.length c4).ownBlock = some g' → g' < w2.heap.size := fun g' hg' => (x2.1.lt g' hg').2
  replace hF := hF.avoid (Nat.le_refl _)
  have Hnm : Hid (∀ p ∈ ps, p.1.nm.size ≤ maxLen) := fun p hp => (x2.2 p hp).2.2
  have kA2 := kA.up hb2 (by omega)
  have kR2 := kR.up hb2 (by omega)
  have hk2 := hk.up hb2
  have hB2 := up_trans hB1 hb2
  clear e0 e1 kA kR hk hB1 hb2
  go_upto_region 2 with fail
  obtain ⟨W3, hW3, kX, hb3, hs3⟩ : ∃ W3, w2.alloc (.cells #[(.slice a3 b.things.length c3), .slice a4 b.bs.length c4] 26) = W3 ∧ CB W3 w2.heap.size [(.slice a3 b.things.length c3), .slice a4 b.bs.length c4] ∧ Below w2.heap.size w2 W3 ∧ W3.heap.size = w2.heap.size + 1 := ⟨_, rfl, cb1 w2 _ _⟩
  try rw [hW3]
  clear hW3
  have kA3 := kA2.up hb3 (by omega)
  have kR3 := kR2.up hb3 (by omega)
  have hk3 := hk2.up hb3
  have hB3 := up_trans hB2 hb3
  have x23 := x2.up hb3
  have hF3 := hF.up hb3
  clear kA2 kR2 hk2 hB2 x2 hF hb3
  obtain ⟨e0, e1⟩ := kA3.c2'
  have hS0 : Below W3.heap.size W3 W3 ∧ W3.cell? ⟨w.heap.size, 0, none⟩ = some (.slice a1 b.things.length c1) ∧ W3.cell? ⟨w.heap.size, 1, none⟩ = some (.slice a2 b.bs.length c2) := ⟨Below.refl _ _, e0, e1⟩
  have hq3 : w.heap.size < W3.heap.size := by omega
  clear e0 e1
  go_wp2_with fail
  go_region_held (fun w' => Below W3.heap.size W3 w' ∧ w'.cell? ⟨w.heap.size, 0, none⟩ = some (.slice a1 b.things.length c1) ∧ w'.cell? ⟨w.heap.size, 1, none⟩ = some (.slice a2 b.bs.length c2)) (first | exact k2_drew hS0 | exact k2_up hq3 (by assumption) (by assumption))
    (first
      | (go_at_call 112; refine (asker_any nm _).mono ?_; rintro e' w9 ⟨rfl, hb9⟩)
      | (go_at_call 60; refine (find_any b _ nm _ ((hk3.up (Below.refl _ _).drew).up hb9) hok).mono ?_; rintro e' wA ⟨rfl, hbA⟩))
  rename_i hHeld
  have hBA := hHeld.1
  clear hHeld hS0 hb9 hbA
  have hzA := hBA.size
  have kXA := kX.up hBA (by omega)
  have kRA := kR3.up hBA (by omega)
  have hBB := up_trans hB3 hBA
  have x2A := x23.up hBA
  have hFA := hF3.up hBA
  clear kX kR3 kA3 hB3 x23 hF3 hk3 hBA
  rw [low_pl hok.2.2.2.1 hm]
  obtain ⟨-, hpl⟩ := plN_lt hm
  have hps : ps.length = b.bs.length := by rw [← x3, List.length_map]
  have hrow := x2A.1
  rw [hps] at hrow
  obtain ⟨g, cp, hgp⟩ := own_ptr2 hrow (by omega)
  obtain ⟨rfl, -, rfl⟩ := Value.slice.inj hgp
  clear hgp
  have hpk : ∃ hv nv, ps[plN b nm]? = some (b.bs[plN b nm], hv, nv) := by
    have h1 : (ps.map (·.1))[plN b nm]? = some b.bs[plN b nm] := by rw [x3, List.getElem?_eq_getElem hpl]
    rw [List.getElem?_map] at h1
    obtain ⟨p, hp, e⟩ := Option.map_eq_some_iff.1 h1
    exact ⟨p.2.1, p.2.2, by rw [hp, ← e]⟩
  obtain ⟨hv, nv, hpk⟩ := hpk
  have Hchg : Hid (chg b (plN b nm) (lessF ls) = ⟨b.things, b.bs.set (plN b nm) (lessF ls b.bs[plN b nm])⟩) := chg_at (List.getElem?_eq_getElem hpl)
  have hhas : Asc (b.bs[plN b nm]).has := (hok.2.2.2.2.1.at (k := plN b nm) hpl hpl).2.2
  obtain ⟨s4, s5⟩ := s3 b.bs[plN b nm] (by simp)
  have hzx := hszb.2 b.bs[plN b nm] (by simp)
  have Hflt : Hid (ls.filter (memS (b.bs[plN b nm]).has) = (b.bs[plN b nm]).has.filter (memS ls)) := same_filter hasc hhas
  have Hm3 : Hid (∀ (u1 u2 : Value), (ps.set (plN b nm) ((lessF ls b.bs[plN b nm], u1, u2) : Bv)).map (·.1) = b.bs.set (plN b nm) (lessF ls b.bs[plN b nm])) := fun u1 u2 => by rw [List.map_set, x3]
  clear hhas hasc
  generalize hp0 : plN b nm = p at *
  have Hp0 : Hid (plN b nm = p) := hp0
  clear hp0
  generalize b.bs[p] = x0 at *
  go_upto_region 14 with fail
  obtain ⟨W5, hW5, kZ5, hb5, hs5⟩ : ∃ W5, wA.alloc (.cells #[.string nm, .slice la ls.length lc] 40) = W5 ∧ CB W5 wA.heap.size [.string nm, .slice la ls.length lc] ∧ Below wA.heap.size wA W5 ∧ W5.heap.size = wA.heap.size + 1 := ⟨_, rfl, cb1 wA _ _⟩
  try rw [hW5]
  clear hW5
  have kX5 := kXA.up hb5 (by omega)
  have kR5 := kRA.up hb5 (by omega)
  have hB5 := up_trans hBB hb5
  have hF5 := hFA.up hb5
  have hg2 := hlt2 g rfl
  have hg1 := (hrow.lt g rfl).1
  have hrow5 := own_up hrow hb5
  have hl5 := hl.up hB5
  clear kXA kRA hBB x2A hFA hb5 hrow hlt2 h hl
  obtain ⟨⟨y0, y1⟩, -⟩ := kX5.c2
  obtain ⟨z0, z1⟩ := kZ5.c2'
  go_wp2_with fail
  refine (copied_any ls _ _ hl5 (by omega)).mono ?_
  rintro e w6 ⟨⟨un, rfl, hon⟩, hb6⟩
  obtain ⟨an, cn, rfl⟩ := hon.lst.shape
  have hz6 := hb6.size
  have kX6 := kX5.up hb6 (by omega)
  have kR6 := kR5.up hb6 (by omega)
  have hB6 := up_trans hB5 hb6
  have hF6 := hF5.up hb6
  have hrow6 := own_up hrow5 hb6
  have hFr5 := hF5.front hpk
  have hFr6 := hF6.front hpk
  have hG6 := (Fam.new hFr5.swap.tail hFr6.swap.tail hon (Nat.le_refl _) (by omega) (at_lt (by omega))).swap
  have hoh6 : OwnT w6 W1.heap.size hv x0.has := hFr6.own _ List.mem_cons_self
  obtain ⟨ah, ch, hhv⟩ := hoh6.lst.shape
  subst hhv
  have c2 := hrow6.cellAt (p * 3 + 2) (by omega)
  rw [rowsB_at ps p _ hpk 2 _ rfl] at c2
  have q2 := hrow6.frozenAt (p * 3 + 2)
  have st := hrow6.stored (p * 3 + 2) (.slice an ls.length cn)
  have hrow7 := st.1
  rw [rowsB_nd ps p _ ⟨x0.nm, x0.has, ls⟩ (.slice an ls.length cn) hpk rfl] at hrow7
  have hG7 := hG6.row hrow6 st.2
  have kX7 := kX6.kept st.2 (by simp; omega)
  have kR7 := kR6.kept st.2 (by simp; omega)
  have hB7 : Below w.heap.size w (w6.setCell ⟨g, p * 3 + 2, none⟩ (.slice an ls.length cn)) := below_own hB6 hrow6 st.2 (by omega)
  have Hz7 : Hid ((w6.setCell ⟨g, p * 3 + 2, none⟩ (.slice an ls.length cn)).heap.size = w6.heap.size) := by show _ = _; simp
  clear y0 y1 z0 z1 kX5 kR5 kZ5 hF5 hF6 hFr5 hFr6 hG6 hrow5 hrow6 hB5 hB6 st hon hl5 hoh6 kX6 kR6 hb6
  go_upto_region 16 with fail
  generalize w6.setCell ⟨g, p * 3 + 2, none⟩ (.slice an ls.length cn) = W7 at *
  clear c2 q2
  have Hp2 : Hid ((ps.set p ((⟨x0.nm, x0.has, ls⟩, .slice ah x0.has.length ch, .slice an ls.length cn) : Bv))[p]? = some (⟨x0.nm, x0.has, ls⟩, .slice ah x0.has.length ch, .slice an ls.length cn)) := List.getElem?_set_self (by omega)
  have d1 := hrow7.cellAt (p * 3 + 1) (by omega)
  rw [rowsB_at _ p _ Hp2.out 1 _ rfl] at d1
  have d2 := hrow7.cellAt (p * 3 + 2) (by omega)
  rw [rowsB_at _ p _ Hp2.out 2 _ rfl] at d2
  have hg7 : g < W7.heap.size := by have := Hz7.out; omega
  have hw7 : w2.heap.size + 1 < W7.heap.size := by have := Hz7.out; omega
  have hS1 : Below W7.heap.size W7 W7.drew ∧ World.cell? W7.drew ⟨g, p * 3 + 1, none⟩ = some (.slice ah x0.has.length ch) ∧ World.cell? W7.drew ⟨g, p * 3 + 2, none⟩ = some (.slice an ls.length cn) := ⟨(Below.refl _ _).drew, d1, d2⟩
  have hsx : (∀ s ∈ x0.has, s.size ≤ maxLen) := hzx.1
  have hlh7 : Ls W7 (.slice ah x0.has.length ch) x0.has := (hG7.own _ List.mem_cons_self).lst.ls hsx
  have hln7 : Ls W7 (.slice an ls.length cn) ls := (hG7.own _ (List.mem_cons_of_mem _ List.mem_cons_self)).lst.ls hzl
  have hb8 : Below W7.drew.heap.size W7.drew (W7.alloc (.cells #[.slice ah x0.has.length ch] 23)).drew := (Below.refl W7.drew.heap.size W7.drew).alloc (Nat.le_refl _) (.cells #[.slice ah x0.has.length ch] 23)
  have hS8 : Below W7.heap.size W7 (W7.alloc (.cells #[.slice ah x0.has.length ch] 23)).drew ∧ World.cell? (W7.alloc (.cells #[.slice ah x0.has.length ch] 23)).drew ⟨g, p * 3 + 1, none⟩ = some (.slice ah x0.has.length ch) ∧ World.cell? (W7.alloc (.cells #[.slice ah x0.has.length ch] 23)).drew ⟨g, p * 3 + 2, none⟩ = some (.slice an ls.length cn) := o2_up hg7 hS1 hb8
  clear d1 d2
  go_wp2_with fail
  refine wp_region_x 13 (fun w' => Below W7.heap.size W7 w' ∧ World.cell? w' ⟨g, p * 3 + 1, none⟩ = some (.slice ah x0.has.length ch) ∧ World.cell? w' ⟨g, p * 3 + 2, none⟩ = some (.slice an ls.length cn)) (by kernel_rfl) ?_
  refine anyX_take (i := 0) (v := ?_) rfl (by kernel_rfl) (by kernel_rfl) (by kernel_rfl) (by kernel_rfl) (fun _ _ _ h => h) (by rfl) hS1 ?_ ?_; rotate_left; focus (intro w hSw; (try dsimp only at hSw); go_simp; try with_reducible rfl); (try simp only [Act.put, List.setIfInBounds_toArray, List.set_cons_zero, List.set_cons_succ])
  refine anyX_take (i := 1) (v := ?_) rfl (by kernel_rfl) (by kernel_rfl) (by kernel_rfl) (by kernel_rfl) (fun _ _ _ h => h) (by rfl) hS1 ?_ ?_; rotate_left; focus (intro w hSw; (try dsimp only at hSw); go_simp; try with_reducible rfl); (try simp only [Act.put, List.setIfInBounds_toArray, List.set_cons_zero, List.set_cons_succ])
  refine anyX_take (i := 2) (v := ?_) rfl (by kernel_rfl) (by kernel_rfl) (by kernel_rfl) (by kernel_rfl) (fun _ _ _ h => h) (by rfl) hS1 ?_ ?_; rotate_left; focus (intro w hSw; (try dsimp only at hSw); go_simp; try with_reducible rfl); (try simp only [Act.put, List.setIfInBounds_toArray, List.set_cons_zero, List.set_cons_succ])
  refine anyX_take (i := 3) (v := ?_) rfl (by kernel_rfl) (by kernel_rfl) (by kernel_rfl) (by kernel_rfl) (fun _ _ _ h => h) (by rfl) hS1 ?_ ?_; rotate_left; focus (intro w hSw; (try dsimp only at hSw); go_simp; try with_reducible rfl); (try simp only [Act.put, List.setIfInBounds_toArray, List.set_cons_zero, List.set_cons_succ])
  refine anyX_take (i := 4) (v := ?_) rfl (by kernel_rfl) (by kernel_rfl) (by kernel_rfl) (by kernel_rfl) (fun _ _ _ h => h) (by rfl) hS1 ?_ ?_; rotate_left; focus (intro w hSw; (try dsimp only at hSw); go_simp; try with_reducible rfl); (try simp only [Act.put, List.setIfInBounds_toArray, List.set_cons_zero, List.set_cons_succ])
  refine anyX_take (i := 5) (v := ?_) rfl (by kernel_rfl) (by kernel_rfl) (by kernel_rfl) (by kernel_rfl) (fun _ _ _ h => h) (by rfl) hS1 ?_ ?_; rotate_left; focus (intro w hSw; (try dsimp only at hSw); go_simp; try with_reducible rfl); (try simp only [Act.put, List.setIfInBounds_toArray, List.set_cons_zero, List.set_cons_succ])
  refine anyX_take (i := 6) (v := ?_) rfl (by kernel_rfl) (by kernel_rfl) (by kernel_rfl) (by kernel_rfl) (fun _ _ _ h => h) (by rfl) hS1 ?_ ?_; rotate_left; focus (intro w hSw; (try dsimp only at hSw); go_simp; try with_reducible rfl); (try simp only [Act.put, List.setIfInBounds_toArray, List.set_cons_zero, List.set_cons_succ])
  refine anyX_take (i := 7) (v := ?_) rfl (by kernel_rfl) (by kernel_rfl) (by kernel_rfl) (by kernel_rfl) (fun _ _ _ h => h) (by rfl) hS1 ?_ ?_; rotate_left; focus (intro w hSw; (try dsimp only at hSw); go_simp; try with_reducible rfl); (try simp only [Act.put, List.setIfInBounds_toArray, List.set_cons_zero, List.set_cons_succ])
  refine anyX_take (i := 8) (v := ?_) rfl (by kernel_rfl) (by kernel_rfl) (by kernel_rfl) (by kernel_rfl) (fun _ _ _ h => h) (by rfl) hS1 ?_ ?_; rotate_left; focus (intro w hSw; (try dsimp only at hSw); go_simp; try with_reducible rfl); (try simp only [Act.put, List.setIfInBounds_toArray, List.set_cons_zero, List.set_cons_succ])
  refine anyX_one (i := 9) (by kernel_rfl) rfl (fun K hK => ?_)
  go_simp
  refine hK.out _ _ (fun _ => hS8) ?_; clear hK K; (try simp only [Act.put, List.setIfInBounds_toArray, List.set_cons_zero, List.set_cons_succ])
  have hn8 : Below W7.heap.size W7 (W7.alloc (.cells #[.slice ah x0.has.length ch] 23)).drew := hS8.1
  have hcell8 : (W7.alloc (.cells #[.slice ah x0.has.length ch] 23)).drew.cell? ⟨W7.heap.size, 0, none⟩ = some (.slice ah x0.has.length ch) := (cb_alloc W7 [.slice ah x0.has.length ch] 23).1 0 _ rfl
  have hlh8 := hlh7.up hn8
  have hln8 := hln7.up hn8
  have Hz8 : Hid ((W7.alloc (.cells #[.slice ah x0.has.length ch] 23)).drew.heap.size = W7.heap.size + 1) := by show _ = _; simp
  generalize (W7.alloc (.cells #[.slice ah x0.has.length ch] 23)).drew = W8 at *
  have hl8 : W7.heap.size < W8.heap.size := by have := Hz8.out; omega
  refine anyX_one (i := 10) (by kernel_rfl) rfl (fun K hK => ?_)
  go_simp
  go_wp2_with (go_at_call 62; refine (among1_any ls x0.has _ _ W7.heap.size _ hln8 hls hcell8 hlh8 hl8 (by omega)).mono ?_; rintro e w9 ⟨⟨uh, rfl, hoh⟩, hb9⟩)
  obtain ⟨xh, yh, hxh⟩ := hoh.lst.shape
  rw [Hflt.out] at hxh hoh
  subst hxh
  have hS9 : Below W7.heap.size W7 w9 ∧ World.cell? w9 ⟨g, p * 3 + 1, none⟩ = some (.slice ah x0.has.length ch) ∧ World.cell? w9 ⟨g, p * 3 + 2, none⟩ = some (.slice an ls.length cn) := o2_up hg7 hS8 hb9
  refine hK.out _ _ (fun _ => hS9) ?_; clear hK K; (try simp only [Act.put, List.setIfInBounds_toArray, List.set_cons_zero, List.set_cons_succ])
  refine anyX_one (i := 11) (by kernel_rfl) rfl (fun K hK => ?_)
  go_simp
  refine hK.out _ _ (fun _ => hS9) ?_; clear hK K; (try simp only [Act.put, List.setIfInBounds_toArray, List.set_cons_zero, List.set_cons_succ])
  refine anyX_take (i := 12) (v := ?_) rfl (by kernel_rfl) (by kernel_rfl) (by kernel_rfl) (by kernel_rfl) (fun _ _ _ h => h) (by rfl) hS9 ?_ ?_; rotate_left; focus (intro w hSw; (try dsimp only at hSw); go_simp; try with_reducible rfl); (try simp only [Act.put, List.setIfInBounds_toArray, List.set_cons_zero, List.set_cons_succ])
  have hz9 := hb9.size
  have hB79 := hS9.1
  have kX9 := kX7.up hB79 (by omega)
  have kR9 := kR7.up hB79 (by omega)
  have hB9 := up_trans hB7 hB79
  have hrow9 := own_up hrow7 hB79
  have hG9 := hG7.up hB79
  have hH9 := Fam.new hG7.tail hG9.tail hoh (by omega) (by omega) (at_lt (by omega))
  have d1 := hS9.2.1
  have q1 := hrow9.frozenAt (p * 3 + 1)
  have st := hrow9.stored (p * 3 + 1) (.slice xh (x0.has.filter (memS ls)).length yh)
  have hrow10 := st.1
  rw [rowsB_hs _ p _ (lessF ls x0) (.slice xh (x0.has.filter (memS ls)).length yh) Hp2.out rfl, set_two] at hrow10
  have hH10 := hH9.row hrow9 st.2
  have kX10 := kX9.kept st.2 (by simp; omega)
  have kR10 := kR9.kept st.2 (by simp; omega)
  have hB10 : Below w.heap.size w (w9.setCell ⟨g, p * 3 + 1, none⟩ (.slice xh (x0.has.filter (memS ls)).length yh)) := below_own hB9 hrow9 st.2 (by omega)
  clear hS1 hS8 kX7 kR7 hB7 hrow7 hG7 hlh7 hln7 hb8 hn8 hcell8 hlh8 hln8 hoh hb9 hB79 kX9 kR9 hB9 hrow9 hG9 hH9 st
  refine anyX_one (i := 13) (by kernel_rfl) rfl (fun K hK => ?_)
  go_simp
  refine hK.out _ _ (fun h => absurd rfl h) ?_
  clear hK K
  refine anyX_done (by kernel_rfl) ?_ _
  clear d1 q1 hS9
  have Hlf : Hid (lessF ls x0 = ⟨x0.nm, x0.has.filter (memS ls), ls⟩) := rfl
  generalize x0.has.filter (memS ls) = fl at *
  generalize w9.setCell ⟨g, p * 3 + 1, none⟩ (.slice xh fl.length yh) = W10 at *
  obtain ⟨⟨y0, y1⟩, -⟩ := kX10.c2
  obtain ⟨⟨r0, r1⟩, q0, q1⟩ := kR10.c2
  have hW1z : w.heap.size + 1 < W1.heap.size := by omega
  have hF10 : Fam W10 W1.heap.size (some w2.heap.size) (((.slice a3 b.things.length c3), b.things) :: famB (ps.set p ((lessF ls x0, .slice xh fl.length yh, .slice an ls.length cn) : Bv))) := by
    refine Fam.back ?_ (by omega)
    rw [Hlf.out]; exact hH10
  clear hH10
  go_wp2_with fail
  refine end_cb2 Tryz.results42 Tryz.underlying26 rfl sizeBk1 kR10 rfl ?_
  have hrow8 := own_grown (own_grown hrow10 (grown_setCell (rb := w.heap.size + 1) (off := 0) (grown_refl _ _) (.slice a3 b.things.length c3)) hW1z) (grown_setCell (rb := w.heap.size + 1) (off := 1) (grown_refl _ _) (.slice (some ⟨g, 0, none⟩) b.bs.length c4)) hW1z
  have hF8 := (hF10.free.setLow hW1z 0 (.slice a3 b.things.length c3)).setLow hW1z 1 (.slice (some ⟨g, 0, none⟩) b.bs.length c4)
  have hW8 := hF8.bsW (fs := [((.slice a3 b.things.length c3), b.things)]) (v := .slice (some ⟨g, 0, none⟩) b.bs.length c4) (by rw [List.length_set, hps]; exact hrow8) (fun q hq => by
    rcases List.mem_or_eq_of_mem_set hq with h | h
    · exact Hnm.out q h
    · subst h
      exact Hnm.out ((x0, .slice ah x0.has.length ch, nv) : Bv) (List.mem_of_getElem? hpk))
  have hm3 := Hm3.out (.slice xh fl.length yh) (.slice an ls.length cn)
  have hchg := Hchg.out
  rw [← Hp0.out] at hchg
  rw [hchg]
  refine ⟨⟨_, rfl, a3, c3, some ⟨g, 0, none⟩, c4, _, ?_, ?_, by rw [Hp0.out]; exact hm3, hF8.low (by omega)⟩, below_set2 hB10 (Nat.le_succ _) _ _⟩
  · show Value.agg #[_, _] = Value.agg #[_, .slice _ (b.bs.set _ _).length _]
    rw [List.length_set]
  · show BsW _ _ (.slice _ (b.bs.set _ _).length _) _
    rw [List.length_set]
    exact hW8.low (by omega)
end Go.Proofs.YtkgbdjdgcacblaaGreatDoor
