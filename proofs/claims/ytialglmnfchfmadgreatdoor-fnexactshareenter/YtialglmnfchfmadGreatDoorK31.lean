/- The laws' marks over books. -/
import Derived.Test.YtialglmnfchfmadGreatDoorMk1
import Derived.Test.YtialglmnfchfmadGreatDoorLawKu
import Derived.Test.YtialglmnfchfmadGreatDoorMk8
namespace Go.Proofs.YtialglmnfchfmadGreatDoor
open Go.RowKit

/-- What could be written can be written still. -/
def Thr (w w' : World) : Prop := ∀ b n, b < w.heap.size → w.there b 0 n → w'.there b 0 n
theorem Thr.trans {a b c : World} (h : Thr a b) (hz : a.heap.size ≤ b.heap.size) (k : Thr b c) : Thr a c := fun x n hx ht => k x n (Nat.lt_of_lt_of_le hx hz) (h x n hx ht)
theorem thr_up {w w' : World} (hb : Below w.heap.size w w') : Thr w w' := fun _ _ hx ht => there_up ht hb hx
theorem thr_set {w : World} {b j : Nat} {u : Value} : Thr w (w.setCell ⟨b, j, none⟩ u) := fun x n _ ht => by
  have := World.there_setCells ht b j [u]
  simpa [World.setCells] using this

set_option maxHeartbeats 1000000 in
theorem mkLs_any (N bb : Nat) (m : Int) (w : World) (ht : w.there bb 0 N) (hb : bb < w.heap.size) (hN : N ≤ 1048576) (hm : 1 ≤ m) (hm9 : m ≤ 4000000000000) :
    Calls Tryz.prog 14 #[.slice (some ⟨bb, 0, none⟩) N N, .int .i64 m] w fun e w' => e = .returned (.int .i64 (m + N)) ∧ w.grownBy w' (some bb) ∧ Thr w w' := by
  go_enter Tryz.func14, Tryz.ntmps14
  go_wp2
  go_loopw [1, 5] (fun kk i w' => ∃ k : Nat, k ≤ N ∧ i = .int .i64 k ∧ kk = .int .i64 (m + k) ∧ w.grownBy w' (some bb) ∧ Thr w w') (fun _ i _ => N - (intOf i).toNat)
  case atStart => exact ⟨0, by omega, rfl, by simp, grown_refl _ _, fun _ _ _ h => h⟩
  case round =>
    obtain ⟨k, hk, rfl, rfl, hG, hR⟩ := hrel
    by_cases hp : k < N
    · go_wp2_with fail
      refine (mark_any (m + k) wr (by omega)).mono ?_
      rintro e w1 ⟨rfl, hB1⟩
      have hz := hG.size
      have hG1 := grown_trans hG (grown_below (r := some bb) hB1)
      have hR1 := hR.trans hz (thr_up hB1)
      have hc := hR1 bb N hb ht k hp
      rw [Nat.zero_add] at hc
      obtain ⟨x0, c0⟩ := Option.isSome_iff_exists.1 hc.1
      have f0 := hc.2
      have hz1 := hG1.size
      have hR2 : Hid (Thr w (w1.setCell ⟨bb, k, none⟩ (.string (mkB (m + k))))) := hR1.trans hz1 thr_set
      have hG2 := grown_setCell (off := k) hG1 (.string (mkB (m + k)))
      clear hG hR hB1 hR1 hc hG1
      generalize mkB (m + k) = mb at *
      go_wp2_with fail
      go_roundw
      case rel => exact ⟨k + 1, by omega, by go_num, by go_num, hG2, hR2.out⟩
      case measure => simp [intOf]; omega
    · obtain rfl : k = N := by omega
      go_wp2_with fail
      go_ret
      exact ⟨rfl, hG, hR⟩

/-- Worlds that are alike outside of a range of blocks. -/
def Out (lo hi : Nat) (w w' : World) : Prop := w'.os = w.os ∧ w'.tape = w.tape ∧ w'.output = w.output ∧ w.heap.size ≤ w'.heap.size ∧ ∀ i, i < w.heap.size → (i < lo ∨ hi ≤ i) → w'.heap[i]? = w.heap[i]?
theorem Out.refl (lo hi : Nat) (w : World) : Out lo hi w w := ⟨rfl, rfl, rfl, Nat.le_refl _, fun _ _ _ => rfl⟩
theorem Out.grown {lo hi : Nat} {a b c : World} {q : Nat} (h : Out lo hi a b) (hg : b.grownBy c (some q)) (hq : lo ≤ q ∧ q < hi) : Out lo hi a c :=
  ⟨hg.os.trans h.1, hg.tape.trans h.2.1, hg.output.trans h.2.2.1, Nat.le_trans h.2.2.2.1 hg.size, fun i hi hr => (hg.block i (Nat.lt_of_lt_of_le hi h.2.2.2.1) (by simp; omega)).trans (h.2.2.2.2 i hi hr)⟩
theorem Out.up {lo hi : Nat} {a b c : World} (h : Out lo hi a b) (hb : Below b.heap.size b c) : Out lo hi a c :=
  ⟨hb.os.trans h.1, hb.tape.trans h.2.1, hb.output.trans h.2.2.1, Nat.le_trans h.2.2.2.1 hb.size, fun i hi hr => (hb.block i (Nat.lt_of_lt_of_le hi h.2.2.2.1)).trans (h.2.2.2.2 i hi hr)⟩
theorem Out.blk {lo hi : Nat} {a b : World} (h : Out lo hi a b) {i : Nat} (h1 : i < a.heap.size) (h2 : i < lo ∨ hi ≤ i) : b.heap[i]? = a.heap[i]? := h.2.2.2.2 i h1 h2
/-- The shape of a list, of batches, of a book that may be marked. -/
def LsR (w : World) (lo hi : Nat) (v : Value) (N : Nat) : Prop := ∃ bb, v = .slice (some ⟨bb, 0, none⟩) N N ∧ w.there bb 0 N ∧ lo ≤ bb ∧ bb < hi ∧ hi ≤ w.heap.size
theorem LsR.thr {w w' : World} {lo hi : Nat} {v : Value} {N : Nat} (h : LsR w lo hi v N) (ht : Thr w w') (hz : w.heap.size ≤ w'.heap.size) : LsR w' lo hi v N := by
  obtain ⟨bb, rfl, h1, h2, h3, h4⟩ := h
  exact ⟨bb, rfl, ht bb N (by omega) h1, h2, h3, by omega⟩
theorem LsO.lsR {w : World} {lo base : Nat} {v : Value} {ss : List ByteArray} (h : LsO w base v ss) (hb : lo ≤ base) : LsR w lo w.heap.size v ss.length := by
  obtain ⟨b, rfl, -, ht, h0, h2, -⟩ := h
  exact ⟨b, rfl, ht, by omega, h2, Nat.le_refl _⟩
/-- A batch's cells in block b0; its lists behind it. -/
def BaR (w : World) (hi b0 o : Nat) (x : Ba) : Prop := ∃ hv nv, w.cell? ⟨b0, o + 1, none⟩ = some hv ∧ w.cell? ⟨b0, o + 2, none⟩ = some nv ∧ LsR w (b0 + 1) hi hv x.has.length ∧ LsR w (b0 + 1) hi nv x.needs.length
def BsR (w : World) (lo hi b0 : Nat) (bs : List Ba) : Prop := w.there b0 0 (bs.length * 3) ∧ lo ≤ b0 ∧ b0 < hi ∧ hi ≤ w.heap.size ∧ ∀ (i : Nat) (x : Ba), bs[i]? = some x → BaR w hi b0 (i * 3) x
theorem BaR.keep {w w' : World} {hi b0 o : Nat} {x : Ba} (h : BaR w hi b0 o x) (ht : Thr w w') (hz : w.heap.size ≤ w'.heap.size) (h1 : w'.cell? ⟨b0, o + 1, none⟩ = w.cell? ⟨b0, o + 1, none⟩) (h2 : w'.cell? ⟨b0, o + 2, none⟩ = w.cell? ⟨b0, o + 2, none⟩) : BaR w' hi b0 o x := by
  obtain ⟨hv, nv, c1, c2, l1, l2⟩ := h
  exact ⟨hv, nv, h1.trans c1, h2.trans c2, l1.thr ht hz, l2.thr ht hz⟩
/-- Another block turns; a name of the batches turns. -/
theorem BsR.other {w w' : World} {lo hi b0 q : Nat} {bs : List Ba} (h : BsR w lo hi b0 bs) (hg : w.grownBy w' (some q)) (ht : Thr w w') (hq : q ≠ b0) : BsR w' lo hi b0 bs := by
  obtain ⟨h1, h2, h3, h4, h5⟩ := h
  have hk := hg.block b0 (by omega) (by simp; omega)
  exact ⟨ht _ _ (by omega) h1, h2, h3, Nat.le_trans h4 hg.size, fun i x hx => (h5 i x hx).keep ht hg.size (World.cell?_of_block (w := w) hk) (World.cell?_of_block (w := w) hk)⟩
theorem BsR.up {w w' : World} {lo hi b0 : Nat} {bs : List Ba} (h : BsR w lo hi b0 bs) (hb : Below w.heap.size w w') : BsR w' lo hi b0 bs := by
  obtain ⟨h1, h2, h3, h4, h5⟩ := h
  have hk := hb.block b0 (by omega)
  exact ⟨there_up h1 hb (by omega), h2, h3, Nat.le_trans h4 hb.size, fun i x hx => (h5 i x hx).keep (thr_up hb) hb.size (World.cell?_of_block (w := w) hk) (World.cell?_of_block (w := w) hk)⟩
theorem BsR.name {w : World} {lo hi b0 k : Nat} {bs : List Ba} (h : BsR w lo hi b0 bs) (u : Value) : BsR (w.setCell ⟨b0, k * 3, none⟩ u) lo hi b0 bs := by
  obtain ⟨h1, h2, h3, h4, h5⟩ := h
  refine ⟨thr_set _ _ (by omega) h1, h2, h3, by simpa using h4, fun i x hx => (h5 i x hx).keep thr_set (by simp) ?_ ?_⟩
  · exact World.cell?_setCell_other _ _ _ _ (by simp <;> omega)
  · exact World.cell?_setCell_other _ _ _ _ (by simp <;> omega)
theorem BsO.bsR {w : World} {base lo : Nat} {v : Value} {bs : List Ba} (h : BsO w base v bs) (hb : lo ≤ base) : ∃ b0, v = .slice (some ⟨b0, 0, none⟩) bs.length bs.length ∧ BsR w lo w.heap.size b0 bs := by
  obtain ⟨b0, rfl, h1, ht, h0, h2, -⟩ := h
  refine ⟨b0, rfl, ht, by omega, h2, Nat.le_refl _, fun i x hx => ?_⟩
  obtain ⟨hv, nv, hr, l1, l2, -⟩ := h1 i x hx
  exact ⟨hv, nv, hr 1 _ rfl, hr 2 _ rfl, l1.lsR (Nat.le_refl _), l2.lsR (Nat.le_refl _)⟩

set_option maxHeartbeats 2000000 in
theorem mkBs_any (bs : List Ba) (lo hi b0 : Nat) (m : Int) (w : World) (h : BsR w lo hi b0 bs) (hn : bs.length ≤ 1048576) (hsm : ∀ x ∈ bs, x.has.length ≤ 1048576 ∧ x.needs.length ≤ 1048576) (hm : 1 ≤ m) (hm9 : m ≤ 2000000) :
    Calls Tryz.prog 28 #[.slice (some ⟨b0, 0, none⟩) bs.length bs.length, .int .i64 m] w fun e w' => (∃ k : Int, e = .returned (.int .i64 k) ∧ 1 ≤ k ∧ k ≤ 3000000000000) ∧ Out lo hi w w' := by
  go_enter Tryz.func28, Tryz.ntmps28
  go_wp2
  go_loopw [1, 5] (fun kk i w' => ∃ (k : Nat) (y : Int), k ≤ bs.length ∧ i = .int .i64 k ∧ kk = .int .i64 y ∧ 1 ≤ y ∧ y ≤ 2000000 + 2097153 * (k : Int) ∧ BsR w' lo hi b0 bs ∧ Out lo hi w w') (fun _ i _ => bs.length - (intOf i).toNat)
  case atStart => exact ⟨0, m, by omega, rfl, rfl, hm, by omega, h, Out.refl _ _ _⟩
  case round =>
    clear h
    obtain ⟨k, y, hk, rfl, rfl, hy, hy9, hR, hO⟩ := hrel
    by_cases hp : k < bs.length
    · obtain ⟨s1, s2⟩ := hsm bs[k] (by simp)
      have Hx : Hid (bs[k]? = some bs[k]) := List.getElem?_eq_getElem hp
      generalize bs[k] = x0 at *
      go_wp2_with fail
      refine (mark_any y wr (by omega)).mono ?_
      rintro e w1 ⟨rfl, hB1⟩
      have hR1 := hR.up hB1
      have hO1 := hO.up hB1
      obtain ⟨ht, hlo, hhi, hsz, -⟩ := id hR1
      have hc := ht (k * 3) (by omega)
      rw [Nat.zero_add] at hc
      obtain ⟨z0, c0⟩ := Option.isSome_iff_exists.1 hc.1
      have f0 := hc.2
      have hR2 := hR1.name (k := k) (.string (mkB y))
      have hO2 := hO1.grown (grown_setCell (off := k * 3) (grown_refl w1 (some b0)) (.string (mkB y))) ⟨hlo, hhi⟩
      clear hR hO hB1 hR1 hO1 hc ht
      generalize mkB y = mb at *
      go_upto_region 6 with fail
      clear c0 f0
      generalize w1.setCell ⟨b0, k * 3, none⟩ (.string mb) = W2 at *
      obtain ⟨hv, nv, c1, c2, ⟨bh, rfl, th, hl1, hl2, hl3⟩, -⟩ := hR2.2.2.2.2 k x0 Hx.out
      go_wp2_with fail
      refine (mkLs_any x0.has.length bh (y + 1) _ th (by omega) s1 (by omega) (by omega)).mono ?_
      rintro e w3 ⟨rfl, hg3, ht3⟩
      have hR3 := hR2.other hg3 ht3 (by omega)
      have hO3 := hO2.grown hg3 ⟨by omega, hl2⟩
      clear hR2 hO2 c1 c2 th hg3 ht3
      obtain ⟨hv, nv, c1, c2, -, ⟨bn, rfl, tn, hn1, hn2, hn3⟩⟩ := hR3.2.2.2.2 k x0 Hx.out
      go_wp2_with fail
      refine (mkLs_any x0.needs.length bn (y + 1 + x0.has.length) _ tn (by omega) s2 (by omega) (by omega)).mono ?_
      rintro e w4 ⟨rfl, hg4, ht4⟩
      have hR4 := hR3.other hg4 ht4 (by omega)
      have hO4 := hO3.grown hg4 ⟨by omega, hn2⟩
      clear hR3 hO3 c1 c2 tn hg4 ht4
      go_wp2_with fail
      go_roundw
      case rel => exact ⟨k + 1, _, by omega, by go_num, rfl, by omega, by omega, hR4, hO4⟩
      case measure => simp [intOf]; omega
    · go_wp2_with fail
      go_ret
      exact ⟨⟨_, rfl, hy, by omega⟩, hO⟩

theorem CB.blk {w w' : World} {b : Nat} {cs : List Value} (h : CB w b cs) (hb : w'.heap[b]? = w.heap[b]?) (hz : w.heap.size ≤ w'.heap.size) : CB w' b cs := by
  refine ⟨fun j v hv => ?_, fun j hj => ?_, Nat.lt_of_lt_of_le h.2.2 hz⟩
  · rw [World.cell?_of_block (w := w) (a := ⟨b, 0 + j, none⟩) hb]; exact h.1 j v hv
  · rw [World.cell?_of_block (w := w) (a := ⟨b, 0 + j, none⟩) hb, World.frozen?_of_block (w := w) (a := ⟨b, 0 + j, none⟩) hb]; exact h.2.1 j hj
/-- A book that may be marked, all of it in a range of blocks. -/
def BkR (w : World) (lo hi : Nat) (v : Value) (b : Bk) : Prop := ∃ bt b0 mid, v = .agg #[.slice (some ⟨bt, 0, none⟩) b.things.length b.things.length, .slice (some ⟨b0, 0, none⟩) b.bs.length b.bs.length] ∧ w.there bt 0 b.things.length ∧ lo ≤ bt ∧ bt < hi ∧ bt < mid ∧ lo ≤ mid ∧ hi ≤ w.heap.size ∧ BsR w mid hi b0 b.bs
theorem BkO.bkR {w : World} {base : Nat} {v : Value} {b : Bk} (h : BkO w base v b) : BkR w base w.heap.size v b := by
  obtain ⟨tv, bv, mid, rfl, h1, h2, hmid, hown⟩ := h
  obtain ⟨bt, rfl, tt, hb1, hb2, hb3⟩ := h1.lsR (Nat.le_refl _)
  have hbm := hown bt rfl
  obtain ⟨b0, rfl, hR⟩ := h2.bsR (Nat.le_refl _)
  exact ⟨bt, b0, mid, rfl, tt, hb1, hb2, hbm, hmid, Nat.le_refl _, hR⟩
theorem BkR.up {w w' : World} {lo hi : Nat} {v : Value} {b : Bk} (h : BkR w lo hi v b) (hb : Below w.heap.size w w') : BkR w' lo hi v b := by
  obtain ⟨bt, b0, mid, rfl, h1, h2, h3, h4, h5, h6, h7⟩ := h
  exact ⟨bt, b0, mid, rfl, there_up h1 hb (by omega), h2, h3, h4, h5, Nat.le_trans h6 hb.size, h7.up hb⟩
/-- A list of its own that lies outside. -/
theorem OwnT.out {w w' : World} {lo hi base : Nat} {u : Value} {ss : List ByteArray} (h : OwnT w base u ss) (ho : Out lo hi w w') (hr : ∀ g, u.ownBlock = some g → g < lo ∨ hi ≤ g) : OwnT w' base u ss := by
  refine ⟨h.1, ?_⟩
  rcases h.2 with h0 | ⟨g, cap, cur, hv, hb, hh, q⟩
  · exact .inl h0
  · refine .inr ⟨g, cap, cur, hv, hb, ?_, q⟩
    rw [ho.blk (Array.getElem?_eq_some_iff.1 hh).1 (hr g (by rw [hv]; rfl))]; exact hh

set_option maxHeartbeats 2000000 in
theorem mkBook_any (b : Bk) (lo hi : Nat) (v : Value) (w : World) (h : BkR w lo hi v b) (hs : Small b) :
    Calls Tryz.prog 13 #[v, .int .i64 1] w fun e w' => (∃ k : Int, e = .returned (.int .i64 k) ∧ 1 ≤ k ∧ k ≤ 3000000000000) ∧ Out lo hi w w' := by
  obtain ⟨bt, b0, mid, rfl, tt, hb1, hb2, hbm, hmid, hb3, hR⟩ := h
  obtain ⟨g1, g2, g3⟩ := hs
  have hb0 := hR.2.1
  obtain ⟨W1, hW1, kA, hB1, hs1⟩ : ∃ W1, w.alloc (.cells #[.slice (some ⟨bt, 0, none⟩) b.things.length b.things.length, .slice (some ⟨b0, 0, none⟩) b.bs.length b.bs.length] 30) = W1 ∧ CB W1 w.heap.size [.slice (some ⟨bt, 0, none⟩) b.things.length b.things.length, .slice (some ⟨b0, 0, none⟩) b.bs.length b.bs.length] ∧ Below w.heap.size w W1 ∧ W1.heap.size = w.heap.size + 1 := ⟨_, rfl, cb1 w _ _⟩
  have hR1 := hR.up hB1
  have tt1 := there_up tt hB1 (by omega)
  have hO1 := (Out.refl lo hi w).up hB1
  go_enter Tryz.func13, Tryz.ntmps13
  go_upto_region 1 with fail
  try rw [hW1]
  clear hW1 hR tt
  obtain ⟨p0, p1⟩ := kA.c2'
  go_wp2_with fail
  refine (mkLs_any b.things.length bt 1 _ tt1 (by omega) g1 (by omega) (by omega)).mono ?_
  rintro e w2 ⟨rfl, hg2, ht2⟩
  have hR2 := hR1.other hg2 ht2 (by omega)
  have hO2 := hO1.grown hg2 ⟨hb1, hb2⟩
  have kA2 := kA.kept hg2 (by simp; omega)
  clear p0 p1 kA hR1 hO1 hg2 ht2 tt1
  obtain ⟨p0, p1⟩ := kA2.c2'
  go_wp2_with fail
  refine (mkBs_any b.bs mid hi b0 (1 + b.things.length) _ hR2 g2 g3 (by omega) (by omega)).mono ?_
  rintro e w3 ⟨⟨k, rfl, hk1⟩, hO3⟩
  have hO4 : Out lo hi w w3 := ⟨hO3.1.trans hO2.1, hO3.2.1.trans hO2.2.1, hO3.2.2.1.trans hO2.2.2.1, Nat.le_trans hO2.2.2.2.1 hO3.2.2.2.1, fun i hi hr => (hO3.2.2.2.2 i (Nat.lt_of_lt_of_le hi hO2.2.2.2.1) (by omega)).trans (hO2.2.2.2.2 i hi hr)⟩
  clear p0 p1
  go_wp2_with fail
  go_ret
  exact ⟨⟨_, rfl, hk1⟩, hO4⟩
end Go.Proofs.YtialglmnfchfmadGreatDoor

/- What the laws of chapter 13 lean on: books that stay while others are marked. -/
namespace Go.Proofs.YtialglmnfchfmadGreatDoor
open Go.RowKit

theorem BkF.w {w : World} {base : Nat} {v : Value} {b : Bk} (h : BkF w base v b) : BkW w base v b := by
  obtain ⟨a1, c1, a2, c2, ps, rfl, h1, h2, h3⟩ := h
  exact ⟨_, _, ps, rfl, h3.own _ List.mem_cons_self, h1, h2⟩
theorem BkF.bk {w : World} {base : Nat} {v : Value} {b : Bk} (h : BkF w base v b) (hz : Szb b) : BkV w v b := h.w.bk hz
theorem BkO.shp {w : World} {base : Nat} {v : Value} {b : Bk} (h : BkO w base v b) : ∃ b1 b2, v = .agg #[.slice (some ⟨b1, 0, none⟩) b.things.length b.things.length, .slice (some ⟨b2, 0, none⟩) b.bs.length b.bs.length] := by
  obtain ⟨tv, bv, mid, rfl, h1, h2, -⟩ := h
  obtain ⟨b1, rfl⟩ := h1.shape
  obtain ⟨b2, rfl⟩ := h2.shape
  exact ⟨b1, b2, rfl⟩
theorem Out.below {lo hi : Nat} {w w' : World} (h : Out lo hi w w') (hl : lo ≤ w.heap.size) : Below lo w w' := ⟨h.1, h.2.1, h.2.2.1, h.2.2.2.1, fun _ hi => h.blk (by omega) (.inl hi)⟩
theorem row_out {w w' : World} {lo hi base e size n : Nat} {v : Value} {xs : List Value} (h : w.ownsRow base e size v n xs) (ho : Out lo hi w w') (hb : hi ≤ base) : w'.ownsRow base e size v n xs := by
  refine ⟨h.1, ?_⟩
  rcases h.2 with h0 | ⟨g, cap, cur, hv, hg, hh, q⟩
  · exact .inl h0
  · refine .inr ⟨g, cap, cur, hv, hg, ?_, q⟩
    rw [ho.blk (Array.getElem?_eq_some_iff.1 hh).1 (.inr (by omega))]; exact hh
theorem BkG.out {w w' : World} {lo hi base : Nat} {q : Option Nat} {v : Value} {b : Bk} (h : BkG w base q v b) (ho : Out lo hi w w') (hb : hi ≤ base) : BkG w' base q v b := by
  obtain ⟨a1, c1, a2, c2, ps, e, h1, h2, h3, h4⟩ := h
  exact ⟨a1, c1, a2, c2, ps, e, ⟨row_out h1.1 ho hb, fun p hp => ⟨row_out (h1.2 p hp).1 ho hb, row_out (h1.2 p hp).2.1 ho hb, (h1.2 p hp).2.2⟩⟩, h2, h3.keep fun f _ hf => row_out hf ho hb, h4⟩
theorem szb_leave {b : Bk} {nm : ByteArray} (h : Szb b) : Szb (leaveB b nm) := by
  cases hb : bookB b
  · rw [(leave_no hb).2]; exact szb_none
  · cases hm : memS (nms b.bs) nm
    · rw [(leave_none hb hm).2]; exact h
    · rw [(leave_yes hb hm).2]
      refine ⟨h.1, fun x hx => h.2 x ?_⟩
      rcases List.mem_append.1 hx with k | k
      · exact List.mem_of_mem_take k
      · exact List.mem_of_mem_drop k
theorem lit_ok {b : Bk} (h : BookOk b) : Lit b := by
  obtain ⟨s1, s2, s3⟩ := ok_small h
  exact ⟨by omega, by omega, fun x hx => by have := s3 x hx; omega⟩
theorem lit_leave (b : Bk) (nm : ByteArray) : Lit (leaveB b nm) := by
  cases hb : bookB b
  · rw [(leave_no hb).2]; exact ⟨by simp [nobody], by simp [nobody], fun x hx => by simp [nobody] at hx⟩
  · obtain ⟨s1, s2, s3⟩ := lit_ok (book_ok hb)
    cases hm : memS (nms b.bs) nm
    · rw [(leave_none hb hm).2]; exact ⟨s1, s2, s3⟩
    · rw [(leave_yes hb hm).2]
      refine ⟨s1, ?_, fun x hx => s3 x ?_⟩
      · show List.length (_ ++ _) ≤ _
        rw [List.length_append, List.length_take, List.length_drop]; omega
      · rcases List.mem_append.1 hx with k | k
        · exact List.mem_of_mem_take k
        · exact List.mem_of_mem_drop k
theorem k22_drew {W w0 : World} {q r : Nat} {x0 x1 y0 y1 : Value} (h : Below W.heap.size W w0 ∧ w0.cell? ⟨q, 0, none⟩ = some x0 ∧ w0.cell? ⟨q, 1, none⟩ = some x1 ∧ w0.cell? ⟨r, 0, none⟩ = some y0 ∧ w0.cell? ⟨r, 1, none⟩ = some y1) : Below W.heap.size W w0.drew ∧ w0.drew.cell? ⟨q, 0, none⟩ = some x0 ∧ w0.drew.cell? ⟨q, 1, none⟩ = some x1 ∧ w0.drew.cell? ⟨r, 0, none⟩ = some y0 ∧ w0.drew.cell? ⟨r, 1, none⟩ = some y1 := ⟨h.1.drew, h.2⟩
theorem k22_up {W w0 w1 : World} {q r : Nat} {x0 x1 y0 y1 : Value} (hq : q < W.heap.size) (hr : r < W.heap.size) (h : Below W.heap.size W w0 ∧ w0.cell? ⟨q, 0, none⟩ = some x0 ∧ w0.cell? ⟨q, 1, none⟩ = some x1 ∧ w0.cell? ⟨r, 0, none⟩ = some y0 ∧ w0.cell? ⟨r, 1, none⟩ = some y1) (hB : Below w0.heap.size w0 w1) : Below W.heap.size W w1 ∧ w1.cell? ⟨q, 0, none⟩ = some x0 ∧ w1.cell? ⟨q, 1, none⟩ = some x1 ∧ w1.cell? ⟨r, 0, none⟩ = some y0 ∧ w1.cell? ⟨r, 1, none⟩ = some y1 := by
  have lq : q < w0.heap.size := Nat.lt_of_lt_of_le hq h.1.size
  have lr : r < w0.heap.size := Nat.lt_of_lt_of_le hr h.1.size
  exact ⟨up_trans h.1 hB, (hB.cell (p := ⟨q, 0, none⟩) lq).trans h.2.1, (hB.cell (p := ⟨q, 1, none⟩) lq).trans h.2.2.1, (hB.cell (p := ⟨r, 0, none⟩) lr).trans h.2.2.2.1, (hB.cell (p := ⟨r, 1, none⟩) lr).trans h.2.2.2.2⟩
theorem mkEnd_pos (b : Bk) : 1 ≤ mkEnd b := by unfold mkEnd; omega
end Go.Proofs.YtialglmnfchfmadGreatDoor
