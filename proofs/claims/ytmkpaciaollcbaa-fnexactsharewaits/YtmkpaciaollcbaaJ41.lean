/- The functions that the laws of who waits call, the going ones apart. -/
import Derived.Test.YtmkpaciaollcbaaProg
import Derived.Test.YtmkpaciaollcbaaJ25
import Derived.Test.YtmkpaciaollcbaaJ29
import Derived.Test.YtmkpaciaollcbaaLawKu
namespace Go.Proofs.Ytmkpaciaollcbaa
open Go.Conc
def fsW : List Nat := [5, 6, 7, 9, 10, 11, 12, 13, 14, 16, 17, 18, 19, 20, 21, 22, 23, 25, 26, 27, 28, 29, 30, 31, 33, 34, 35, 36, 37, 38, 39, 40, 41, 42, 43, 45, 46, 47, 48, 49, 50, 51, 58, 59, 60, 61, 62, 83, 84]
set_option maxRecDepth 100000 in
theorem setW : SetOk Try.prog (fun g => fsW.contains g) := setOk_of (by kernel_rfl)
end Go.Proofs.Ytmkpaciaollcbaa

/- The laws' marks over books. -/
namespace Go.Proofs.Ytmkpaciaollcbaa
open Go.RowKit

/-- Worlds that are alike outside of a range of blocks. -/
def Out (lo hi : Nat) (w w' : World) : Prop := w'.os = w.os ∧ w'.tape = w.tape ∧ w'.output = w.output ∧ w.heap.size ≤ w'.heap.size ∧ ∀ i, i < w.heap.size → (i < lo ∨ hi ≤ i) → w'.heap[i]? = w.heap[i]?
theorem Out.refl (lo hi : Nat) (w : World) : Out lo hi w w := ⟨rfl, rfl, rfl, Nat.le_refl _, fun _ _ _ => rfl⟩
theorem Out.grown {lo hi : Nat} {a b c : World} {q : Nat} (h : Out lo hi a b) (hg : b.grownBy c (some q)) (hq : lo ≤ q ∧ q < hi) : Out lo hi a c :=
  ⟨hg.os.trans h.1, hg.tape.trans h.2.1, hg.output.trans h.2.2.1, Nat.le_trans h.2.2.2.1 hg.size, fun i hi hr => (hg.block i (Nat.lt_of_lt_of_le hi h.2.2.2.1) (by simp; omega)).trans (h.2.2.2.2 i hi hr)⟩
theorem Out.up {lo hi : Nat} {a b c : World} (h : Out lo hi a b) (hb : Below b.heap.size b c) : Out lo hi a c :=
  ⟨hb.os.trans h.1, hb.tape.trans h.2.1, hb.output.trans h.2.2.1, Nat.le_trans h.2.2.2.1 hb.size, fun i hi hr => (hb.block i (Nat.lt_of_lt_of_le hi h.2.2.2.1)).trans (h.2.2.2.2 i hi hr)⟩
theorem Out.blk {lo hi : Nat} {a b : World} (h : Out lo hi a b) {i : Nat} (h1 : i < a.heap.size) (h2 : i < lo ∨ hi ≤ i) : b.heap[i]? = a.heap[i]? := h.2.2.2.2 i h1 h2
/-- The shape of a list, of batches, of a book that may be marked. -/
def LsR (w : World) (lo hi : Nat) (v : Value) (N : Nat) : Prop := ∃ bb, v = .slice (some ⟨bb, 0, none⟩) N N ∧ w.there bb 0 N ∧ lo ≤ bb ∧ bb < hi ∧ hi ≤ w.heap.size
theorem LsR.thr {w w' : World} {lo hi : Nat} {v : Value} {N : Nat} (h : LsR w lo hi v N) (ht : Thr w w') (hz : w.heap.size ≤ w'.heap.size) : LsR w' lo hi v N := by
  obtain ⟨bb, rfl, h1, h2, h3, h4⟩ := h
  exact ⟨bb, rfl, ht bb N (by omega) h1, h2, h3, by omega⟩
theorem LsO.lsR {w : World} {lo base : Nat} {v : Value} {ss : List ByteArray} (h : LsO w base v ss) (hb : lo ≤ base) : LsR w lo w.heap.size v ss.length := by
  obtain ⟨b, rfl, -, ht, h0, h2, -⟩ := h
  exact ⟨b, rfl, ht, by omega, h2, Nat.le_refl _⟩
/-- A batch's cells in block b0; its lists behind it. -/
def BaR (w : World) (hi b0 o : Nat) (x : Ba) : Prop := ∃ hv nv, w.cell? ⟨b0, o + 1, none⟩ = some hv ∧ w.cell? ⟨b0, o + 2, none⟩ = some nv ∧ LsR w (b0 + 1) hi hv x.has.length ∧ LsR w (b0 + 1) hi nv x.needs.length
def BsR (w : World) (lo hi b0 : Nat) (bs : List Ba) : Prop := w.there b0 0 (bs.length * 3) ∧ lo ≤ b0 ∧ b0 < hi ∧ hi ≤ w.heap.size ∧ ∀ (i : Nat) (x : Ba), bs[i]? = some x → BaR w hi b0 (i * 3) x
theorem BaR.keep {w w' : World} {hi b0 o : Nat} {x : Ba} (h : BaR w hi b0 o x) (ht : Thr w w') (hz : w.heap.size ≤ w'.heap.size) (h1 : w'.cell? ⟨b0, o + 1, none⟩ = w.cell? ⟨b0, o + 1, none⟩) (h2 : w'.cell? ⟨b0, o + 2, none⟩ = w.cell? ⟨b0, o + 2, none⟩) : BaR w' hi b0 o x := by
  obtain ⟨hv, nv, c1, c2, l1, l2⟩ := h
  exact ⟨hv, nv, h1.trans c1, h2.trans c2, l1.thr ht hz, l2.thr ht hz⟩
/-- Another block turns; a name of the batches turns. -/
theorem BsR.other {w w' : World} {lo hi b0 q : Nat} {bs : List Ba} (h : BsR w lo hi b0 bs) (hg : w.grownBy w' (some q)) (ht : Thr w w') (hq : q ≠ b0) : BsR w' lo hi b0 bs := by
  obtain ⟨h1, h2, h3, h4, h5⟩ := h
  have hk := hg.block b0 (by omega) (by simp; omega)
  exact ⟨ht _ _ (by omega) h1, h2, h3, Nat.le_trans h4 hg.size, fun i x hx => (h5 i x hx).keep ht hg.size (World.cell?_of_block (w := w) hk) (World.cell?_of_block (w := w) hk)⟩
theorem BsR.up {w w' : World} {lo hi b0 : Nat} {bs : List Ba} (h : BsR w lo hi b0 bs) (hb : Below w.heap.size w w') : BsR w' lo hi b0 bs := by
  obtain ⟨h1, h2, h3, h4, h5⟩ := h
  have hk := hb.block b0 (by omega)
  exact ⟨there_up h1 hb (by omega), h2, h3, Nat.le_trans h4 hb.size, fun i x hx => (h5 i x hx).keep (thr_up hb) hb.size (World.cell?_of_block (w := w) hk) (World.cell?_of_block (w := w) hk)⟩
theorem BsR.name {w : World} {lo hi b0 k : Nat} {bs : List Ba} (h : BsR w lo hi b0 bs) (u : Value) : BsR (w.setCell ⟨b0, k * 3, none⟩ u) lo hi b0 bs := by
  obtain ⟨h1, h2, h3, h4, h5⟩ := h
  refine ⟨thr_set _ _ (by omega) h1, h2, h3, by simpa using h4, fun i x hx => (h5 i x hx).keep thr_set (by simp) ?_ ?_⟩
  · exact World.cell?_setCell_other _ _ _ _ (by simp <;> omega)
  · exact World.cell?_setCell_other _ _ _ _ (by simp <;> omega)
theorem BsO.bsR {w : World} {base lo : Nat} {v : Value} {bs : List Ba} (h : BsO w base v bs) (hb : lo ≤ base) : ∃ b0, v = .slice (some ⟨b0, 0, none⟩) bs.length bs.length ∧ BsR w lo w.heap.size b0 bs := by
  obtain ⟨b0, rfl, h1, ht, h0, h2, -⟩ := h
  refine ⟨b0, rfl, ht, by omega, h2, Nat.le_refl _, fun i x hx => ?_⟩
  obtain ⟨hv, nv, hr, l1, l2, -⟩ := h1 i x hx
  exact ⟨hv, nv, hr 1 _ rfl, hr 2 _ rfl, l1.lsR (Nat.le_refl _), l2.lsR (Nat.le_refl _)⟩

set_option maxHeartbeats 2000000 in
theorem mkBs_any (bs : List Ba) (lo hi b0 : Nat) (m : Int) (w : World) (h : BsR w lo hi b0 bs) (hn : bs.length ≤ 1048576) (hsm : ∀ x ∈ bs, x.has.length ≤ 1048576 ∧ x.needs.length ≤ 1048576) (hm : 1 ≤ m) (hm9 : m ≤ 2000000) :
    Calls Try.prog 27 #[.slice (some ⟨b0, 0, none⟩) bs.length bs.length, .int .i64 m] w fun e w' => (∃ k : Int, e = .returned (.int .i64 k) ∧ 1 ≤ k ∧ k ≤ 3000000000000) ∧ Out lo hi w w' := by
  go_enter Try.func27, Try.ntmps27
  go_wp2
  go_loopw [1, 5] (fun kk i w' => ∃ (k : Nat) (y : Int), k ≤ bs.length ∧ i = .int .i64 k ∧ kk = .int .i64 y ∧ 1 ≤ y ∧ y ≤ 2000000 + 2097153 * (k : Int) ∧ BsR w' lo hi b0 bs ∧ Out lo hi w w') (fun _ i _ => bs.length - (intOf i).toNat)
  case atStart => exact ⟨0, m, by omega, rfl, rfl, hm, by omega, h, Out.refl _ _ _⟩
  case round =>
    clear h
    obtain ⟨k, y, hk, rfl, rfl, hy, hy9, hR, hO⟩ := hrel
    by_cases hp : k < bs.length
    · obtain ⟨s1, s2⟩ := hsm bs[k] (by simp)
      have Hx : Hid (bs[k]? = some bs[k]) := List.getElem?_eq_getElem hp
      generalize bs[k] = x0 at *
      go_wp2_with fail
      refine (mark_any y wr (by omega)).mono ?_
      rintro e w1 ⟨rfl, hB1⟩
      have hR1 := hR.up hB1
      have hO1 := hO.up hB1
      obtain ⟨ht, hlo, hhi, hsz, -⟩ := id hR1
      have hc := ht (k * 3) (by omega)
      rw [Nat.zero_add] at hc
      obtain ⟨z0, c0⟩ := Option.isSome_iff_exists.1 hc.1
      have f0 := hc.2
      have hR2 := hR1.name (k := k) (.string (mkB y))
      have hO2 := hO1.grown (grown_setCell (off := k * 3) (grown_refl w1 (some b0)) (.string (mkB y))) ⟨hlo, hhi⟩
      clear hR hO hB1 hR1 hO1 hc ht
      generalize mkB y = mb at *
      go_upto_region 6 with fail
      clear c0 f0
      generalize w1.setCell ⟨b0, k * 3, none⟩ (.string mb) = W2 at *
      obtain ⟨hv, nv, c1, c2, ⟨bh, rfl, th, hl1, hl2, hl3⟩, -⟩ := hR2.2.2.2.2 k x0 Hx.out
      go_wp2_with fail
      refine (mkLs_any x0.has.length bh (y + 1) _ th (by omega) s1 (by omega) (by omega)).mono ?_
      rintro e w3 ⟨rfl, hg3, ht3⟩
      have hR3 := hR2.other hg3 ht3 (by omega)
      have hO3 := hO2.grown hg3 ⟨by omega, hl2⟩
      clear hR2 hO2 c1 c2 th hg3 ht3
      obtain ⟨hv, nv, c1, c2, -, ⟨bn, rfl, tn, hn1, hn2, hn3⟩⟩ := hR3.2.2.2.2 k x0 Hx.out
      go_wp2_with fail
      refine (mkLs_any x0.needs.length bn (y + 1 + x0.has.length) _ tn (by omega) s2 (by omega) (by omega)).mono ?_
      rintro e w4 ⟨rfl, hg4, ht4⟩
      have hR4 := hR3.other hg4 ht4 (by omega)
      have hO4 := hO3.grown hg4 ⟨by omega, hn2⟩
      clear hR3 hO3 c1 c2 tn hg4 ht4
      go_wp2_with fail
      go_roundw
      case rel => exact ⟨k + 1, _, by omega, by go_num, rfl, by omega, by omega, hR4, hO4⟩
      case measure => simp [intOf]; omega
    · go_wp2_with fail
      go_ret
      exact ⟨⟨_, rfl, hy, by omega⟩, hO⟩

theorem CB.blk {w w' : World} {b : Nat} {cs : List Value} (h : CB w b cs) (hb : w'.heap[b]? = w.heap[b]?) (hz : w.heap.size ≤ w'.heap.size) : CB w' b cs := by
  refine ⟨fun j v hv => ?_, fun j hj => ?_, Nat.lt_of_lt_of_le h.2.2 hz⟩
  · rw [World.cell?_of_block (w := w) (a := ⟨b, 0 + j, none⟩) hb]; exact h.1 j v hv
  · rw [World.cell?_of_block (w := w) (a := ⟨b, 0 + j, none⟩) hb, World.frozen?_of_block (w := w) (a := ⟨b, 0 + j, none⟩) hb]; exact h.2.1 j hj
/-- A book that may be marked, all of it in a range of blocks. -/
def BkR (w : World) (lo hi : Nat) (v : Value) (b : Bk) : Prop := ∃ bt b0 mid, v = .agg #[.slice (some ⟨bt, 0, none⟩) b.things.length b.things.length, .slice (some ⟨b0, 0, none⟩) b.bs.length b.bs.length] ∧ w.there bt 0 b.things.length ∧ lo ≤ bt ∧ bt < hi ∧ bt < mid ∧ lo ≤ mid ∧ hi ≤ w.heap.size ∧ BsR w mid hi b0 b.bs
theorem BkO.bkR {w : World} {base : Nat} {v : Value} {b : Bk} (h : BkO w base v b) : BkR w base w.heap.size v b := by
  obtain ⟨tv, bv, mid, rfl, h1, h2, hmid, hown⟩ := h
  obtain ⟨bt, rfl, tt, hb1, hb2, hb3⟩ := h1.lsR (Nat.le_refl _)
  have hbm := hown bt rfl
  obtain ⟨b0, rfl, hR⟩ := h2.bsR (Nat.le_refl _)
  exact ⟨bt, b0, mid, rfl, tt, hb1, hb2, hbm, hmid, Nat.le_refl _, hR⟩
theorem BkR.up {w w' : World} {lo hi : Nat} {v : Value} {b : Bk} (h : BkR w lo hi v b) (hb : Below w.heap.size w w') : BkR w' lo hi v b := by
  obtain ⟨bt, b0, mid, rfl, h1, h2, h3, h4, h5, h6, h7⟩ := h
  exact ⟨bt, b0, mid, rfl, there_up h1 hb (by omega), h2, h3, h4, h5, Nat.le_trans h6 hb.size, h7.up hb⟩
/-- A list of its own that lies outside. -/
theorem OwnT.out {w w' : World} {lo hi base : Nat} {u : Value} {ss : List ByteArray} (h : OwnT w base u ss) (ho : Out lo hi w w') (hr : ∀ g, u.ownBlock = some g → g < lo ∨ hi ≤ g) : OwnT w' base u ss := by
  refine ⟨h.1, ?_⟩
  rcases h.2 with h0 | ⟨g, cap, cur, hv, hb, hh, q⟩
  · exact .inl h0
  · refine .inr ⟨g, cap, cur, hv, hb, ?_, q⟩
    rw [ho.blk (Array.getElem?_eq_some_iff.1 hh).1 (hr g (by rw [hv]; rfl))]; exact hh

set_option maxHeartbeats 2000000 in
theorem mkBook_any (b : Bk) (lo hi : Nat) (v : Value) (w : World) (h : BkR w lo hi v b) (hs : Small b) :
    Calls Try.prog 11 #[v, .int .i64 1] w fun e w' => (∃ k : Int, e = .returned (.int .i64 k) ∧ 1 ≤ k ∧ k ≤ 3000000000000) ∧ Out lo hi w w' := by
  obtain ⟨bt, b0, mid, rfl, tt, hb1, hb2, hbm, hmid, hb3, hR⟩ := h
  obtain ⟨g1, g2, g3⟩ := hs
  have hb0 := hR.2.1
  obtain ⟨W1, hW1, kA, hB1, hs1⟩ : ∃ W1, w.alloc (.cells #[.slice (some ⟨bt, 0, none⟩) b.things.length b.things.length, .slice (some ⟨b0, 0, none⟩) b.bs.length b.bs.length] 30) = W1 ∧ CB W1 w.heap.size [.slice (some ⟨bt, 0, none⟩) b.things.length b.things.length, .slice (some ⟨b0, 0, none⟩) b.bs.length b.bs.length] ∧ Below w.heap.size w W1 ∧ W1.heap.size = w.heap.size + 1 := ⟨_, rfl, cb1 w _ _⟩
  have hR1 := hR.up hB1
  have tt1 := there_up tt hB1 (by omega)
  have hO1 := (Out.refl lo hi w).up hB1
  go_enter Try.func11, Try.ntmps11
  go_upto_region 1 with fail
  try rw [hW1]
  clear hW1 hR tt
  obtain ⟨p0, p1⟩ := kA.c2'
  go_wp2_with fail
  refine (mkLs_any b.things.length bt 1 _ tt1 (by omega) g1 (by omega) (by omega)).mono ?_
  rintro e w2 ⟨rfl, hg2, ht2⟩
  have hR2 := hR1.other hg2 ht2 (by omega)
  have hO2 := hO1.grown hg2 ⟨hb1, hb2⟩
  have kA2 := kA.kept hg2 (by simp; omega)
  clear p0 p1 kA hR1 hO1 hg2 ht2 tt1
  obtain ⟨p0, p1⟩ := kA2.c2'
  go_wp2_with fail
  refine (mkBs_any b.bs mid hi b0 (1 + b.things.length) _ hR2 g2 g3 (by omega) (by omega)).mono ?_
  rintro e w3 ⟨⟨k, rfl, hk1⟩, hO3⟩
  have hO4 : Out lo hi w w3 := ⟨hO3.1.trans hO2.1, hO3.2.1.trans hO2.2.1, hO3.2.2.1.trans hO2.2.2.1, Nat.le_trans hO2.2.2.2.1 hO3.2.2.2.1, fun i hi hr => (hO3.2.2.2.2 i (Nat.lt_of_lt_of_le hi hO2.2.2.2.1) (by omega)).trans (hO2.2.2.2.2 i hi hr)⟩
  clear p0 p1
  go_wp2_with fail
  go_ret
  exact ⟨⟨_, rfl, hk1⟩, hO4⟩
end Go.Proofs.Ytmkpaciaollcbaa
