/- The laws' copies of books; two books that are alike. -/
import Derived.Test.YtafgabakhaipnaaJ26
namespace Go.Proofs.Ytafgabakhaipnaa
open Go.RowKit

theorem infoBat : (Try.prog.info? 41).map (fun i => (i.zero, i.size, i.bytes)) = some (some (.agg #[.string ⟨#[]⟩, .slice none 0 0, .slice none 0 0]), 3, 64) := by kernel_rfl
theorem run_makeBats (n : Nat) (hn : n ≤ 1048576) : ∃ C : Array Value, C.size = n * 3 ∧ ∀ w, (Instr.makeSlice 28 (.int .i64 (n : Int)) (.int .i64 (n : Int))).run Try.prog w = .ok (.slice (some ⟨w.heap.size, 0, none⟩) n n) (w.alloc (.cells C 41)) := by
  obtain ⟨i, hi, hz⟩ := Option.map_eq_some_iff.1 infoBat
  simp only [Prod.mk.injEq] at hz
  obtain ⟨hz, hs, hb⟩ := hz
  refine ⟨madeCells (Value.agg #[.string ⟨#[]⟩, .slice none 0 0, .slice none 0 0]).cells (n * 3), size_madeCells _ _, fun w => ?_⟩
  have := run_make (P := Try.prog) w 28 41 i _ Try.underlying28 hi hz .i64 .i64 (n : Int) (n : Int) (by omega) (by omega) (by rw [hb]; omega) (by omega)
  simp only [Int.toNat_natCast, hs] at this
  exact this

set_option maxHeartbeats 1000000 in
theorem toBatchS_any (bs : List Ba) (v : Value) (w : World) (h : Bs w v bs) (hn : bs.length ≤ 1048576) (hsm : ∀ y ∈ bs, y.has.length ≤ 1048576 ∧ y.needs.length ≤ 1048576) :
    Calls Try.prog 18 #[v] w fun e w' => (∃ u, e = .returned u ∧ BsO w' w.heap.size u bs) ∧ Below w.heap.size w w' := by
  obtain ⟨a, c, rfl, hm, hpos⟩ := h
  obtain ⟨C, hC, hmk⟩ := run_makeBats bs.length hn
  have HC : Hid (C.size = bs.length * 3) := hC
  have Hm : Hid (bs.length ≤ maxLen) := hm
  clear hC hm
  go_enter Try.func18, Try.ntmps18
  go_wp2
  go_loopw [4] (fun i w' => ∃ k : Nat, k ≤ bs.length ∧ i = .int .i64 k ∧ BsOAt w' w.heap.size (bs.take k) ∧ w'.there w.heap.size 0 (bs.length * 3) ∧ w.heap.size < w'.heap.size ∧ Below w.heap.size w w') (fun i _ => bs.length - (intOf i).toNat)
  case atStart => exact ⟨0, by omega, rfl, fun i p hp => by simp at hp, by rw [← HC.out]; exact there_alloc _ _ _, by simp, by go_grown⟩
  case round =>
    obtain ⟨k, hk, rfl, hra, hth, hlt, hB⟩ := hrel
    have Hra : Hid (BsOAt wr w.heap.size (bs.take k)) := hra
    have Hth : Hid (wr.there w.heap.size 0 (bs.length * 3)) := hth
    clear hra hth
    by_cases hp : k < bs.length
    · obtain ⟨b, o, rfl, hS, hb⟩ := hpos (by omega)
      obtain ⟨a1, d1, a2, d2, c0, c1, c2, l1, l2, z0⟩ := ((hS.at hp).up hB hb).cells
      obtain ⟨s1, s2⟩ := hsm bs[k] (by simp)
      have HS : Hid (∀ (w1 : World) (hu nu : Value), BsOAt w1 w.heap.size (bs.take k) → w1.there w.heap.size 0 (bs.length * 3) → LsO w1 (w.heap.size + 1) hu (bs[k]).has → LsO w1 (w.heap.size + 1) nu (bs[k]).needs → BsOAt (w1.setCells w.heap.size (k * 3) [.string (bs[k]).nm, hu, nu]) w.heap.size (bs.take (k + 1))) := fun w1 hu nu g1 g2 g3 g4 => bsO_store hp g1 g2 g3 g4 z0
      generalize bs[k] = x0 at *
      go_wp2_with fail
      refine (toBatch_any x0 _ _ _ l1 l2 s1 s2).mono ?_
      rintro e w1 ⟨⟨hu, nu, rfl, ho1, ho2⟩, hb1⟩
      have HS1 : Hid (BsOAt (w1.setCells w.heap.size (k * 3) [.string x0.nm, hu, nu]) w.heap.size (bs.take (k + 1))) := HS.out w1 hu nu (Hra.out.up hb1 hlt) (there_up Hth.out hb1 hlt) (ho1.low (by omega)) (ho2.low (by omega))
      have hB1 := up_trans hB hb1
      have hlt1 := Nat.lt_of_lt_of_le hlt hb1.size
      have Hth1 : Hid (w1.there w.heap.size 0 (bs.length * 3)) := there_up Hth.out hb1 hlt
      obtain ⟨b1, rfl⟩ := ho1.shape
      obtain ⟨b2, rfl⟩ := ho2.shape
      clear c0 c1 c2 l1 l2 hS HS ho1 ho2 hb1 hB Hra Hth
      go_wp2_with (refine wpList_store_mid rfl 41 _ _ rfl w.heap.size (k * 3) _ rfl rfl (fun j hj => by
          have := Hth1.out (k * 3 + j) (by simp at hj; omega)
          simpa using this) sizeBat (by simp [Value.oneCell']) ?_)
      go_roundw
      case rel => exact ⟨k + 1, by omega, by go_num, HS1.out, World.there_setCells Hth1.out _ _ _, Nat.lt_of_lt_of_le hlt1 (size_setCells _ _ _ _), below_setCells _ _ _ _ _ _ hB1 (Nat.le_refl _)⟩
      case measure => simp [intOf]; omega
    · go_wp2_with fail
      go_ret
      exact ⟨⟨_, rfl, w.heap.size, rfl, by have := Hra.out; rwa [List.take_of_length_le (by omega)] at this, Hth.out, Nat.le_refl _, hlt, Hm.out⟩, hB⟩

theorem BsO.shape {w : World} {base : Nat} {v : Value} {bs : List Ba} (h : BsO w base v bs) : ∃ b, v = .slice (some ⟨b, 0, none⟩) bs.length bs.length := by
  obtain ⟨b, rfl, -⟩ := h; exact ⟨b, rfl⟩
theorem BaO.set {w : World} {b o r j : Nat} {u : Value} {x : Ba} (h : BaO w b o x) (hr : r < b) : BaO (w.setCell ⟨r, j, none⟩ u) b o x := by
  obtain ⟨hv, nv, hg, h1, h2, h3⟩ := h
  refine ⟨hv, nv, fun i v hi => ?_, h1.set (by omega), h2.set (by omega), h3⟩
  rw [World.cell?_setCell_other _ _ _ _ (by simp <;> omega)]; exact hg i v hi
theorem BsO.set {w : World} {base r j : Nat} {v u : Value} {bs : List Ba} (h : BsO w base v bs) (hr : r < base) : BsO (w.setCell ⟨r, j, none⟩ u) base v bs := by
  obtain ⟨b, rfl, h1, ht, h0, h2, h3⟩ := h
  exact ⟨b, rfl, fun i x hx => (h1 i x hx).set (by omega), there_kept ht (grown_setCell (grown_refl _ (some r)) u) h2 (by simp; omega), h0, by simpa using h2, h3⟩
theorem BsO.low {w : World} {base base' : Nat} {v : Value} {bs : List Ba} (h : BsO w base v bs) (hb : base' ≤ base) : BsO w base' v bs := by
  obtain ⟨b, rfl, h1, ht, h0, h2⟩ := h
  exact ⟨b, rfl, h1, ht, by omega, h2⟩

set_option maxHeartbeats 1000000 in
theorem toBook_any (b : Bk) (v : Value) (w : World) (h : BkV w v b) (hs : Small b) :
    Calls Try.prog 6 #[v] w fun e w' => (∃ u, e = .returned u ∧ BkO w' w.heap.size u b) ∧ Below w.heap.size w w' := by
  obtain ⟨a1, c1, a2, c2, rfl, h1, h2⟩ := h.parts
  obtain ⟨g1, g2, g3⟩ := hs
  go_enter Try.func6, Try.ntmps6
  go_upto_region 2 with fail
  obtain ⟨W1, hW1, kP, kR, kO, hB1, hs1⟩ : ∃ W1, ((w.alloc (.cells #[.slice a1 b.things.length c1, .slice a2 b.bs.length c2] 25)).alloc (.cells #[.slice none 0 0, .slice none 0 0] 30)).alloc (.cells #[.slice none 0 0, .slice none 0 0] 30) = W1 ∧ CB W1 w.heap.size [.slice a1 b.things.length c1, .slice a2 b.bs.length c2] ∧ CB W1 (w.heap.size + 1) [.slice none 0 0, .slice none 0 0] ∧ CB W1 (w.heap.size + 2) [.slice none 0 0, .slice none 0 0] ∧ Below w.heap.size w W1 ∧ W1.heap.size = w.heap.size + 3 := ⟨_, rfl, cb3 w _ _ _ _ _ _⟩
  try rw [hW1]
  clear hW1
  obtain ⟨⟨p0, p1⟩, -⟩ := kP.c2
  go_wp2_with fail
  refine (toStr_any b.things _ _ (h1.up hB1) g1).mono ?_
  rintro e w3 ⟨⟨tu, rfl, ho1⟩, hb3⟩
  rw [hs1] at ho1
  have hz3 := hb3.size
  have kP3 := kP.up hb3 (by omega)
  have kR3 := kR.up hb3 (by omega)
  have kO3 := kO.up hb3 (by omega)
  have hB3 := up_trans hB1 hb3
  obtain ⟨b1, hb1⟩ := ho1.shape
  subst hb1
  clear p0 p1 kP kR kO hB1 hb3
  obtain ⟨W4, hW4, kP4, kR4, kO4, ho4, hB4, hs4⟩ : ∃ W4, w3.setCell ⟨w.heap.size + 2, 0, none⟩ (.slice (some ⟨b1, 0, none⟩) b.things.length b.things.length) = W4 ∧ CB W4 w.heap.size [.slice a1 b.things.length c1, .slice a2 b.bs.length c2] ∧ CB W4 (w.heap.size + 1) [.slice none 0 0, .slice none 0 0] ∧ CB W4 (w.heap.size + 2) [.slice (some ⟨b1, 0, none⟩) b.things.length b.things.length, .slice none 0 0] ∧ LsO W4 (w.heap.size + 3) (.slice (some ⟨b1, 0, none⟩) b.things.length b.things.length) b.things ∧ Below w.heap.size w W4 ∧ W4.heap.size = w3.heap.size := ⟨_, rfl, kP3.other (by omega), kR3.other (by omega), kO3.set (j := 0) (by simp), ho1.set (by omega), below_set1 hB3 (by omega) _, by simp⟩
  obtain ⟨⟨o0, o1⟩, f0, f1⟩ := kO3.c2
  go_upto_region 3 with fail
  try rw [hW4]
  clear hW4 o0 o1 f0 f1 kP3 kR3 kO3 ho1 hB3
  obtain ⟨⟨p0, p1⟩, -⟩ := kP4.c2
  go_wp2_with fail
  refine (toBatchS_any b.bs _ _ (h2.up hB4) g2 g3).mono ?_
  rintro e w5 ⟨⟨nu, rfl, ho2⟩, hb5⟩
  have hz5 := hb5.size
  have kR5 := kR4.up hb5 (by omega)
  have kO5 := kO4.up hb5 (by omega)
  have ho5 := ho4.up hb5
  have hb1m : b1 < W4.heap.size := by
    obtain ⟨b', e, -, -, -, hlt, -⟩ := ho4
    have : b1 = b' := by simpa using e
    omega
  have hB5 := up_trans hB4 hb5
  obtain ⟨b2, hb2⟩ := ho2.shape
  subst hb2
  clear p0 p1 kP4 kR4 kO4 hB4 hb5 ho4
  obtain ⟨⟨o0, o1⟩, f0, f1⟩ := kO5.c2
  obtain ⟨⟨r0, r1⟩, g0, g1⟩ := kR5.c2
  have hR6 := kR5.other (q := w.heap.size + 2) (j := 1) (u := .slice (some ⟨b2, 0, none⟩) b.bs.length b.bs.length) (by omega)
  go_wp2_with fail
  refine end_cb2 Try.results6 Try.underlying30 rfl sizeBk hR6 rfl ?_
  refine ⟨⟨_, rfl, _, _, W4.heap.size, rfl, ?_, ?_, by omega, fun g hg => ?_⟩, below_set2 (below_set1 hB5 (by omega) _) (by omega) _ _⟩
  · exact (((ho5.set (by omega)).set (by omega)).set (by omega)).low (by omega)
  · exact (((ho2.set (by omega)).set (by omega)).set (by omega))
  · simp [Value.ownBlock] at hg
    omega

set_option maxHeartbeats 1000000 in
theorem eqBatch_any (x : Ba) (hv nv hu nu : Value) (w : World) (h1 : Ls w hv x.has) (h2 : Ls w nv x.needs) (h3 : Ls w hu x.has) (h4 : Ls w nu x.needs) :
    Calls Try.prog 39 #[.agg #[.string x.nm, hv, nv], .agg #[.string x.nm, hu, nu]] w fun e w' => e = .returned (.bool true) ∧ Below w.heap.size w w' := by
  obtain ⟨a1, c1, rfl, -⟩ := id h1
  obtain ⟨a2, c2, rfl, -⟩ := id h2
  obtain ⟨a3, c3, rfl, -⟩ := id h3
  obtain ⟨a4, c4, rfl, -⟩ := id h4
  go_enter Try.func39, Try.ntmps39
  go_upto_region 1 with fail
  obtain ⟨W1, hW1, kP, kR, hB1, hs1⟩ : ∃ W1, (w.alloc (.cells #[.string x.nm, .slice a1 x.has.length c1, .slice a2 x.needs.length c2] 41)).alloc (.cells #[.string x.nm, .slice a3 x.has.length c3, .slice a4 x.needs.length c4] 41) = W1 ∧ CB W1 w.heap.size [.string x.nm, .slice a1 x.has.length c1, .slice a2 x.needs.length c2] ∧ CB W1 (w.heap.size + 1) [.string x.nm, .slice a3 x.has.length c3, .slice a4 x.needs.length c4] ∧ Below w.heap.size w W1 ∧ W1.heap.size = w.heap.size + 2 := ⟨_, rfl, cb2 w _ _ _ _⟩
  try rw [hW1]
  clear hW1
  obtain ⟨⟨p0, p1, p2⟩, -⟩ := kP.c3
  obtain ⟨⟨r0, r1, r2⟩, -⟩ := kR.c3
  go_wp2_with fail
  refine (eqLs_any x.has _ _ _ (h1.up hB1) (h3.up hB1)).mono ?_
  rintro e w2 ⟨rfl, hb2⟩
  have kP2 := kP.up hb2 (by omega)
  have kR2 := kR.up hb2 (by omega)
  have hB2 := up_trans hB1 hb2
  clear p0 p1 p2 r0 r1 r2 kP kR
  obtain ⟨⟨p0, p1, p2⟩, -⟩ := kP2.c3
  obtain ⟨⟨r0, r1, r2⟩, -⟩ := kR2.c3
  go_wp2_with fail
  refine (eqLs_any x.needs _ _ _ (h2.up hB2) (h4.up hB2)).mono ?_
  rintro e w3 ⟨rfl, hb3⟩
  have hB3 := up_trans hB2 hb3
  clear p0 p1 p2 r0 r1 r2
  go_wp2_with fail
  go_ret
  exact ⟨rfl, hB3⟩

set_option maxHeartbeats 1000000 in
theorem eqBatchS_any (bs : List Ba) (va vb : Value) (w : World) (ha : Bs w va bs) (hb : Bs w vb bs) :
    Calls Try.prog 23 #[va, vb] w fun e w' => e = .returned (.bool true) ∧ Below w.heap.size w w' := by
  obtain ⟨a1, c1, rfl, hn, hp1⟩ := ha
  obtain ⟨a2, c2, rfl, -, hp2⟩ := hb
  unfold maxLen at hn
  go_enter Try.func23, Try.ntmps23
  go_wp2
  go_loopw [5] (fun i w' => ∃ k : Nat, k ≤ bs.length ∧ i = .int .i64 k ∧ Below w.heap.size w w') (fun i _ => bs.length - (intOf i).toNat)
  case atStart => exact ⟨0, by omega, rfl, Below.refl _ _⟩
  case round =>
    obtain ⟨k, hk, rfl, hB⟩ := hrel
    by_cases hp : k < bs.length
    · obtain ⟨g1, o1, rfl, hS1, hg1⟩ := hp1 (by omega)
      obtain ⟨g2, o2, rfl, hS2, hg2⟩ := hp2 (by omega)
      obtain ⟨a3, d3, a4, d4, c3, c4, c5, l3, l4, -⟩ := ((hS1.at hp).up hB hg1).cells
      obtain ⟨a5, d5, a6, d6, e3, e4, e5, l5, l6, -⟩ := ((hS2.at hp).up hB hg2).cells
      have HQ : Hid (∀ W, Ls W (.slice a3 (bs[k]).has.length d3) (bs[k]).has → Ls W (.slice a4 (bs[k]).needs.length d4) (bs[k]).needs → Ls W (.slice a5 (bs[k]).has.length d5) (bs[k]).has → Ls W (.slice a6 (bs[k]).needs.length d6) (bs[k]).needs → Calls Try.prog 39 #[.agg #[.string (bs[k]).nm, .slice a3 (bs[k]).has.length d3, .slice a4 (bs[k]).needs.length d4], .agg #[.string (bs[k]).nm, .slice a5 (bs[k]).has.length d5, .slice a6 (bs[k]).needs.length d6]] W fun e w' => e = .returned (.bool true) ∧ Below W.heap.size W w') := fun W q1 q2 q3 q4 => eqBatch_any bs[k] _ _ _ _ W q1 q2 q3 q4
      generalize bs[k] = x0 at *
      go_wp2_with fail
      go_region_with (go_at_call 39; refine (HQ.out _ (by exact l3) (by exact l4) (by exact l5) (by exact l6)).mono ?_; rintro e w1 ⟨rfl, hb1⟩)
      all_goals
        have hB1 := up_trans hB.drew hb1
        clear c3 c4 c5 e3 e4 e5
        go_wp2_with fail
        go_roundw
        case rel => exact ⟨k + 1, by omega, by go_num, hB1⟩
        case measure => simp [intOf]; omega
    · go_wp2_with fail
      go_ret
      exact ⟨rfl, hB⟩

set_option maxHeartbeats 1000000 in
theorem eqBook_any (b : Bk) (va vb : Value) (w : World) (ha : BkV w va b) (hb : BkV w vb b) :
    Calls Try.prog 9 #[va, vb] w fun e w' => e = .returned (.bool true) ∧ Below w.heap.size w w' := by
  obtain ⟨a1, c1, a2, c2, rfl, h1, h2⟩ := ha.parts
  obtain ⟨a3, c3, a4, c4, rfl, h3, h4⟩ := hb.parts
  go_enter Try.func9, Try.ntmps9
  go_upto_region 1 with fail
  obtain ⟨W1, hW1, kP, kR, hB1, hs1⟩ : ∃ W1, (w.alloc (.cells #[.slice a1 b.things.length c1, .slice a2 b.bs.length c2] 30)).alloc (.cells #[.slice a3 b.things.length c3, .slice a4 b.bs.length c4] 30) = W1 ∧ CB W1 w.heap.size [.slice a1 b.things.length c1, .slice a2 b.bs.length c2] ∧ CB W1 (w.heap.size + 1) [.slice a3 b.things.length c3, .slice a4 b.bs.length c4] ∧ Below w.heap.size w W1 ∧ W1.heap.size = w.heap.size + 2 := ⟨_, rfl, cb2 w _ _ _ _⟩
  try rw [hW1]
  clear hW1
  obtain ⟨⟨p0, p1⟩, -⟩ := kP.c2
  obtain ⟨⟨r0, r1⟩, -⟩ := kR.c2
  go_wp2_with fail
  refine (eqLs_any b.things _ _ _ (h1.up hB1) (h3.up hB1)).mono ?_
  rintro e w2 ⟨rfl, hb2⟩
  have kP2 := kP.up hb2 (by omega)
  have kR2 := kR.up hb2 (by omega)
  have hB2 := up_trans hB1 hb2
  clear p0 p1 r0 r1 kP kR
  obtain ⟨⟨p0, p1⟩, -⟩ := kP2.c2
  obtain ⟨⟨r0, r1⟩, -⟩ := kR2.c2
  go_wp2_with fail
  refine (eqBatchS_any b.bs _ _ _ (h2.up hB2) (h4.up hB2)).mono ?_
  rintro e w3 ⟨rfl, hb3⟩
  have hB3 := up_trans hB2 hb3
  clear p0 p1 r0 r1
  go_wp2_with fail
  go_ret
  exact ⟨rfl, hB3⟩
end Go.Proofs.Ytafgabakhaipnaa
