/- The laws' copies of lists of texts and books. -/
import Derived.Test.YtlkpgiifdclijaaGreatDoorJ37
import Derived.Test.YtlkpgiifdclijaaGreatDoorJ14
namespace Go.Proofs.YtlkpgiifdclijaaGreatDoor
open Go.RowKit

theorem sizeBat : (Tryz.prog.info? 86).map (·.size) = some 3 := by kernel_rfl
theorem sizeBk : (Tryz.prog.info? 34).map (·.size) = some 2 := by kernel_rfl

set_option maxHeartbeats 1000000 in
theorem toBatch_any (x : Ba) (hv nv : Value) (w : World) (h1 : Ls w hv x.has) (h2 : Ls w nv x.needs) (hn : x.has.length ≤ 1048576) (hn2 : x.needs.length ≤ 1048576) :
    Calls Tryz.prog 84 #[.agg #[.string x.nm, hv, nv]] w fun e w' => (∃ hu nu, e = .returned (.agg #[.string x.nm, hu, nu]) ∧ LsO w' w.heap.size hu x.has ∧ LsO w' w.heap.size nu x.needs) ∧ Below w.heap.size w w' := by
  obtain ⟨a1, c1, rfl, -⟩ := id h1
  obtain ⟨a2, c2, rfl, -⟩ := id h2
  go_enter Tryz.func84, Tryz.ntmps84
  go_upto_region 2 with fail
  obtain ⟨W1, hW1, kP, kR, kO, hB1, hs1⟩ : ∃ W1, ((w.alloc (.cells #[.string x.nm, .slice a1 x.has.length c1, .slice a2 x.needs.length c2] 105)).alloc (.cells #[.string ⟨#[]⟩, .slice none 0 0, .slice none 0 0] 86)).alloc (.cells #[.string ⟨#[]⟩, .slice none 0 0, .slice none 0 0] 86) = W1 ∧ CB W1 w.heap.size [.string x.nm, .slice a1 x.has.length c1, .slice a2 x.needs.length c2] ∧ CB W1 (w.heap.size + 1) [.string ⟨#[]⟩, .slice none 0 0, .slice none 0 0] ∧ CB W1 (w.heap.size + 2) [.string ⟨#[]⟩, .slice none 0 0, .slice none 0 0] ∧ Below w.heap.size w W1 ∧ W1.heap.size = w.heap.size + 3 := ⟨_, rfl, cb3 w _ _ _ _ _ _⟩
  rw [hW1]
  clear hW1
  obtain ⟨W2, hW2, kP2, kR2, kO2, hB2, hs2⟩ : ∃ W2, W1.setCell ⟨w.heap.size + 2, 0, none⟩ (.string x.nm) = W2 ∧ CB W2 w.heap.size [.string x.nm, .slice a1 x.has.length c1, .slice a2 x.needs.length c2] ∧ CB W2 (w.heap.size + 1) [.string ⟨#[]⟩, .slice none 0 0, .slice none 0 0] ∧ CB W2 (w.heap.size + 2) [.string x.nm, .slice none 0 0, .slice none 0 0] ∧ Below w.heap.size w W2 ∧ W2.heap.size = w.heap.size + 3 := ⟨_, rfl, kP.other (by omega), kR.other (by omega), kO.set (j := 0) (by simp), below_set1 hB1 (by omega) _, by simpa using hs1⟩
  obtain ⟨⟨p0, p1, p2⟩, -⟩ := kP.c3
  obtain ⟨⟨o0, o1, o2⟩, f0, f1, f2⟩ := kO.c3
  go_upto_region 3 with fail
  try rw [hW2]
  clear hW2 p0 p1 p2 o0 o1 o2 f0 f1 f2 kP kR kO hB1 hs1
  obtain ⟨⟨p0, p1, p2⟩, -⟩ := kP2.c3
  go_wp2_with fail
  refine (toStr_any x.has _ _ (h1.up hB2) hn).mono ?_
  rintro e w3 ⟨⟨hu, rfl, ho1⟩, hb3⟩
  rw [hs2] at ho1
  have hz3 := hb3.size
  have kP3 := kP2.up hb3 (by omega)
  have kR3 := kR2.up hb3 (by omega)
  have kO3 := kO2.up hb3 (by omega)
  have hB3 := up_trans hB2 hb3
  obtain ⟨b1, hb1⟩ := ho1.shape
  subst hb1
  clear p0 p1 p2 kP2 kR2 kO2 hB2 hb3
  obtain ⟨W4, hW4, kP4, kR4, kO4, ho4, hB4, hs4⟩ : ∃ W4, w3.setCell ⟨w.heap.size + 2, 1, none⟩ (.slice (some ⟨b1, 0, none⟩) x.has.length x.has.length) = W4 ∧ CB W4 w.heap.size [.string x.nm, .slice a1 x.has.length c1, .slice a2 x.needs.length c2] ∧ CB W4 (w.heap.size + 1) [.string ⟨#[]⟩, .slice none 0 0, .slice none 0 0] ∧ CB W4 (w.heap.size + 2) [.string x.nm, .slice (some ⟨b1, 0, none⟩) x.has.length x.has.length, .slice none 0 0] ∧ LsO W4 (w.heap.size + 3) (.slice (some ⟨b1, 0, none⟩) x.has.length x.has.length) x.has ∧ Below w.heap.size w W4 ∧ W4.heap.size = w3.heap.size := ⟨_, rfl, kP3.other (by omega), kR3.other (by omega), kO3.set (j := 1) (by simp), ho1.set (by omega), below_set1 hB3 (by omega) _, by simp⟩
  obtain ⟨⟨o0, o1, o2⟩, f0, f1, f2⟩ := kO3.c3
  go_upto_region 4 with fail
  try rw [hW4]
  clear hW4 o0 o1 o2 f0 f1 f2 kP3 kR3 kO3 ho1 hB3
  obtain ⟨⟨p0, p1, p2⟩, -⟩ := kP4.c3
  go_wp2_with fail
  refine (toStr_any x.needs _ _ (h2.up hB4) hn2).mono ?_
  rintro e w5 ⟨⟨nu, rfl, ho2⟩, hb5⟩
  have hz5 := hb5.size
  have kR5 := kR4.up hb5 (by omega)
  have kO5 := kO4.up hb5 (by omega)
  have ho5 := ho4.up hb5
  have ho6 := ho2.low (base' := w.heap.size + 3) (by omega)
  have hB5 := up_trans hB4 hb5
  obtain ⟨b2, hb2⟩ := ho2.shape
  subst hb2
  clear p0 p1 p2 kP4 kR4 kO4 hB4 hb5 ho4 ho2
  obtain ⟨⟨o0, o1, o2⟩, f0, f1, f2⟩ := kO5.c3
  obtain ⟨⟨r0, r1, r2⟩, g0, g1, g2⟩ := kR5.c3
  have hR6 := kR5.other (q := w.heap.size + 2) (j := 2) (u := .slice (some ⟨b2, 0, none⟩) x.needs.length x.needs.length) (by omega)
  go_wp2_with fail
  refine end_cb3 Tryz.results84 Tryz.underlying86 rfl sizeBat hR6 rfl ?_
  refine ⟨⟨_, _, rfl, ?_, ?_⟩, below_set3 (below_set1 hB5 (by omega) _) (by omega) _ _ _⟩
  · exact ((((ho5.set (by omega)).set (by omega)).set (by omega)).set (by omega)).low (by omega)
  · exact ((((ho6.set (by omega)).set (by omega)).set (by omega)).set (by omega)).low (by omega)
end Go.Proofs.YtlkpgiifdclijaaGreatDoor

/- The laws' copies of books; two books that are alike. -/
namespace Go.Proofs.YtlkpgiifdclijaaGreatDoor
open Go.RowKit

theorem infoBat : (Tryz.prog.info? 86).map (fun i => (i.zero, i.size, i.bytes)) = some (some (.agg #[.string ⟨#[]⟩, .slice none 0 0, .slice none 0 0]), 3, 64) := by kernel_rfl
theorem run_makeBats (n : Nat) (hn : n ≤ 1048576) : ∃ C : Array Value, C.size = n * 3 ∧ ∀ w, (Instr.makeSlice 32 (.int .i64 (n : Int)) (.int .i64 (n : Int))).run Tryz.prog w = .ok (.slice (some ⟨w.heap.size, 0, none⟩) n n) (w.alloc (.cells C 86)) := by
  obtain ⟨i, hi, hz⟩ := Option.map_eq_some_iff.1 infoBat
  simp only [Prod.mk.injEq] at hz
  obtain ⟨hz, hs, hb⟩ := hz
  refine ⟨madeCells (Value.agg #[.string ⟨#[]⟩, .slice none 0 0, .slice none 0 0]).cells (n * 3), size_madeCells _ _, fun w => ?_⟩
  have := run_make (P := Tryz.prog) w 32 86 i _ Tryz.underlying32 hi hz .i64 .i64 (n : Int) (n : Int) (by omega) (by omega) (by rw [hb]; omega) (by omega)
  simp only [Int.toNat_natCast, hs] at this
  exact this

set_option maxHeartbeats 1000000 in
theorem toBatchS_any (bs : List Ba) (v : Value) (w : World) (h : Bs w v bs) (hn : bs.length ≤ 1048576) (hsm : ∀ y ∈ bs, y.has.length ≤ 1048576 ∧ y.needs.length ≤ 1048576) :
    Calls Tryz.prog 53 #[v] w fun e w' => (∃ u, e = .returned u ∧ BsO w' w.heap.size u bs) ∧ Below w.heap.size w w' := by
  obtain ⟨a, c, rfl, hm, hpos⟩ := h
  obtain ⟨C, hC, hmk⟩ := run_makeBats bs.length hn
  have HC : Hid (C.size = bs.length * 3) := hC
  have Hm : Hid (bs.length ≤ maxLen) := hm
  clear hC hm
  go_enter Tryz.func53, Tryz.ntmps53
  go_wp2
  go_loopw [4] (fun i w' => ∃ k : Nat, k ≤ bs.length ∧ i = .int .i64 k ∧ BsOAt w' w.heap.size (bs.take k) ∧ w'.there w.heap.size 0 (bs.length * 3) ∧ w.heap.size < w'.heap.size ∧ Below w.heap.size w w') (fun i _ => bs.length - (intOf i).toNat)
  case atStart => exact ⟨0, by omega, rfl, fun i p hp => by simp at hp, by rw [← HC.out]; exact there_alloc _ _ _, by simp, by go_grown⟩
  case round =>
    obtain ⟨k, hk, rfl, hra, hth, hlt, hB⟩ := hrel
    have Hra : Hid (BsOAt wr w.heap.size (bs.take k)) := hra
    have Hth : Hid (wr.there w.heap.size 0 (bs.length * 3)) := hth
    clear hra hth
    by_cases hp : k < bs.length
    · obtain ⟨b, o, rfl, hS, hb⟩ := hpos (by omega)
      obtain ⟨a1, d1, a2, d2, c0, c1, c2, l1, l2, z0⟩ := ((hS.at hp).up hB hb).cells
      obtain ⟨s1, s2⟩ := hsm bs[k] (by simp)
      have HS : Hid (∀ (w1 : World) (hu nu : Value), BsOAt w1 w.heap.size (bs.take k) → w1.there w.heap.size 0 (bs.length * 3) → LsO w1 (w.heap.size + 1) hu (bs[k]).has → LsO w1 (w.heap.size + 1) nu (bs[k]).needs → BsOAt (w1.setCells w.heap.size (k * 3) [.string (bs[k]).nm, hu, nu]) w.heap.size (bs.take (k + 1))) := fun w1 hu nu g1 g2 g3 g4 => bsO_store hp g1 g2 g3 g4 z0
      generalize bs[k] = x0 at *
      go_wp2_with fail
      refine (toBatch_any x0 _ _ _ l1 l2 s1 s2).mono ?_
      rintro e w1 ⟨⟨hu, nu, rfl, ho1, ho2⟩, hb1⟩
      have HS1 : Hid (BsOAt (w1.setCells w.heap.size (k * 3) [.string x0.nm, hu, nu]) w.heap.size (bs.take (k + 1))) := HS.out w1 hu nu (Hra.out.up hb1 hlt) (there_up Hth.out hb1 hlt) (ho1.low (by omega)) (ho2.low (by omega))
      have hB1 := up_trans hB hb1
      have hlt1 := Nat.lt_of_lt_of_le hlt hb1.size
      have Hth1 : Hid (w1.there w.heap.size 0 (bs.length * 3)) := there_up Hth.out hb1 hlt
      obtain ⟨b1, rfl⟩ := ho1.shape
      obtain ⟨b2, rfl⟩ := ho2.shape
      clear c0 c1 c2 l1 l2 hS HS ho1 ho2 hb1 hB Hra Hth
      go_wp2_with (refine wpList_store_mid rfl 86 _ _ rfl w.heap.size (k * 3) _ rfl rfl (fun j hj => by
          have := Hth1.out (k * 3 + j) (by simp at hj; omega)
          simpa using this) sizeBat (by simp [Value.oneCell']) ?_)
      go_roundw
      case rel => exact ⟨k + 1, by omega, by go_num, HS1.out, World.there_setCells Hth1.out _ _ _, Nat.lt_of_lt_of_le hlt1 (size_setCells _ _ _ _), below_setCells _ _ _ _ _ _ hB1 (Nat.le_refl _)⟩
      case measure => simp [intOf]; omega
    · go_wp2_with fail
      go_ret
      exact ⟨⟨_, rfl, w.heap.size, rfl, by have := Hra.out; rwa [List.take_of_length_le (by omega)] at this, Hth.out, Nat.le_refl _, hlt, Hm.out⟩, hB⟩

theorem BsO.shape {w : World} {base : Nat} {v : Value} {bs : List Ba} (h : BsO w base v bs) : ∃ b, v = .slice (some ⟨b, 0, none⟩) bs.length bs.length := by
  obtain ⟨b, rfl, -⟩ := h; exact ⟨b, rfl⟩
theorem BaO.set {w : World} {b o r j : Nat} {u : Value} {x : Ba} (h : BaO w b o x) (hr : r < b) : BaO (w.setCell ⟨r, j, none⟩ u) b o x := by
  obtain ⟨hv, nv, hg, h1, h2, h3⟩ := h
  refine ⟨hv, nv, fun i v hi => ?_, h1.set (by omega), h2.set (by omega), h3⟩
  rw [World.cell?_setCell_other _ _ _ _ (by simp <;> omega)]; exact hg i v hi
theorem BsO.set {w : World} {base r j : Nat} {v u : Value} {bs : List Ba} (h : BsO w base v bs) (hr : r < base) : BsO (w.setCell ⟨r, j, none⟩ u) base v bs := by
  obtain ⟨b, rfl, h1, ht, h0, h2, h3⟩ := h
  exact ⟨b, rfl, fun i x hx => (h1 i x hx).set (by omega), there_kept ht (grown_setCell (grown_refl _ (some r)) u) h2 (by simp; omega), h0, by simpa using h2, h3⟩
theorem BsO.low {w : World} {base base' : Nat} {v : Value} {bs : List Ba} (h : BsO w base v bs) (hb : base' ≤ base) : BsO w base' v bs := by
  obtain ⟨b, rfl, h1, ht, h0, h2⟩ := h
  exact ⟨b, rfl, h1, ht, by omega, h2⟩

set_option maxHeartbeats 1000000 in
theorem toBook_any (b : Bk) (v : Value) (w : World) (h : BkV w v b) (hs : Small b) :
    Calls Tryz.prog 21 #[v] w fun e w' => (∃ u, e = .returned u ∧ BkO w' w.heap.size u b) ∧ Below w.heap.size w w' := by
  obtain ⟨a1, c1, a2, c2, rfl, h1, h2⟩ := h.parts
  obtain ⟨g1, g2, g3⟩ := hs
  go_enter Tryz.func21, Tryz.ntmps21
  go_upto_region 2 with fail
  obtain ⟨W1, hW1, kP, kR, kO, hB1, hs1⟩ : ∃ W1, ((w.alloc (.cells #[.slice a1 b.things.length c1, .slice a2 b.bs.length c2] 25)).alloc (.cells #[.slice none 0 0, .slice none 0 0] 34)).alloc (.cells #[.slice none 0 0, .slice none 0 0] 34) = W1 ∧ CB W1 w.heap.size [.slice a1 b.things.length c1, .slice a2 b.bs.length c2] ∧ CB W1 (w.heap.size + 1) [.slice none 0 0, .slice none 0 0] ∧ CB W1 (w.heap.size + 2) [.slice none 0 0, .slice none 0 0] ∧ Below w.heap.size w W1 ∧ W1.heap.size = w.heap.size + 3 := ⟨_, rfl, cb3 w _ _ _ _ _ _⟩
  try rw [hW1]
  clear hW1
  obtain ⟨⟨p0, p1⟩, -⟩ := kP.c2
  go_wp2_with fail
  refine (toStr_any b.things _ _ (h1.up hB1) g1).mono ?_
  rintro e w3 ⟨⟨tu, rfl, ho1⟩, hb3⟩
  rw [hs1] at ho1
  have hz3 := hb3.size
  have kP3 := kP.up hb3 (by omega)
  have kR3 := kR.up hb3 (by omega)
  have kO3 := kO.up hb3 (by omega)
  have hB3 := up_trans hB1 hb3
  obtain ⟨b1, hb1⟩ := ho1.shape
  subst hb1
  clear p0 p1 kP kR kO hB1 hb3
  obtain ⟨W4, hW4, kP4, kR4, kO4, ho4, hB4, hs4⟩ : ∃ W4, w3.setCell ⟨w.heap.size + 2, 0, none⟩ (.slice (some ⟨b1, 0, none⟩) b.things.length b.things.length) = W4 ∧ CB W4 w.heap.size [.slice a1 b.things.length c1, .slice a2 b.bs.length c2] ∧ CB W4 (w.heap.size + 1) [.slice none 0 0, .slice none 0 0] ∧ CB W4 (w.heap.size + 2) [.slice (some ⟨b1, 0, none⟩) b.things.length b.things.length, .slice none 0 0] ∧ LsO W4 (w.heap.size + 3) (.slice (some ⟨b1, 0, none⟩) b.things.length b.things.length) b.things ∧ Below w.heap.size w W4 ∧ W4.heap.size = w3.heap.size := ⟨_, rfl, kP3.other (by omega), kR3.other (by omega), kO3.set (j := 0) (by simp), ho1.set (by omega), below_set1 hB3 (by omega) _, by simp⟩
  obtain ⟨⟨o0, o1⟩, f0, f1⟩ := kO3.c2
  go_upto_region 3 with fail
  try rw [hW4]
  clear hW4 o0 o1 f0 f1 kP3 kR3 kO3 ho1 hB3
  obtain ⟨⟨p0, p1⟩, -⟩ := kP4.c2
  go_wp2_with fail
  refine (toBatchS_any b.bs _ _ (h2.up hB4) g2 g3).mono ?_
  rintro e w5 ⟨⟨nu, rfl, ho2⟩, hb5⟩
  have hz5 := hb5.size
  have kR5 := kR4.up hb5 (by omega)
  have kO5 := kO4.up hb5 (by omega)
  have ho5 := ho4.up hb5
  have hb1m : b1 < W4.heap.size := by
    obtain ⟨b', e, -, -, -, hlt, -⟩ := ho4
    have : b1 = b' := by simpa using e
    omega
  have hB5 := up_trans hB4 hb5
  obtain ⟨b2, hb2⟩ := ho2.shape
  subst hb2
  clear p0 p1 kP4 kR4 kO4 hB4 hb5 ho4
  obtain ⟨⟨o0, o1⟩, f0, f1⟩ := kO5.c2
  obtain ⟨⟨r0, r1⟩, g0, g1⟩ := kR5.c2
  have hR6 := kR5.other (q := w.heap.size + 2) (j := 1) (u := .slice (some ⟨b2, 0, none⟩) b.bs.length b.bs.length) (by omega)
  go_wp2_with fail
  refine end_cb2 Tryz.results21 Tryz.underlying34 rfl sizeBk hR6 rfl ?_
  refine ⟨⟨_, rfl, _, _, W4.heap.size, rfl, ?_, ?_, by omega, fun g hg => ?_⟩, below_set2 (below_set1 hB5 (by omega) _) (by omega) _ _⟩
  · exact (((ho5.set (by omega)).set (by omega)).set (by omega)).low (by omega)
  · exact (((ho2.set (by omega)).set (by omega)).set (by omega))
  · simp [Value.ownBlock] at hg
    omega

set_option maxHeartbeats 1000000 in
theorem eqBatch_any (x : Ba) (hv nv hu nu : Value) (w : World) (h1 : Ls w hv x.has) (h2 : Ls w nv x.needs) (h3 : Ls w hu x.has) (h4 : Ls w nu x.needs) :
    Calls Tryz.prog 103 #[.agg #[.string x.nm, hv, nv], .agg #[.string x.nm, hu, nu]] w fun e w' => e = .returned (.bool true) ∧ Below w.heap.size w w' := by
  obtain ⟨a1, c1, rfl, -⟩ := id h1
  obtain ⟨a2, c2, rfl, -⟩ := id h2
  obtain ⟨a3, c3, rfl, -⟩ := id h3
  obtain ⟨a4, c4, rfl, -⟩ := id h4
  go_enter Tryz.func103, Tryz.ntmps103
  go_upto_region 1 with fail
  obtain ⟨W1, hW1, kP, kR, hB1, hs1⟩ : ∃ W1, (w.alloc (.cells #[.string x.nm, .slice a1 x.has.length c1, .slice a2 x.needs.length c2] 86)).alloc (.cells #[.string x.nm, .slice a3 x.has.length c3, .slice a4 x.needs.length c4] 86) = W1 ∧ CB W1 w.heap.size [.string x.nm, .slice a1 x.has.length c1, .slice a2 x.needs.length c2] ∧ CB W1 (w.heap.size + 1) [.string x.nm, .slice a3 x.has.length c3, .slice a4 x.needs.length c4] ∧ Below w.heap.size w W1 ∧ W1.heap.size = w.heap.size + 2 := ⟨_, rfl, cb2 w _ _ _ _⟩
  try rw [hW1]
  clear hW1
  obtain ⟨⟨p0, p1, p2⟩, -⟩ := kP.c3
  obtain ⟨⟨r0, r1, r2⟩, -⟩ := kR.c3
  go_wp2_with fail
  refine (eqLs_any x.has _ _ _ (h1.up hB1) (h3.up hB1)).mono ?_
  rintro e w2 ⟨rfl, hb2⟩
  have kP2 := kP.up hb2 (by omega)
  have kR2 := kR.up hb2 (by omega)
  have hB2 := up_trans hB1 hb2
  clear p0 p1 p2 r0 r1 r2 kP kR
  obtain ⟨⟨p0, p1, p2⟩, -⟩ := kP2.c3
  obtain ⟨⟨r0, r1, r2⟩, -⟩ := kR2.c3
  go_wp2_with fail
  refine (eqLs_any x.needs _ _ _ (h2.up hB2) (h4.up hB2)).mono ?_
  rintro e w3 ⟨rfl, hb3⟩
  have hB3 := up_trans hB2 hb3
  clear p0 p1 p2 r0 r1 r2
  go_wp2_with fail
  go_ret
  exact ⟨rfl, hB3⟩

set_option maxHeartbeats 1000000 in
theorem eqBatchS_any (bs : List Ba) (va vb : Value) (w : World) (ha : Bs w va bs) (hb : Bs w vb bs) :
    Calls Tryz.prog 69 #[va, vb] w fun e w' => e = .returned (.bool true) ∧ Below w.heap.size w w' := by
  obtain ⟨a1, c1, rfl, hn, hp1⟩ := ha
  obtain ⟨a2, c2, rfl, -, hp2⟩ := hb
  unfold maxLen at hn
  go_enter Tryz.func69, Tryz.ntmps69
  go_wp2
  go_loopw [5] (fun i w' => ∃ k : Nat, k ≤ bs.length ∧ i = .int .i64 k ∧ Below w.heap.size w w') (fun i _ => bs.length - (intOf i).toNat)
  case atStart => exact ⟨0, by omega, rfl, Below.refl _ _⟩
  case round =>
    obtain ⟨k, hk, rfl, hB⟩ := hrel
    by_cases hp : k < bs.length
    · obtain ⟨g1, o1, rfl, hS1, hg1⟩ := hp1 (by omega)
      obtain ⟨g2, o2, rfl, hS2, hg2⟩ := hp2 (by omega)
      obtain ⟨a3, d3, a4, d4, c3, c4, c5, l3, l4, -⟩ := ((hS1.at hp).up hB hg1).cells
      obtain ⟨a5, d5, a6, d6, e3, e4, e5, l5, l6, -⟩ := ((hS2.at hp).up hB hg2).cells
      have HQ : Hid (∀ W, Ls W (.slice a3 (bs[k]).has.length d3) (bs[k]).has → Ls W (.slice a4 (bs[k]).needs.length d4) (bs[k]).needs → Ls W (.slice a5 (bs[k]).has.length d5) (bs[k]).has → Ls W (.slice a6 (bs[k]).needs.length d6) (bs[k]).needs → Calls Tryz.prog 103 #[.agg #[.string (bs[k]).nm, .slice a3 (bs[k]).has.length d3, .slice a4 (bs[k]).needs.length d4], .agg #[.string (bs[k]).nm, .slice a5 (bs[k]).has.length d5, .slice a6 (bs[k]).needs.length d6]] W fun e w' => e = .returned (.bool true) ∧ Below W.heap.size W w') := fun W q1 q2 q3 q4 => eqBatch_any bs[k] _ _ _ _ W q1 q2 q3 q4
      generalize bs[k] = x0 at *
      go_wp2_with fail
      go_region_with (go_at_call 103; refine (HQ.out _ (by exact l3) (by exact l4) (by exact l5) (by exact l6)).mono ?_; rintro e w1 ⟨rfl, hb1⟩)
      all_goals
        have hB1 := up_trans hB.drew hb1
        clear c3 c4 c5 e3 e4 e5
        go_wp2_with fail
        go_roundw
        case rel => exact ⟨k + 1, by omega, by go_num, hB1⟩
        case measure => simp [intOf]; omega
    · go_wp2_with fail
      go_ret
      exact ⟨rfl, hB⟩

set_option maxHeartbeats 1000000 in
theorem eqBook_any (b : Bk) (va vb : Value) (w : World) (ha : BkV w va b) (hb : BkV w vb b) :
    Calls Tryz.prog 31 #[va, vb] w fun e w' => e = .returned (.bool true) ∧ Below w.heap.size w w' := by
  obtain ⟨a1, c1, a2, c2, rfl, h1, h2⟩ := ha.parts
  obtain ⟨a3, c3, a4, c4, rfl, h3, h4⟩ := hb.parts
  go_enter Tryz.func31, Tryz.ntmps31
  go_upto_region 1 with fail
  obtain ⟨W1, hW1, kP, kR, hB1, hs1⟩ : ∃ W1, (w.alloc (.cells #[.slice a1 b.things.length c1, .slice a2 b.bs.length c2] 34)).alloc (.cells #[.slice a3 b.things.length c3, .slice a4 b.bs.length c4] 34) = W1 ∧ CB W1 w.heap.size [.slice a1 b.things.length c1, .slice a2 b.bs.length c2] ∧ CB W1 (w.heap.size + 1) [.slice a3 b.things.length c3, .slice a4 b.bs.length c4] ∧ Below w.heap.size w W1 ∧ W1.heap.size = w.heap.size + 2 := ⟨_, rfl, cb2 w _ _ _ _⟩
  try rw [hW1]
  clear hW1
  obtain ⟨⟨p0, p1⟩, -⟩ := kP.c2
  obtain ⟨⟨r0, r1⟩, -⟩ := kR.c2
  go_wp2_with fail
  refine (eqLs_any b.things _ _ _ (h1.up hB1) (h3.up hB1)).mono ?_
  rintro e w2 ⟨rfl, hb2⟩
  have kP2 := kP.up hb2 (by omega)
  have kR2 := kR.up hb2 (by omega)
  have hB2 := up_trans hB1 hb2
  clear p0 p1 r0 r1 kP kR
  obtain ⟨⟨p0, p1⟩, -⟩ := kP2.c2
  obtain ⟨⟨r0, r1⟩, -⟩ := kR2.c2
  go_wp2_with fail
  refine (eqBatchS_any b.bs _ _ _ (h2.up hB2) (h4.up hB2)).mono ?_
  rintro e w3 ⟨rfl, hb3⟩
  have hB3 := up_trans hB2 hb3
  clear p0 p1 r0 r1
  go_wp2_with fail
  go_ret
  exact ⟨rfl, hB3⟩
end Go.Proofs.YtlkpgiifdclijaaGreatDoor

/- Houses as they are handed to a law: lists of batches that are alike; their sizes. -/
namespace Go.Proofs.YtlkpgiifdclijaaGreatDoor
open Go.RowKit

theorem RsO.rbs {w W : World} {b : Nat} {bs : List Rb} {v : Value} (h : RsO w b bs) (hb : b < w.heap.size) (hs : RsSrc W v bs) (hsm : RsSmall bs bs.length) : Rbs w (.slice (some ⟨b, 0, none⟩) bs.length bs.length) bs := by
  obtain ⟨a, c, -, hm, hpos⟩ := hs
  refine ⟨_, _, rfl, hm, fun hp => ⟨b, 0, rfl, fun i x hx => ?_, hb⟩⟩
  obtain ⟨b1, b2, hr, ho⟩ := h i x hx
  obtain ⟨g, o, -, hat, -⟩ := hpos hp
  obtain ⟨rv, sv, -, hsrc⟩ := hat i x hx
  obtain ⟨np, ns⟩ := hsm i x (List.getElem?_eq_some_iff.1 hx).1 hx
  exact ⟨_, _, by rw [Nat.zero_add]; exact hr, ho.v hsrc np ns⟩
theorem RsO.open {w : World} {b : Nat} {bs : List Rb} (h : RsO w b bs) {k : Nat} (hk : k < bs.length) : ∃ b1 b2, (w.cell? ⟨b, k * 6, none⟩ = some (.string (bs[k]).nm) ∧ w.cell? ⟨b, k * 6 + 1, none⟩ = some (.slice (some ⟨b1, 0, none⟩) (bs[k]).ps.length (bs[k]).ps.length) ∧ w.cell? ⟨b, k * 6 + 2, none⟩ = some (.slice (some ⟨b2, 0, none⟩) (bs[k]).sl.length (bs[k]).sl.length) ∧ w.cell? ⟨b, k * 6 + 3, none⟩ = some (.string (bs[k]).ad) ∧ w.cell? ⟨b, k * 6 + 4, none⟩ = some (.int .i64 (bs[k]).si) ∧ w.cell? ⟨b, k * 6 + 5, none⟩ = some (.int .i64 (bs[k]).st)) ∧ RbO w (b + 1) bs[k] b1 b2 := by
  obtain ⟨b1, b2, hr, ho⟩ := h k _ (List.getElem?_eq_getElem hk)
  exact ⟨b1, b2, ⟨hr 0 _ rfl, hr 1 _ rfl, hr 2 _ rfl, hr 3 _ rfl, hr 4 _ rfl, hr 5 _ rfl⟩, ho⟩
set_option maxRecDepth 20000 in
set_option maxHeartbeats 2000000 in
theorem eqRbs_any (bs : List Rb) (b1 b2 : Nat) (w : World) (h1 : RsO w b1 bs) (l1 : b1 < w.heap.size) (h2 : RsO w b2 bs) (l2 : b2 < w.heap.size) (hn : bs.length ≤ 1048576) (hsm : RsSmall bs bs.length) :
    Calls Tryz.prog 32 #[.slice (some ⟨b1, 0, none⟩) bs.length bs.length, .slice (some ⟨b2, 0, none⟩) bs.length bs.length] w fun e w' => e = .returned (.bool true) ∧ Below w.heap.size w w' := by
  have Hsm : Hid (RsSmall bs bs.length) := hsm
  clear hsm
  go_enter Tryz.func32, Tryz.ntmps32
  go_wp2
  go_loopw [5] (fun i w' => ∃ k : Nat, k ≤ bs.length ∧ i = .int .i64 k ∧ Below w.heap.size w w') (fun i _ => bs.length - (intOf i).toNat)
  case atStart => exact ⟨0, by omega, rfl, Below.refl _ _⟩
  case round =>
    obtain ⟨k, hk, rfl, hB⟩ := hrel
    by_cases hp : k < bs.length
    · obtain ⟨np, ns⟩ := Hsm.out k _ hp (List.getElem?_eq_getElem hp)
      obtain ⟨p1, p2, ⟨c0, c1, c2, c3, c4, c5⟩, ho1⟩ := (h1.up hB l1).open hp
      obtain ⟨q1, q2, ⟨d0, d1, d2, d3, d4, d5⟩, ho2⟩ := (h2.up hB l2).open hp
      generalize bs[k] = x0 at *
      have Ho1 : Hid (RbO wr (b1 + 1) x0 p1 p2) := ho1
      have Ho2 : Hid (RbO wr (b2 + 1) x0 q1 q2) := ho2
      clear ho1 ho2
      go_wp2_with fail
      go_region_with (go_at_call 70; refine (eqRb_any x0 p1 p2 q1 q2 _ _ _ (Ho1.out.up (Below.refl _ _).drew) (Ho2.out.up (Below.refl _ _).drew) np ns).mono ?_; rintro e w1 ⟨rfl, hbx⟩)
      all_goals
        have hB1 := up_trans hB.drew hbx
        clear c0 c1 c2 c3 c4 c5 d0 d1 d2 d3 d4 d5
        go_wp2_with fail
        go_roundw
        case rel => exact ⟨k + 1, by omega, by go_num, hB1⟩
        case measure => simp [intOf]; omega
    · go_wp2_with fail
      go_ret
      exact ⟨rfl, hB⟩

/-- A house as it is handed to a law. -/
structure HSrc (w : World) (h : House) (tv bv xv dv : Value) : Prop where
  t : Ls w tv h.sh.things
  b : Bs w bv h.sh.bs
  x : RsSrc w xv h.bs
  d : Dns w dv h.ds
theorem HSrc.up {w w' : World} {h : House} {tv bv xv dv : Value} (H : HSrc w h tv bv xv dv) (hb : Below w.heap.size w w') : HSrc w' h tv bv xv dv := ⟨H.t.up hb, H.b.up hb, H.x.up hb, H.d.up hb⟩
theorem HSrc.shapes {w : World} {h : House} {tv bv xv dv : Value} (H : HSrc w h tv bv xv dv) : ∃ a1 c1 a2 c2 a3 c3 a4 c4, tv = .slice a1 h.sh.things.length c1 ∧ bv = .slice a2 h.sh.bs.length c2 ∧ xv = .slice a3 h.bs.length c3 ∧ dv = .slice a4 h.ds.length c4 := by
  obtain ⟨a1, c1, e1, -⟩ := H.t
  obtain ⟨a2, c2, e2, -⟩ := H.b
  obtain ⟨a3, c3, e3, -⟩ := H.x
  obtain ⟨a4, c4, e4, -⟩ := H.d
  exact ⟨a1, c1, a2, c2, a3, c3, a4, c4, e1, e2, e3, e4⟩
theorem HSrc.book {w : World} {h : House} {tv bv xv dv : Value} (H : HSrc w h tv bv xv dv) : BkV w (.agg #[tv, bv]) h.sh := ⟨tv, bv, rfl, H.t, H.b⟩
structure HSmall (h : House) : Prop where
  k : Small h.sh
  n : h.bs.length ≤ 1048576
  x : RsSmall h.bs h.bs.length
  d : h.ds.length ≤ 1048576
/-- A house of the laws' own making. -/
structure HC (w : World) (h : House) (tv bv : Value) (b : Nat) (dv : Value) : Prop where
  t : Ls w tv h.sh.things
  k : Bs w bv h.sh.bs
  x : RsO w b h.bs
  l : b < w.heap.size
  d : Dns w dv h.ds
theorem HC.up {w w' : World} {h : House} {tv bv dv : Value} {b : Nat} (H : HC w h tv bv b dv) (hb : Below w.heap.size w w') : HC w' h tv bv b dv := ⟨H.t.up hb, H.k.up hb, H.x.up hb H.l, Nat.lt_of_lt_of_le H.l hb.size, H.d.up hb⟩
theorem HC.v {w W : World} {h : House} {tv bv dv tv' bv' xv' dv' : Value} {b : Nat} (H : HC w h tv bv b dv) (hs : HSrc W h tv' bv' xv' dv') (hm : HSmall h) : HV w h tv bv (.slice (some ⟨b, 0, none⟩) h.bs.length h.bs.length) dv := ⟨H.t, H.k, H.x.rbs H.l hs.x hm.x, H.d⟩
theorem HC.book {w : World} {h : House} {tv bv dv : Value} {b : Nat} (H : HC w h tv bv b dv) : BkV w (.agg #[tv, bv]) h.sh := ⟨tv, bv, rfl, H.t, H.k⟩
theorem HC.shapes {w : World} {h : House} {tv bv dv : Value} {b : Nat} (H : HC w h tv bv b dv) : ∃ a1 c1 a2 c2 a4 c4, tv = .slice a1 h.sh.things.length c1 ∧ bv = .slice a2 h.sh.bs.length c2 ∧ dv = .slice a4 h.ds.length c4 := by
  obtain ⟨a1, c1, e1, -⟩ := H.t
  obtain ⟨a2, c2, e2, -⟩ := H.k
  obtain ⟨a4, c4, e4, -⟩ := H.d
  exact ⟨a1, c1, a2, c2, a4, c4, e1, e2, e4⟩
set_option maxRecDepth 20000 in
set_option maxHeartbeats 2000000 in
theorem szHouse_any (h : House) (tv bv xv dv : Value) (l : Int) (w : World) (H : HSrc w h tv bv xv dv) (hl : 0 ≤ l) (hl' : l ≤ 1048576) :
    Calls Tryz.prog 5 #[.agg #[.int .i64 h.now, .int .i64 h.last, tv, bv, xv, dv], .int .i64 l] w fun e' w' => (∃ x : Int, e' = .returned (.int .i64 x) ∧ (0 ≤ x → HSmall h)) ∧ Below w.heap.size w w' := by
  obtain ⟨a1, c1, a2, c2, a3, c3, a4, c4, rfl, rfl, rfl, rfl⟩ := H.shapes
  have hB0 := (Below.refl w.heap.size w).alloc (Nat.le_refl _) (.cells #[.int .i64 h.now, .int .i64 h.last, .slice a1 h.sh.things.length c1, .slice a2 h.sh.bs.length c2, .slice a3 h.bs.length c3, .slice a4 h.ds.length c4] 29)
  have hC : CB (w.alloc (.cells #[.int .i64 h.now, .int .i64 h.last, .slice a1 h.sh.things.length c1, .slice a2 h.sh.bs.length c2, .slice a3 h.bs.length c3, .slice a4 h.ds.length c4] 29)) w.heap.size [.int .i64 h.now, .int .i64 h.last, .slice a1 h.sh.things.length c1, .slice a2 h.sh.bs.length c2, .slice a3 h.bs.length c3, .slice a4 h.ds.length c4] := cb_alloc w _ _
  go_enter Tryz.func5, Tryz.ntmps5
  go_upto_region 1 with fail
  generalize w.alloc (.cells #[.int .i64 h.now, .int .i64 h.last, .slice a1 h.sh.things.length c1, .slice a2 h.sh.bs.length c2, .slice a3 h.bs.length c3, .slice a4 h.ds.length c4] 29) = W1 at *
  have hlt := hC.2.2
  have H1 := H.up hB0
  clear H
  obtain ⟨d0, d1, d2, d3, d4, d5⟩ := hC.c6
  go_wp2_with fail
  refine (szBook_any h.sh _ _ _ H1.book hl hl').mono ?_
  rintro e w2 ⟨⟨y2, rfl, hy2, hk2⟩, hB2⟩
  have hB02 := up_trans hB0 hB2
  clear d0 d1 d2 d3 d4 d5
  by_cases g2 : y2 < 0
  · go_wp2_with fail
    go_ret
    exact ⟨⟨_, rfl, by omega⟩, hB02⟩
  have K2 : Hid (Small h.sh) := hk2 (by omega)
  clear hk2
  obtain ⟨d0, d1, d2, d3, d4, d5⟩ := (hC.up hB2 hlt).c6
  go_wp2_with fail
  refine (szRbs_any h.bs _ _ _ (by omega) (by omega) (H1.x.up hB2)).mono ?_
  rintro e w3 ⟨⟨y3, rfl, hy3, hm3⟩, hB3⟩
  have hB03 := up_trans hB02 hB3
  clear d0 d1 d2 d3 d4 d5
  by_cases g3 : y3 < 0
  · go_wp2_with fail
    go_ret
    exact ⟨⟨_, rfl, by omega⟩, hB03⟩
  have K3 : Hid ((h.bs.length : Int) ≤ y2 ∧ RsSmall h.bs h.bs.length) := hy3 (by omega)
  clear hy3
  obtain ⟨d0, d1, d2, d3, d4, d5⟩ := (hC.up (up_trans hB2 hB3) hlt).c6
  go_wp2_with fail
  refine (szDones_any h.ds _ _ _ (by omega) (by omega) (H1.d.up (up_trans hB2 hB3))).mono ?_
  rintro e w4 ⟨⟨y4, rfl, hy4, hm4⟩, hB4⟩
  have hB04 := up_trans hB03 hB4
  clear d0 d1 d2 d3 d4 d5
  by_cases g4 : y4 < 0
  · go_wp2_with fail
    go_ret
    exact ⟨⟨_, rfl, by omega⟩, hB04⟩
  have K4 : Hid (HSmall h) := ⟨K2.out, by have := K3.out.1; omega, K3.out.2, by have := hy4 (by omega); omega⟩
  clear hy4
  go_wp2_with fail
  go_ret
  exact ⟨⟨_, rfl, fun _ => K4.out⟩, hB04⟩
end Go.Proofs.YtlkpgiifdclijaaGreatDoor
