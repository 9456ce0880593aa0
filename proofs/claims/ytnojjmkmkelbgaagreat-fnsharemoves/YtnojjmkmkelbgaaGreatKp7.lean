/- The program's table, built (chapter 12). -/
import Derived.Test.YtnojjmkmkelbgaaGreatJ22
namespace Go.Proofs.YtnojjmkmkelbgaaGreat
open Go.RowKit

theorem infoRow : (Tryz.prog.info? 55).map (fun i => (i.zero, i.size, i.bytes)) = some (some (.agg #[.string ⟨#[]⟩, .int .u64 0, .int .u64 0, .bool false]), 4, 40) := by kernel_rfl
/-- The rows of the first batches, nobody being gone. -/
def ts0 (bs : List Ba) (k : Nat) : List Tr := (bs.take k).map fun x => (x, false)
theorem ts0_fst (bs : List Ba) (k : Nat) : (ts0 bs k).map (·.1) = bs.take k := by rw [ts0, List.map_map]; exact List.map_id _
theorem ts0_length {bs : List Ba} {k : Nat} (h : k ≤ bs.length) : (ts0 bs k).length = k := by simp [ts0]; omega
theorem ts0_snoc {bs : List Ba} {k : Nat} (h : k < bs.length) : ts0 bs (k + 1) = ts0 bs k ++ [(bs[k], false)] := by
  rw [ts0, List.take_succ_eq_append_getElem h, List.map_append]; rfl
theorem ts0_all {bs : List Ba} {k : Nat} (h : ¬ k < bs.length) : ts0 bs k = ts0 bs bs.length := by
  rw [ts0, ts0, List.take_of_length_le (by omega), List.take_length]
theorem free_none (things : List ByteArray) (bs : List Ba) : bitsN things (memS things) = bitsN things (freeL (ts0 bs 0)) := bitsN_congr fun t ht => by
  rw [(memS_iff _ _).2 ht]; rfl
theorem hnew4 (w : World) (x y z u : Value) (ty : TypeId) {j : Nat} {v : Value} (h : [x, y, z, u][j]? = some v) : (w.alloc (.cells #[x, y, z, u] ty)).cell? ((⟨w.heap.size, 0, none⟩ : Addr).add j) = some v := by
  have := (cb_alloc w [x, y, z, u] ty).1 j v h
  rw [Addr.add_mid]; exact this

set_option maxRecDepth 20000 in
set_option maxHeartbeats 4000000 in
theorem tableOf_any (b : Bk) (v : Value) (w : World) (h : BkV w v b) (hok : BookOk b) :
    Calls Tryz.prog 19 #[v] w fun e w' => (∃ tb, e = .returned (.pointer (some ⟨tb, 0, none⟩)) ∧ Tab w' tb b.things (ts0 b.bs b.bs.length) ∧ w.heap.size ≤ tb) ∧ Below w.heap.size w w' := by
  obtain ⟨a1, c1, a2, c2, rfl, h1, h2⟩ := h.parts
  have h8 := hok.1.1
  have h5 := hok.2.1
  have Ha : Hid (Apart b.bs) := hok.2.2.2.2.2
  obtain ⟨W1, hW1, kA, hB1, hs1⟩ : ∃ W1, w.alloc (.cells #[.slice a1 (b).things.length c1, .slice a2 (b).bs.length c2] 26) = W1 ∧ CB W1 w.heap.size [.slice a1 b.things.length c1, .slice a2 b.bs.length c2] ∧ Below w.heap.size w W1 ∧ W1.heap.size = w.heap.size + 1 := ⟨_, rfl, cb1 w _ _⟩
  have hz1 := hB1.size
  clear hs1
  obtain ⟨ii, hi, iz0, iz1, iz2⟩ := info_parts infoRow
  have Hf0 : Hid (bitsN b.things (memS b.things) = bitsN b.things (freeL (ts0 b.bs 0))) := free_none _ _
  clear hok
  go_enter Tryz.func19, Tryz.ntmps19
  go_upto_region 1 with fail
  try rw [hW1]
  clear hW1
  have l1 := h1.up hB1
  have l2 := h2.up hB1
  obtain ⟨e0, e1⟩ := kA.c2'
  have hlt := kA.2.2
  obtain ⟨-, hpos⟩ := l2.at
  clear h h1 h2
  go_wp2_with fail
  refine (bitsOf_any b.things b.things _ _ _ l1 l1 h8).mono ?_
  rintro e w' ⟨rfl, hw⟩
  obtain rfl := hw.symm
  clear hw
  rw [Hf0.out]
  obtain ⟨W2, hW2, kT, hb2, hs2⟩ : ∃ W2, W1.alloc (.cells #[.slice none 0 0, .int .u64 (bitsN b.things (freeL (ts0 b.bs 0)) : Nat)] 58) = W2 ∧ CB W2 W1.heap.size [.slice none 0 0, .int .u64 (bitsN b.things (freeL (ts0 b.bs 0)) : Nat)] ∧ Below W1.heap.size W1 W2 ∧ W2.heap.size = W1.heap.size + 1 := ⟨_, rfl, cb1 W1 _ _⟩
  go_upto_region 2 with fail
  try rw [hW2]
  clear hW2
  have hT0 : Tab W2 W1.heap.size b.things (ts0 b.bs 0) := ⟨_, kT, by simp [rowsL, ts0], .inl ⟨rfl, rfl⟩⟩
  have g1 := (hb2.cell (p := ⟨w.heap.size, 1, none⟩) hlt).trans e1
  clear kT
  go_wp2_with fail
  clear g1
  go_loopw [5, 6, 17] (fun _ _ i w' => ∃ k : Nat, k ≤ b.bs.length ∧ i = .int .i64 k ∧ Tab w' W1.heap.size b.things (ts0 b.bs k) ∧ Below W1.heap.size W1 w') (fun _ _ i _ => b.bs.length - (intOf i).toNat)
  case atStart => exact ⟨0, by omega, rfl, hT0, hb2⟩
  case round =>
    clear hT0 hb2 hs2
    obtain ⟨k, hk, rfl, hT, hB⟩ := hrel
    by_cases hp : k < b.bs.length
    · obtain ⟨bb, o, rfl, hS, hb⟩ := hpos (by omega)
      obtain ⟨a3, d3, a4, d4, c3, c4, c5, l3, l4, -⟩ := (hS.at hp).cells
      have c3 := (hB.cell (p := ⟨bb, o + k * 3, none⟩) hb).trans c3
      have c4 := (hB.cell (p := ⟨bb, o + k * 3 + 1, none⟩) hb).trans c4
      have c5 := (hB.cell (p := ⟨bb, o + k * 3 + 2, none⟩) hb).trans c5
      have HF : Hid (bitsN b.things (freeL (ts0 b.bs k)) = bitsN b.things (memS (b.bs[k]).has) + bitsN b.things (freeL (ts0 b.bs (k + 1)))) := by
        show _ = _
        rw [ts0_snoc hp]
        exact free_more Ha.out hp (ts0_fst _ _) _
      have HR : Hid (rowsL b.things (ts0 b.bs (k + 1)) = rowsL b.things (ts0 b.bs k) ++ rowC b.things (b.bs[k], false)) := by
        show _ = _
        rw [ts0_snoc hp, rowsL_snoc]
      have hlk : (ts0 b.bs k).length = k := ts0_length (by omega)
      have hlk1 : (ts0 b.bs (k + 1)).length = k + 1 := ts0_length (by omega)
      generalize b.bs[k] = x0 at *
      obtain ⟨W3, hW3, kX, hb3, hs3⟩ : ∃ W3, wr.alloc (.cells #[.string (x0).nm, .slice a3 (x0).has.length d3, .slice a4 (x0).needs.length d4] 32) = W3 ∧ CB W3 wr.heap.size [.string x0.nm, .slice a3 x0.has.length d3, .slice a4 x0.needs.length d4] ∧ Below wr.heap.size wr W3 ∧ W3.heap.size = wr.heap.size + 1 := ⟨_, rfl, cb1 wr _ _⟩
      go_upto_region 5 with fail
      try rw [hW3]
      have hB3 := up_trans hB hb3
      have hT3 := hT.up hb3
      have htl := hT.lt
      obtain ⟨⟨x0c, x1c, x2c⟩, -⟩ := kX.c3
      have f0 := (hB3.cell (p := ⟨w.heap.size, 0, none⟩) hlt).trans e0
      clear hW3 c3 c4 c5 hb3 hT hB hS
      generalize wr.heap.size = xb at *
      clear hs3
      have hxl := kX.2.2
      have mk : ∀ w', Below W3.heap.size W3 w' → Below W1.heap.size W1 w' ∧ w'.cell? ⟨w.heap.size, 0, none⟩ = some (.slice a1 b.things.length c1) ∧ w'.cell? ⟨xb, 0, none⟩ = some (.string x0.nm) ∧ w'.cell? ⟨xb, 1, none⟩ = some (.slice a3 x0.has.length d3) ∧ w'.cell? ⟨xb, 2, none⟩ = some (.slice a4 x0.needs.length d4) := fun w' hb => ⟨up_trans hB3 hb, (hb.cell (p := ⟨w.heap.size, 0, none⟩) (Nat.lt_of_lt_of_le hlt hB3.size)).trans f0, (hb.cell (p := ⟨xb, 0, none⟩) hxl).trans x0c, (hb.cell (p := ⟨xb, 1, none⟩) hxl).trans x1c, (hb.cell (p := ⟨xb, 2, none⟩) hxl).trans x2c⟩
      go_wp2_with fail
      go_region_held (fun w' => Below W1.heap.size W1 w' ∧ w'.cell? ⟨w.heap.size, 0, none⟩ = some (.slice a1 b.things.length c1) ∧ w'.cell? ⟨xb, 0, none⟩ = some (.string x0.nm) ∧ w'.cell? ⟨xb, 1, none⟩ = some (.slice a3 x0.has.length d3) ∧ w'.cell? ⟨xb, 2, none⟩ = some (.slice a4 x0.needs.length d4)) (first | exact mk _ (Below.refl _ _).drew | exact mk _ (((Below.refl _ _).alloc (Nat.le_refl _) _).drew) | exact mk _ (by go_grown))
        (first
          | (go_at_call_of 39 (Value.slice a3 x0.has.length d3); refine (bitsOf_any b.things x0.has _ _ _ (l1.up (And.left (by assumption))) (l3.up (And.left (by assumption))) h8).mono ?_; rintro e w' ⟨rfl, hw⟩; obtain rfl := hw.symm; clear hw)
          | (go_at_call_of 39 (Value.slice a4 x0.needs.length d4); refine (bitsOf_any b.things x0.needs _ _ _ (l1.up (And.left (by assumption))) (l4.up (And.left (by assumption))) h8).mono ?_; rintro e w' ⟨rfl, hw⟩; obtain rfl := hw.symm; clear hw))
      all_goals
        have hb4 := ((Below.refl W3.heap.size W3).alloc (Nat.le_refl _) (.cells #[.string x0.nm, .int .u64 (bitsN b.things (memS x0.has) : Nat), .int .u64 (bitsN b.things (memS x0.needs) : Nat), .bool false] 55)).drew
        have kR : CB (W3.alloc (.cells #[.string x0.nm, .int .u64 (bitsN b.things (memS x0.has) : Nat), .int .u64 (bitsN b.things (memS x0.needs) : Nat), .bool false] 55)).drew W3.heap.size [.string x0.nm, .int .u64 (bitsN b.things (memS x0.has) : Nat), .int .u64 (bitsN b.things (memS x0.needs) : Nat), .bool false] := cb_alloc W3 _ _
        generalize (W3.alloc (.cells #[.string x0.nm, .int .u64 (bitsN b.things (memS x0.has) : Nat), .int .u64 (bitsN b.things (memS x0.needs) : Nat), .bool false] 55)).drew = W4 at *
        have hB4 := up_trans hB3 hb4
        obtain ⟨rv, kT, hown⟩ := hT3.up hb4
        rw [hlk] at hown
        have hz3 := hB3.size
        have n1 := bitsN_small h8 (memS x0.has)
        have n2 := bitsN_small h8 (memS x0.needs)
        have n3 := bitsN_small h8 (freeL (ts0 b.bs k))
        have hF := HF.out
        have HE : Hid (∀ W v1, CB W W1.heap.size [v1, .int .u64 (bitsN b.things (freeL (ts0 b.bs (k + 1))) : Nat)] → W.ownsRow (W1.heap.size + 1) 55 4 v1 (k + 1) (rowsL b.things (ts0 b.bs k) ++ [.string x0.nm, .int .u64 (bitsN b.things (memS x0.has) : Nat), .int .u64 (bitsN b.things (memS x0.needs) : Nat), .bool false]) → Tab W W1.heap.size b.things (ts0 b.bs (k + 1))) := fun W v1 q1 q2 => ⟨v1, q1, by rw [hlk1, HR.out]; exact q2⟩
        clear hT3 mk f0 x0c x1c x2c kX HR HF hB3 hb4 hlk hlk1
        generalize bitsN b.things (memS x0.has) = hbn at *
        generalize bitsN b.things (memS x0.needs) = nbn at *
        generalize bitsN b.things (freeL (ts0 b.bs k)) = fb at *
        generalize bitsN b.things (freeL (ts0 b.bs (k + 1))) = fb2 at *
        generalize rowsL b.things (ts0 b.bs k) = rws at *
        have hsub : IntKind.u64.wrap ((fb : Int) - (hbn : Int)) = (fb2 : Int) := by rw [wrap_small (by omega) (by omega)]; omega
        have hsub2 : (fb : Int) - (hbn : Int) = (fb2 : Int) := by omega
        clear hF
        obtain ⟨⟨t0, t1⟩, u0, u1⟩ := kT.c2
        have r0 := kR.1 0 _ rfl
        have r1 := kR.1 1 _ rfl
        have r2 := kR.1 2 _ rfl
        have r3 := kR.1 3 _ rfl
        simp only [Nat.zero_add] at r0 r1 r2 r3
        have hrl := kR.2.2
        generalize W3.heap.size = rb at *
        have hne1 : rb ≠ W1.heap.size := by omega
        go_wp2_with fail
        go_region
        have kT5 : CB (W4.setCell ⟨W1.heap.size, 1, none⟩ (.int .u64 (fb2 : Nat))).drew W1.heap.size [rv, .int .u64 (fb2 : Nat)] := kT.set (j := 1) (by simp)
        have hown5 : (W4.setCell ⟨W1.heap.size, 1, none⟩ (.int .u64 (fb2 : Nat))).drew.ownsRow (W1.heap.size + 1) 55 4 rv k rws := own_grown hown (grown_drew (grown_setCell (grown_refl _ _) _)) (by omega)
        have kR5 : CB (W4.setCell ⟨W1.heap.size, 1, none⟩ (.int .u64 (fb2 : Nat))).drew rb [.string x0.nm, .int .u64 (hbn : Nat), .int .u64 (nbn : Nat), .bool false] := kR.other (by omega)
        have hB5 : Below W1.heap.size W1 (W4.setCell ⟨W1.heap.size, 1, none⟩ (.int .u64 (fb2 : Nat))).drew := (hB4.setCell (p := ⟨W1.heap.size, 1, none⟩) (Nat.le_refl _) _).drew
        clear t0 t1 u0 u1 r0 r1 r2 r3 kT kR hown hB4 hsub hsub2
        generalize (W4.setCell ⟨W1.heap.size, 1, none⟩ (.int .u64 (fb2 : Nat))).drew = W5 at *
        obtain ⟨⟨t0, t1⟩, u0, u1⟩ := kT5.c2
        have r0 := kR5.1 0 _ rfl
        have r1 := kR5.1 1 _ rfl
        have r2 := kR5.1 2 _ rfl
        have r3 := kR5.1 3 _ rfl
        simp only [Nat.zero_add] at r0 r1 r2 r3
        have htl5 := kT5.2.2
        have hownA := own_up (W := W5.drew) hown5 ((Below.refl W5.heap.size W5.drew).alloc (Nat.le_refl _) (.cells #[.string x0.nm, .int .u64 (hbn : Nat), .int .u64 (nbn : Nat), .bool false] 55))
        have hBA := (hB5.drew).alloc hB5.drew.size (.cells #[.string x0.nm, .int .u64 (hbn : Nat), .int .u64 (nbn : Nat), .bool false] 55)
        have kTA : CB (W5.drew.alloc (.cells #[.string x0.nm, .int .u64 (hbn : Nat), .int .u64 (nbn : Nat), .bool false] 55)) W1.heap.size [rv, .int .u64 (fb2 : Nat)] := CB.up (w := W5.drew) kT5 ((Below.refl W5.heap.size W5.drew).alloc (Nat.le_refl _) _) htl5
        go_wp2_with fail
        go_region_law (refine step_append_own rfl _ _ 56 rfl (W1.heap.size + 1) 55 ii _ 4 40 Tryz.underlying56 hi iz0 iz1 iz2 rfl (by decide) _ _ _ rfl hownA ⟨W5.heap.size, 0, none⟩ 1 1 [.string x0.nm, .int .u64 (hbn : Nat), .int .u64 (nbn : Nat), .bool false] rfl rfl (fun j u hj => hnew4 W5.drew _ _ _ _ _ hj) (by simp [Value.oneCell']) (by unfold maxLen; omega) (by omega) (by simp; omega) ?_; intro v1 w1 hown1 hgr1; obtain ⟨gg, cc, rfl⟩ := own_ptr2 hown1 (by omega); have kT6 := kTA.kept hgr1 (own_ne hownA (by omega)); obtain ⟨⟨z0, z1⟩, y0, y1⟩ := kT6.c2)
        all_goals
          have hB6 := below_own hBA hownA hgr1 (by omega)
          have kT7 : CB (w1.setCell ⟨W1.heap.size, 0, none⟩ (.slice (some ⟨gg, 0, none⟩) (k + 1) cc)) W1.heap.size [.slice (some ⟨gg, 0, none⟩) (k + 1) cc, .int .u64 (fb2 : Nat)] := kT6.set (j := 0) (by simp)
          have hown7 := own_grown hown1 (grown_setCell (off := 0) (grown_refl w1 (some W1.heap.size)) (.slice (some ⟨gg, 0, none⟩) (k + 1) cc)) (by omega)
          have hB7 := hB6.setCell (p := ⟨W1.heap.size, 0, none⟩) (Nat.le_refl _) (.slice (some ⟨gg, 0, none⟩) (k + 1) cc)
          have HT7 : Hid (Tab (w1.setCell ⟨W1.heap.size, 0, none⟩ (.slice (some ⟨gg, 0, none⟩) (k + 1) cc)) W1.heap.size b.things (ts0 b.bs (k + 1))) := HE.out _ _ kT7 hown7
          clear kT7 hown7 hown1 hgr1 kT6 z0 z1 y0 y1 hownA hBA kTA r0 r1 r2 r3 t0 t1 u0 u1 hB6 kT5 hown5 kR5 HE
          go_wp2_with fail
          go_roundw
          case rel => exact ⟨k + 1, by omega, by go_num, HT7.out, hB7⟩
          case measure => simp [intOf]; omega
    · have Hs : Hid (ts0 b.bs k = ts0 b.bs b.bs.length) := ts0_all hp
      go_wp2_with fail
      go_ret
      exact ⟨⟨_, rfl, by rw [← Hs.out]; exact hT, by omega⟩, up_trans hB1 hB⟩
end Go.Proofs.YtnojjmkmkelbgaaGreat
