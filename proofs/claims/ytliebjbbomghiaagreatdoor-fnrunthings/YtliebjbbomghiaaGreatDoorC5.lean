/- The specification's l23On (chapter 23): a batch goes on to a phase. -/
import Derived.Test.YtliebjbbomghiaaGreatDoorJ28
import Derived.Test.YtliebjbbomghiaaGreatDoorKt8
namespace Go.Proofs.YtliebjbbomghiaaGreatDoor
open Go.RowKit

theorem slotsS_any (x : Rb) (rv sv : Value) (nm : ByteArray) (w : World) (h : RbV w x rv sv) (hok : recB x.ps = true) : Calls Tryz.prog 21 #[rv, .string nm] w fun e w' => (∃ u, e = .returned u ∧ Txt w' u (slE x.ps nm)) ∧ Below w.heap.size w w' := by
  obtain ⟨b, o, c, rfl, hr, hb, -⟩ := h.r
  exact l2Slots_any x.ps b o c hok (x.ps.length + 1) nm w hr hb (by omega)
theorem thingsS2_any (x : Rb) (rv sv : Value) (ss : List ByteArray) (v : Value) (w : World) (h : RbV w x rv sv) (hv : Txt w v ss) (hs : ss.length ≤ 900) : Calls Tryz.prog 20 #[.agg #[.string x.nm, rv, sv, .string x.ad, .int .i64 x.si, .int .i64 x.st], v] w fun e w' => (∃ u, e = .returned u ∧ Txt w' u (thE x.sl ss)) ∧ Below w.heap.size w w' := by
  obtain ⟨b, o, c, rfl, -⟩ := h.r
  obtain ⟨g, q, d, rfl, hl, hg⟩ := h.s
  exact things_any x b o c g q d ss v w hl hg h.ns hv hs
theorem thE_sized {w : World} {x : Rb} {rv sv : Value} (h : RbV w x rv sv) (ss : List ByteArray) : ∀ s ∈ thE x.sl ss, s.size ≤ maxLen := fun s hs => by
  have h1 := ((thE_keys _ _).2 s.toList).1 (mem_keys.2 hs)
  simp only [keys, List.mem_map] at h1
  obtain ⟨_, ⟨t, _, rfl⟩, e⟩ := h1
  rw [← key_inj e]
  unfold firstT
  split
  · rename_i y hy
    exact (h.zs y (List.mem_of_find?_eq_some hy)).2
  · exact Nat.zero_le _
/-- A batch written whole: at another phase, waiting. -/
theorem RbsW.write {w : World} {base g n cap k : Nat} {ps : List Rv} {x : Rb} {ru su : Value} (h : RbsW w base (.slice (some ⟨g, 0, none⟩) n cap) ps) (hp : ps[k]? = some (x, ru, su)) (nm : ByteArray) :
    RbsW ((((((w.setCell ⟨g, k * 6, none⟩ (.string x.nm)).setCell ⟨g, k * 6 + 1, none⟩ ru).setCell ⟨g, k * 6 + 2, none⟩ su).setCell ⟨g, k * 6 + 3, none⟩ (.string nm)).setCell ⟨g, k * 6 + 4, none⟩ (.int .i64 (-1))).setCell ⟨g, k * 6 + 5, none⟩ (.int .i64 x.st)) base (.slice (some ⟨g, 0, none⟩) n cap) (ps.set k ({ x with ad := nm, si := -1 }, ru, su)) ∧ w.grownBy ((((((w.setCell ⟨g, k * 6, none⟩ (.string x.nm)).setCell ⟨g, k * 6 + 1, none⟩ ru).setCell ⟨g, k * 6 + 2, none⟩ su).setCell ⟨g, k * 6 + 3, none⟩ (.string nm)).setCell ⟨g, k * 6 + 4, none⟩ (.int .i64 (-1))).setCell ⟨g, k * 6 + 5, none⟩ (.int .i64 x.st)) (some g) := by
  have hk : k < ps.length := (List.getElem?_eq_some_iff.1 hp).1
  have h0 := h.put (j := 0) (u := .string x.nm) (y := x) hp (by omega) rfl rfl rfl rfl
  have h1 := h0.put (i := k) (j := 1) (u := ru) (p := (x, ru, su)) (y := x) (by rw [List.getElem?_set_self hk]) (by omega) rfl rfl rfl rfl
  have h2 := h1.put (i := k) (j := 2) (u := su) (p := (x, ru, su)) (y := x) (by rw [List.getElem?_set_self (by simpa using hk)]) (by omega) rfl rfl rfl rfl
  have h3 := h2.put (i := k) (j := 3) (u := .string nm) (p := (x, ru, su)) (y := { x with ad := nm }) (by rw [List.getElem?_set_self (by simpa using hk)]) (by omega) rfl rfl rfl rfl
  have h4 := h3.put (i := k) (j := 4) (u := .int .i64 (-1)) (p := ({ x with ad := nm }, ru, su)) (y := { x with ad := nm, si := -1 }) (by rw [List.getElem?_set_self (by simpa using hk)]) (by omega) rfl rfl rfl rfl
  have h5 := h4.put (i := k) (j := 5) (u := .int .i64 x.st) (p := ({ x with ad := nm, si := -1 }, ru, su)) (y := { x with ad := nm, si := -1 }) (by rw [List.getElem?_set_self (by simpa using hk)]) (by omega) rfl rfl rfl rfl
  simp only [List.set_set] at h5
  exact ⟨h5, grown_setCell (rb := g) (grown_setCell (rb := g) (grown_setCell (rb := g) (grown_setCell (rb := g) (grown_setCell (rb := g) (grown_setCell (rb := g) (grown_refl w _) _) _) _) _) _) _⟩
/-- A batch of a house that goes on to a phase. -/
theorem HW.goes {w : World} {base g n cap k : Nat} {h : House} {tv bv tu bu dv ru su : Value} {b' : Bk} {x : Rb} {ps : List Rv} (H : HW w base h tv bv (.slice (some ⟨g, 0, none⟩) n cap) dv) (hW : RbsW w base (.slice (some ⟨g, 0, none⟩) n cap) ps) (hm : ps.map (·.1) = h.bs) (hp : ps[k]? = some (x, ru, su)) (hb : BkW w base (.agg #[tu, bu]) b') (hz : Szb b') (nm : ByteArray) :
    HW ((((((w.setCell ⟨g, k * 6, none⟩ (.string x.nm)).setCell ⟨g, k * 6 + 1, none⟩ ru).setCell ⟨g, k * 6 + 2, none⟩ su).setCell ⟨g, k * 6 + 3, none⟩ (.string nm)).setCell ⟨g, k * 6 + 4, none⟩ (.int .i64 (-1))).setCell ⟨g, k * 6 + 5, none⟩ (.int .i64 x.st)) base { h with sh := b', bs := h.bs.set k { x with ad := nm, si := -1 } } tu bu (.slice (some ⟨g, 0, none⟩) n cap) dv := by
  obtain ⟨h1, hg⟩ := hW.write hp nm
  have hg' : w.grownBy ((((((w.setCell ⟨g, k * 6, none⟩ (.string x.nm)).setCell ⟨g, k * 6 + 1, none⟩ ru).setCell ⟨g, k * 6 + 2, none⟩ su).setCell ⟨g, k * 6 + 3, none⟩ (.string nm)).setCell ⟨g, k * 6 + 4, none⟩ (.int .i64 (-1))).setCell ⟨g, k * 6 + 5, none⟩ (.int .i64 x.st)) (Value.slice (some ⟨g, 0, none⟩) n cap).ownBlock := hg
  exact ⟨hb.step hW.1 (by decide) (by decide) hg', hz, ⟨_, h1, by rw [List.map_set, hm]⟩, H.d.step hW.1 (by decide) hg'⟩

/-- What going on has made so far: the slots, their things, the book, its place. -/
structure LS (W : World) (h : House) (x : Rb) (nm : ByteArray) (X : World) (k8 k9 k10 : Option Value) (k14 : Option Nat) : Prop where
  B : Below W.heap.size W X
  s8 : ∀ v, k8 = some v → Txt X v (slE x.ps nm)
  s9 : ∀ v, k9 = some v → Txt X v (thE x.sl (slE x.ps nm))
  s10 : ∀ v, k10 = some v → BkW X W.heap.size v (lsnB h.sh x.nm (thE x.sl (slE x.ps nm)))
  s14 : ∀ y, k14 = some y → X.ownsRow W.heap.size 95 2 (.slice (some ⟨y, 0, none⟩) 1 1) 1 [.slice none 0 0, .slice none 0 0]
theorem LS.up {W X X' : World} {h : House} {x : Rb} {nm : ByteArray} {k8 k9 k10 : Option Value} {k14 : Option Nat} (H : LS W h x nm X k8 k9 k10 k14) (hb : Below X.heap.size X X') : LS W h x nm X' k8 k9 k10 k14 :=
  ⟨up_trans H.B hb, fun v e => (H.s8 v e).up hb, fun v e => (H.s9 v e).up hb, fun v e => (H.s10 v e).up hb, fun y e => own_up (H.s14 y e) hb⟩
theorem ls_nil (W : World) (h : House) (x : Rb) (nm : ByteArray) : LS W h x nm W none none none none := ⟨Below.refl _ _, fun _ h => (by cases h), fun _ h => (by cases h), fun _ h => (by cases h), fun _ h => (by cases h)⟩
theorem LS.c8 {W X X' : World} {h : House} {x : Rb} {nm : ByteArray} {k8 k9 k10 : Option Value} {k14 : Option Nat} {v : Value} (H : LS W h x nm X k8 k9 k10 k14) (hb : Below X.heap.size X X') (hv : Txt X' v (slE x.ps nm)) : LS W h x nm X' (some v) k9 k10 k14 :=
  { H.up hb with s8 := fun u e => by cases e; exact hv }
theorem LS.c9 {W X X' : World} {h : House} {x : Rb} {nm : ByteArray} {k8 k9 k10 : Option Value} {k14 : Option Nat} {v : Value} (H : LS W h x nm X k8 k9 k10 k14) (hb : Below X.heap.size X X') (hv : Txt X' v (thE x.sl (slE x.ps nm))) : LS W h x nm X' k8 (some v) k10 k14 :=
  { H.up hb with s9 := fun u e => by cases e; exact hv }
theorem LS.c10 {W X X' : World} {h : House} {x : Rb} {nm : ByteArray} {k8 k9 k10 : Option Value} {k14 : Option Nat} {v : Value} (H : LS W h x nm X k8 k9 k10 k14) (hb : Below X.heap.size X X') (hv : BkW X' X.heap.size v (lsnB h.sh x.nm (thE x.sl (slE x.ps nm)))) : LS W h x nm X' k8 k9 (some v) k14 :=
  { H.up hb with s10 := fun u e => by cases e; exact hv.low H.B.size }
theorem LS.c14 {W X : World} {h : House} {x : Rb} {nm : ByteArray} {k8 k9 k10 : Option Value} {k14 : Option Nat} (H : LS W h x nm X k8 k9 k10 k14) : LS W h x nm (X.alloc (.cells #[.slice none 0 0, .slice none 0 0] 95)) k8 k9 k10 (some X.heap.size) :=
  { H.up ((Below.refl _ _).alloc (Nat.le_refl _) _) with s14 := fun u e => by cases e; exact World.ownsRow_lit X _ 1 H.B.size (by unfold maxLen; omega) rfl }
theorem LS.fin {W X : World} {h : House} {x : Rb} {nm : ByteArray} {k8 k9 : Option Value} {tu bu : Value} {y : Nat} (H : LS W h x nm X k8 k9 (some (.agg #[tu, bu])) (some y)) :
    Below W.heap.size W ((X.setCell ⟨y, 0, none⟩ tu).setCell ⟨y, 1, none⟩ bu) ∧ BkW ((X.setCell ⟨y, 0, none⟩ tu).setCell ⟨y, 1, none⟩ bu) W.heap.size (.agg #[tu, bu]) (lsnB h.sh x.nm (thE x.sl (slE x.ps nm))) ∧ CB ((X.setCell ⟨y, 0, none⟩ tu).setCell ⟨y, 1, none⟩ bu) y [tu, bu] := by
  have h18 := H.s14 y rfl
  have h1 := World.ownsRow.stored h18 0 tu
  have h2 := World.ownsRow.stored h1.1 1 bu
  have hg : X.grownBy ((X.setCell ⟨y, 0, none⟩ tu).setCell ⟨y, 1, none⟩ bu) (Value.slice (some ⟨y, 0, none⟩) 1 1).ownBlock := grown_trans h1.2 h2.2
  exact ⟨below_ownB H.B H.B.size h18 hg (Nat.le_refl _), (H.s10 _ rfl).step h18 (by decide) (by decide) hg, cb_of_rowK h2.1⟩

set_option maxRecDepth 20000 in
set_option maxHeartbeats 8000000 in
theorem onGo_any (h : House) (tv bv xv dv : Value) (base k : Nat) (x : Rb) (nm : ByteArray) (w : World) (H : HW w base h tv bv xv dv) (hbase : base ≤ w.heap.size) (hT : Tiny h.sh) (hk : h.bs[k]? = some x) (hrec : recB x.ps = true) (hend : endN nm = 0) :
    Calls Tryz.prog 115 #[.agg #[.int .i64 h.now, .int .i64 h.last, tv, bv, xv, dv], .int .i64 k, .string nm] w fun e w' => (∃ tu bu, e = .returned (.agg #[.int .i64 h.now, .int .i64 h.last, tu, bu, xv, dv]) ∧ Tiny (onH h k nm).sh ∧ HW w' base (onH h k nm) tu bu xv dv) ∧ w.grownBy w' xv.ownBlock := by
  have HON : Hid (onH h k nm = { h with sh := lsnB h.sh x.nm (thE x.sl (slE x.ps nm)), bs := h.bs.set k { x with ad := nm, si := -1 } }) := by show _ = _; simp [onH, hk, hend]
  obtain ⟨a1, c1, a2, c2, a3, c3, a4, c4, rfl, rfl, rfl, rfl⟩ := H.v.shapes
  obtain ⟨ps, hW, hm⟩ := H.x
  have hpl : ps.length = h.bs.length := by have := congrArg List.length hm; rwa [List.length_map] at this
  have hkl : k < h.bs.length := (List.getElem?_eq_some_iff.1 hk).1
  obtain ⟨g, cap, eg⟩ := own_ptr2 hW.1 (by omega)
  simp only [Value.slice.injEq] at eg
  obtain ⟨rfl, -, rfl⟩ := eg
  obtain ⟨⟨y, ru, su⟩, hpk⟩ : ∃ p, ps[k]? = some p := ⟨ps[k]'(by omega), List.getElem?_eq_getElem _⟩
  obtain rfl : x = y := by
    have e := hk
    rw [← hm, List.getElem?_map, hpk] at e
    simpa using e.symm
  have hrc := hW.2 _ (List.mem_of_getElem? hpk)
  have hnr : NN ru := hrc.nr
  have hns : NN su := hrc.ns
  obtain ⟨g3, n3, m3, rfl⟩ := hnr
  obtain ⟨g4, n4, m4, rfl⟩ := hns
  have hmx : h.bs.length ≤ 9223372036854775807 := by have := own_len hW.1; unfold maxLen at this; omega
  have Hpk : Hid (ps[k]? = some (x, .slice (some ⟨g3, 0, none⟩) n3 m3, .slice (some ⟨g4, 0, none⟩) n4 m4)) := hpk
  have Hm : Hid (ps.map (·.1) = h.bs) := hm
  obtain ⟨W1, hW1, kA, kR, hB1⟩ : ∃ W1, (w.alloc (.cells #[.int .i64 h.now, .int .i64 h.last, .slice a1 h.sh.things.length c1, .slice a2 h.sh.bs.length c2, .slice (some ⟨g, 0, none⟩) h.bs.length c3, .slice a4 h.ds.length c4] 99)).alloc (.cells #[.int .i64 0, .int .i64 0, .slice none 0 0, .slice none 0 0, .slice none 0 0, .slice none 0 0] 99) = W1 ∧ W1.ownsRow w.heap.size 99 6 (.slice (some ⟨w.heap.size, 0, none⟩) 1 1) 1 [.int .i64 h.now, .int .i64 h.last, .slice a1 h.sh.things.length c1, .slice a2 h.sh.bs.length c2, .slice (some ⟨g, 0, none⟩) h.bs.length c3, .slice a4 h.ds.length c4] ∧ W1.ownsRow w.heap.size 99 6 (.slice (some ⟨w.heap.size + 1, 0, none⟩) 1 1) 1 [.int .i64 0, .int .i64 0, .slice none 0 0, .slice none 0 0, .slice none 0 0, .slice none 0 0] ∧ Below w.heap.size w W1 := ⟨_, rfl, two_rows w [.int .i64 h.now, .int .i64 h.last, .slice a1 h.sh.things.length c1, .slice a2 h.sh.bs.length c2, .slice (some ⟨g, 0, none⟩) h.bs.length c3, .slice a4 h.ds.length c4] [.int .i64 0, .int .i64 0, .slice none 0 0, .slice none 0 0, .slice none 0 0, .slice none 0 0] rfl rfl⟩
  go_enter Tryz.func115, Tryz.ntmps115
  go_upto_region 1 with fail
  try rw [hW1]
  clear hW1
  have H1 := H.up hB1
  have hW1' := hW.up hB1
  have hrow1 : W1.ownsRow base 26 6 (.slice (some ⟨g, 0, none⟩) h.bs.length c3) h.bs.length (rowsF rowR ps) := by have := hW1'.1; rw [hpl] at this; exact this
  have hcl := own_rows rowR_len hrow1 hpk
  have q0 : World.cell? W1 ⟨g, k * 6, none⟩ = some (.string x.nm) := hcl 0 _ rfl
  have q1 : World.cell? W1 ⟨g, k * 6 + 1, none⟩ = some (.slice (some ⟨g3, 0, none⟩) n3 m3) := hcl 1 _ rfl
  have q2 : World.cell? W1 ⟨g, k * 6 + 2, none⟩ = some (.slice (some ⟨g4, 0, none⟩) n4 m4) := hcl 2 _ rfl
  have q3 : World.cell? W1 ⟨g, k * 6 + 3, none⟩ = some (.string x.ad) := hcl 3 _ rfl
  have q4 : World.cell? W1 ⟨g, k * 6 + 4, none⟩ = some (.int .i64 x.si) := hcl 4 _ rfl
  have q5 : World.cell? W1 ⟨g, k * 6 + 5, none⟩ = some (.int .i64 x.st) := hcl 5 _ rfl
  have hg1 : g < W1.heap.size := (hrow1.lt g rfl).2
  have hw1 : w.heap.size < W1.heap.size := (kA.lt _ rfl).2
  have hgw : g < w.heap.size := (hW.1.lt g rfl).2
  have e4 := (cb_of_rowK kA).c6.2.2.2.2.1
  clear hcl hk hm hpk hpl
  go_upto_region 2 with fail
  obtain ⟨W2, hW2, kL, hB2⟩ : ∃ W2, W1.alloc (.cells #[.string x.nm, .slice (some ⟨g3, 0, none⟩) n3 m3, .slice (some ⟨g4, 0, none⟩) n4 m4, .string x.ad, .int .i64 x.si, .int .i64 x.st] 26) = W2 ∧ W2.ownsRow W1.heap.size 26 6 (.slice (some ⟨W1.heap.size, 0, none⟩) 1 1) 1 [.string x.nm, .slice (some ⟨g3, 0, none⟩) n3 m3, .slice (some ⟨g4, 0, none⟩) n4 m4, .string x.ad, .int .i64 x.si, .int .i64 x.st] ∧ Below W1.heap.size W1 W2 := ⟨_, rfl, World.ownsRow_lit W1 _ 1 (Nat.le_refl _) (by unfold maxLen; omega) rfl, (Below.refl _ _).alloc (Nat.le_refl _) _⟩
  try rw [hW2]
  clear hW2 q0 q1 q2 q3 q4 q5 e4
  have hv : RbV W2 x (.slice (some ⟨g3, 0, none⟩) n3 m3) (.slice (some ⟨g4, 0, none⟩) n4 m4) := (hrc.v.up hB1).up hB2
  have HB : Hid (BkV W2 (.agg #[.slice a1 h.sh.things.length c1, .slice a2 h.sh.bs.length c2]) h.sh) := H1.v.book.up hB2
  have kA2 := own_up kA hB2
  have hl2 : W1.heap.size < W2.heap.size := (kL.lt _ rfl).2
  have hw2 : w.heap.size < W2.heap.size := by omega
  have mk : ∀ w', Below W2.heap.size W2 w' → Below W2.heap.size W2 w' ∧ World.cell? w' ⟨w.heap.size, 2, none⟩ = some (.slice a1 h.sh.things.length c1) ∧ World.cell? w' ⟨w.heap.size, 3, none⟩ = some (.slice a2 h.sh.bs.length c2) ∧ World.cell? w' ⟨W1.heap.size, 0, none⟩ = some (.string x.nm) ∧ World.cell? w' ⟨W1.heap.size, 1, none⟩ = some (.slice (some ⟨g3, 0, none⟩) n3 m3) ∧ World.cell? w' ⟨W1.heap.size, 2, none⟩ = some (.slice (some ⟨g4, 0, none⟩) n4 m4) ∧ World.cell? w' ⟨W1.heap.size, 3, none⟩ = some (.string x.ad) ∧ World.cell? w' ⟨W1.heap.size, 4, none⟩ = some (.int .i64 x.si) ∧ World.cell? w' ⟨W1.heap.size, 5, none⟩ = some (.int .i64 x.st) := fun w' hb' => by
    obtain ⟨z0, z1, z2, z3, z4, z5⟩ := (cb_of_rowK (own_up kL hb')).c6
    obtain ⟨y0, y1, y2, y3, y4, y5⟩ := (cb_of_rowK (own_up kA2 hb')).c6
    exact ⟨hb', y2, y3, z0, z1, z2, z3, z4, z5⟩
  have Mk : Hid (∀ w', Below W2.heap.size W2 w' → Below W2.heap.size W2 w' ∧ World.cell? w' ⟨w.heap.size, 2, none⟩ = some (.slice a1 h.sh.things.length c1) ∧ World.cell? w' ⟨w.heap.size, 3, none⟩ = some (.slice a2 h.sh.bs.length c2) ∧ World.cell? w' ⟨W1.heap.size, 0, none⟩ = some (.string x.nm) ∧ World.cell? w' ⟨W1.heap.size, 1, none⟩ = some (.slice (some ⟨g3, 0, none⟩) n3 m3) ∧ World.cell? w' ⟨W1.heap.size, 2, none⟩ = some (.slice (some ⟨g4, 0, none⟩) n4 m4) ∧ World.cell? w' ⟨W1.heap.size, 3, none⟩ = some (.string x.ad) ∧ World.cell? w' ⟨W1.heap.size, 4, none⟩ = some (.int .i64 x.si) ∧ World.cell? w' ⟨W1.heap.size, 5, none⟩ = some (.int .i64 x.st)) := mk
  have hS0 := mk W2 (Below.refl _ _)
  clear mk hrc
  go_upto_region 4 with ((go_at_call 54; refine (specEnd_any nm _).mono ?_; rintro e w' ⟨rfl, hw⟩; obtain rfl := hw.symm; clear hw))
  go_cut [9, 10] (fun v9 v10 wc => ∃ (Y : Nat) (tw bw : Value) (cd : Int), v9 = .pointer (some ⟨Y, 0, none⟩) ∧ v10 = .int .i64 cd ∧ Below W2.heap.size W2 wc ∧ BkW wc W2.heap.size (.agg #[tw, bw]) (lsnB h.sh x.nm (thE x.sl (slE x.ps nm))) ∧ CB wc Y [tw, bw])
  case first =>
    have hC : LS W2 h x nm W2.drew none none none none := (ls_nil W2 h x nm).up (Below.refl _ _).drew
    refine wp_region_x 99 (fun w' => Below W2.heap.size W2 w' ∧ World.cell? w' ⟨w.heap.size, 2, none⟩ = some (.slice a1 h.sh.things.length c1) ∧ World.cell? w' ⟨w.heap.size, 3, none⟩ = some (.slice a2 h.sh.bs.length c2) ∧ World.cell? w' ⟨W1.heap.size, 0, none⟩ = some (.string x.nm) ∧ World.cell? w' ⟨W1.heap.size, 1, none⟩ = some (.slice (some ⟨g3, 0, none⟩) n3 m3) ∧ World.cell? w' ⟨W1.heap.size, 2, none⟩ = some (.slice (some ⟨g4, 0, none⟩) n4 m4) ∧ World.cell? w' ⟨W1.heap.size, 3, none⟩ = some (.string x.ad) ∧ World.cell? w' ⟨W1.heap.size, 4, none⟩ = some (.int .i64 x.si) ∧ World.cell? w' ⟨W1.heap.size, 5, none⟩ = some (.int .i64 x.st)) (by kernel_rfl) ?_
    generalize W2.drew = X1 at hC ⊢
    have hS1 := Mk.out _ hC.B
    refine tkx 0 rfl hS1 ?_
    refine tkx 1 rfl hS1 ?_
    refine tkx 2 rfl hS1 ?_
    refine tkx 3 rfl hS1 ?_
    refine tkx 4 rfl hS1 ?_
    refine tkx 5 rfl hS1 ?_
    refine tkx 6 rfl hS1 ?_
    refine tkx 7 rfl hS1 ?_
    clear hS1
    refine anyX_two (i := 8) (j := 14) (by kernel_rfl) rfl rfl (fun K hK => ?_) (fun K hK => ?_)
    · (go_simp; go_wp2_with (go_at_call 21; refine (slotsS_any x _ _ nm _ (hv.up hC.B) hrec).mono ?_; rintro e X2 ⟨⟨u8, rfl, hu⟩, hb2⟩; replace hC := hC.c8 hb2 hu; clear hb2; obtain ⟨g9, c9, rfl, -⟩ := hu); refine hK.out _ _ (fun _ => (Mk.out _ hC.B)) ?_; clear hK K)
      refine anyX_two (i := 9) (j := 14) (by kernel_rfl) rfl rfl (fun K hK => ?_) (fun K hK => ?_)
      · (go_simp; go_wp2_with (go_at_call 20; refine (thingsS2_any x _ _ _ _ _ (hv.up hC.B) (hC.s8 _ rfl) (Nat.le_trans (slE_short hrec nm) (by omega))).mono ?_; rintro e X3 ⟨⟨u9, rfl, hu⟩, hb2⟩; replace hC := hC.c9 hb2 hu; clear hb2; obtain ⟨g10, c10, rfl, -⟩ := hu); refine hK.out _ _ (fun _ => (Mk.out _ hC.B)) ?_; clear hK K)
        refine anyX_two (i := 10) (j := 14) (by kernel_rfl) rfl rfl (fun K hK => ?_) (fun K hK => ?_)
        · (go_simp; go_wp2_with (go_at_call 126; refine (specLess_any h.sh _ _ x.nm _ _ (HB.out.up hC.B) ((Lst.ls (.inr (hC.s9 _ rfl))) (thE_sized hv _)) (by have h5 := thE_len x.sl (slE x.ps nm); have h6 := slE_short hrec nm; omega)).mono ?_; rintro e X5 ⟨⟨v8, rfl, hk8⟩, hb8⟩; replace hC := hC.c10 hb8 hk8; obtain ⟨t1, d1, t2, d2, ps8, rfl, -⟩ := hk8.parts; clear hk8 hb8); refine hK.out _ _ (fun _ => (Mk.out _ hC.B)) ?_; clear hK K; (refine tkx 11 rfl (Mk.out _ hC.B) ?_); (refine tkx 12 rfl (Mk.out _ hC.B) ?_); (refine tkx 13 rfl (Mk.out _ hC.B) ?_))
          refine anyX_one (i := 14) (by kernel_rfl) rfl (fun K hK => ?_)
          (go_simp; replace hC := hC.c14; refine hK.out _ _ (fun _ => (Mk.out _ hC.B)) ?_; clear hK K; generalize World.alloc _ (.cells #[.slice none 0 0, .slice none 0 0] 95) = X4 at hC ⊢)
          (have kY := cb_of_rowK (hC.s14 _ rfl); obtain ⟨⟨j0, j1⟩, m0, m1⟩ := kY.c2; have hF := hC.fin; refine anyX_one (i := 15) (by kernel_rfl) rfl (fun K hK => ?_); go_simp; refine hK.out _ _ (fun _ => Mk.out _ hF.1) ?_; clear hK K j0 j1 m0 m1 kY; (try simp only [Act.put, List.setIfInBounds_toArray, List.set_cons_zero, List.set_cons_succ]); refine anyX_one (i := 16) (by kernel_rfl) rfl (fun K hK => ?_); go_simp; refine hK.out _ _ (fun _ => Mk.out _ hF.1) ?_; clear hK K; (try simp only [Act.put, List.setIfInBounds_toArray, List.set_cons_zero, List.set_cons_succ]); refine anyX_done (by kernel_rfl) ?_ _; go_wp2_with fail; go_meet; exact ⟨_, _, _, _, rfl, rfl, hF⟩)
        · (go_simp; replace hC := hC.c14; refine hK.out _ _ (fun _ => (Mk.out _ hC.B)) ?_; clear hK K; generalize World.alloc _ (.cells #[.slice none 0 0, .slice none 0 0] 95) = X4 at hC ⊢)
          refine anyX_one (i := 10) (by kernel_rfl) rfl (fun K hK => ?_)
          (go_simp; go_wp2_with (go_at_call 126; refine (specLess_any h.sh _ _ x.nm _ _ (HB.out.up hC.B) ((Lst.ls (.inr (hC.s9 _ rfl))) (thE_sized hv _)) (by have h5 := thE_len x.sl (slE x.ps nm); have h6 := slE_short hrec nm; omega)).mono ?_; rintro e X5 ⟨⟨v8, rfl, hk8⟩, hb8⟩; replace hC := hC.c10 hb8 hk8; obtain ⟨t1, d1, t2, d2, ps8, rfl, -⟩ := hk8.parts; clear hk8 hb8); refine hK.out _ _ (fun _ => (Mk.out _ hC.B)) ?_; clear hK K; (refine tkx 11 rfl (Mk.out _ hC.B) ?_); (refine tkx 12 rfl (Mk.out _ hC.B) ?_); (refine tkx 13 rfl (Mk.out _ hC.B) ?_))
          (have kY := cb_of_rowK (hC.s14 _ rfl); obtain ⟨⟨j0, j1⟩, m0, m1⟩ := kY.c2; have hF := hC.fin; refine anyX_one (i := 15) (by kernel_rfl) rfl (fun K hK => ?_); go_simp; refine hK.out _ _ (fun _ => Mk.out _ hF.1) ?_; clear hK K j0 j1 m0 m1 kY; (try simp only [Act.put, List.setIfInBounds_toArray, List.set_cons_zero, List.set_cons_succ]); refine anyX_one (i := 16) (by kernel_rfl) rfl (fun K hK => ?_); go_simp; refine hK.out _ _ (fun _ => Mk.out _ hF.1) ?_; clear hK K; (try simp only [Act.put, List.setIfInBounds_toArray, List.set_cons_zero, List.set_cons_succ]); refine anyX_done (by kernel_rfl) ?_ _; go_wp2_with fail; go_meet; exact ⟨_, _, _, _, rfl, rfl, hF⟩)
      · (go_simp; replace hC := hC.c14; refine hK.out _ _ (fun _ => (Mk.out _ hC.B)) ?_; clear hK K; generalize World.alloc _ (.cells #[.slice none 0 0, .slice none 0 0] 95) = X4 at hC ⊢)
        refine anyX_one (i := 9) (by kernel_rfl) rfl (fun K hK => ?_)
        (go_simp; go_wp2_with (go_at_call 20; refine (thingsS2_any x _ _ _ _ _ (hv.up hC.B) (hC.s8 _ rfl) (Nat.le_trans (slE_short hrec nm) (by omega))).mono ?_; rintro e X3 ⟨⟨u9, rfl, hu⟩, hb2⟩; replace hC := hC.c9 hb2 hu; clear hb2; obtain ⟨g10, c10, rfl, -⟩ := hu); refine hK.out _ _ (fun _ => (Mk.out _ hC.B)) ?_; clear hK K)
        refine anyX_one (i := 10) (by kernel_rfl) rfl (fun K hK => ?_)
        (go_simp; go_wp2_with (go_at_call 126; refine (specLess_any h.sh _ _ x.nm _ _ (HB.out.up hC.B) ((Lst.ls (.inr (hC.s9 _ rfl))) (thE_sized hv _)) (by have h5 := thE_len x.sl (slE x.ps nm); have h6 := slE_short hrec nm; omega)).mono ?_; rintro e X5 ⟨⟨v8, rfl, hk8⟩, hb8⟩; replace hC := hC.c10 hb8 hk8; obtain ⟨t1, d1, t2, d2, ps8, rfl, -⟩ := hk8.parts; clear hk8 hb8); refine hK.out _ _ (fun _ => (Mk.out _ hC.B)) ?_; clear hK K; (refine tkx 11 rfl (Mk.out _ hC.B) ?_); (refine tkx 12 rfl (Mk.out _ hC.B) ?_); (refine tkx 13 rfl (Mk.out _ hC.B) ?_))
        (have kY := cb_of_rowK (hC.s14 _ rfl); obtain ⟨⟨j0, j1⟩, m0, m1⟩ := kY.c2; have hF := hC.fin; refine anyX_one (i := 15) (by kernel_rfl) rfl (fun K hK => ?_); go_simp; refine hK.out _ _ (fun _ => Mk.out _ hF.1) ?_; clear hK K j0 j1 m0 m1 kY; (try simp only [Act.put, List.setIfInBounds_toArray, List.set_cons_zero, List.set_cons_succ]); refine anyX_one (i := 16) (by kernel_rfl) rfl (fun K hK => ?_); go_simp; refine hK.out _ _ (fun _ => Mk.out _ hF.1) ?_; clear hK K; (try simp only [Act.put, List.setIfInBounds_toArray, List.set_cons_zero, List.set_cons_succ]); refine anyX_done (by kernel_rfl) ?_ _; go_wp2_with fail; go_meet; exact ⟨_, _, _, _, rfl, rfl, hF⟩)
    · (go_simp; replace hC := hC.c14; refine hK.out _ _ (fun _ => (Mk.out _ hC.B)) ?_; clear hK K; generalize World.alloc _ (.cells #[.slice none 0 0, .slice none 0 0] 95) = X4 at hC ⊢)
      refine anyX_one (i := 8) (by kernel_rfl) rfl (fun K hK => ?_)
      (go_simp; go_wp2_with (go_at_call 21; refine (slotsS_any x _ _ nm _ (hv.up hC.B) hrec).mono ?_; rintro e X2 ⟨⟨u8, rfl, hu⟩, hb2⟩; replace hC := hC.c8 hb2 hu; clear hb2; obtain ⟨g9, c9, rfl, -⟩ := hu); refine hK.out _ _ (fun _ => (Mk.out _ hC.B)) ?_; clear hK K)
      refine anyX_one (i := 9) (by kernel_rfl) rfl (fun K hK => ?_)
      (go_simp; go_wp2_with (go_at_call 20; refine (thingsS2_any x _ _ _ _ _ (hv.up hC.B) (hC.s8 _ rfl) (Nat.le_trans (slE_short hrec nm) (by omega))).mono ?_; rintro e X3 ⟨⟨u9, rfl, hu⟩, hb2⟩; replace hC := hC.c9 hb2 hu; clear hb2; obtain ⟨g10, c10, rfl, -⟩ := hu); refine hK.out _ _ (fun _ => (Mk.out _ hC.B)) ?_; clear hK K)
      refine anyX_one (i := 10) (by kernel_rfl) rfl (fun K hK => ?_)
      (go_simp; go_wp2_with (go_at_call 126; refine (specLess_any h.sh _ _ x.nm _ _ (HB.out.up hC.B) ((Lst.ls (.inr (hC.s9 _ rfl))) (thE_sized hv _)) (by have h5 := thE_len x.sl (slE x.ps nm); have h6 := slE_short hrec nm; omega)).mono ?_; rintro e X5 ⟨⟨v8, rfl, hk8⟩, hb8⟩; replace hC := hC.c10 hb8 hk8; obtain ⟨t1, d1, t2, d2, ps8, rfl, -⟩ := hk8.parts; clear hk8 hb8); refine hK.out _ _ (fun _ => (Mk.out _ hC.B)) ?_; clear hK K; (refine tkx 11 rfl (Mk.out _ hC.B) ?_); (refine tkx 12 rfl (Mk.out _ hC.B) ?_); (refine tkx 13 rfl (Mk.out _ hC.B) ?_))
      (have kY := cb_of_rowK (hC.s14 _ rfl); obtain ⟨⟨j0, j1⟩, m0, m1⟩ := kY.c2; have hF := hC.fin; refine anyX_one (i := 15) (by kernel_rfl) rfl (fun K hK => ?_); go_simp; refine hK.out _ _ (fun _ => Mk.out _ hF.1) ?_; clear hK K j0 j1 m0 m1 kY; (try simp only [Act.put, List.setIfInBounds_toArray, List.set_cons_zero, List.set_cons_succ]); refine anyX_one (i := 16) (by kernel_rfl) rfl (fun K hK => ?_); go_simp; refine hK.out _ _ (fun _ => Mk.out _ hF.1) ?_; clear hK K; (try simp only [Act.put, List.setIfInBounds_toArray, List.set_cons_zero, List.set_cons_succ]); refine anyX_done (by kernel_rfl) ?_ _; go_wp2_with fail; go_meet; exact ⟨_, _, _, _, rfl, rfl, hF⟩)
  case rest =>
    obtain ⟨Y, tw, bw, cd, rfl, rfl, hBc, hbk, kY⟩ := hcut
    obtain ⟨t1, d1, t2, d2, qs, e9, -⟩ := hbk.parts
    simp only [Value.agg.injEq, Array.mk.injEq, List.cons.injEq, and_true] at e9
    obtain ⟨rfl, rfl⟩ := e9
    have Hdk : Hid (Szb (lsnB h.sh x.nm (thE x.sl (slE x.ps nm))) ∧ Tiny (lsnB h.sh x.nm (thE x.sl (slE x.ps nm)))) := less_dk H.z hT (thE_sized hv _)
    generalize lsnB h.sh x.nm (thE x.sl (slE x.ps nm)) = B' at *
    have hB1c : Below W1.heap.size W1 wc := hB2.trans (hBc.mono (Nat.le_of_lt hl2))
    have kAc := own_up kA2 hBc
    have kLc := own_up kL hBc
    have kRc := own_up (own_up kR hB2) hBc
    obtain ⟨v0, v1⟩ := kY.c2'
    obtain ⟨e0, e1, e2, e3, e4, e5⟩ := (cb_of_rowK kAc).c6
    obtain ⟨f0, f1, f2, f3, f4, f5⟩ := (cb_of_rowK kAc).f6
    have b1 := box_put (j := 2) kAc (.slice t1 B'.things.length d1)
    have b2 := box_put (j := 3) b1.1 (.slice t2 B'.bs.length d2)
    have hg2 : wc.grownBy ((wc.setCell ⟨w.heap.size, 2, none⟩ (.slice t1 B'.things.length d1)).setCell ⟨w.heap.size, 3, none⟩ (.slice t2 B'.bs.length d2)) (Value.slice (some ⟨w.heap.size, 0, none⟩) 1 1).ownBlock := grown_trans b1.2 b2.2
    obtain ⟨W5, hW5, kA5, kL5, kR5, hbk5, hG5⟩ : ∃ W5, (wc.setCell ⟨w.heap.size, 2, none⟩ (.slice t1 B'.things.length d1)).setCell ⟨w.heap.size, 3, none⟩ (.slice t2 B'.bs.length d2) = W5 ∧ W5.ownsRow w.heap.size 99 6 (.slice (some ⟨w.heap.size, 0, none⟩) 1 1) 1 [.int .i64 h.now, .int .i64 h.last, .slice t1 B'.things.length d1, .slice t2 B'.bs.length d2, .slice (some ⟨g, 0, none⟩) h.bs.length c3, .slice a4 h.ds.length c4] ∧ W5.ownsRow W1.heap.size 26 6 (.slice (some ⟨W1.heap.size, 0, none⟩) 1 1) 1 [.string x.nm, .slice (some ⟨g3, 0, none⟩) n3 m3, .slice (some ⟨g4, 0, none⟩) n4 m4, .string x.ad, .int .i64 x.si, .int .i64 x.st] ∧ W5.ownsRow w.heap.size 99 6 (.slice (some ⟨w.heap.size + 1, 0, none⟩) 1 1) 1 [.int .i64 0, .int .i64 0, .slice none 0 0, .slice none 0 0, .slice none 0 0, .slice none 0 0] ∧ BkW W5 W2.heap.size (.agg #[.slice t1 B'.things.length d1, .slice t2 B'.bs.length d2]) B' ∧ W1.grownBy W5 (Value.slice (some ⟨w.heap.size, 0, none⟩) 1 1).ownBlock :=
      ⟨_, rfl, b2.1, own_keep2 kLc hg2 (own_apart2 kLc kAc (by decide)), own_keep2 kRc hg2 (by simp [Value.ownBlock]), hbk.step kAc (by decide) (by decide) hg2, ⟨hg2.os.trans hB1c.os, hg2.tape.trans hB1c.tape, hg2.output.trans hB1c.output, Nat.le_trans hB1c.size hg2.size, fun i hi hne => (hg2.block i (Nat.lt_of_lt_of_le hi hB1c.size) hne).trans (hB1c.block i hi)⟩⟩
    go_upto_region 6 with fail
    try rw [hW5]
    clear hW5 e0 e1 e2 e3 e4 e5 f0 f1 f2 f3 f4 f5 v0 v1 b1 b2 hg2 kAc kRc kLc hbk kY hBc hB1c Mk HB hS0
    have l1 := World.ownsRow.stored kL5 3 (.string nm)
    have l2 := World.ownsRow.stored l1.1 4 (.int .i64 (-1))
    have hgL : W5.grownBy ((W5.setCell ⟨W1.heap.size, 3, none⟩ (.string nm)).setCell ⟨W1.heap.size, 4, none⟩ (.int .i64 (-1))) (Value.slice (some ⟨W1.heap.size, 0, none⟩) 1 1).ownBlock := grown_trans l1.2 l2.2
    obtain ⟨e0, e1, e2, e3, e4, e5⟩ := (cb_of_rowK kL5).c6
    obtain ⟨f0, f1, f2, f3, f4, f5⟩ := (cb_of_rowK kL5).f6
    obtain ⟨W7, hW7, kA7, kL7, kR7, hbk7, hG7⟩ : ∃ W7, (W5.setCell ⟨W1.heap.size, 3, none⟩ (.string nm)).setCell ⟨W1.heap.size, 4, none⟩ (.int .i64 (-1)) = W7 ∧ W7.ownsRow w.heap.size 99 6 (.slice (some ⟨w.heap.size, 0, none⟩) 1 1) 1 [.int .i64 h.now, .int .i64 h.last, .slice t1 B'.things.length d1, .slice t2 B'.bs.length d2, .slice (some ⟨g, 0, none⟩) h.bs.length c3, .slice a4 h.ds.length c4] ∧ W7.ownsRow W1.heap.size 26 6 (.slice (some ⟨W1.heap.size, 0, none⟩) 1 1) 1 [.string x.nm, .slice (some ⟨g3, 0, none⟩) n3 m3, .slice (some ⟨g4, 0, none⟩) n4 m4, .string nm, .int .i64 (-1), .int .i64 x.st] ∧ W7.ownsRow w.heap.size 99 6 (.slice (some ⟨w.heap.size + 1, 0, none⟩) 1 1) 1 [.int .i64 0, .int .i64 0, .slice none 0 0, .slice none 0 0, .slice none 0 0, .slice none 0 0] ∧ BkW W7 W2.heap.size (.agg #[.slice t1 B'.things.length d1, .slice t2 B'.bs.length d2]) B' ∧ W1.grownBy W7 (Value.slice (some ⟨w.heap.size, 0, none⟩) 1 1).ownBlock :=
      ⟨_, rfl, own_keep2 kA5 hgL (own_apart2 kA5 kL5 (by decide)), l2.1, own_keep2 kR5 hgL (own_apart2 kR5 kL5 (by decide)), hbk5.step kL5 (by decide) (by decide) hgL, grown_setNew (grown_setNew hG5 (Nat.le_refl _) _) (Nat.le_refl _) _⟩
    go_upto_region 8 with fail
    try rw [hW7]
    clear hW7 e0 e1 e2 e3 e4 e5 f0 f1 f2 f3 f4 f5 l1 l2 hgL kA5 kL5 kR5 hbk5 hG5
    have H7 := H1.box kA hG7
    have hW7' : RbsW W7 base (.slice (some ⟨g, 0, none⟩) h.bs.length c3) ps := ⟨own_keep2 hW1'.1 hG7 (own_apart2 hW1'.1 kA (by decide)), fun p hp => (hW1'.2 p hp).step kA (by decide) (by decide) hG7⟩
    have hrow7 := own_keep2 hrow1 hG7 (own_apart2 hrow1 kA (by decide))
    have hbkb := hbk7.low (show base ≤ W2.heap.size by omega)
    have H9 := H7.goes hW7' Hm.out Hpk.out hbkb Hdk.out.1 nm
    have hg8 := (hW7'.write Hpk.out nm).2
    have e4 := (cb_of_rowK kA7).c6.2.2.2.2.1
    obtain ⟨l0, l1, l2, l3, l4, l5⟩ := (cb_of_rowK kL7).c6
    have hq : ∀ j, j < 6 → (World.cell? W7 ⟨g, k * 6 + j, none⟩).isSome = true ∧ World.frozen? W7 ⟨g, k * 6 + j, none⟩ = false := fun j hj => by
      refine ⟨?_, hrow7.frozenAt _⟩
      have hl : j < (rowR (x, .slice (some ⟨g3, 0, none⟩) n3 m3, .slice (some ⟨g4, 0, none⟩) n4 m4)).length := hj
      rw [hrow7.cellAt (k * 6 + j) (by omega), rowsF_at rowR_len ps k _ Hpk.out j _ (List.getElem?_eq_getElem hl)]; rfl
    obtain ⟨q0, f0⟩ := hq 0 (by omega)
    obtain ⟨q1, f1⟩ := hq 1 (by omega)
    obtain ⟨q2, f2⟩ := hq 2 (by omega)
    obtain ⟨q3, f3⟩ := hq 3 (by omega)
    obtain ⟨q4, f4⟩ := hq 4 (by omega)
    obtain ⟨q5, f5⟩ := hq 5 (by omega)
    obtain ⟨v0, q0⟩ := Option.isSome_iff_exists.1 q0
    obtain ⟨v1, q1⟩ := Option.isSome_iff_exists.1 q1
    obtain ⟨v2, q2⟩ := Option.isSome_iff_exists.1 q2
    obtain ⟨v3, q3⟩ := Option.isSome_iff_exists.1 q3
    obtain ⟨v4, q4⟩ := Option.isSome_iff_exists.1 q4
    obtain ⟨v5, q5⟩ := Option.isSome_iff_exists.1 q5
    rw [Nat.add_zero] at q0 f0
    have kA9 := own_keep2 kA7 hg8 (own_apart2 kA7 hrow7 (by decide))
    have kR9 := own_keep2 kR7 hg8 (own_apart2 kR7 hrow7 (by decide))
    clear hq
    go_upto_region 9 with fail
    clear e4 l0 l1 l2 l3 l4 l5 q0 q1 q2 q3 q4 q5 f0 f1 f2 f3 f4 f5
    generalize ((((((W7.setCell ⟨g, k * 6, none⟩ (.string x.nm)).setCell ⟨g, k * 6 + 1, none⟩ (.slice (some ⟨g3, 0, none⟩) n3 m3)).setCell ⟨g, k * 6 + 2, none⟩ (.slice (some ⟨g4, 0, none⟩) n4 m4)).setCell ⟨g, k * 6 + 3, none⟩ (.string nm)).setCell ⟨g, k * 6 + 4, none⟩ (.int .i64 (-1))).setCell ⟨g, k * 6 + 5, none⟩ (.int .i64 x.st)) = W9 at *
    obtain ⟨e0, e1, e2, e3, e4, e5⟩ := (cb_of_rowK kA9).c6
    obtain ⟨y0, y1, y2, y3, y4, y5⟩ := (cb_of_rowK kR9).c6
    obtain ⟨f0, f1, f2, f3, f4, f5⟩ := (cb_of_rowK kR9).f6
    go_wp2_with fail
    refine end_cb6 Tryz.results115 Tryz.underlying99 rfl sizeHouseS (cb_of_rowK kR9) rfl ?_
    have hg9 := grown_set6 W9 (w.heap.size + 1) (.int .i64 h.now) (.int .i64 h.last) (.slice t1 B'.things.length d1) (.slice t2 B'.bs.length d2) (.slice (some ⟨g, 0, none⟩) h.bs.length c3) (.slice a4 h.ds.length c4)
    rw [HON.out]
    refine ⟨⟨_, _, rfl, Hdk.out.2, H9.box kR9 hg9⟩, ?_⟩
    have hz1 := hB1.size
    have hz7 := hG7.size
    have hz9 := hg8.size
    exact ⟨hg9.os.trans (hg8.os.trans (hG7.os.trans hB1.os)), hg9.tape.trans (hg8.tape.trans (hG7.tape.trans hB1.tape)), hg9.output.trans (hg8.output.trans (hG7.output.trans hB1.output)), Nat.le_trans hz1 (Nat.le_trans hz7 (Nat.le_trans hz9 hg9.size)), fun i hi hne => (hg9.block i (by omega) (by simp; omega)).trans ((hg8.block i (by omega) hne).trans ((hG7.block i (by omega) (by simp [Value.ownBlock]; omega)).trans (hB1.block i hi)))⟩
end Go.Proofs.YtliebjbbomghiaaGreatDoor
