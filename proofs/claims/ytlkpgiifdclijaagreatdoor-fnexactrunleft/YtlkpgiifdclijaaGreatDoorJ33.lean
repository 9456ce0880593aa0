/- Books of one's own in memory: what the laws' copies are. -/
import Derived.Test.YtlkpgiifdclijaaGreatDoorJ21
import Derived.Laws.OwnMore
import Derived.Test.YtlkpgiifdclijaaGreatDoorJ32
import Derived.Test.YtlkpgiifdclijaaGreatDoorJ2
namespace Go.Proofs.YtlkpgiifdclijaaGreatDoor
open Go.RowKit

/-- A list of texts in a block of its own, at or behind a base. -/
def LsO (w : World) (base : Nat) (v : Value) (ss : List ByteArray) : Prop := ∃ b, v = .slice (some ⟨b, 0, none⟩) ss.length ss.length ∧ StrsAt w b 0 ss ∧ w.there b 0 ss.length ∧ base ≤ b ∧ b < w.heap.size ∧ ss.length ≤ maxLen ∧ ∀ s ∈ ss, s.size ≤ maxLen
theorem LsO.ls {w : World} {base : Nat} {v : Value} {ss : List ByteArray} (h : LsO w base v ss) : Ls w v ss := by
  obtain ⟨b, rfl, h1, -, -, h2, h3, h4⟩ := h
  exact ⟨_, _, rfl, h3, h4, fun _ => ⟨b, 0, rfl, h1, h2⟩⟩
theorem LsO.up {w w' : World} {base : Nat} {v : Value} {ss : List ByteArray} (h : LsO w base v ss) (hb : Below w.heap.size w w') : LsO w' base v ss := by
  obtain ⟨b, rfl, h1, ht, h0, h2, h3⟩ := h
  exact ⟨b, rfl, h1.up hb h2, there_up ht hb h2, h0, Nat.lt_of_lt_of_le h2 hb.size, h3⟩
theorem there_kept {w w' : World} {b o n : Nat} {r : Option Nat} (h : w.there b o n) (hg : w.grownBy w' r) (hb : b < w.heap.size) (hne : some b ≠ r) : w'.there b o n := fun j hj => by
  have hk := hg.block b hb hne
  rw [World.cell?_of_block (w := w) (a := ⟨b, o + j, none⟩) hk, World.frozen?_of_block (w := w) (a := ⟨b, o + j, none⟩) hk]; exact h j hj
theorem LsO.kept {w w' : World} {base r : Nat} {v : Value} {ss : List ByteArray} (h : LsO w base v ss) (hg : w.grownBy w' (some r)) (hr : r < base) : LsO w' base v ss := by
  obtain ⟨b, rfl, h1, ht, h0, h2, h3⟩ := h
  exact ⟨b, rfl, fun i s hs => hg.cell (h1 i s hs) (by simp; omega), there_kept ht hg h2 (by simp; omega), h0, Nat.lt_of_lt_of_le h2 hg.size, h3⟩
theorem LsO.low {w : World} {base base' : Nat} {v : Value} {ss : List ByteArray} (h : LsO w base v ss) (hb : base' ≤ base) : LsO w base' v ss := by
  obtain ⟨b, rfl, h1, ht, h0, h2⟩ := h
  exact ⟨b, rfl, h1, ht, by omega, h2⟩
/-- A batch's cells in block b, its lists behind b. -/
def BaO (w : World) (b o : Nat) (x : Ba) : Prop := ∃ hv nv, w.rangeAt b o [.string x.nm, hv, nv] ∧ LsO w (b + 1) hv x.has ∧ LsO w (b + 1) nv x.needs ∧ x.nm.size ≤ maxLen
theorem BaO.up {w w' : World} {b o : Nat} {x : Ba} (h : BaO w b o x) (hb : Below w.heap.size w w') (hlt : b < w.heap.size) : BaO w' b o x := by
  obtain ⟨hv, nv, hr, h1, h2, h3⟩ := h
  exact ⟨hv, nv, fun j v hv => (hb.cell (p := ⟨b, o + j, none⟩) hlt).trans (hr j v hv), h1.up hb, h2.up hb, h3⟩
theorem BaO.at {w : World} {b o : Nat} {x : Ba} (h : BaO w b o x) : BaAt w b o x := by
  obtain ⟨hv, nv, hr, h1, h2, h3⟩ := h
  exact ⟨hv, nv, hr, h1.ls, h2.ls, h3⟩
def BsOAt (w : World) (b : Nat) (bs : List Ba) : Prop := ∀ (i : Nat) (x : Ba), bs[i]? = some x → BaO w b (i * 3) x
theorem BsOAt.up {w w' : World} {b : Nat} {bs : List Ba} (h : BsOAt w b bs) (hb : Below w.heap.size w w') (hlt : b < w.heap.size) : BsOAt w' b bs := fun i x hx => (h i x hx).up hb hlt
theorem bsO_store {w1 : World} {b k : Nat} {bs : List Ba} {hv nv : Value} (hk : k < bs.length) (h : BsOAt w1 b (bs.take k)) (ht : w1.there b 0 (bs.length * 3)) (h1 : LsO w1 (b + 1) hv (bs[k]).has) (h2 : LsO w1 (b + 1) nv (bs[k]).needs) (h3 : (bs[k]).nm.size ≤ maxLen) :
    BsOAt (w1.setCells b (k * 3) [.string (bs[k]).nm, hv, nv]) b (bs.take (k + 1)) := by
  have hg : w1.grownBy (w1.setCells b (k * 3) [.string (bs[k]).nm, hv, nv]) (some b) := grown_copies b _ _ w1 w1 (some b) (World.grownBy.refl' w1) rfl
  intro i p hp
  by_cases hi : i < k
  · obtain ⟨hv', nv', hr, g1, g2, g3⟩ := h i p (by rw [List.getElem?_take] at hp ⊢; rw [if_pos (by omega)] at hp; rw [if_pos hi]; exact hp)
    refine ⟨hv', nv', World.rangeAt_setCells_apart hr b (k * 3) _ (.inr (.inl ?_)), g1.kept hg (by omega), g2.kept hg (by omega), g3⟩
    simp; omega
  · have hik : i = k := by
      rw [List.getElem?_take] at hp
      split at hp
      · omega
      · cases hp
    subst hik
    rw [List.getElem?_take, if_pos (by omega), List.getElem?_eq_getElem hk] at hp
    obtain rfl := Option.some.inj hp
    refine ⟨hv, nv, World.rangeAt_setCells_same _ _ _ _ (fun j hj => ?_), h1.kept hg (by omega), h2.kept hg (by omega), h3⟩
    have := ht (i * 3 + j) (by simp at hj; omega)
    simpa using this
/-- Batches in a block of their own; a book of its own. -/
def BsO (w : World) (base : Nat) (v : Value) (bs : List Ba) : Prop := ∃ b, v = .slice (some ⟨b, 0, none⟩) bs.length bs.length ∧ BsOAt w b bs ∧ w.there b 0 (bs.length * 3) ∧ base ≤ b ∧ b < w.heap.size ∧ bs.length ≤ maxLen
theorem BsO.bs {w : World} {base : Nat} {v : Value} {bs : List Ba} (h : BsO w base v bs) : Bs w v bs := by
  obtain ⟨b, rfl, h1, -, -, h2, h3⟩ := h
  exact ⟨_, _, rfl, h3, fun _ => ⟨b, 0, rfl, fun i x hx => by rw [Nat.zero_add]; exact (h1 i x hx).at, h2⟩⟩
theorem BsO.up {w w' : World} {base : Nat} {v : Value} {bs : List Ba} (h : BsO w base v bs) (hb : Below w.heap.size w w') : BsO w' base v bs := by
  obtain ⟨b, rfl, h1, ht, h0, h2, h3⟩ := h
  exact ⟨b, rfl, h1.up hb h2, there_up ht hb h2, h0, Nat.lt_of_lt_of_le h2 hb.size, h3⟩
def BkO (w : World) (base : Nat) (v : Value) (b : Bk) : Prop := ∃ tv bv mid, v = .agg #[tv, bv] ∧ LsO w base tv b.things ∧ BsO w mid bv b.bs ∧ base ≤ mid ∧ ∀ g, tv.ownBlock = some g → g < mid
theorem BkO.bk {w : World} {base : Nat} {v : Value} {b : Bk} (h : BkO w base v b) : BkV w v b := by
  obtain ⟨tv, bv, mid, rfl, h1, h2, -⟩ := h
  exact ⟨tv, bv, rfl, h1.ls, h2.bs⟩
theorem BkO.up {w w' : World} {base : Nat} {v : Value} {b : Bk} (h : BkO w base v b) (hb : Below w.heap.size w w') : BkO w' base v b := by
  obtain ⟨tv, bv, mid, rfl, h1, h2, r⟩ := h
  exact ⟨tv, bv, mid, rfl, h1.up hb, h2.up hb, r⟩
end Go.Proofs.YtlkpgiifdclijaaGreatDoor

/- An append of nothing. -/
namespace Go.Proofs.YtlkpgiifdclijaaGreatDoor
open Go.RowKit

theorem run_append_zero {P : Program} {w : World} (base : Nat) (t ty e : TypeId) (i : TypeInfo) (size : Nat) (ht : P.underlying t = some (.slice e)) (hi : P.info? e = some i)
    (v : Value) (n : Nat) (xs : List Value) (hown : w.ownsRow base e size v n xs) (a : Option Addr) (c : Nat) : (Builtin.append_ #[t, t] ty #[v, .slice a 0 c]).run P w = .ok v w := by
  rcases hown.2 with ⟨rfl, rfl⟩ | ⟨g, cap, cur, rfl, _, _, hnc, _⟩
  · cases a <;> simp [Builtin.append_, run_underlying ht, sizeOf, typeInfo, hi, Builtin.lenOf, Builtin.firstCells, loadCells, loadCellsFrom, Result.andThen]
  · cases a <;> simp [Builtin.append_, run_underlying ht, sizeOf, typeInfo, hi, Builtin.lenOf, Builtin.firstCells, hnc, storeCells, loadCells, loadCellsFrom, Result.andThen]
theorem wpList_append_zero {P : Program} (w : World) {ops : Array Oper} {rest : List Oper} {o : Oper} {ac : Act} {Q : Exit → Act → World → Prop} (hg : o.guard = none) (s x : Operand) (t : TypeId) (hop : o.op = .call { callee := .builtin .append, args := #[s, x], argTypes := #[t, t] })
    (base : Nat) (e : TypeId) (i : TypeInfo) (size : Nat) (ht : P.underlying t = some (.slice e)) (hi : P.info? e = some i) (v : Value) (n : Nat) (xs : List Value) (hs : ac.eval s = v) (hown : w.ownsRow base e size v n xs) (a : Option Addr) (c : Nat) (hx : ac.eval x = .slice a 0 c)
    (h : wpList P ops Q rest (ac.put o.dst v) w) : wpList P ops Q (o :: rest) ac w := by
  refine wpList_plain hg fun K hK => ?_
  have hr := run_append_zero (P := P) base t o.type e i size ht hi v n xs hown a c
  unfold Oper.wp
  simp [execOp, hop, resolve, invoke, builtin, hs, hx, hr, Result.andThen]
  exact hK _ _ h
/-- A slice that is not nil. -/
def NN (u : Value) : Prop := ∃ g n c, u = .slice (some ⟨g, 0, none⟩) n c
theorem ownT_lit0 (w : World) : OwnT (w.alloc (.cells #[] 9)) w.heap.size (.slice (some ⟨w.heap.size, 0, none⟩) 0 0) [] := World.ownsRow_lit w #[] 0 (Nat.le_refl _) (by unfold maxLen; omega) rfl
end Go.Proofs.YtlkpgiifdclijaaGreatDoor

/- The specification's walks of l12Next and ShareOrder (chapter 12). -/
namespace Go.Proofs.YtlkpgiifdclijaaGreatDoor
open Go.RowKit

set_option maxHeartbeats 2000000 in
theorem next12_any (b : Bk) (v gv : Value) (gone : List ByteArray) (w : World) (h : BkV w v b) (hg : Ls w gv gone) :
    Calls Tryz.prog 77 #[v, gv] w fun e w' => (∃ n : Int, e = .returned (.int .i64 n) ∧ NextIs b.bs gone n) ∧ Below w.heap.size w w' := by
  obtain ⟨a1, c1, a2, c2, rfl, h1, h2⟩ := h.parts
  obtain ⟨ag, cg, rfl, -⟩ := id hg
  have hC : CB (w.alloc (.cells #[.slice a1 (b).things.length c1, .slice a2 (b).bs.length c2] 34)) w.heap.size [.slice a1 b.things.length c1, .slice a2 b.bs.length c2] := cb_alloc w _ _
  have hB0 := (Below.refl w.heap.size w).alloc (Nat.le_refl _) (.cells #[.slice a1 (b).things.length c1, .slice a2 (b).bs.length c2] 34)
  have g2 := h2.at.1
  unfold maxLen at g2
  go_enter Tryz.func77, Tryz.ntmps77
  go_upto_region 1 with fail
  generalize w.alloc (.cells #[.slice a1 (b).things.length c1, .slice a2 (b).bs.length c2] 34) = W1 at *
  have l2 := h2.up hB0
  have hk := h.up hB0
  have lg := hg.up hB0
  clear h h1 h2 hg
  obtain ⟨e0, e1⟩ := hC.c2'
  have hlt := hC.2.2
  obtain ⟨-, hpos⟩ := l2.at
  have hB : Below W1.heap.size W1 W1 := Below.refl _ _
  go_wp2_with fail
  go_loopw [5] (fun i w' => ∃ k : Nat, k ≤ b.bs.length ∧ i = .int .i64 k ∧ (∀ j, j < k → ¬ Good b.bs gone j) ∧ Below W1.heap.size W1 w') (fun i _ => b.bs.length - (intOf i).toNat)
  case atStart => exact ⟨0, by omega, rfl, fun j hj => by omega, hB⟩
  case round =>
    clear hB
    obtain ⟨k, hkl, rfl, hal, hB⟩ := hrel
    have Hal : Hid (∀ j, j < k → ¬ Good b.bs gone j) := hal
    clear hal
    have f0 := (hB.cell (p := ⟨w.heap.size, 0, none⟩) hlt).trans e0
    have f1 := (hB.cell (p := ⟨w.heap.size, 1, none⟩) hlt).trans e1
    by_cases hp : k < b.bs.length
    · obtain ⟨bb, o, rfl, hS, hb⟩ := hpos (by omega)
      obtain ⟨a3, d3, a4, d4, c3, c4, c5, -, -, -⟩ := ((hS.at hp).up hB hb).cells
      have HI : Hid (Good b.bs gone k ↔ memS gone (b.bs[k]).nm = false ∧ Can b.bs k gone) := good_iff hp
      generalize b.bs[k] = x0 at *
      clear hS
      go_wp2_with fail
      refine (has11_any gone _ x0.nm _ (lg.up hB)).mono ?_
      rintro e w' ⟨rfl, hw⟩
      obtain rfl := hw.symm
      clear hw
      cases hm : memS gone x0.nm
      case true =>
        have Hs : Hid (∀ j, j < k + 1 → ¬ Good b.bs gone j) := goodTo_step Hal.out fun h => by rw [(HI.out.1 h).1] at hm; cases hm
        clear HI
        go_wp2_with fail
        go_roundw
        case rel => exact ⟨k + 1, by omega, by go_num, Hs.out, hB⟩
        case measure => simp [intOf]; omega
      go_wp2_with fail
      refine (can12_any b _ _ k gone _ (hk.up hB) (lg.up hB) hp).mono ?_
      rintro e w2 ⟨rfl, hb2⟩
      have hB2 := up_trans hB hb2
      clear f0 f1 hB hb2 c3 c4 c5
      cases hcn : pB (Can b.bs k gone)
      · have Hs : Hid (∀ j, j < k + 1 → ¬ Good b.bs gone j) := goodTo_step Hal.out fun h => pB_not.1 hcn (HI.out.1 h).2
        clear HI
        go_wp2_with fail
        go_roundw
        case rel => exact ⟨k + 1, by omega, by go_num, Hs.out, hB2⟩
        case measure => simp [intOf]; omega
      · have Hs : Hid (NextIs b.bs gone (k : Int)) := .inr ⟨k, rfl, hp, HI.out.2 ⟨hm, pB_iff.1 hcn⟩, Hal.out⟩
        clear HI
        go_wp2_with fail
        go_ret
        exact ⟨⟨_, rfl, Hs.out⟩, up_trans hB0 hB2⟩
    · have Hs : Hid (NextIs b.bs gone (-1)) := .inl ⟨rfl, fun j hj => Hal.out j (by omega)⟩
      go_wp2_with fail
      go_ret
      exact ⟨⟨_, rfl, Hs.out⟩, up_trans hB0 hB⟩

def lenV : Value → Nat
  | .slice _ n _ => n
  | _ => 0

set_option maxHeartbeats 2000000 in
theorem specOrder_any (b : Bk) (v : Value) (w : World) (h : BkV w v b) :
    Calls Tryz.prog 42 #[v] w fun e w' => (∃ u ss ok, e = .returned (.tuple #[u, .bool ok]) ∧ OrderIs b ss ok ∧ OwnT w' w.heap.size u ss ∧ ∀ s ∈ ss, s.size ≤ maxLen) ∧ Below w.heap.size w w' := by
  obtain ⟨a1, c1, a2, c2, rfl, h1, h2⟩ := h.parts
  obtain ⟨W1, hW1, kA, hB1, hs1⟩ : ∃ W1, w.alloc (.cells #[.slice a1 (b).things.length c1, .slice a2 (b).bs.length c2] 34) = W1 ∧ CB W1 w.heap.size [.slice a1 b.things.length c1, .slice a2 b.bs.length c2] ∧ Below w.heap.size w W1 ∧ W1.heap.size = w.heap.size + 1 := ⟨_, rfl, cb1 w _ _⟩
  have hz1 := hB1.size
  clear hs1
  obtain ⟨ii, hi, iz0, iz1, iz2⟩ := info_parts infoStr
  go_enter Tryz.func42, Tryz.ntmps42
  go_upto_region 1 with fail
  try rw [hW1]
  clear hW1
  have hk := h.up hB1
  have l2 := h2.up hB1
  obtain ⟨e0, e1⟩ := kA.c2'
  have hlt := kA.2.2
  obtain ⟨-, hpos⟩ := l2.at
  clear h h1 h2
  have ho2 := ownT_lit0 W1
  have hb2 := (Below.refl W1.heap.size W1).alloc (Nat.le_refl _) (.cells #[] 9)
  go_upto_region 2 with fail
  generalize W1.alloc (.cells #[] 9) = W2 at *
  have f0 := (hb2.cell (p := ⟨w.heap.size, 0, none⟩) hlt).trans e0
  have f1 := (hb2.cell (p := ⟨w.heap.size, 1, none⟩) hlt).trans e1
  go_wp2_with fail
  refine (specBook_any b _ _ (hk.up hb2)).mono ?_
  rintro e w3 ⟨rfl, hb3⟩
  have hB3 := up_trans hb2 hb3
  have ho3 := ho2.up hb3
  clear f0 f1 hb3 ho2 hb2
  cases hq : bookB b
  · have Hq : Hid (OrderIs b [] false) := .inr ⟨rfl, rfl, .inl (pB_not.1 hq)⟩
    go_wp2_with fail
    go_returns
    exact ⟨⟨_, [], false, rfl, Hq.out, own_low ho3 (by omega), fun s hs => by simp at hs⟩, up_trans hB1 hB3⟩
  have Hok : Hid (BookOk b) := pB_iff.1 hq
  have h5 : b.bs.length ≤ 5 := Hok.out.2.1
  clear hq
  go_wp2_with fail
  go_loopw [4, 5] (fun u _ w' => ∃ (n : Nat) (gone : List ByteArray), n ≤ b.bs.length ∧ Goes b.bs n gone ∧ OwnT w' W1.heap.size u gone ∧ (∀ s ∈ gone, s.size ≤ maxLen) ∧ Below W1.heap.size W1 w') (fun u _ _ => b.bs.length - lenV u)
  case atStart => exact ⟨0, [], by omega, .none, ho3, fun s hs => by simp at hs, hB3⟩
  case round =>
    clear hB3 ho3
    obtain ⟨n, gone, hnl, hgo, hown, hsz, hB⟩ := hrel
    have Hgo : Hid (Goes b.bs n gone) := hgo
    have Hlen : Hid (gone.length = n) := hgo.length
    have lgo := hown.lst.ls hsz
    obtain ⟨ag, cg, rfl⟩ := hown.lst.shape
    have Hsz : Hid (∀ s ∈ gone, s.size ≤ maxLen) := hsz
    clear hgo hsz
    have hgl : gone.length ≤ b.bs.length := by rw [Hlen.out]; exact hnl
    have f0 := (hB.cell (p := ⟨w.heap.size, 0, none⟩) hlt).trans e0
    have f1 := (hB.cell (p := ⟨w.heap.size, 1, none⟩) hlt).trans e1
    by_cases hp : gone.length < b.bs.length
    · go_wp2_with fail
      refine (next12_any b _ _ gone _ (hk.up hB) lgo).mono ?_
      rintro e w4 ⟨⟨nx, rfl, hnx⟩, hb4⟩
      have hB4 := up_trans hB hb4
      have hown4 := hown.up hb4
      have Hnx : Hid (NextIs b.bs gone nx) := hnx
      clear f0 f1 hB hb4 hown lgo
      rcases hnx with ⟨rfl, -⟩ | ⟨k, rfl, hkl, -, -⟩
      · have Hs : Hid (OrderIs b [] false) := .inr ⟨rfl, rfl, .inr ⟨n, gone, by have := Hlen.out; omega, Hgo.out, Hnx.out⟩⟩
        have ho5 := ownT_lit0 w4
        have hb5 := (Below.refl w4.heap.size w4).alloc (Nat.le_refl _) (.cells #[] 9)
        have hz4 := hB4.size
        go_wp2_with fail
        go_returns
        exact ⟨⟨_, [], false, rfl, Hs.out, own_low ho5 (by omega), fun s hs => by simp at hs⟩, up_trans hB1 (up_trans hB4 hb5)⟩
      · obtain ⟨bb, o, rfl, hS, hb⟩ := hpos (by omega)
        have f1 := (hB4.cell (p := ⟨w.heap.size, 1, none⟩) hlt).trans e1
        obtain ⟨a3, d3, a4, d4, c3, -, -, -, -, z0⟩ := ((hS.at hkl).up hB4 hb).cells
        have Hs : Hid (Goes b.bs (n + 1) (gone ++ [(b.bs[k]).nm])) := .more Hgo.out Hnx.out (List.getElem?_eq_getElem hkl)
        generalize b.bs[k] = x0 at *
        have hnb : decide ((k : Int) < 0) = false := by simp
        have hownA := own_up hown4 ((Below.refl w4.heap.size w4).alloc (Nat.le_refl _) (.cells #[.string x0.nm] 9))
        have hBA := hB4.alloc hB4.size (.cells #[.string x0.nm] 9)
        clear hS
        go_wp2_with (at_builtin; refine wpList_append_own _ rfl _ _ 22 rfl W1.heap.size 9 ii _ 1 16 Tryz.underlying22 hi iz0 iz1 iz2 rfl (by decide) _ _ _ rfl hownA ⟨w4.heap.size, 0, none⟩ 1 1 [.string x0.nm] rfl rfl (one_new _ _ _) (oneV _) (by unfold maxLen; omega) (by omega) hBA.size ?_)
        intro v1 w5 hown5 hgr5 _
        have hB5 := below_own hBA hownA hgr5 (Nat.le_refl _)
        have ho5 : OwnT w5 W1.heap.size v1 (gone ++ [x0.nm]) := by unfold OwnT; rw [List.length_append, List.map_append]; exact hown5
        have hl5 : ∃ a c, v1 = .slice a (gone.length + 1) c := by
          have := ho5.lst.shape
          simpa using this
        obtain ⟨a5, c5, rfl⟩ := hl5
        clear hownA hBA hown5 hgr5 hown4 hB4 f1 c3
        go_wp2_with fail
        go_roundw
        case rel =>
          refine ⟨n + 1, _, by have := Hlen.out; omega, Hs.out, ho5, fun s hs => ?_, hB5⟩
          rcases List.mem_append.1 hs with h | h
          · exact Hsz.out s h
          · obtain rfl : s = x0.nm := by simpa using h
            exact z0
        case measure => simp [lenV]; omega
    · have Hs : Hid (OrderIs b gone true) := .inl ⟨rfl, Hok.out, by
        have e : b.bs.length = n := by have := Hlen.out; omega
        rw [e]; exact Hgo.out⟩
      go_wp2_with fail
      go_returns
      exact ⟨⟨_, gone, true, rfl, Hs.out, own_low hown (by omega), Hsz.out⟩, up_trans hB1 hB⟩
end Go.Proofs.YtlkpgiifdclijaaGreatDoor

/- Safe by the specification. -/
namespace Go.Proofs.YtlkpgiifdclijaaGreatDoor
open Go.RowKit

set_option maxHeartbeats 1000000 in
theorem specSafe_any (b : Bk) (v : Value) (w : World) (h : BkV w v b) :
    Calls Tryz.prog 16 #[v] w fun e w' => (∃ ss ok, e = .returned (.bool ok) ∧ OrderIs b ss ok) ∧ Below w.heap.size w w' := by
  obtain ⟨a1, c1, a2, c2, rfl, -, -⟩ := h.parts
  have hC : CB (w.alloc (.cells #[.slice a1 (b).things.length c1, .slice a2 (b).bs.length c2] 34)) w.heap.size [.slice a1 b.things.length c1, .slice a2 b.bs.length c2] := cb_alloc w _ _
  have hB0 := (Below.refl w.heap.size w).alloc (Nat.le_refl _) (.cells #[.slice a1 (b).things.length c1, .slice a2 (b).bs.length c2] 34)
  go_enter Tryz.func16, Tryz.ntmps16
  go_upto_region 1 with fail
  generalize w.alloc (.cells #[.slice a1 (b).things.length c1, .slice a2 (b).bs.length c2] 34) = W1 at *
  have hk := h.up hB0
  obtain ⟨e0, e1⟩ := hC.c2'
  go_wp2_with fail
  refine (specOrder_any b _ _ hk).mono ?_
  rintro e w2 ⟨⟨u, ss, ok, rfl, hord, -, -⟩, hb2⟩
  clear e0 e1
  go_wp2_with fail
  go_ret
  exact ⟨⟨ss, ok, rfl, hord⟩, up_trans hB0 hb2⟩
end Go.Proofs.YtlkpgiifdclijaaGreatDoor
