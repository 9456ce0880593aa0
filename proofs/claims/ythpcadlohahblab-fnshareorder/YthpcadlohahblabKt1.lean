/- The specification's walks of chapter 13: copies, what is taken, safe or not. -/
import Derived.Test.YthpcadlohahblabKs6
import Derived.Laws.OwnMore
namespace Go.Proofs.Ythpcadlohahblab
open Go.RowKit

theorem run_append_zero {P : Program} {w : World} (base : Nat) (t ty e : TypeId) (i : TypeInfo) (size : Nat) (ht : P.underlying t = some (.slice e)) (hi : P.info? e = some i)
    (v : Value) (n : Nat) (xs : List Value) (hown : w.ownsRow base e size v n xs) (a : Option Addr) (c : Nat) : (Builtin.append_ #[t, t] ty #[v, .slice a 0 c]).run P w = .ok v w := by
  rcases hown.2 with ⟨rfl, rfl⟩ | ⟨g, cap, cur, rfl, _, _, hnc, _⟩
  · cases a <;> simp [Builtin.append_, run_underlying ht, sizeOf, typeInfo, hi, Builtin.lenOf, Builtin.firstCells, loadCells, loadCellsFrom, Result.andThen]
  · cases a <;> simp [Builtin.append_, run_underlying ht, sizeOf, typeInfo, hi, Builtin.lenOf, Builtin.firstCells, hnc, storeCells, loadCells, loadCellsFrom, Result.andThen]
theorem wpList_append_zero {P : Program} (w : World) {ops : Array Oper} {rest : List Oper} {o : Oper} {ac : Act} {Q : Exit → Act → World → Prop} (hg : o.guard = none) (s x : Operand) (t : TypeId) (hop : o.op = .call { callee := .builtin .append, args := #[s, x], argTypes := #[t, t] })
    (base : Nat) (e : TypeId) (i : TypeInfo) (size : Nat) (ht : P.underlying t = some (.slice e)) (hi : P.info? e = some i) (v : Value) (n : Nat) (xs : List Value) (hs : ac.eval s = v) (hown : w.ownsRow base e size v n xs) (a : Option Addr) (c : Nat) (hx : ac.eval x = .slice a 0 c)
    (h : wpList P ops Q rest (ac.put o.dst v) w) : wpList P ops Q (o :: rest) ac w := by
  refine wpList_plain hg fun K hK => ?_
  have hr := run_append_zero (P := P) base t o.type e i size ht hi v n xs hown a c
  unfold Oper.wp
  simp [execOp, hop, resolve, invoke, builtin, hs, hx, hr, Result.andThen]
  exact hK _ _ h
/-- A slice that is not nil. -/
def NN (u : Value) : Prop := ∃ g n c, u = .slice (some ⟨g, 0, none⟩) n c
set_option maxHeartbeats 1000000 in
theorem names11_any (ss : List ByteArray) (v : Value) (w : World) (h : Ls w v ss) (hn : ss.length ≤ 1048576) :
    Calls Try.prog 66 #[v] w fun e w' => (∃ u, e = .returned u ∧ OwnT w' w.heap.size u ss ∧ NN u) ∧ Below w.heap.size w w' := by
  obtain ⟨a, c, rfl, -, -, hpos⟩ := h
  obtain ⟨ii, hi, iz0, iz1, iz2⟩ := info_parts infoStr
  have ho := ownT_lit0 w
  have hb := (Below.refl w.heap.size w).alloc (Nat.le_refl _) (.cells #[] 9)
  rcases Nat.eq_zero_or_pos ss.length with h0 | h0
  · obtain rfl := List.length_eq_zero_iff.1 h0
    simp only [List.length_nil]
    go_enter Try.func66, Try.ntmps66
    go_wp2_with (at_builtin; refine wpList_append_zero _ rfl _ _ 23 rfl w.heap.size 9 ii 1 Try.underlying23 hi _ 0 [] rfl ho a c rfl ?_)
    go_ret
    exact ⟨⟨_, rfl, ho, _, _, _, rfl⟩, hb⟩
  · obtain ⟨g, o, rfl, hS, hg⟩ := hpos h0
    have hn1 := news_of (hS.alloc (.cells #[] 9))
    go_enter Try.func66, Try.ntmps66
    go_wp2_with (at_builtin; refine wpList_append_own _ rfl _ _ 23 rfl w.heap.size 9 ii _ 1 16 Try.underlying23 hi iz0 iz1 iz2 rfl (by decide) _ 0 [] rfl ho ⟨g, o, none⟩ ss.length c (ss.map Value.string) rfl (by simp) hn1 (oneS ss) (by unfold maxLen; omega) (by omega) hb.size ?_)
    intro v1 w1 hown1 hgr1 _
    have hB1 := below_own hb ho hgr1 (Nat.le_refl _)
    have ho1 : OwnT w1 w.heap.size v1 ss := by unfold OwnT; simpa using hown1
    obtain ⟨g1, k1, rfl⟩ := own_ptr2 ho1 h0
    clear hown1 hgr1 ho hb hn1
    go_wp2_with fail
    go_ret
    exact ⟨⟨_, rfl, ho1, _, _, _, rfl⟩, hB1⟩

/-- Somebody else has one of some things. -/
def takenTo (bs : List Ba) (at' : Int) (things : List ByteArray) (k : Nat) : Prop := ∀ (i : Nat) (x : Ba), i < k → (i : Int) ≠ at' → bs[i]? = some x → shareB x.has things = false
def Taken (bs : List Ba) (at' : Int) (things : List ByteArray) : Prop := ∃ (i : Nat) (x : Ba), (i : Int) ≠ at' ∧ bs[i]? = some x ∧ shareB x.has things = true
theorem takenTo.step {bs : List Ba} {a : Int} {things : List ByteArray} {k : Nat} (h : takenTo bs a things k) (hk : k < bs.length) (h1 : (k : Int) = a ∨ shareB (bs[k]).has things = false) : takenTo bs a things (k + 1) := fun i x hi hne hx => by
  by_cases e : i = k
  · subst e
    rw [List.getElem?_eq_getElem hk] at hx
    obtain rfl := Option.some.inj hx
    exact h1.resolve_left hne
  · exact h i x (by omega) hne hx
theorem taken_no {bs : List Ba} {a : Int} {things : List ByteArray} {k : Nat} (h : takenTo bs a things k) (hk : ¬ k < bs.length) : ¬ Taken bs a things := fun ⟨i, x, hne, hx, hs⟩ => by
  rw [h i x (by have := (List.getElem?_eq_some_iff.1 hx).1; omega) hne hx] at hs; cases hs

set_option maxHeartbeats 2000000 in
theorem taken13_any (b : Bk) (v tv : Value) (at' : Int) (things : List ByteArray) (w : World) (h : BkV w v b) (ht : Ls w tv things) :
    Calls Try.prog 69 #[v, .int .i64 at', tv] w fun e w' => e = .returned (.bool (pB (Taken b.bs at' things))) ∧ Below w.heap.size w w' := by
  obtain ⟨a1, c1, a2, c2, rfl, h1, h2⟩ := h.parts
  obtain ⟨at1, ct1, rfl, -⟩ := id ht
  have hC : CB (w.alloc (.cells #[.slice a1 (b).things.length c1, .slice a2 (b).bs.length c2] 26)) w.heap.size [.slice a1 b.things.length c1, .slice a2 b.bs.length c2] := cb_alloc w _ _
  have hB0 := (Below.refl w.heap.size w).alloc (Nat.le_refl _) (.cells #[.slice a1 (b).things.length c1, .slice a2 (b).bs.length c2] 26)
  have g2 := h2.at.1
  unfold maxLen at g2
  go_enter Try.func69, Try.ntmps69
  go_upto_region 1 with fail
  generalize w.alloc (.cells #[.slice a1 (b).things.length c1, .slice a2 (b).bs.length c2] 26) = W1 at *
  have l2 := h2.up hB0
  have lt := ht.up hB0
  clear h h1 h2 ht
  obtain ⟨e0, e1⟩ := hC.c2'
  obtain ⟨-, hpos⟩ := l2.at
  go_wp2_with fail
  go_loop [7] (fun i => ∃ k : Nat, k ≤ b.bs.length ∧ i = .int .i64 k ∧ takenTo b.bs at' things k) (fun i => b.bs.length - (intOf i).toNat)
  case atStart => exact ⟨0, by omega, rfl, fun i _ hi => by omega⟩
  case round =>
    obtain ⟨k, hk, rfl, hal⟩ := hrel
    have Hal : Hid (takenTo b.bs at' things k) := hal
    clear hal
    by_cases hp : k < b.bs.length
    · obtain ⟨bb, o, rfl, hS, hb⟩ := hpos (by omega)
      by_cases hka : (k : Int) = at'
      · have hkb : ((k : Int) != at') = false := by rw [bne_eq_false_iff_eq]; exact hka
        have Hs : Hid (takenTo b.bs at' things (k + 1)) := Hal.out.step hp (.inl hka)
        clear hka
        go_wp2_with fail
        go_round
        case rel => exact ⟨k + 1, by omega, by go_num, Hs.out⟩
        case measure => simp [intOf]; omega
      have hkb : ((k : Int) != at') = true := by rw [bne_iff_ne]; exact hka
      obtain ⟨a3, d3, a4, d4, -, c4, -, l3, -, -⟩ := (hS.at hp).cells
      have HY : Hid (shareB (b.bs[k]).has things = false → takenTo b.bs at' things (k + 1)) := fun h => Hal.out.step hp (.inr h)
      have HN : Hid (shareB (b.bs[k]).has things = true → Taken b.bs at' things) := fun h => ⟨k, _, hka, List.getElem?_eq_getElem hp, h⟩
      clear hka
      generalize b.bs[k] = x0 at *
      go_wp2_with fail
      refine (share11_any x0.has things _ _ _ l3 lt).mono ?_
      rintro e w' ⟨rfl, hw⟩
      obtain rfl := hw.symm
      clear hw
      cases hs : shareB x0.has things
      · have Hs : Hid (takenTo b.bs at' things (k + 1)) := HY.out hs
        clear HY HN
        go_wp2_with fail
        go_round
        case rel => exact ⟨k + 1, by omega, by go_num, Hs.out⟩
        case measure => simp [intOf]; omega
      · have Hs : Hid (Taken b.bs at' things) := HN.out hs
        clear HY HN
        go_wp2_with fail
        go_ret
        exact ⟨ret_bool (pB_yes Hs.out).symm, hB0⟩
    · have Hs : Hid (¬ Taken b.bs at' things) := taken_no Hal.out hp
      go_wp2_with fail
      go_ret
      exact ⟨ret_bool (pB_no Hs.out).symm, hB0⟩

set_option maxHeartbeats 1000000 in
theorem specSafe_any (b : Bk) (v : Value) (w : World) (h : BkV w v b) :
    Calls Try.prog 71 #[v] w fun e w' => (∃ ss ok, e = .returned (.bool ok) ∧ OrderIs b ss ok) ∧ Below w.heap.size w w' := by
  obtain ⟨a1, c1, a2, c2, rfl, -, -⟩ := h.parts
  have hC : CB (w.alloc (.cells #[.slice a1 (b).things.length c1, .slice a2 (b).bs.length c2] 26)) w.heap.size [.slice a1 b.things.length c1, .slice a2 b.bs.length c2] := cb_alloc w _ _
  have hB0 := (Below.refl w.heap.size w).alloc (Nat.le_refl _) (.cells #[.slice a1 (b).things.length c1, .slice a2 (b).bs.length c2] 26)
  go_enter Try.func71, Try.ntmps71
  go_upto_region 1 with fail
  generalize w.alloc (.cells #[.slice a1 (b).things.length c1, .slice a2 (b).bs.length c2] 26) = W1 at *
  have hk := h.up hB0
  obtain ⟨e0, e1⟩ := hC.c2'
  go_wp2_with fail
  refine (specOrder_any b _ _ hk).mono ?_
  rintro e w2 ⟨⟨u, ss, ok, rfl, hord, -, -⟩, hb2⟩
  clear e0 e1
  go_wp2_with fail
  go_ret
  exact ⟨⟨ss, ok, rfl, hord⟩, up_trans hB0 hb2⟩
end Go.Proofs.Ythpcadlohahblab
