/- The program's chapter 13: copies. -/
import Derived.Test.YtkgbdjdgcacblaaGreatDoorJ1
import Derived.Test.YtkgbdjdgcacblaaGreatDoorKf
import Derived.Test.YtkgbdjdgcacblaaGreatDoorJ2
namespace Go.Proofs.YtkgbdjdgcacblaaGreatDoor
open Go.RowKit

theorem append_named {P : Program} {w : World} {t u ty e e' : TypeId} (ht : P.underlying t = some (.slice e)) (hu : P.underlying u = some (.slice e')) (v x : Value) :
    (Builtin.append_ #[t, u] ty #[v, x]).run P w = (Builtin.append_ #[t, t] ty #[v, x]).run P w := by
  unfold Builtin.append_
  simp only [List.getElem?_toArray, List.getElem?_cons_zero, List.getElem?_cons_succ, Sem.run_bind, run_underlying ht, Result.andThen_ok]
  cases v with
  | slice a n c => simp only [Sem.run_bind, run_underlying ht, run_underlying hu, Result.andThen_ok, Sem.run_pure]
  | _ => rfl
theorem wpList_append_run {P : Program} (w : World) {ops : Array Oper} {rest : List Oper} {o : Oper} {ac : Act} {Q : Exit → Act → World → Prop} (hg : o.guard = none) (s x : Operand) (t u : TypeId) (hop : o.op = .call { callee := .builtin .append, args := #[s, x], argTypes := #[t, u] })
    (v xv v' : Value) (w' : World) (hs : ac.eval s = v) (hx : ac.eval x = xv) (hr : (Builtin.append_ #[t, u] o.type #[v, xv]).run P w = .ok v' w') (h : wpList P ops Q rest (ac.put o.dst v') w') : wpList P ops Q (o :: rest) ac w := by
  refine wpList_plain hg fun K hK => ?_
  unfold Oper.wp
  simp [execOp, hop, resolve, invoke, builtin, hs, hx, hr, Result.andThen]
  exact hK _ _ h
set_option maxRecDepth 20000 in
/-- A list copied behind none. -/
theorem copied_any (ss : List ByteArray) (v : Value) (w : World) (h : Ls w v ss) (hn : ss.length ≤ 1048576) :
    Calls Tryz.prog 59 #[v] w fun e w' => (∃ u, e = .returned u ∧ OwnT w' w.heap.size u ss) ∧ Below w.heap.size w w' := by
  obtain ⟨a, c, rfl, -, -, hpos⟩ := h
  obtain ⟨ii, hi, iz0, iz1, iz2⟩ := info_parts infoStr
  have ho : OwnT w w.heap.size (.slice none 0 0) [] := World.ownsRow_nil _ _ _ _
  rcases Nat.eq_zero_or_pos ss.length with h0 | h0
  · obtain rfl := List.length_eq_zero_iff.1 h0
    simp only [List.length_nil]
    have hr := (append_named (w := w) (ty := 23) Tryz.underlying23 Tryz.underlying38 (.slice none 0 0) (.slice a 0 c)).trans (run_append_zero w.heap.size 23 23 9 ii 1 Tryz.underlying23 hi _ 0 [] ho a c)
    clear hpos hn h0
    go_enter Tryz.func59, Tryz.ntmps59
    go_wp2_with (at_builtin; refine wpList_append_run _ rfl _ _ _ _ rfl _ _ _ _ rfl rfl hr ?_)
    go_ret
    exact ⟨⟨_, rfl, ho⟩, Below.refl _ _⟩
  · obtain ⟨g, o, rfl, hS, hg⟩ := hpos h0
    obtain ⟨v1, w1, hr, hown1, hgr1, -⟩ := run_append_own (P := Tryz.prog) w w.heap.size 23 23 9 ii _ 1 16 Tryz.underlying23 hi iz0 iz1 iz2 rfl (by decide) (.slice none 0 0) 0 [] ho ⟨g, o, none⟩ ss.length c (ss.map Value.string) (by simp) (news_of hS) (oneS ss) (by unfold maxLen; omega) (by omega) (Nat.le_refl _)
    have hr2 := (append_named (w := w) (ty := 23) Tryz.underlying23 Tryz.underlying38 (.slice none 0 0) (.slice (some ⟨g, o, none⟩) ss.length c)).trans hr
    have hB1 := below_own (Below.refl _ _) ho hgr1 (Nat.le_refl _)
    have ho1 : OwnT w1 w.heap.size v1 ss := by unfold OwnT; simpa using hown1
    clear hown1 hgr1 hr hpos
    go_enter Tryz.func59, Tryz.ntmps59
    go_wp2_with (at_builtin; refine wpList_append_run _ rfl _ _ _ _ rfl _ _ _ _ rfl rfl hr2 ?_)
    go_ret
    exact ⟨⟨_, rfl, ho1⟩, hB1⟩
end Go.Proofs.YtkgbdjdgcacblaaGreatDoor

/- Books in plain: bits of things; who can have all it needs, orders that fit. -/
namespace Go.Proofs.YtkgbdjdgcacblaaGreatDoor

/-- The sum of the bits of those things that are picked. -/
def bitsN : List ByteArray → (ByteArray → Bool) → Nat
  | [], _ => 0
  | t :: r, P => (if P t = true then 1 else 0) + 2 * bitsN r P
theorem bitsN_snoc (P : ByteArray → Bool) (t : ByteArray) : ∀ l : List ByteArray, bitsN (l ++ [t]) P = bitsN l P + (if P t = true then 2 ^ l.length else 0)
  | [] => by simp [bitsN]
  | x :: r => by
    rw [List.cons_append, bitsN, bitsN, bitsN_snoc P t r, List.length_cons, Nat.pow_succ]
    split <;> split <;> omega
theorem bitsN_lt (P : ByteArray → Bool) : ∀ l : List ByteArray, bitsN l P < 2 ^ l.length
  | [] => by simp [bitsN]
  | x :: r => by
    have := bitsN_lt P r
    rw [bitsN, List.length_cons, Nat.pow_succ]
    split <;> omega
theorem bitsN_small {l : List ByteArray} (h : l.length ≤ 8) (P : ByteArray → Bool) : bitsN l P < 256 :=
  Nat.lt_of_lt_of_le (bitsN_lt P l) (Nat.pow_le_pow_right (by omega) h)
theorem bitsN_congr {P Q : ByteArray → Bool} : ∀ {l : List ByteArray}, (∀ t ∈ l, P t = Q t) → bitsN l P = bitsN l Q
  | [], _ => rfl
  | x :: r, h => by rw [bitsN, bitsN, h x (by simp), bitsN_congr fun t ht => h t (by simp [ht])]
theorem bitsN_add {P Q : ByteArray → Bool} : ∀ {l : List ByteArray}, (∀ t ∈ l, P t = true → Q t = false) → bitsN l P + bitsN l Q = bitsN l fun t => P t || Q t
  | [], _ => rfl
  | x :: r, h => by
    have h1 := bitsN_add (P := P) (Q := Q) (l := r) fun t ht => h t (by simp [ht])
    have h2 := h x (by simp)
    rw [bitsN, bitsN, bitsN, ← h1]
    cases hp : P x <;> cases hq : Q x <;> simp_all <;> omega
theorem bitsN_sub {P Q : ByteArray → Bool} {l : List ByteArray} (h : ∀ t ∈ l, Q t = true → P t = true) : bitsN l P = bitsN l Q + bitsN l fun t => P t && !Q t := by
  rw [bitsN_add (fun t _ hq => by simp [hq])]
  refine bitsN_congr fun t ht => ?_
  cases hq : Q t
  · simp
  · simp [h t ht hq]
theorem bitsN_test (P : ByteArray → Bool) : ∀ (l : List ByteArray) (i : Nat), (bitsN l P).testBit i = (l[i]?.map P).getD false
  | [], i => by simp [bitsN]
  | x :: r, 0 => by
    rw [bitsN, Nat.testBit_zero]
    have e : ((if P x = true then 1 else 0) + 2 * bitsN r P) % 2 = (if P x = true then 1 else 0) := by split <;> omega
    rw [e]
    cases h : P x <;> simp [h]
  | x :: r, i + 1 => by
    rw [bitsN, Nat.testBit_succ, List.getElem?_cons_succ, ← bitsN_test P r i]
    congr 1
    split <;> omega
/-- Nothing that is needed lacks. -/
theorem bitsN_not {P Q : ByteArray → Bool} {l : List ByteArray} (hl : l.length ≤ 8) : (bitsN l P &&& (18446744073709551615 - bitsN l Q) = 0) ↔ ∀ t ∈ l, P t = true → Q t = true := by
  have hQ := bitsN_small hl Q
  have e : 18446744073709551615 - bitsN l Q = 2 ^ 64 - (bitsN l Q + 1) := by omega
  constructor
  · intro h t ht hp
    obtain ⟨i, hi, rfl⟩ := List.getElem_of_mem ht
    have h1 := congrArg (Nat.testBit · i) h
    simp only [Nat.testBit_and, Nat.zero_testBit] at h1
    rw [e, Nat.testBit_two_pow_sub_succ (by omega), bitsN_test, bitsN_test, List.getElem?_eq_getElem hi] at h1
    simp [hp] at h1
    exact h1 (by omega)
  · intro h
    refine Nat.eq_of_testBit_eq fun i => ?_
    rw [Nat.testBit_and, Nat.zero_testBit, e, Nat.testBit_two_pow_sub_succ (by omega), bitsN_test, bitsN_test]
    rcases Nat.lt_or_ge i l.length with hi | hi
    · rw [List.getElem?_eq_getElem hi]
      have := h l[i] (List.getElem_mem hi)
      cases hp : P l[i] <;> simp_all
    · rw [List.getElem?_eq_none hi]; simp

/-- Of the batches that are not gone, up to place k, none but the one at place 'at' has anything of its needs. -/
def CanTo (bs : List Ba) (at' : Nat) (gone : List ByteArray) (k : Nat) : Prop := ∀ (i : Nat) (x y : Ba), i < k → i ≠ at' → bs[i]? = some x → bs[at']? = some y → memS gone x.nm = false → shareB x.has y.needs = false
def Can (bs : List Ba) (at' : Nat) (gone : List ByteArray) : Prop := CanTo bs at' gone bs.length
theorem CanTo.zero (bs : List Ba) (a : Nat) (gone : List ByteArray) : CanTo bs a gone 0 := fun i _ _ h => by omega
theorem can_end {bs : List Ba} {a : Nat} {gone : List ByteArray} {k : Nat} (h : CanTo bs a gone k) (hk : ¬ k < bs.length) : Can bs a gone := fun i x y hi hne hx hy hm => h i x y (by omega) hne hx hy hm
theorem CanTo.step {bs : List Ba} {a : Nat} {gone : List ByteArray} {k : Nat} (h : CanTo bs a gone k) (hk : k < bs.length) (ha : a < bs.length) (h1 : k = a ∨ memS gone (bs[k]).nm = true ∨ shareB (bs[k]).has (bs[a]).needs = false) : CanTo bs a gone (k + 1) := fun i x y hi hne hx hy hm => by
  by_cases e : i = k
  · subst e
    rw [List.getElem?_eq_getElem hk] at hx
    rw [List.getElem?_eq_getElem ha] at hy
    obtain rfl := Option.some.inj hx
    obtain rfl := Option.some.inj hy
    rcases h1 with h1 | h1 | h1
    · exact absurd h1 hne
    · rw [hm] at h1; cases h1
    · exact h1
  · exact h i x y (by omega) hne hx hy hm
theorem can_no {bs : List Ba} {a : Nat} {gone : List ByteArray} {k : Nat} (hk : k < bs.length) (ha : a < bs.length) (hne : k ≠ a) (hm : memS gone (bs[k]).nm = false) (hs : shareB (bs[k]).has (bs[a]).needs = true) : ¬ Can bs a gone := fun h => by
  have := h k _ _ hk hne (List.getElem?_eq_getElem hk) (List.getElem?_eq_getElem ha) hm
  rw [hs] at this; cases this
/-- A thing that nobody has who is not gone. -/
def freeB (bs : List Ba) (G : Nat → Bool) (k : Nat) (t : ByteArray) : Bool := (List.range k).all fun i => G i || !((bs[i]?.map fun x => memS x.has t).getD false)
theorem freeB_iff (bs : List Ba) (G : Nat → Bool) (k : Nat) (t : ByteArray) : freeB bs G k t = true ↔ ∀ (i : Nat) (x : Ba), i < k → bs[i]? = some x → G i = false → memS x.has t = false := by
  simp only [freeB, List.all_eq_true, List.mem_range]
  constructor
  · intro h i x hi hx hg
    have := h i hi
    rw [hx, hg] at this
    simpa using this
  · intro h i hi
    cases hg : G i
    · cases hx : bs[i]? with
      | none => simp
      | some x => simp [h i x hi hx hg]
    · rfl
theorem freeB_succ (bs : List Ba) (G : Nat → Bool) (k : Nat) (t : ByteArray) : freeB bs G (k + 1) t = (freeB bs G k t && (G k || !((bs[k]?.map fun x => memS x.has t).getD false))) := by
  simp [freeB, List.range_succ]
/-- Who can have all it needs, by bits. -/
theorem can_bits {b : Bk} (hok : BookOk b) {a : Nat} (ha : a < b.bs.length) {gone : List ByteArray} {G : Nat → Bool} (hG : ∀ (i : Nat) (hi : i < b.bs.length), G i = memS gone (b.bs[i]).nm) (hga : G a = false) :
    (∀ t ∈ b.things, memS (b.bs[a]).needs t = true → (freeB b.bs G b.bs.length t || memS (b.bs[a]).has t) = true) ↔ Can b.bs a gone := by
  have hb := hok.2.2.2.2.1.at ha ha
  constructor
  · intro h i x y hi hne hx hy hm
    rw [List.getElem?_eq_getElem hi] at hx
    rw [List.getElem?_eq_getElem ha] at hy
    obtain rfl := Option.some.inj hx
    obtain rfl := Option.some.inj hy
    rw [shareB_no]
    intro s h1 h2
    have h3 := h s (part_mem hb.1.1 h2) ((memS_iff _ _).2 h2)
    rcases Bool.or_eq_true_iff.1 h3 with h4 | h4
    · have := (freeB_iff _ _ _ _).1 h4 i _ hi (List.getElem?_eq_getElem hi) (by rw [hG i hi]; exact hm)
      rw [memS_no] at this
      exact this h1
    · have h5 := (memS_iff _ _).1 h4
      rcases Nat.lt_or_gt_of_ne hne with h6 | h6
      · have := hok.2.2.2.2.2.at ha h6
        rw [shareB_no] at this
        exact this s h5 h1
      · have := hok.2.2.2.2.2.at hi h6
        rw [shareB_no] at this
        exact this s h1 h5
  · intro h t ht hn
    cases hh : memS (b.bs[a]).has t
    · rw [Bool.or_false, freeB_iff]
      intro i x hi hx hg
      rw [List.getElem?_eq_getElem hi] at hx
      obtain rfl := Option.some.inj hx
      by_cases e : i = a
      · subst e; exact hh
      · have := h i _ _ hi e (List.getElem?_eq_getElem hi) (List.getElem?_eq_getElem ha) (by rw [← hG i hi]; exact hg)
        rw [shareB_no] at this
        rw [memS_no]
        exact fun h1 => this t h1 ((memS_iff _ _).1 hn)
    · simp
/-- An order fits up to place k. -/
def FitsTo (bs : List Ba) (order : List ByteArray) (k : Nat) : Prop := ∀ (i : Nat) (s : ByteArray), i < k → order[i]? = some s → 0 ≤ idxI (nms bs) s ∧ memS (order.take i) s = false ∧ Can bs (idxI (nms bs) s).toNat (order.take i)
def Fits (b : Bk) (order : List ByteArray) : Prop := BookOk b ∧ order.length = b.bs.length ∧ FitsTo b.bs order order.length
theorem FitsTo.zero (bs : List Ba) (order : List ByteArray) : FitsTo bs order 0 := fun i _ h => by omega
theorem FitsTo.step {bs : List Ba} {order : List ByteArray} {k : Nat} (h : FitsTo bs order k) (hk : k < order.length) (h1 : 0 ≤ idxI (nms bs) order[k] ∧ memS (order.take k) order[k] = false ∧ Can bs (idxI (nms bs) order[k]).toNat (order.take k)) : FitsTo bs order (k + 1) := fun i s hi hs => by
  by_cases e : i = k
  · subst e
    rw [List.getElem?_eq_getElem hk] at hs
    obtain rfl := Option.some.inj hs
    exact h1
  · exact h i s (by omega) hs
theorem fits_at {b : Bk} {order : List ByteArray} (h : Fits b order) {k : Nat} (hk : k < order.length) : 0 ≤ idxI (nms b.bs) order[k] ∧ memS (order.take k) order[k] = false ∧ Can b.bs (idxI (nms b.bs) order[k]).toNat (order.take k) := h.2.2 k _ hk (List.getElem?_eq_getElem hk)
theorem fits_end {b : Bk} {order : List ByteArray} {k : Nat} (hok : BookOk b) (hl : order.length = b.bs.length) (h : FitsTo b.bs order k) (hk : ¬ k < order.length) : Fits b order := ⟨hok, hl, fun i s hi hs => h i s (by omega) hs⟩
theorem idxI_at {l : List ByteArray} {s : ByteArray} (h : 0 ≤ idxI l s) : ∃ k : Nat, idxI l s = (k : Int) ∧ ∃ hk : k < l.length, l[k] = s := by
  rw [idxI] at h ⊢
  split at h
  · rename_i hm
    rw [if_pos hm]
    refine ⟨_, rfl, ?_⟩
    have hl : l.findIdx (fun x => x.toList == s.toList) < l.length := by
      rw [List.findIdx_lt_length]
      rw [memS, List.any_eq_true] at hm
      exact hm
    refine ⟨hl, ?_⟩
    have := List.findIdx_getElem (w := hl)
    exact toL_eq (by simpa using this)
  · omega
end Go.Proofs.YtkgbdjdgcacblaaGreatDoor

/- The program's table in plain: rows, and what is free. -/
namespace Go.Proofs.YtkgbdjdgcacblaaGreatDoor

/-- A batch, and whether it is gone. -/
abbrev Tr := Ba × Bool
def rowC (things : List ByteArray) (p : Tr) : List Value := [.string p.1.nm, .int .u64 (bitsN things (memS p.1.has) : Nat), .int .u64 (bitsN things (memS p.1.needs) : Nat), .bool p.2]
def rowsL (things : List ByteArray) : List Tr → List Value
  | [] => []
  | p :: r => rowC things p ++ rowsL things r
theorem rowsL_length (things : List ByteArray) : ∀ ts : List Tr, (rowsL things ts).length = ts.length * 4
  | [] => rfl
  | p :: r => by rw [rowsL, List.length_append, rowsL_length things r, List.length_cons]; simp [rowC]; omega
theorem rowsL_snoc (things : List ByteArray) (p : Tr) : ∀ ts : List Tr, rowsL things (ts ++ [p]) = rowsL things ts ++ rowC things p
  | [] => by simp [rowsL]
  | q :: r => by rw [List.cons_append, rowsL, rowsL, rowsL_snoc things p r, List.append_assoc]
theorem rowsL_get (things : List ByteArray) : ∀ (ts : List Tr) (i j : Nat) (p : Tr), ts[i]? = some p → j < 4 → (rowsL things ts)[i * 4 + j]? = (rowC things p)[j]?
  | [], i, j, p, h, _ => by simp at h
  | q :: r, 0, j, p, h, hj => by
    simp at h; subst h
    rw [rowsL, List.getElem?_append_left (by simp [rowC]; omega)]; simp
  | q :: r, i + 1, j, p, h, hj => by
    rw [rowsL, List.getElem?_append_right (by simp [rowC]; omega)]
    have e : (i + 1) * 4 + j - (rowC things q).length = i * 4 + j := by simp [rowC]; omega
    rw [e]
    exact rowsL_get things r i j p (by simpa using h) hj
theorem rowsL_set (things : List ByteArray) : ∀ (ts : List Tr) (i : Nat) (p : Tr), ts[i]? = some p → (rowsL things ts).set (i * 4 + 3) (.bool true) = rowsL things (ts.set i (p.1, true))
  | [], i, p, h => by simp at h
  | q :: r, 0, p, h => by
    simp at h; subst h
    simp [rowsL, rowC]
  | q :: r, i + 1, p, h => by
    rw [rowsL, List.set_append_right _ _ (by simp [rowC]; omega)]
    have e : (i + 1) * 4 + 3 - (rowC things q).length = i * 4 + 3 := by simp [rowC]; omega
    rw [e, rowsL_set things r i p (by simpa using h)]
    simp [rowsL]
/-- A thing that nobody of the rows has who is not gone. -/
def freeL (ts : List Tr) (t : ByteArray) : Bool := ts.all fun p => p.2 || !memS p.1.has t
theorem freeL_iff (ts : List Tr) (t : ByteArray) : freeL ts t = true ↔ ∀ (i : Nat) (p : Tr), ts[i]? = some p → p.2 = false → memS p.1.has t = false := by
  simp only [freeL, List.all_eq_true, Bool.or_eq_true, Bool.not_eq_true']
  constructor
  · intro h i p hp h2
    rcases h p (List.mem_of_getElem? hp) with h3 | h3
    · rw [h2] at h3; cases h3
    · exact h3
  · intro h p hp
    obtain ⟨i, hi, rfl⟩ := List.getElem_of_mem hp
    cases h2 : ts[i].2
    · exact .inr (h i _ (List.getElem?_eq_getElem hi) h2)
    · exact .inl rfl
theorem freeL_eq {bs : List Ba} {ts : List Tr} (h : ts.map (·.1) = bs) (t : ByteArray) : freeL ts t = freeB bs (fun i => (ts[i]?.map (·.2)).getD false) bs.length t := by
  rw [Bool.eq_iff_iff, freeL_iff, freeB_iff]
  subst h
  constructor
  · intro h i x hi hx hg
    rw [List.getElem?_map, Option.map_eq_some_iff] at hx
    obtain ⟨p, hp, rfl⟩ := hx
    exact h i p hp (by rw [hp] at hg; simpa using hg)
  · intro h i p hp h2
    exact h i p.1 (by simpa using (List.getElem?_eq_some_iff.1 hp).1) (by rw [List.getElem?_map, hp]; rfl) (by rw [hp]; simpa using h2)
theorem freeL_snoc (ts : List Tr) (p : Tr) (t : ByteArray) : freeL (ts ++ [p]) t = (freeL ts t && (p.2 || !memS p.1.has t)) := by simp [freeL]
theorem map_at {bs : List Ba} {ts : List Tr} (h : ts.map (·.1) = bs) {i : Nat} {p : Tr} (hp : ts[i]? = some p) : bs[i]? = some p.1 := by subst h; rw [List.getElem?_map, hp]; rfl
/-- One more row. -/
theorem free_more {bs : List Ba} (ha : Apart bs) {ts : List Tr} {k : Nat} (hk : k < bs.length) (h : ts.map (·.1) = bs.take k) (things : List ByteArray) :
    bitsN things (freeL ts) = bitsN things (memS (bs[k]).has) + bitsN things (freeL (ts ++ [(bs[k], false)])) := by
  rw [bitsN_sub (P := freeL ts) (Q := memS (bs[k]).has)]
  · congr 1
    refine bitsN_congr fun t _ => ?_
    rw [freeL_snoc]; simp
  · intro t _ hm
    rw [freeL_iff]
    intro i p hp _
    have h1 := map_at h hp
    rw [List.getElem?_take] at h1
    split at h1
    · rename_i hi
      rw [List.getElem?_eq_getElem (by omega)] at h1
      obtain h1 := Option.some.inj h1
      have := ha.at hk hi
      rw [shareB_no] at this
      rw [memS_no, ← h1]
      exact this t ((memS_iff _ _).1 hm)
    · cases h1
/-- One goes. -/
theorem free_leave {bs : List Ba} (ha : Apart bs) {ts : List Tr} {i : Nat} {p : Tr} (h : ts.map (·.1) = bs) (hp : ts[i]? = some p) (hg : p.2 = false) (things : List ByteArray) :
    bitsN things (freeL ts) + bitsN things (memS p.1.has) = bitsN things (freeL (ts.set i (p.1, true))) := by
  have hi := (List.getElem?_eq_some_iff.1 hp).1
  have hb := map_at h hp
  have hib : i < bs.length := by rw [← h]; simpa using hi
  rw [bitsN_add]
  · refine bitsN_congr fun t _ => ?_
    rw [Bool.eq_iff_iff, Bool.or_eq_true, freeL_iff, freeL_iff]
    constructor
    · rintro (h1 | h1) j q hq hg2
      · rw [List.getElem?_set] at hq
        split at hq
        · obtain rfl := Option.some.inj hq; cases hg2
        · exact h1 j q hq hg2
      · rw [List.getElem?_set] at hq
        split at hq
        · obtain rfl := Option.some.inj hq; cases hg2
        · rename_i hne
          have hq' := map_at h hq
          have hjb := (List.getElem?_eq_some_iff.1 hq').1
          rw [memS_no]
          intro h5
          have h6 := (memS_iff _ _).1 h1
          rw [List.getElem?_eq_getElem hjb] at hq'
          rw [List.getElem?_eq_getElem hib] at hb
          have hq2 := Option.some.inj hq'
          have hb2 := Option.some.inj hb
          rcases Nat.lt_or_gt_of_ne hne with h7 | h7
          · have := ha.at hjb h7
            rw [shareB_no, hq2, hb2] at this
            exact this t h5 h6
          · have := ha.at hib h7
            rw [shareB_no, hq2, hb2] at this
            exact this t h6 h5
    · intro h1
      cases hm : memS p.1.has t
      · refine .inl fun j q hq hg2 => ?_
        by_cases e : i = j
        · subst e; rw [hp] at hq; obtain rfl := Option.some.inj hq; exact hm
        · exact h1 j q (by rw [List.getElem?_set, if_neg e]; exact hq) hg2
      · exact .inr rfl
  · intro t _ h1
    exact (freeL_iff _ _).1 h1 i p hp hg
/-- Who can, off the table. -/
theorem can_tab {b : Bk} (hok : BookOk b) {ts : List Tr} (h : ts.map (·.1) = b.bs) {gone : List ByteArray} (hG : ∀ (i : Nat) (p : Tr), ts[i]? = some p → p.2 = memS gone p.1.nm) {a : Nat} {p : Tr} (hp : ts[a]? = some p) (hg : p.2 = false) :
    (bitsN b.things (memS p.1.needs) &&& (18446744073709551615 - (bitsN b.things (freeL ts) + bitsN b.things (memS p.1.has))) = 0) ↔ Can b.bs a gone := by
  have hb := map_at h hp
  have hab : a < b.bs.length := (List.getElem?_eq_some_iff.1 hb).1
  have hb2 : b.bs[a] = p.1 := by rw [List.getElem?_eq_getElem hab] at hb; exact Option.some.inj hb
  rw [bitsN_add (fun t _ h1 => (freeL_iff _ _).1 h1 a p hp hg), bitsN_not hok.1.1,
    ← can_bits hok hab (gone := gone) (G := fun i => (ts[i]?.map (·.2)).getD false) (fun i hi => ?_) (by simp [hp, hg]), hb2]
  · constructor
    · intro h1 t ht hn; rw [← freeL_eq h]; exact h1 t ht hn
    · intro h1 t ht hn; have := h1 t ht hn; rwa [← freeL_eq h] at this
  · have hi' : i < ts.length := by rw [← h] at hi; simpa using hi
    have e := map_at h (List.getElem?_eq_getElem hi')
    rw [List.getElem?_eq_getElem hi] at e
    rw [List.getElem?_eq_getElem hi']
    simp only [Option.map_some, Option.getD_some]
    rw [hG i _ (List.getElem?_eq_getElem hi'), Option.some.inj e]
end Go.Proofs.YtkgbdjdgcacblaaGreatDoor

/- Books in plain: the order in which always the first that can goes. -/
namespace Go.Proofs.YtkgbdjdgcacblaaGreatDoor

/-- A batch that is not gone and can have all it needs. -/
def Good (bs : List Ba) (gone : List ByteArray) (k : Nat) : Prop := ∃ x, bs[k]? = some x ∧ memS gone x.nm = false ∧ Can bs k gone
/-- The place of the first of them, -1 if there is none. -/
def NextIs (bs : List Ba) (gone : List ByteArray) (n : Int) : Prop := (n = -1 ∧ ∀ k, k < bs.length → ¬ Good bs gone k) ∨ ∃ k : Nat, n = (k : Int) ∧ k < bs.length ∧ Good bs gone k ∧ ∀ j, j < k → ¬ Good bs gone j
theorem NextIs.uniq {bs : List Ba} {gone : List ByteArray} {m n : Int} (h : NextIs bs gone m) (h' : NextIs bs gone n) : m = n := by
  rcases h with ⟨rfl, h1⟩ | ⟨k, rfl, hk, hg, hl⟩ <;> rcases h' with ⟨rfl, h2⟩ | ⟨j, rfl, hj, gg, gl⟩
  · rfl
  · exact absurd gg (h1 j hj)
  · exact absurd hg (h2 k hk)
  · rcases Nat.lt_trichotomy k j with h3 | h3 | h3
    · exact absurd hg (gl k h3)
    · rw [h3]
    · exact absurd gg (hl j h3)
/-- n batches have gone, one behind the other, always the first that can. -/
inductive Goes (bs : List Ba) : Nat → List ByteArray → Prop
  | none : Goes bs 0 []
  | more {n : Nat} {gone : List ByteArray} {k : Nat} {x : Ba} : Goes bs n gone → NextIs bs gone (k : Int) → bs[k]? = some x → Goes bs (n + 1) (gone ++ [x.nm])
theorem Goes.length {bs : List Ba} {n : Nat} {gone : List ByteArray} (h : Goes bs n gone) : gone.length = n := by
  induction h with
  | none => rfl
  | more _ _ _ ih => simp [ih]
theorem Goes.uniq {bs : List Ba} {n : Nat} {g g' : List ByteArray} (h : Goes bs n g) (h' : Goes bs n g') : g = g' := by
  induction h generalizing g' with
  | none => cases h'; rfl
  | more h1 h2 h3 ih =>
    cases h' with
    | more k1 k2 k3 =>
      obtain rfl := ih k1
      have e := h2.uniq k2
      obtain rfl : _ = _ := Int.ofNat.inj e
      rw [h3] at k3
      obtain rfl := Option.some.inj k3
      rfl
theorem Goes.part {bs : List Ba} {n : Nat} {gone : List ByteArray} (h : Goes bs n gone) : ∀ m, m ≤ n → Goes bs m (gone.take m) := by
  induction h with
  | none => intro m hm; obtain rfl : m = 0 := by omega
            exact .none
  | @more n gone k x h1 h2 h3 ih =>
    intro m hm
    have hl := h1.length
    by_cases e : m = n + 1
    · subst e
      rw [List.take_of_length_le (by simp [hl])]
      exact .more h1 h2 h3
    · rw [List.take_append_of_le_length (by omega)]
      exact ih m (by omega)
/-- The order, and whether there is one. -/
def OrderIs (b : Bk) (ss : List ByteArray) (ok : Bool) : Prop := (ok = true ∧ BookOk b ∧ Goes b.bs b.bs.length ss) ∨ (ok = false ∧ ss = [] ∧ (¬ BookOk b ∨ ∃ n gone, n < b.bs.length ∧ Goes b.bs n gone ∧ NextIs b.bs gone (-1)))
theorem OrderIs.uniq {b : Bk} {ss ss' : List ByteArray} {ok ok' : Bool} (h : OrderIs b ss ok) (h' : OrderIs b ss' ok') : ss = ss' ∧ ok = ok' := by
  have no : ∀ {t}, BookOk b → Goes b.bs b.bs.length t → ¬ (¬ BookOk b ∨ ∃ n gone, n < b.bs.length ∧ Goes b.bs n gone ∧ NextIs b.bs gone (-1)) := by
    rintro t hb hg (h1 | ⟨n, gone, hn, h2, h3⟩)
    · exact h1 hb
    · have h4 := hg.part (n + 1) (by omega)
      have hl := hg.length
      generalize hq : t.take (n + 1) = q at h4
      cases h4 with
      | more k1 k2 k3 =>
        obtain rfl := h2.uniq k1
        have := h3.uniq k2
        omega
  rcases h with ⟨rfl, h1, h2⟩ | ⟨rfl, rfl, h2⟩ <;> rcases h' with ⟨rfl, g1, g2⟩ | ⟨rfl, rfl, g2⟩
  · exact ⟨h2.uniq g2, rfl⟩
  · exact absurd g2 (no h1 h2)
  · exact absurd h2 (no g1 g2)
  · exact ⟨rfl, rfl⟩
theorem goodTo_step {bs : List Ba} {gone : List ByteArray} {k : Nat} (h : ∀ j, j < k → ¬ Good bs gone j) (h1 : ¬ Good bs gone k) : ∀ j, j < k + 1 → ¬ Good bs gone j := fun j hj => by
  by_cases e : j = k
  · subst e; exact h1
  · exact h j (by omega)
theorem good_iff {bs : List Ba} {gone : List ByteArray} {k : Nat} (hk : k < bs.length) : Good bs gone k ↔ memS gone (bs[k]).nm = false ∧ Can bs k gone := by
  constructor
  · rintro ⟨x, hx, h⟩
    rw [List.getElem?_eq_getElem hk] at hx
    obtain rfl := Option.some.inj hx
    exact h
  · exact fun h => ⟨_, List.getElem?_eq_getElem hk, h⟩
end Go.Proofs.YtkgbdjdgcacblaaGreatDoor

/- Books that change, in plain: coming, asking, needing less, going. -/
namespace Go.Proofs.YtkgbdjdgcacblaaGreatDoor

/-- All names of a book are texts that can be. -/
def Szb (b : Bk) : Prop := (∀ s ∈ b.things, s.size ≤ maxLen) ∧ ∀ x ∈ b.bs, (∀ s ∈ x.has, s.size ≤ maxLen) ∧ (∀ s ∈ x.needs, s.size ≤ maxLen)
def nobody : Bk := ⟨[], []⟩
theorem szb_none : Szb nobody := ⟨fun s hs => by simp [nobody] at hs, fun x hx => by simp [nobody] at hx⟩
/-- The place of a batch. -/
def plN (b : Bk) (nm : ByteArray) : Nat := (idxI (nms b.bs) nm).toNat
theorem plN_lt {b : Bk} {nm : ByteArray} (h : memS (nms b.bs) nm = true) : idxI (nms b.bs) nm = (plN b nm : Int) ∧ plN b nm < b.bs.length := by
  have h0 := idxI_mem (nms b.bs) nm
  rw [h, decide_eq_true_eq] at h0
  refine ⟨by unfold plN; omega, ?_⟩
  rw [plN, idxI, if_pos h]
  have : (nms b.bs).findIdx (fun x => x.toList == nm.toList) < (nms b.bs).length := List.findIdx_lt_length.2 (by
    rw [memS, List.any_eq_true] at h; exact h)
  rw [nms_length] at this
  simpa using this
/-- Going. -/
noncomputable def leaveC (b : Bk) (nm : ByteArray) : Int := if bookB b = false then 1 else if memS (nms b.bs) nm = false then 3 else 0
noncomputable def leaveB (b : Bk) (nm : ByteArray) : Bk := if bookB b = false then nobody else if memS (nms b.bs) nm = false then b else ⟨b.things, b.bs.take (plN b nm) ++ b.bs.drop (plN b nm + 1)⟩
theorem leave_no {b : Bk} {nm : ByteArray} (h : bookB b = false) : leaveC b nm = 1 ∧ leaveB b nm = nobody := by simp [leaveC, leaveB, h]
theorem leave_none {b : Bk} {nm : ByteArray} (h : bookB b = true) (hm : memS (nms b.bs) nm = false) : leaveC b nm = 3 ∧ leaveB b nm = b := by simp [leaveC, leaveB, h, hm]
theorem leave_yes {b : Bk} {nm : ByteArray} (h : bookB b = true) (hm : memS (nms b.bs) nm = true) : leaveC b nm = 0 ∧ leaveB b nm = ⟨b.things, b.bs.take (plN b nm) ++ b.bs.drop (plN b nm + 1)⟩ := by simp [leaveC, leaveB, h, hm]
/-- Coming: behind all whose names are less. -/
def inN (b : Bk) (nm : ByteArray) : Nat := (b.bs.takeWhile fun x => ltS x.nm nm).length
noncomputable def enterC (b : Bk) (nm : ByteArray) (needs : List ByteArray) : Int :=
  if bookB b = false then 1 else if (nameB nm && pB (PartOk needs b.things)) = false then 2 else if memS (nms b.bs) nm = true then 3 else if 5 ≤ b.bs.length then 4 else 0
noncomputable def enterB (b : Bk) (nm : ByteArray) (needs : List ByteArray) : Bk :=
  if bookB b = false then nobody else if enterC b nm needs = 0 then ⟨b.things, b.bs.take (inN b nm) ++ ⟨nm, [], needs⟩ :: b.bs.drop (inN b nm)⟩ else b
/-- Up to place k all names are less. -/
def lowB (b : Bk) (nm : ByteArray) (k : Nat) : Prop := ∀ (j : Nat) (x : Ba), j < k → b.bs[j]? = some x → ltS x.nm nm = true
theorem tw_len {α : Type} (p : α → Bool) : ∀ (l : List α) (k : Nat), k ≤ l.length → (∀ j x, j < k → l[j]? = some x → p x = true) → (∀ x, l[k]? = some x → p x = false) → (l.takeWhile p).length = k
  | [], k, hk, _, _ => by simp at hk; subst hk; rfl
  | x :: r, 0, _, _, h2 => by
    rw [List.takeWhile_cons, h2 x (by simp)]; rfl
  | x :: r, k + 1, hk, h1, h2 => by
    rw [List.takeWhile_cons, h1 0 x (by omega) (by simp)]
    simp only [if_true, List.length_cons]
    rw [tw_len p r k (by simpa using hk) (fun j y hj hy => h1 (j + 1) y (by omega) (by simpa using hy)) (fun y hy => h2 y (by simpa using hy))]
theorem inN_at {b : Bk} {nm : ByteArray} {k : Nat} (hk : k ≤ b.bs.length) (hl : lowB b nm k) (hn : ∀ x, b.bs[k]? = some x → ltS x.nm nm = false) : inN b nm = k := tw_len _ _ _ hk hl hn
theorem enter_no {b : Bk} {nm : ByteArray} {needs : List ByteArray} (h : bookB b = false) : enterC b nm needs = 1 ∧ enterB b nm needs = nobody := by simp [enterC, enterB, h]
theorem enter_two {b : Bk} {nm : ByteArray} {needs : List ByteArray} (h : bookB b = true) (h2 : (nameB nm && pB (PartOk needs b.things)) = false) : enterC b nm needs = 2 ∧ enterB b nm needs = b := by simp [enterC, enterB, h, h2]
theorem enter_three {b : Bk} {nm : ByteArray} {needs : List ByteArray} (h : bookB b = true) (h2 : (nameB nm && pB (PartOk needs b.things)) = true) (h3 : memS (nms b.bs) nm = true) : enterC b nm needs = 3 ∧ enterB b nm needs = b := by simp [enterC, enterB, h, h2, h3]
theorem enter_four {b : Bk} {nm : ByteArray} {needs : List ByteArray} (h : bookB b = true) (h2 : (nameB nm && pB (PartOk needs b.things)) = true) (h3 : memS (nms b.bs) nm = false) (h4 : 5 ≤ b.bs.length) : enterC b nm needs = 4 ∧ enterB b nm needs = b := by simp [enterC, enterB, h, h2, h3, h4]
theorem enter_yes {b : Bk} {nm : ByteArray} {needs : List ByteArray} (h : bookB b = true) (h2 : (nameB nm && pB (PartOk needs b.things)) = true) (h3 : memS (nms b.bs) nm = false) (h4 : ¬ 5 ≤ b.bs.length) :
    enterC b nm needs = 0 ∧ enterB b nm needs = ⟨b.things, b.bs.take (inN b nm) ++ ⟨nm, [], needs⟩ :: b.bs.drop (inN b nm)⟩ := by
  have hc : enterC b nm needs = 0 := by simp [enterC, h, h2, h3, h4]
  exact ⟨hc, by rw [enterB, h, if_neg (by simp), if_pos hc]⟩
/-- What an ok book's lists hold is short. -/
theorem ok_small {b : Bk} (h : BookOk b) : b.things.length ≤ 8 ∧ b.bs.length ≤ 5 ∧ ∀ x ∈ b.bs, x.has.length ≤ 8 ∧ x.needs.length ≤ 8 := by
  refine ⟨h.1.1, h.2.1, fun x hx => ?_⟩
  obtain ⟨i, hi, rfl⟩ := List.getElem_of_mem hx
  have ho := h.2.2.2.2.1.at (k := i) hi hi
  have h1 := part_short ho.1
  have h2 := part_short ho.2
  have h0 := h.1.1
  omega
theorem book_ok {b : Bk} (h : bookB b = true) : BookOk b := pB_iff.1 h
end Go.Proofs.YtkgbdjdgcacblaaGreatDoor

/- Books of one's own. -/
namespace Go.Proofs.YtkgbdjdgcacblaaGreatDoor
open Go.RowKit

theorem rowsB_append (a b : List Bv) : rowsB (a ++ b) = rowsB a ++ rowsB b := by
  induction a with
  | nil => rfl
  | cons p r ih => simp [rowsB, ih]
theorem rowsB_at : ∀ (ps : List Bv) (i : Nat) (p : Bv), ps[i]? = some p → ∀ (j : Nat) (u : Value), (rowB p)[j]? = some u → (rowsB ps)[i * 3 + j]? = some u
  | q :: r, 0, p, hp, j, u, hu => by
    simp at hp; subst hp
    have hj : j < (rowB q).length := (List.getElem?_eq_some_iff.1 hu).1
    rw [rowsB, Nat.zero_mul, Nat.zero_add, List.getElem?_append_left hj]; exact hu
  | q :: r, i + 1, p, hp, j, u, hu => by
    have := rowsB_at r i p (by simpa using hp) j u hu
    have hl : (rowB q).length = 3 := rfl
    rw [rowsB, List.getElem?_append_right (by rw [hl]; omega), hl, show (i + 1) * 3 + j - 3 = i * 3 + j by omega]; exact this
theorem rowsB_take (ps : List Bv) (k : Nat) (hk : k ≤ ps.length) : (rowsB ps).take (k * 3) = rowsB (ps.take k) := by
  have h : rowsB ps = rowsB (ps.take k) ++ rowsB (ps.drop k) := by rw [← rowsB_append, List.take_append_drop]
  rw [h, List.take_left' (by rw [rowsB_length, List.length_take]; omega)]
theorem rowsB_drop (ps : List Bv) (k : Nat) (hk : k ≤ ps.length) : (rowsB ps).drop (k * 3) = rowsB (ps.drop k) := by
  have h : rowsB ps = rowsB (ps.take k) ++ rowsB (ps.drop k) := by rw [← rowsB_append, List.take_append_drop]
  rw [h, List.drop_left' (by rw [rowsB_length, List.length_take]; omega)]
/-- A book of one's own. -/
def BkW (w : World) (base : Nat) (v : Value) (b : Bk) : Prop := ∃ tu bu ps, v = .agg #[tu, bu] ∧ OwnT w base tu b.things ∧ BsW w base bu ps ∧ ps.map (·.1) = b.bs
theorem BkV.szb {w : World} {v : Value} {b : Bk} (h : BkV w v b) : Szb b := by
  obtain ⟨tv, bv, rfl, ⟨_, _, _, _, h1, _⟩, ⟨a, c, _, _, h2⟩⟩ := h
  refine ⟨h1, fun x hx => ?_⟩
  obtain ⟨i, hi, rfl⟩ := List.getElem_of_mem hx
  obtain ⟨g, o, _, hS, _⟩ := h2 (by omega)
  obtain ⟨hv, nv, _, ⟨_, _, _, _, h3, _⟩, ⟨_, _, _, _, h4, _⟩, _⟩ := hS.at hi
  exact ⟨h3, h4⟩
theorem own_cap2 {w : World} {base e size n g cap : Nat} {xs : List Value} (h : w.ownsRow base e size (.slice (some ⟨g, 0, none⟩) n cap) n xs) : n ≤ cap ∧ cap ≤ maxLen := by
  rcases h.2 with ⟨h0, _⟩ | ⟨g', cap', cur, h', _, _, hc, hm, _⟩
  · simp at h0
  · simp only [Value.slice.injEq] at h'; omega
theorem own_len {w : World} {base e size n : Nat} {v : Value} {xs : List Value} (h : w.ownsRow base e size v n xs) : n ≤ maxLen := by
  rcases h.2 with ⟨_, rfl⟩ | ⟨g, cap, _, _, _, _, h1, h2, _⟩
  · omega
  · omega
theorem BsW.bs {w : World} {base : Nat} {v : Value} {ps : List Bv} {bs : List Ba} (h : BsW w base v ps) (hm : ps.map (·.1) = bs) (hz : ∀ x ∈ bs, (∀ s ∈ x.has, s.size ≤ maxLen) ∧ (∀ s ∈ x.needs, s.size ≤ maxLen)) : Bs w v bs := by
  subst hm
  have hl : (ps.map (·.1)).length = ps.length := List.length_map _
  obtain ⟨a, c, rfl⟩ := own_shape h.1
  refine ⟨a, c, by rw [hl], by rw [hl]; exact own_len h.1, fun hp => ?_⟩
  rw [hl] at hp
  obtain ⟨g, cap, hv⟩ := own_ptr2 h.1 hp
  obtain ⟨rfl, -, rfl⟩ := Value.slice.inj hv
  refine ⟨g, 0, rfl, fun i x hx => ?_, (h.1.lt g rfl).2⟩
  rw [List.getElem?_map, Option.map_eq_some_iff] at hx
  obtain ⟨p, hp', rfl⟩ := hx
  have hpm : p ∈ ps := List.mem_of_getElem? hp'
  obtain ⟨q1, q2, q3⟩ := h.2 p hpm
  have hzz := hz p.1 (List.mem_map_of_mem hpm)
  have hi : i < ps.length := (List.getElem?_eq_some_iff.1 hp').1
  refine ⟨p.2.1, p.2.2, fun j u hu => ?_, q1.lst.ls hzz.1, q2.lst.ls hzz.2, q3⟩
  have hr := rowsB_at ps i p hp' j u hu
  have hj : j < 3 := (List.getElem?_eq_some_iff.1 hu).1
  rw [Nat.zero_add, h.1.cellAt (i * 3 + j) (by omega)]; exact hr
theorem BkW.bk {w : World} {base : Nat} {v : Value} {b : Bk} (h : BkW w base v b) (hz : Szb b) : BkV w v b := by
  obtain ⟨tu, bu, ps, rfl, h1, h2, h3⟩ := h
  exact ⟨tu, bu, rfl, h1.lst.ls hz.1, h2.bs h3 hz.2⟩
theorem BkW.low {w : World} {base base' : Nat} {v : Value} {b : Bk} (h : BkW w base v b) (hb : base' ≤ base) : BkW w base' v b := by
  obtain ⟨tu, bu, ps, rfl, h1, h2, h3⟩ := h
  exact ⟨tu, bu, ps, rfl, own_low h1 hb, h2.low hb, h3⟩
theorem BkW.up {w w' : World} {base : Nat} {v : Value} {b : Bk} (h : BkW w base v b) (hb : Below w.heap.size w w') : BkW w' base v b := by
  obtain ⟨tu, bu, ps, rfl, h1, h2, h3⟩ := h
  exact ⟨tu, bu, ps, rfl, h1.up hb, h2.up hb, h3⟩
theorem BkW.set {w : World} {base r j : Nat} {v u : Value} {b : Bk} (h : BkW w base v b) (hr : r < base) : BkW (w.setCell ⟨r, j, none⟩ u) base v b := by
  obtain ⟨tu, bu, ps, rfl, h1, h2, h3⟩ := h
  exact ⟨tu, bu, ps, rfl, own_grown h1 (grown_setCell (grown_refl _ _) _) hr, h2.set hr, h3⟩
theorem BkW.gr {w w' : World} {base r : Nat} {v : Value} {b : Bk} (h : BkW w base v b) (hg : w.grownBy w' (some r)) (hr : r < base) : BkW w' base v b := by
  obtain ⟨tu, bu, ps, rfl, h1, h2, h3⟩ := h
  exact ⟨tu, bu, ps, rfl, own_grown h1 hg hr, ⟨own_grown h2.1 hg hr, fun p hp => ⟨own_grown (h2.2 p hp).1 hg hr, own_grown (h2.2 p hp).2.1 hg hr, (h2.2 p hp).2.2⟩⟩, h3⟩
theorem BkW.parts {w : World} {base : Nat} {v : Value} {b : Bk} (h : BkW w base v b) : ∃ a1 c1 a2 c2 ps, v = .agg #[.slice a1 b.things.length c1, .slice a2 b.bs.length c2] ∧ OwnT w base (.slice a1 b.things.length c1) b.things ∧ BsW w base (.slice a2 b.bs.length c2) ps ∧ ps.map (·.1) = b.bs := by
  obtain ⟨tu, bu, ps, rfl, h1, h2, h3⟩ := h
  obtain ⟨a1, c1, rfl⟩ := h1.lst.shape
  obtain ⟨a2, c2, rfl⟩ := own_shape h2.1
  have hl : ps.length = b.bs.length := by rw [← h3, List.length_map]
  rw [hl] at h2
  exact ⟨a1, c1, a2, c2, ps, by rw [hl], h1, h2, h3⟩
theorem bkW_none (w : World) (base : Nat) : BkW w base (.agg #[.slice none 0 0, .slice none 0 0]) nobody :=
  ⟨_, _, [], rfl, World.ownsRow_nil _ _ _ _, ⟨World.ownsRow_nil _ _ _ _, fun p hp => by simp at hp⟩, rfl⟩
theorem BkV.bsOf {w : World} {x y : Value} {b : Bk} (h : BkV w (.agg #[x, y]) b) : Bs w y b.bs := by
  obtain ⟨tv, bv, e, -, h2⟩ := h
  simp at e
  obtain ⟨rfl, rfl⟩ := e
  exact h2
theorem ret_pair {v : Value} {x y : Int} (h : x = y) : Ending.returned (.tuple #[v, .int .i64 x]) = .returned (.tuple #[v, .int .i64 y]) := by rw [h]
theorem end_cb2b {P : Program} {fn : Func} {q q2 : Tmp} {T : TypeId} (h : fn.results = #[.cell q T, .tmp q2]) {d : TypeDesc} (hu : P.underlying T = some d) (hd : d.isRow = true) (hi : (P.info? T).map (·.size) = some 2) {R : Ending → World → Prop} {tmps : Array Value} {w : World} {rk : Nat} {y0 y1 x0 x1 v : Value}
    (k : CB w rk [y0, y1]) (ht : tmps.getD q undef = .pointer (some ⟨rk, 0, none⟩)) (hv : tmps.getD q2 undef = v) (hR : R (.returned (.tuple #[.agg #[x0, x1], v])) ((w.setCell ⟨rk, 0, none⟩ x0).setCell ⟨rk, 1, none⟩ x1)) :
    bodyPost P fn R .ret { tmps := tmps, defers := [] } ((w.setCell ⟨rk, 0, none⟩ x0).setCell ⟨rk, 1, none⟩ x1) :=
  bodyPost_ret (ret_cb2 (cs := [x0, x1]) h hu hd hi ht hv (k.copy2 x0 x1)) rfl hR
/-- A list stays while a row of batches grows. -/
theorem own_step {W W' : World} {base b2 n : Nat} {u v : Value} {ss : List ByteArray} {xs : List Value} (h : OwnT W base u ss) (hrow : W.ownsRow b2 45 3 v n xs) (hg : W.grownBy W' v.ownBlock) : OwnT W' base u ss :=
  own_keep2 h hg (own_apart2 h hrow (by decide))
/-- The cells of a row of batches, from place k on. -/
theorem rows_cells {w : World} {base g cap n : Nat} {ps : List Bv} (h : w.ownsRow base 45 3 (.slice (some ⟨g, 0, none⟩) n cap) n (rowsB ps)) (k : Nat) (qs : List Bv) (hq : ∀ i p, qs[i]? = some p → ps[k + i]? = some p) :
    ∀ (j : Nat) (u : Value), (rowsB qs)[j]? = some u → w.cell? ((⟨g, k * 3, none⟩ : Addr).add j) = some u := fun j u hu => by
  have hj : j < qs.length * 3 := by rw [← rowsB_length]; exact (List.getElem?_eq_some_iff.1 hu).1
  have hi : j / 3 < qs.length := by omega
  have hp := List.getElem?_eq_getElem hi
  have h3 : (rowB (qs[j / 3]))[j % 3]? = some u := by
    have hl : j % 3 < (rowB (qs[j / 3])).length := by show _ < 3; omega
    have := rowsB_at qs (j / 3) _ hp (j % 3) _ (List.getElem?_eq_getElem hl)
    rw [show j / 3 * 3 + j % 3 = j by omega, hu] at this
    rw [List.getElem?_eq_getElem hl]; exact this.symm
  have h4 := rowsB_at ps (k + j / 3) _ (hq _ _ hp) (j % 3) u h3
  have h5 := (List.getElem?_eq_some_iff.1 h4).1
  rw [h.1] at h5
  rw [Addr.add_mid, show k * 3 + j = (k + j / 3) * 3 + j % 3 by omega, h.cellAt _ h5]; exact h4
theorem slice_ne {g n c : Nat} {r : Option Nat} (h : some g ≠ r) : ∀ g', (Value.slice (some ⟨g, 0, none⟩) n c).ownBlock = some g' → some g' ≠ r := fun g' hg' => by
  simp only [Value.ownBlock, Option.some.injEq] at hg'
  subst hg'; exact h
theorem take_at (ps : List Bv) (k : Nat) : ∀ (i : Nat) (q : Bv), (ps.take k)[i]? = some q → ps[0 + i]? = some q := fun i q hq => by
  rw [List.getElem?_take] at hq
  split at hq
  · rw [Nat.zero_add]; exact hq
  · cases hq
theorem drop_at (ps : List Bv) (k : Nat) : ∀ (i : Nat) (q : Bv), (ps.drop k)[i]? = some q → ps[k + i]? = some q := fun i q hq => by rwa [List.getElem?_drop] at hq
theorem bsW_mk {w : World} {base n : Nat} {v : Value} {qs : List Bv} {xs : List Value} (h : w.ownsRow base 45 3 v n xs) (hx : xs = rowsB qs) (hn : n = qs.length) (hl : ∀ p ∈ qs, OwnT w base p.2.1 p.1.has ∧ OwnT w base p.2.2 p.1.needs ∧ p.1.nm.size ≤ maxLen) : BsW w base v qs := by
  subst hx hn; exact ⟨h, hl⟩
theorem oneB (ps : List Bv) (h : ∀ p ∈ ps, (∃ a n c, p.2.1 = .slice a n c) ∧ ∃ a n c, p.2.2 = .slice a n c) : ∀ u ∈ rowsB ps, u.oneCell' = true := by
  induction ps with
  | nil => intro u hu; simp [rowsB] at hu
  | cons p r ih =>
    intro u hu
    rw [rowsB, List.mem_append] at hu
    rcases hu with hu | hu
    · obtain ⟨⟨a, n, c, h1⟩, a2, n2, c2, h2⟩ := h p (by simp)
      simp only [rowB, h1, h2, List.mem_cons, List.not_mem_nil, or_false] at hu
      rcases hu with rfl | rfl | rfl <;> rfl
    · exact ih (fun q hq => h q (by simp [hq])) u hu
theorem BsW.one {w : World} {base : Nat} {v : Value} {ps : List Bv} (h : BsW w base v ps) (qs : List Bv) (hq : ∀ p ∈ qs, p ∈ ps) : ∀ u ∈ rowsB qs, u.oneCell' = true :=
  oneB qs fun p hp => by
    obtain ⟨q1, q2, -⟩ := h.2 p (hq p hp)
    obtain ⟨a, c, e1⟩ := q1.lst.shape
    obtain ⟨a2, c2, e2⟩ := q2.lst.shape
    exact ⟨⟨_, _, _, e1⟩, ⟨_, _, _, e2⟩⟩
end Go.Proofs.YtkgbdjdgcacblaaGreatDoor

/- The program's chapter 13: a copy of a book. -/
namespace Go.Proofs.YtkgbdjdgcacblaaGreatDoor
open Go.RowKit

set_option maxRecDepth 20000 in
set_option maxHeartbeats 4000000 in
theorem copyP_any (b : Bk) (v : Value) (w : World) (h : BkV w v b) (hn : b.things.length ≤ 100) (hn5 : b.bs.length ≤ 100) (hsm : ∀ y ∈ b.bs, y.has.length ≤ 100 ∧ y.needs.length ≤ 100) :
    Calls Tryz.prog 41 #[v] w fun e w' => (∃ a1 c1 a2 c2 ps, e = .returned (.agg #[.slice a1 b.things.length c1, .slice a2 b.bs.length c2]) ∧ BsW w' w.heap.size (.slice a2 b.bs.length c2) ps ∧ ps.map (·.1) = b.bs ∧ Fam w' w.heap.size none ((.slice a1 b.things.length c1, b.things) :: famB ps)) ∧ Below w.heap.size w w' := by
  obtain ⟨a1, c1, a2, c2, rfl, h1, h2⟩ := h.parts
  obtain ⟨ii, hi, iz0, iz1, iz2⟩ := info_parts infoBat1
  obtain ⟨W1, hW1, kA, kR, hB1, hs1⟩ : ∃ W1, (w.alloc (.cells #[.slice a1 (b).things.length c1, .slice a2 (b).bs.length c2] 26)).alloc (.cells #[.slice none 0 0, .slice none 0 0] 26) = W1 ∧ CB W1 w.heap.size [.slice a1 b.things.length c1, .slice a2 b.bs.length c2] ∧ CB W1 (w.heap.size + 1) [.slice none 0 0, .slice none 0 0] ∧ Below w.heap.size w W1 ∧ W1.heap.size = w.heap.size + 2 := ⟨_, rfl, cb2 w _ _ _ _⟩
  go_enter Tryz.func41, Tryz.ntmps41
  go_upto_region 1 with fail
  try rw [hW1]
  clear hW1
  have l1 := h1.up hB1
  have l2 := h2.up hB1
  obtain ⟨e0, e1⟩ := kA.c2'
  clear h h1 h2
  go_wp2_with fail
  refine (copied_any b.things _ _ l1 (by omega)).mono ?_
  rintro e w2 ⟨⟨tu, rfl, hot⟩, hb2⟩
  obtain ⟨at1, ct1, rfl⟩ := hot.lst.shape
  have hz2 := hb2.size
  have kA2 := kA.up hb2 (by omega)
  have kR2 := kR.up hb2 (by omega)
  have l2' := l2.up hb2
  have hBw2 := up_trans hB1 hb2
  have hW1z : w.heap.size + 1 < W1.heap.size := by omega
  have hW1l : w.heap.size ≤ W1.heap.size := by omega
  have hF2 : Fam w2 W1.heap.size (some w2.heap.size) [((.slice at1 b.things.length ct1), b.things)] := ((fam_nil w2 W1.heap.size none).mk1 hot).avoid (Nat.le_refl _)
  clear e0 e1 l1 l2 kA kR hs1 hB1 hb2 hot
  go_upto_region 2 with fail
  obtain ⟨W3, hW3, kX, hb3, hs3⟩ : ∃ W3, w2.alloc (.cells #[(.slice at1 b.things.length ct1), .slice none 0 0] 26) = W3 ∧ CB W3 w2.heap.size [(.slice at1 b.things.length ct1), .slice none 0 0] ∧ Below w2.heap.size w2 W3 ∧ W3.heap.size = w2.heap.size + 1 := ⟨_, rfl, cb1 w2 _ _⟩
  try rw [hW3]
  clear hW3 hs3
  have hF3 := hF2.up hb3
  clear hF2
  obtain ⟨f0, f1⟩ := kA2.c2'
  have hla := kA2.2.2
  have f1 := (hb3.cell (p := ⟨w.heap.size, 1, none⟩) hla).trans f1
  obtain ⟨-, hpos⟩ := l2'.at
  go_wp2_with fail
  go_loopw [5, 13] (fun _ i w' => ∃ (k : Nat) (ps : List Bv) (xv : Value), k ≤ b.bs.length ∧ i = .int .i64 k ∧ ps.map (·.1) = b.bs.take k ∧ CB w' w2.heap.size [(.slice at1 b.things.length ct1), xv] ∧ w'.ownsRow (w2.heap.size + 1) 45 3 xv ps.length (rowsB ps) ∧ (∀ p ∈ ps, p.1.nm.size ≤ maxLen) ∧ Below w2.heap.size w2 w' ∧ Fam w' W1.heap.size (some w2.heap.size) (((.slice at1 b.things.length ct1), b.things) :: famB ps)) (fun _ i _ => b.bs.length - (intOf i).toNat)
  case atStart => exact ⟨0, [], .slice none 0 0, by omega, rfl, by simp, kX, World.ownsRow_nil _ _ _ _, fun p hp => by simp at hp, hb3, hF3⟩
  case round =>
    clear kX hb3 hF3 f1
    obtain ⟨k, ps, xv, hk, rfl, hps, kX, hrow, hnm, hB, hF⟩ := hrel
    have Hps : Hid (ps.map (·.1) = b.bs.take k) := hps
    have Hnm : Hid (∀ p ∈ ps, p.1.nm.size ≤ maxLen) := hnm
    have hpl : ps.length = k := by have := congrArg List.length hps; simp at this; omega
    have hpl' : ps.length ≤ 100 := by omega
    have Hpl : Hid (ps.length = k) := hpl
    clear hps hnm hpl
    by_cases hp : k < b.bs.length
    · obtain ⟨bb, o, rfl, hS, hb⟩ := hpos (by omega)
      obtain ⟨a3, d3, a4, d4, c3, c4, c5, l3, l4, z0⟩ := (hS.at hp).cells
      have c3 := (hB.cell (p := ⟨bb, o + k * 3, none⟩) hb).trans c3
      have c4 := (hB.cell (p := ⟨bb, o + k * 3 + 1, none⟩) hb).trans c4
      have c5 := (hB.cell (p := ⟨bb, o + k * 3 + 2, none⟩) hb).trans c5
      obtain ⟨s1, s2⟩ := hsm b.bs[k] (by simp)
      have L4 : Hid (∀ X, Below w2.heap.size w2 X → Ls X (.slice a4 (b.bs[k]).needs.length d4) (b.bs[k]).needs) := fun X hX => l4.up hX
      have l3 := l3.up hB
      have HX : Hid (b.bs.take (k + 1) = b.bs.take k ++ [b.bs[k]]) := List.take_succ_eq_append_getElem hp
      have Hz0 : Hid ((b.bs[k]).nm.size ≤ maxLen) := z0
      generalize b.bs[k] = x0 at *
      have hzb := hB.size
      go_upto_region 5 with fail
      obtain ⟨W4, hW4, kB, hb4, hs4⟩ : ∃ W4, wr.alloc (.cells #[.string x0.nm, .slice a3 x0.has.length d3, .slice a4 x0.needs.length d4] 45) = W4 ∧ CB W4 wr.heap.size [.string x0.nm, .slice a3 x0.has.length d3, .slice a4 x0.needs.length d4] ∧ Below wr.heap.size wr W4 ∧ W4.heap.size = wr.heap.size + 1 := ⟨_, rfl, cb1 wr _ _⟩
      try rw [hW4]
      clear hW4 c3 c4 c5 hS z0
      have hxl := kX.2.2
      have kX4 := kX.up hb4 hxl
      have hrow4 := own_up hrow hb4
      have hF4 := hF.up hb4
      have hG4 := (hF.avoid (Nat.le_refl _)).up hb4
      have hrq : ∀ g, xv.ownBlock = some g → some g ≠ some wr.heap.size := fun g hg e => by
        have h1 := (hrow.lt g hg).2
        have : g = wr.heap.size := by simpa using e
        omega
      have hB4 := up_trans hB hb4
      have l3 := l3.up hb4
      have hbt := kB.2.2
      have hx4 : w2.heap.size < W4.heap.size := by omega
      have hX1 : W1.heap.size ≤ wr.heap.size := by omega
      clear hb4 kX hrow hF hB
      obtain ⟨⟨j0, j1, j2⟩, m0, m1, m2⟩ := kB.c3
      go_wp2_with fail
      refine (copied_any x0.has _ _ l3 (by omega)).mono ?_
      rintro e W5 ⟨⟨hu, rfl, hoh⟩, hb5⟩
      obtain ⟨ah, ch, rfl⟩ := hoh.lst.shape
      have kB5 := kB.up hb5 hbt
      have kX5 := kX4.up hb5 hx4
      have hrow5 := own_up hrow4 hb5
      have hF5 := hF4.new (hF4.up hb5) hoh (Nat.le_refl _) (by omega) (at_lt hx4)
      have hG5 := hG4.new (hG4.up hb5) hoh (Nat.le_refl _) (by omega) (at_lt hbt)
      have hB5 := up_trans hB4 hb5
      have hz5 := hb5.size
      clear j0 j1 j2 m0 m1 m2 kB kX4 hrow4 hF4 hG4 hB4 hb5 hoh l3
      obtain ⟨⟨j0, j1, j2⟩, m0, m1, m2⟩ := kB5.c3
      go_upto_region 6 with fail
      have kB6 : CB (W5.setCell ⟨wr.heap.size, 1, none⟩ (.slice ah x0.has.length ch)) wr.heap.size [.string x0.nm, .slice ah x0.has.length ch, .slice a4 x0.needs.length d4] := kB5.set (j := 1) (by simp)
      have hxb : w2.heap.size ≠ wr.heap.size := by omega
      have kX6 := kX5.other (q := wr.heap.size) (j := 1) (u := .slice ah x0.has.length ch) hxb
      have hrow6 := own_keep2 hrow5 (grown_setCell (rb := wr.heap.size) (off := 1) (grown_refl W5 _) (.slice ah x0.has.length ch)) hrq
      have hF6 := hF5.set2 hG5 1 (.slice ah x0.has.length ch)
      have hG6 := hG5.set 1 (.slice ah x0.has.length ch)
      have hB6 : Below w2.heap.size w2 (W5.setCell ⟨wr.heap.size, 1, none⟩ (.slice ah x0.has.length ch)) := hB5.setCell (p := ⟨wr.heap.size, 1, none⟩) (by show _ ≤ wr.heap.size; omega) _
      have l4 : Ls (W5.setCell ⟨wr.heap.size, 1, none⟩ (.slice ah x0.has.length ch)) (.slice a4 x0.needs.length d4) x0.needs := L4.out _ hB6
      have hz6 : (W5.setCell ⟨wr.heap.size, 1, none⟩ (.slice ah x0.has.length ch)).heap.size = W5.heap.size := by simp
      clear j0 j1 j2 m0 m1 m2 kB5 kX5 hrow5 hF5 hG5 hB5
      generalize W5.setCell ⟨wr.heap.size, 1, none⟩ (.slice ah x0.has.length ch) = W6 at *
      have hbt6 := kB6.2.2
      have hx6 := kX6.2.2
      obtain ⟨⟨j0, j1, j2⟩, m0, m1, m2⟩ := kB6.c3
      clear hz6
      go_wp2_with fail
      refine (copied_any x0.needs _ _ l4 (by omega)).mono ?_
      rintro e W7 ⟨⟨nu, rfl, hon⟩, hb7⟩
      obtain ⟨an, cn, rfl⟩ := hon.lst.shape
      have kB7 := kB6.up hb7 hbt6
      have kX7 := kX6.up hb7 hx6
      have hrow7 := own_up hrow6 hb7
      have hF7 := hF6.new (hF6.up hb7) hon (Nat.le_refl _) (by omega) (at_lt hx6)
      have hG7 := hG6.new (hG6.up hb7) hon (Nat.le_refl _) (by omega) (at_lt hbt6)
      have hB7 := up_trans hB6 hb7
      clear j0 j1 j2 m0 m1 m2 kB6 kX6 hrow6 hF6 hG6 hB6 hb7 hon l4
      obtain ⟨⟨j0, j1, j2⟩, m0, m1, m2⟩ := kB7.c3
      go_upto_region 7 with fail
      have kB8 : CB (W7.setCell ⟨wr.heap.size, 2, none⟩ (.slice an x0.needs.length cn)) wr.heap.size [.string x0.nm, .slice ah x0.has.length ch, .slice an x0.needs.length cn] := kB7.set (j := 2) (by simp)
      have kX8 := kX7.other (q := wr.heap.size) (j := 2) (u := .slice an x0.needs.length cn) hxb
      have hrow8 := own_keep2 hrow7 (grown_setCell (rb := wr.heap.size) (off := 2) (grown_refl W7 _) (.slice an x0.needs.length cn)) hrq
      have hF8 := hF7.set2 hG7 2 (.slice an x0.needs.length cn)
      have hB8 : Below w2.heap.size w2 (W7.setCell ⟨wr.heap.size, 2, none⟩ (.slice an x0.needs.length cn)) := hB7.setCell (p := ⟨wr.heap.size, 2, none⟩) (by show _ ≤ wr.heap.size; omega) _
      clear j0 j1 j2 m0 m1 m2 kB7 kX7 hrow7 hF7 hG7 hB7
      generalize W7.setCell ⟨wr.heap.size, 2, none⟩ (.slice an x0.needs.length cn) = W8 at *
      obtain ⟨⟨j0, j1, j2⟩, -⟩ := kB8.c3
      obtain ⟨⟨x0c, x1c⟩, -⟩ := kX8.c2
      obtain ⟨ax, cx, rfl⟩ := own_shape hrow8
      have hrowA := World.ownsRow.alloc hrow8 (.cells #[.string x0.nm, .slice ah x0.has.length ch, .slice an x0.needs.length cn] 45)
      have hx8 := kX8.2.2
      have hbA : Below W8.heap.size W8 (W8.alloc (.cells #[.string x0.nm, .slice ah x0.has.length ch, .slice an x0.needs.length cn] 45)) := (Below.refl _ _).alloc (Nat.le_refl _) _
      have kXA := kX8.up hbA hx8
      have hFA := hF8.up hbA
      have hzA : w2.heap.size + 1 ≤ (W8.alloc (.cells #[.string x0.nm, .slice ah x0.has.length ch, .slice an x0.needs.length cn] 45)).heap.size := by simp; omega
      have hBA : Below w2.heap.size w2 (W8.alloc (.cells #[.string x0.nm, .slice ah x0.has.length ch, .slice an x0.needs.length cn] 45)) := up_trans hB8 hbA
      go_wp2_with (at_builtin; refine wpList_append_own _ rfl _ _ 24 rfl (w2.heap.size + 1) 45 ii _ 3 64 Tryz.underlying24 hi iz0 iz1 iz2 rfl (by decide) _ _ _ rfl hrowA ⟨W8.heap.size, 0, none⟩ 1 1 [.string x0.nm, .slice ah x0.has.length ch, .slice an x0.needs.length cn] rfl rfl (fun j u hj => hnew3 _ _ _ _ _ hj) (by simp [Value.oneCell']) (by unfold maxLen; omega) (by omega) hzA ?_)
      intro v9 W9 hown9 hgr9 _
      have kX9 := kXA.kept hgr9 (own_ne hrowA (by omega))
      have hF9 := hFA.row hrowA hgr9
      have hB9 : Below w2.heap.size w2 W9 := below_own hBA hrowA hgr9 (by omega)
      have hF9' := hF9.turn.perm (famB_snoc ps ((x0, .slice ah x0.has.length ch, .slice an x0.needs.length cn) : Bv) [((.slice at1 b.things.length ct1), b.things)])
      have hrow9 : W9.ownsRow (w2.heap.size + 1) 45 3 v9 (ps ++ [((x0, .slice ah x0.has.length ch, .slice an x0.needs.length cn) : Bv)]).length (rowsB (ps ++ [((x0, .slice ah x0.has.length ch, .slice an x0.needs.length cn) : Bv)])) := by
        rw [rowsB_snoc, List.length_append]; exact hown9
      have HM : Hid ((ps ++ [((x0, .slice ah x0.has.length ch, .slice an x0.needs.length cn) : Bv)]).map (·.1) = b.bs.take (k + 1)) := by
        show _ = _
        rw [HX.out, List.map_append, Hps.out]; rfl
      have HN : Hid (∀ p ∈ ps ++ [((x0, .slice ah x0.has.length ch, .slice an x0.needs.length cn) : Bv)], p.1.nm.size ≤ maxLen) := fun p hp => by
        rcases List.mem_append.1 hp with h | h
        · exact Hnm.out p h
        · obtain rfl : p = _ := by simpa using h
          exact Hz0.out
      obtain ⟨a9, c9, rfl⟩ := own_shape hown9
      clear hown9 hgr9 hrowA kXA hFA hBA hbA hF8 hrow8 kX8 hB8 x0c x1c j0 j1 j2 hF9 kB8 hzA
      obtain ⟨⟨y0, y1⟩, g0, g1⟩ := kX9.c2
      have kX10 : CB (W9.setCell ⟨w2.heap.size, 1, none⟩ (.slice a9 (ps.length + 1) c9)) w2.heap.size [(.slice at1 b.things.length ct1), .slice a9 (ps.length + 1) c9] := kX9.set (j := 1) (by simp)
      have hrow10 := own_grown hrow9 (grown_setCell (rb := w2.heap.size) (off := 1) (grown_refl W9 _) (.slice a9 (ps.length + 1) c9)) (Nat.lt_succ_self _)
      have hF10 := hF9'.set 1 (.slice a9 (ps.length + 1) c9)
      have hB10 : Below w2.heap.size w2 (W9.setCell ⟨w2.heap.size, 1, none⟩ (.slice a9 (ps.length + 1) c9)) := hB9.setCell (p := ⟨w2.heap.size, 1, none⟩) (Nat.le_refl _) _
      clear kX9 hrow9 hF9' hB9
      go_wp2_with fail
      go_roundw
      case rel => exact ⟨k + 1, _, _, by omega, by go_num, HM.out, kX10, hrow10, HN.out, hB10, hF10⟩
      case measure => simp [intOf]; omega
    · obtain rfl : k = b.bs.length := by omega
      have kR := kR2.up hB kR2.2.2
      obtain ⟨⟨x0c, x1c⟩, -⟩ := kX.c2
      obtain ⟨⟨y0c, y1c⟩, yf0, yf1⟩ := kR.c2
      have Hps2 : Hid (ps.map (·.1) = b.bs) := by show _ = _; rw [Hps.out, List.take_length]
      have hBB := up_trans hBw2 hB
      obtain ⟨ax, cx, rfl⟩ := own_shape hrow
      have Hlen : Hid (ps.length = b.bs.length) := Hpl.out
      clear Hpl hpos
      go_wp2_with fail
      refine end_cb2 Tryz.results41 Tryz.underlying26 rfl sizeBk1 kR rfl ?_
      have hrow2 := own_low (own_grown (own_grown hrow (grown_setCell (rb := w.heap.size + 1) (off := 0) (grown_refl _ _) (.slice at1 b.things.length ct1)) (by omega)) (grown_setCell (rb := w.heap.size + 1) (off := 1) (grown_refl _ _) (.slice ax ps.length cx)) (by omega)) (show w.heap.size ≤ w2.heap.size + 1 by omega)
      have hFam := ((hF.free.setLow hW1z 0 (.slice at1 b.things.length ct1)).setLow hW1z 1 (.slice ax ps.length cx)).low hW1l
      have hW := hFam.bsW (fs := [((.slice at1 b.things.length ct1), b.things)]) hrow2 Hnm.out
      rw [Hlen.out] at hW hFam ⊢
      exact ⟨⟨_, _, _, _, ps, rfl, hW, Hps2.out, hFam⟩, below_set2 hBB (Nat.le_succ _) _ _⟩
end Go.Proofs.YtkgbdjdgcacblaaGreatDoor
