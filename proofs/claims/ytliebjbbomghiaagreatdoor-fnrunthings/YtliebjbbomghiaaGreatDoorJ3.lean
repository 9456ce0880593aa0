/- An append of any list, the empty one too. -/
import Derived.Test.YtliebjbbomghiaaGreatDoorKf
import Derived.Test.YtliebjbbomghiaaGreatDoorJ1
import Derived.Test.YtliebjbbomghiaaGreatDoorJ0
import Derived.Deep.MidRow
import Derived.Lib.SlicesCompact
namespace Go.Proofs.YtliebjbbomghiaaGreatDoor
open Go.RowKit

theorem run_append_both {P : Program} {w : World} (base : Nat) (t ty e : TypeId) (i : TypeInfo) (z : Value) (size bytes : Nat) (ht : P.underlying t = some (.slice e)) (hi : P.info? e = some i) (hz : i.zero = some z)
    (hsize : i.size = size) (hby : i.bytes = bytes) (hzs : z.cells.size = size) (hsz : 0 < size) (v : Value) (n : Nat) (xs : List Value) (hown : w.ownsRow base e size v n xs)
    (ad : Option Addr) (m c : Nat) (news : List Value) (hl : news.length = m * size) (hnews : 0 < m → ∃ d, ad = some d ∧ ∀ j u, news[j]? = some u → w.cell? (d.add j) = some u) (h1 : ∀ u ∈ news, u.oneCell' = true)
    (h63 : n + m ≤ maxLen) (hbytes : (n + m) * bytes ≤ 140737488355328) (hbase : base ≤ w.heap.size) :
    ∃ v' w', (Builtin.append_ #[t, t] ty #[v, .slice ad m c]).run P w = .ok v' w' ∧ w'.ownsRow base e size v' (n + m) (xs ++ news) ∧ w.grownBy w' v.ownBlock ∧ (NN v → NN v') := by
  rcases Nat.eq_zero_or_pos m with rfl | hm
  · obtain rfl : news = [] := List.length_eq_zero_iff.1 (by simpa using hl)
    exact ⟨v, w, run_append_zero base t ty e i size ht hi v n xs hown ad c, by simpa using hown, grown_refl _ _, fun h => h⟩
  · obtain ⟨d, rfl, hn⟩ := hnews hm
    obtain ⟨v', w', hr, h2, h3, _⟩ := run_append_own (P := P) w base t ty e i z size bytes ht hi hz hsize hby hzs hsz v n xs hown d m c news hl hn h1 h63 hbytes hbase
    exact ⟨v', w', hr, h2, h3, fun _ => by obtain ⟨g, cap, e⟩ := own_ptr2 h2 (by omega); exact ⟨g, _, _, e⟩⟩
theorem wpList_append_both {P : Program} (w : World) {ops : Array Oper} {rest : List Oper} {o : Oper} {a : Act} {Q : Exit → Act → World → Prop} (hgd : o.guard = none) (s x : Operand) (t : TypeId)
    (hop : o.op = Op.call { callee := Callee.builtin Builtin.append, args := #[s, x], argTypes := #[t, t] })
    (base : Nat) (e : TypeId) (i : TypeInfo) (z : Value) (size bytes : Nat) (ht : P.underlying t = some (.slice e)) (hi : P.info? e = some i) (hz : i.zero = some z)
    (hsize : i.size = size) (hby : i.bytes = bytes) (hzs : z.cells.size = size) (hsz : 0 < size) (v : Value) (n : Nat) (xs : List Value) (hs : a.eval s = v) (hown : w.ownsRow base e size v n xs)
    (ad : Option Addr) (m c : Nat) (news : List Value) (hx : a.eval x = .slice ad m c) (hl : news.length = m * size) (hnews : 0 < m → ∃ d, ad = some d ∧ ∀ j u, news[j]? = some u → w.cell? (d.add j) = some u) (h1 : ∀ u ∈ news, u.oneCell' = true)
    (h63 : n + m ≤ maxLen) (hbytes : (n + m) * bytes ≤ 140737488355328) (hbase : base ≤ w.heap.size)
    (h : ∀ v' w', w'.ownsRow base e size v' (n + m) (xs ++ news) → w.grownBy w' v.ownBlock → (NN v → NN v') → wpList P ops Q rest (a.put o.dst v') w') : wpList P ops Q (o :: rest) a w := by
  refine wpList_plain hgd fun K hK => ?_
  obtain ⟨v', w', hr, h2, h3, h4⟩ := run_append_both (P := P) (w := w) base t o.type e i z size bytes ht hi hz hsize hby hzs hsz v n xs hown ad m c news hl hnews h1 h63 hbytes hbase
  unfold Oper.wp execOp
  simp only [hop, resolve, invoke, builtin, Sem.run_bind, Sem.run_pure, Result.andThen_ok, List.map_toArray, List.map_cons, List.map_nil, hs, hx, hr]
  exact hK _ _ (h v' w' h2 h3 h4)
theorem step_append_both {P : Program} {ops : Array Oper} {o : Oper} {a : Act} {w : World} {K : Act → World → Prop} {Q : Exit → Act → World → Prop} {E : Prop}
    (hg : o.guard = none) (s x : Operand) (t : TypeId) (hop : o.op = Op.call { callee := Callee.builtin Builtin.append, args := #[s, x], argTypes := #[t, t] })
    (base : Nat) (e : TypeId) (i : TypeInfo) (z : Value) (size bytes : Nat) (ht : P.underlying t = some (.slice e)) (hi : P.info? e = some i) (hz : i.zero = some z)
    (hsize : i.size = size) (hby : i.bytes = bytes) (hzs : z.cells.size = size) (hsz : 0 < size) (v : Value) (n : Nat) (xs : List Value) (hs : a.eval s = v) (hown : w.ownsRow base e size v n xs)
    (ad : Option Addr) (m c : Nat) (news : List Value) (hx : a.eval x = .slice ad m c) (hl : news.length = m * size) (hnews : 0 < m → ∃ d, ad = some d ∧ ∀ j u, news[j]? = some u → w.cell? (d.add j) = some u) (h1 : ∀ u ∈ news, u.oneCell' = true)
    (h63 : n + m ≤ maxLen) (hbytes : (n + m) * bytes ≤ 140737488355328) (hbase : base ≤ w.heap.size)
    (hK : ∀ v' w', w'.ownsRow base e size v' (n + m) (xs ++ news) → w.grownBy w' v.ownBlock → (NN v → NN v') → K (a.put o.dst v') w') :
    if Region.wanted o (yielded ops a.tmps) = true then Oper.wp P o a w K Q else E := by
  have hw : Region.wanted o (yielded ops a.tmps) = true := by simp [Region.wanted, hg]
  rw [if_pos hw]
  obtain ⟨v', w', hr, h2, h3, h4⟩ := run_append_both (P := P) (w := w) base t o.type e i z size bytes ht hi hz hsize hby hzs hsz v n xs hown ad m c news hl hnews h1 h63 hbytes hbase
  unfold Oper.wp
  simp [execOp, hop, resolve, invoke, builtin, hs, hx, hr, Result.andThen]
  exact hK v' w' h2 h3 h4
end Go.Proofs.YtliebjbbomghiaaGreatDoor

/- A name put into an ascending list: plain facts, and what is at hand while lists are joined. -/
namespace Go.Proofs.YtliebjbbomghiaaGreatDoor
open Go.RowKit

def lessB (a b : ByteArray) : Bool := Op.bytesLess a.toList b.toList
def sameB (a b : ByteArray) : Bool := a.toList == b.toList
/-- A name put into an ascending list. -/
def insL : List ByteArray → ByteArray → List ByteArray
  | [], x => [x]
  | y :: r, x => if lessB y x = true then y :: insL r x else if sameB y x = true then y :: r else x :: y :: r
/-- The first k are less. -/
def lowL (ss : List ByteArray) (x : ByteArray) (k : Nat) : Prop := ∀ (j : Nat) (s : ByteArray), j < k → ss[j]? = some s → lessB s x = true
theorem lowL_succ {ss : List ByteArray} {x : ByteArray} {k : Nat} (h : lowL ss x k) (hk : k < ss.length) (hl : lessB (ss[k]) x = true) : lowL ss x (k + 1) := fun j s hj hs => by
  rcases Nat.lt_or_ge j k with h' | h'
  · exact h j s h' hs
  · obtain rfl : j = k := by omega
    obtain ⟨_, rfl⟩ := List.getElem?_eq_some_iff.1 hs
    exact hl
theorem insL_new : ∀ (ss : List ByteArray) (x : ByteArray) (k : Nat), lowL ss x k → k ≤ ss.length → (∀ s, ss[k]? = some s → lessB s x = false ∧ sameB s x = false) → insL ss x = ss.take k ++ x :: ss.drop k
  | [], x, 0, _, _, _ => rfl
  | [], x, k + 1, _, h, _ => by simp at h
  | y :: r, x, 0, _, _, h => by
    obtain ⟨h1, h2⟩ := h y rfl
    rw [insL, h1, h2]; rfl
  | y :: r, x, k + 1, hl, hk, h => by
    have h0 := hl 0 y (by omega) rfl
    rw [insL, if_pos h0, insL_new r x k (fun j s hj hs => hl (j + 1) s (by omega) (by simpa using hs)) (by simpa using hk) (fun s hs => h s (by simpa using hs))]
    rfl
theorem insL_old : ∀ (ss : List ByteArray) (x : ByteArray) (k : Nat), lowL ss x k → (∃ s, ss[k]? = some s ∧ lessB s x = false ∧ sameB s x = true) → insL ss x = ss
  | [], x, k, _, ⟨s, hs, _⟩ => by simp at hs
  | y :: r, x, 0, _, ⟨s, hs, h1, h2⟩ => by
    obtain rfl : y = s := by simpa using hs
    rw [insL, h1, h2]; rfl
  | y :: r, x, k + 1, hl, ⟨s, hs, h1, h2⟩ => by
    have h0 := hl 0 y (by omega) rfl
    rw [insL, if_pos h0, insL_old r x k (fun j s hj hs => hl (j + 1) s (by omega) (by simpa using hs)) ⟨s, by simpa using hs, h1, h2⟩]
theorem insL_len (ss : List ByteArray) (x : ByteArray) : (insL ss x).length ≤ ss.length + 1 := by
  induction ss with
  | nil => simp [insL]
  | cons y r ih =>
    rw [insL]
    split
    · simp; omega
    · split <;> simp

/-- What is at hand while names are joined. -/
def Ow (w W : World) (g : Nat) (ss : List ByteArray) (v : Value) (n : Nat) (xs : List Value) : Prop := W.ownsRow w.heap.size 9 1 v n xs ∧ StrsAt W g 0 ss ∧ Below w.heap.size w W
theorem Ow.grow {w W W' : World} {g n n' : Nat} {ss : List ByteArray} {v v' : Value} {xs ys : List Value} (h : Ow w W g ss v n xs) (hg : g < w.heap.size) (hgr : W.grownBy W' v.ownBlock) (ho : W'.ownsRow w.heap.size 9 1 v' n' ys) : Ow w W' g ss v' n' ys :=
  ⟨ho, h.2.1.own h.1 hgr hg, below_own h.2.2 h.1 hgr (Nat.le_refl _)⟩
theorem Ow.alloc {w W : World} {g n : Nat} {ss : List ByteArray} {v : Value} {xs : List Value} (h : Ow w W g ss v n xs) (o : Obj) : Ow w (W.alloc o) g ss v n xs :=
  ⟨h.1.alloc o, h.2.1.alloc o, h.2.2.alloc h.2.2.size o⟩
theorem Ow.drew {w W : World} {g n : Nat} {ss : List ByteArray} {v : Value} {xs : List Value} (h : Ow w W g ss v n xs) : Ow w W.drew g ss v n xs := ⟨h.1, h.2.1, h.2.2.drew⟩
theorem ow_lit {w W : World} {g : Nat} {ss : List ByteArray} (hS : StrsAt W g 0 ss) (hB : Below w.heap.size w W) : Ow w (W.alloc (.cells #[] 9)) g ss (.slice (some ⟨W.heap.size, 0, none⟩) 0 0) 0 [] :=
  ⟨World.ownsRow_lit W #[] 0 hB.size (Nat.zero_le _) rfl, hS.alloc _, hB.alloc hB.size _⟩
theorem strs_drop {W : World} {g o2 k c : Nat} {ss : List ByteArray} (h : StrsAt W g 0 ss) (ho : (if c = k then some (⟨g, 0, none⟩ : Addr) else some ⟨g, k, none⟩) = some ⟨g, o2, none⟩) (hc : ss.length ≤ c) : StrsAt W g o2 (ss.drop k) := by
  by_cases h7 : c = k
  · intro i s hs
    have := (List.getElem?_eq_some_iff.1 hs).1; simp at this; omega
  · rw [if_neg h7] at ho
    obtain rfl : k = o2 := by simpa using ho
    have := h.drop k
    simpa using this
end Go.Proofs.YtliebjbbomghiaaGreatDoor

/- Recipes: plain facts. -/
namespace Go.Proofs.YtliebjbbomghiaaGreatDoor
open Go.RowKit
structure Ph where
  nm : ByteArray
  k : Int
  a : ByteArray
  b : ByteArray
  n : Int
  wi : Int
  t : ByteArray
  e : ByteArray
def Ph.cells (p : Ph) : List Value := [.string p.nm, .int .i64 p.k, .string p.a, .string p.b, .int .i64 p.n, .int .i64 p.wi, .string p.t, .string p.e]
def Ph.okB (p : Ph) : Bool := phaseB p.nm p.k p.a p.b p.n p.wi p.t p.e
/-- The recipe lies in block b from cell o on. -/
def RecAt (w : World) (b o : Nat) (ps : List Ph) : Prop := ∀ (i : Nat) (p : Ph), ps[i]? = some p → w.rangeAt b (o + i * 8) p.cells
/-- Its texts have sizes. -/
def Sized (ps : List Ph) : Prop := ∀ p ∈ ps, p.nm.size ≤ maxLen ∧ p.a.size ≤ maxLen ∧ p.b.size ≤ maxLen ∧ p.t.size ≤ maxLen ∧ p.e.size ≤ maxLen
def hasB (ps : List Ph) (nm : ByteArray) : Bool := ps.any fun p => p.nm.toList == nm.toList
def atI (ps : List Ph) (nm : ByteArray) : Int := match ps.findIdx? fun p => p.nm.toList == nm.toList with
  | some i => i
  | none => -1
theorem RecAt.cells {w : World} {b o : Nat} {ps : List Ph} (h : RecAt w b o ps) (i : Nat) (hi : i < ps.length) :
    w.cell? ⟨b, o + i * 8, none⟩ = some (.string (ps[i]).nm) ∧ w.cell? ⟨b, o + i * 8 + 1, none⟩ = some (.int .i64 (ps[i]).k) ∧ w.cell? ⟨b, o + i * 8 + 2, none⟩ = some (.string (ps[i]).a) ∧ w.cell? ⟨b, o + i * 8 + 3, none⟩ = some (.string (ps[i]).b) ∧
    w.cell? ⟨b, o + i * 8 + 4, none⟩ = some (.int .i64 (ps[i]).n) ∧ w.cell? ⟨b, o + i * 8 + 5, none⟩ = some (.int .i64 (ps[i]).wi) ∧ w.cell? ⟨b, o + i * 8 + 6, none⟩ = some (.string (ps[i]).t) ∧ w.cell? ⟨b, o + i * 8 + 7, none⟩ = some (.string (ps[i]).e) := by
  have hr := h i ps[i] (by simp [hi])
  exact ⟨hr 0 _ rfl, hr 1 _ rfl, hr 2 _ rfl, hr 3 _ rfl, hr 4 _ rfl, hr 5 _ rfl, hr 6 _ rfl, hr 7 _ rfl⟩
theorem RecAt.drop {w : World} {b o : Nat} {ps : List Ph} (h : RecAt w b o ps) (i : Nat) : RecAt w b (o + i * 8) (ps.drop i) := fun j p hp => by
  have := h (i + j) p (by simpa [List.getElem?_drop] using hp)
  rwa [show o + i * 8 + j * 8 = o + (i + j) * 8 by omega]
theorem RecAt.up {w w' : World} {b o B : Nat} {ps : List Ph} (h : RecAt w b o ps) (hb : Below B w w') (hB : b < B) : RecAt w' b o ps := fun i p hp j v hv => by
  rw [hb.cell (p := ⟨b, o + i * 8 + j, none⟩) hB]; exact h i p hp j v hv
theorem hasB_take (ps : List Ph) (nm : ByteArray) (k : Nat) (h : k < ps.length) : hasB (ps.take (k + 1)) nm = (hasB (ps.take k) nm || ((ps[k]).nm.toList == nm.toList)) := by
  unfold hasB; rw [List.take_succ_eq_append_getElem h, List.any_append]; simp
theorem hasB_all (ps : List Ph) (nm : ByteArray) (k : Nat) (h : ¬ k < ps.length) (hn : hasB (ps.take k) nm = false) : hasB ps nm = false := by
  rwa [List.take_of_length_le (by omega)] at hn
theorem hasB_yes (ps : List Ph) (nm : ByteArray) (k : Nat) (h : k < ps.length) (he : ((ps[k]).nm.toList == nm.toList) = true) : hasB ps nm = true := by
  unfold hasB; rw [List.any_eq_true]; exact ⟨ps[k], by simp, he⟩
theorem hasB_iff (ps : List Ph) (nm : ByteArray) : hasB ps nm = true ↔ ∃ (j : Nat) (q : Ph), ps[j]? = some q ∧ (q.nm.toList == nm.toList) = true := by
  unfold hasB; rw [List.any_eq_true]
  constructor
  · rintro ⟨q, hq, he⟩
    obtain ⟨j, hj, rfl⟩ := List.getElem_of_mem hq
    exact ⟨j, ps[j], by simp [hj], he⟩
  · rintro ⟨j, q, hq, he⟩
    exact ⟨q, List.mem_of_getElem? hq, he⟩
theorem atI_none (ps : List Ph) (nm : ByteArray) (h : hasB ps nm = false) : atI ps nm = -1 := by
  have : (ps.findIdx? fun p => p.nm.toList == nm.toList) = none := by
    rw [List.findIdx?_eq_none_iff]; simpa [hasB] using h
  simp only [atI, this]
theorem atI_found (ps : List Ph) (nm : ByteArray) (k : Nat) (h : k < ps.length) (hn : hasB (ps.take k) nm = false) (he : ((ps[k]).nm.toList == nm.toList) = true) : atI ps nm = k := by
  have : (ps.findIdx? fun p => p.nm.toList == nm.toList) = some k := by
    rw [List.findIdx?_eq_some_iff_getElem]
    refine ⟨h, he, fun j hj => ?_⟩
    intro hc
    have : hasB (ps.take k) nm = true := by
      rw [hasB_iff]
      exact ⟨j, ps[j], by simp [hj, Nat.lt_trans hj h], hc⟩
    rw [hn] at this; cases this
  simp only [atI, this]
def goesB (later : List Ph) (nm : ByteArray) : Bool := endN nm != 0 || hasB later nm
end Go.Proofs.YtliebjbbomghiaaGreatDoor

/- When a recipe is ok: both sides' tests are one. -/
namespace Go.Proofs.YtliebjbbomghiaaGreatDoor
/-- The program's test of the phase at place i. -/
def stepI (ps : List Ph) (i : Nat) (p : Ph) : Bool := p.okB && !hasB (ps.drop (i + 1)) p.nm && goesB (ps.drop (i + 1)) p.t && goesB (ps.drop (i + 1)) p.e
/-- The specification's. -/
def stepS (ps : List Ph) (i : Nat) (p : Ph) : Bool := p.okB && atI ps p.nm == (i : Int) && !(endN p.t == 0 && decide (atI ps p.t ≤ (i : Int))) && !(endN p.e == 0 && decide (atI ps p.e ≤ (i : Int)))
def allI (ps : List Ph) (k : Nat) : Prop := ∀ (i : Nat) (p : Ph), i < k → ps[i]? = some p → stepI ps i p = true
def allS (ps : List Ph) (k : Nat) : Prop := ∀ (i : Nat) (p : Ph), i < k → ps[i]? = some p → stepS ps i p = true
/-- A recipe that is ok. -/
def recB (ps : List Ph) : Bool := decide (1 ≤ ps.length) && decide (ps.length ≤ 12) && (List.range ps.length).all fun i => (ps[i]?.map (stepI ps i)).getD true
theorem recB_iff (ps : List Ph) : recB ps = true ↔ 1 ≤ ps.length ∧ ps.length ≤ 12 ∧ allI ps ps.length := by
  simp only [recB, Bool.and_eq_true, decide_eq_true_eq, List.all_eq_true, List.mem_range, allI, and_assoc]
  refine and_congr_right fun _ => and_congr_right fun _ => ⟨fun h i p hi hp => ?_, fun h i hi => ?_⟩
  · have := h i hi; simpa [hp] using this
  · have hg : ps[i]? = some ps[i] := by simp [hi]
    rw [hg]; simpa using h i ps[i] hi hg
theorem hasB_drop (ps : List Ph) (nm : ByteArray) (i : Nat) : hasB (ps.drop i) nm = true ↔ ∃ (j : Nat) (q : Ph), i ≤ j ∧ ps[j]? = some q ∧ (q.nm.toList == nm.toList) = true := by
  rw [hasB_iff]
  constructor
  · rintro ⟨j, q, hq, he⟩
    exact ⟨i + j, q, by omega, by simpa [List.getElem?_drop] using hq, he⟩
  · rintro ⟨j, q, hj, hq, he⟩
    exact ⟨j - i, q, by rw [List.getElem?_drop, show i + (j - i) = j by omega]; exact hq, he⟩
theorem atI_cases (ps : List Ph) (nm : ByteArray) : (hasB ps nm = false ∧ atI ps nm = -1) ∨ ∃ (j : Nat) (q : Ph), ps[j]? = some q ∧ (q.nm.toList == nm.toList) = true ∧ atI ps nm = (j : Int) ∧ ∀ (l : Nat) (r : Ph), l < j → ps[l]? = some r → (r.nm.toList == nm.toList) = false := by
  cases h : ps.findIdx? fun p => p.nm.toList == nm.toList with
  | none =>
    left
    rw [List.findIdx?_eq_none_iff] at h
    exact ⟨by simpa [hasB] using h, by simp only [atI, List.findIdx?_eq_none_iff.2 h]⟩
  | some j =>
    right
    have h' := h
    rw [List.findIdx?_eq_some_iff_getElem] at h
    obtain ⟨hj, he, hl⟩ := h
    refine ⟨j, ps[j], by simp [hj], he, by simp only [atI, h'], fun l r hlj hr => ?_⟩
    obtain ⟨hl', rfl⟩ := List.getElem?_eq_some_iff.1 hr
    simpa using hl l hlj
theorem beq_trans' {a b c : List UInt8} (h1 : (a == b) = true) (h2 : (c == b) = true) : (a == c) = true := by
  rw [beq_iff_eq] at *; rw [h1, h2]
/-- The two tests over the whole recipe say one thing. -/
theorem allI_iff_allS (ps : List Ph) : allI ps ps.length ↔ allS ps ps.length := by
  have lt_of : ∀ {i : Nat} {p : Ph}, ps[i]? = some p → i < ps.length := fun h => (List.getElem?_eq_some_iff.1 h).1
  -- what follows where names are found once
  have key : ∀ (i : Nat) (nm : ByteArray), (∀ (l j : Nat) (r q : Ph), ps[l]? = some r → ps[j]? = some q → (r.nm.toList == q.nm.toList) = true → l = j) →
      (goesB (ps.drop (i + 1)) nm = true ↔ (!(endN nm == 0 && decide (atI ps nm ≤ (i : Int)))) = true) := by
    intro i nm hu
    unfold goesB
    by_cases h0 : endN nm = 0
    · simp only [h0, bne_self_eq_false, Bool.false_or, beq_self_eq_true, Bool.true_and, Bool.not_eq_true', decide_eq_false_iff_not]
      rw [hasB_drop]
      rcases atI_cases ps nm with ⟨hn, ha⟩ | ⟨j, q, hq, he, ha, _⟩
      · rw [ha]
        constructor
        · rintro ⟨l, r, _, hr, hre⟩
          have : hasB ps nm = true := (hasB_iff _ _).2 ⟨l, r, hr, hre⟩
          rw [hn] at this; cases this
        · intro h; omega
      · rw [ha]
        constructor
        · rintro ⟨l, r, hl, hr, hre⟩
          have := hu l j r q hr hq (beq_trans' hre he)
          omega
        · intro h
          exact ⟨j, q, by omega, hq, he⟩
    · have : (endN nm == 0) = false := by simpa using h0
      simp [this, bne]
  constructor
  · intro h i p hi hp
    have hu : ∀ (l j : Nat) (r q : Ph), ps[l]? = some r → ps[j]? = some q → (r.nm.toList == q.nm.toList) = true → l = j := by
      intro l j r q hr hq he
      rcases Nat.lt_trichotomy l j with hlj | rfl | hlj
      · have hs := h l r (lt_of hr) hr
        simp only [stepI, Bool.and_eq_true, Bool.not_eq_true'] at hs
        have : hasB (ps.drop (l + 1)) r.nm = true := (hasB_drop _ _ _).2 ⟨j, q, hlj, hq, by rw [Bool.beq_comm]; exact he⟩
        rw [hs.1.1.2] at this; cases this
      · rfl
      · have hs := h j q (lt_of hq) hq
        simp only [stepI, Bool.and_eq_true, Bool.not_eq_true'] at hs
        have : hasB (ps.drop (j + 1)) q.nm = true := (hasB_drop _ _ _).2 ⟨l, r, hlj, hr, he⟩
        rw [hs.1.1.2] at this; cases this
    have hs := h i p hi hp
    simp only [stepI, Bool.and_eq_true] at hs
    simp only [stepS, Bool.and_eq_true]
    refine ⟨⟨⟨hs.1.1.1, ?_⟩, (key i p.t hu).1 hs.1.2⟩, (key i p.e hu).1 hs.2⟩
    rcases atI_cases ps p.nm with ⟨hn, _⟩ | ⟨j, q, hq, he, ha, _⟩
    · have : hasB ps p.nm = true := (hasB_iff _ _).2 ⟨i, p, hp, by simp⟩
      rw [hn] at this; cases this
    · rw [ha, hu j i q p hq hp he]; simp
  · intro h i p hi hp
    have hu : ∀ (l j : Nat) (r q : Ph), ps[l]? = some r → ps[j]? = some q → (r.nm.toList == q.nm.toList) = true → l = j := by
      intro l j r q hr hq he
      have h1 := h l r (lt_of hr) hr
      have h2 := h j q (lt_of hq) hq
      simp only [stepS, Bool.and_eq_true, beq_iff_eq] at h1 h2
      have : atI ps r.nm = atI ps q.nm := by
        have e : r.nm.toList = q.nm.toList := by simpa using he
        simp only [atI, e]
      have := h1.1.1.2.symm.trans (this.trans h2.1.1.2)
      omega
    have hs := h i p hi hp
    simp only [stepS, Bool.and_eq_true] at hs
    simp only [stepI, Bool.and_eq_true]
    refine ⟨⟨⟨hs.1.1.1, ?_⟩, (key i p.t hu).2 hs.1.2⟩, (key i p.e hu).2 hs.2⟩
    rw [Bool.not_eq_true', ← Bool.not_eq_true]
    intro hc
    obtain ⟨j, q, hj, hq, he⟩ := (hasB_drop _ _ _).1 hc
    have := hu j i q p hq hp he
    omega
theorem recB_iffS (ps : List Ph) : recB ps = true ↔ 1 ≤ ps.length ∧ ps.length ≤ 12 ∧ allS ps ps.length := by rw [recB_iff, allI_iff_allS]
theorem nand_of {x : Bool} {Q : Prop} [Decidable Q] (h : ¬ (x = true ∧ Q)) : (!(x && decide Q)) = true := by cases x <;> simp_all
theorem recB_noS (ps : List Ph) (k : Nat) (hk : k < ps.length) (h : stepS ps k ps[k] = false) : recB ps = false := by
  rw [← Bool.not_eq_true, recB_iffS]
  rintro ⟨_, _, ha⟩
  have := ha k ps[k] hk (by simp [hk])
  rw [h] at this; cases this
theorem recB_noI (ps : List Ph) (k : Nat) (hk : k < ps.length) (h : stepI ps k ps[k] = false) : recB ps = false := by
  rw [← Bool.not_eq_true, recB_iff]
  rintro ⟨_, _, ha⟩
  have := ha k ps[k] hk (by simp [hk])
  rw [h] at this; cases this
theorem recB_len (ps : List Ph) (h : ¬ (1 ≤ ps.length ∧ ps.length ≤ 12)) : recB ps = false := by
  rw [← Bool.not_eq_true, recB_iff]
  rintro ⟨h1, h2, _⟩; exact h ⟨h1, h2⟩
theorem allS_succ {ps : List Ph} {k : Nat} (h : allS ps k) (hk : k < ps.length) (hs : stepS ps k ps[k] = true) : allS ps (k + 1) := fun i p hi hp => by
  rcases Nat.lt_or_ge i k with h' | h'
  · exact h i p h' hp
  · obtain rfl : i = k := by omega
    obtain ⟨_, rfl⟩ := List.getElem?_eq_some_iff.1 hp
    exact hs
theorem allI_succ {ps : List Ph} {k : Nat} (h : allI ps k) (hk : k < ps.length) (hs : stepI ps k ps[k] = true) : allI ps (k + 1) := fun i p hi hp => by
  rcases Nat.lt_or_ge i k with h' | h'
  · exact h i p h' hp
  · obtain rfl : i = k := by omega
    obtain ⟨_, rfl⟩ := List.getElem?_eq_some_iff.1 hp
    exact hs
theorem allS_zero (ps : List Ph) : allS ps 0 := fun _ _ h => by omega
theorem allI_zero (ps : List Ph) : allI ps 0 := fun _ _ h => by omega
theorem recB_yesS (ps : List Ph) (k : Nat) (h1 : 1 ≤ ps.length ∧ ps.length ≤ 12) (hk : k ≤ ps.length) (hk' : ¬ k < ps.length) (ha : allS ps k) : recB ps = true := by
  obtain rfl : k = ps.length := by omega
  exact (recB_iffS ps).2 ⟨h1.1, h1.2, ha⟩
theorem recB_yesI (ps : List Ph) (k : Nat) (h1 : 1 ≤ ps.length ∧ ps.length ≤ 12) (hk : k ≤ ps.length) (hk' : ¬ k < ps.length) (ha : allI ps k) : recB ps = true := by
  obtain rfl : k = ps.length := by omega
  exact (recB_iff ps).2 ⟨h1.1, h1.2, ha⟩
end Go.Proofs.YtliebjbbomghiaaGreatDoor

/- Slots in plain: lists joined. -/
namespace Go.Proofs.YtliebjbbomghiaaGreatDoor

def bothL (a : List ByteArray) (b : List ByteArray) : List ByteArray := b.foldl insL a
theorem bothL_take (a b : List ByteArray) (k : Nat) (hk : k < b.length) : bothL a (b.take (k + 1)) = insL (bothL a (b.take k)) b[k] := by
  unfold bothL; rw [List.take_succ_eq_append_getElem hk, List.foldl_append]; rfl
theorem bothL_len (a : List ByteArray) : ∀ b : List ByteArray, (bothL a b).length ≤ a.length + b.length
  | [] => by simp [bothL]
  | x :: r => by
    have h1 := bothL_len (insL a x) r
    have h2 := insL_len a x
    simp only [bothL, List.foldl_cons, List.length_cons] at *
    omega
/-- The slots of a phase alone. -/
def ofL (p : Ph) : List ByteArray := if p.k = 2 then insL [p.a] p.b else [p.a]
end Go.Proofs.YtliebjbbomghiaaGreatDoor

/- Names in order: plain facts. -/
namespace Go.Proofs.YtliebjbbomghiaaGreatDoor

theorem less_eq : ∀ (x y : List UInt8), Op.bytesLess x y = decide (x < y)
  | [], [] => by simp [Op.bytesLess]
  | _ :: _, [] => by simp [Op.bytesLess]
  | [], _ :: _ => by simp [Op.bytesLess]
  | a :: x, b :: y => by
    rw [Op.bytesLess, less_eq x y]
    simp only [List.cons_lt_cons_iff]
    by_cases h1 : a < b <;> by_cases h2 : a = b <;> by_cases h3 : x < y <;> simp [h1, h2, h3]
abbrev Key := List UInt8
theorem key_irrefl (x : Key) : ¬ x < x := List.lt_irrefl x
theorem key_trans {x y z : Key} (h : x < y) (k : y < z) : x < z := List.lt_trans h k
theorem key_tri (x y : Key) : x < y ∨ x = y ∨ y < x := by
  rcases Decidable.em (x < y) with h | h
  · exact .inl h
  · rcases Decidable.em (y < x) with k | k
    · exact .inr (.inr k)
    · exact .inr (.inl (List.le_antisymm (List.not_lt.1 k) (List.not_lt.1 h)))
theorem key_le {x y : Key} : x ≤ y ↔ x < y ∨ x = y := by
  constructor
  · intro h
    rcases key_tri x y with k | k | k
    · exact .inl k
    · exact .inr k
    · exact absurd k (List.not_lt.2 h)
  · rintro (h | rfl)
    · exact List.not_lt.1 fun k => key_irrefl _ (key_trans h k)
    · exact List.le_refl _
/-- Two ascending lists of the same names are one. -/
theorem asc_unique : ∀ (a b : List Key), a.Pairwise (· < ·) → b.Pairwise (· < ·) → (∀ x, x ∈ a ↔ x ∈ b) → a = b
  | [], [], _, _, _ => rfl
  | [], y :: s, _, _, h => by have := (h y).2 (by simp); simp at this
  | x :: r, [], _, _, h => by have := (h x).1 (by simp); simp at this
  | x :: r, y :: s, ha, hb, h => by
    obtain ⟨ha1, ha2⟩ := List.pairwise_cons.1 ha
    obtain ⟨hb1, hb2⟩ := List.pairwise_cons.1 hb
    have e : x = y := by
      rcases List.mem_cons.1 ((h x).1 (by simp)) with e | e
      · exact e
      · rcases List.mem_cons.1 ((h y).2 (by simp)) with e' | e'
        · exact e'.symm
        · exact absurd (key_trans (hb1 x e) (ha1 y e')) (key_irrefl _)
    subst e
    rw [asc_unique r s ha2 hb2 fun z => ?_]
    constructor
    · intro hz
      rcases List.mem_cons.1 ((h z).1 (by simp [hz])) with e | e
      · subst e; exact absurd (ha1 z hz) (key_irrefl _)
      · exact e
    · intro hz
      rcases List.mem_cons.1 ((h z).2 (by simp [hz])) with e | e
      · subst e; exact absurd (hb1 z hz) (key_irrefl _)
      · exact e
/-- The names' bytes. -/
def keys (ss : List ByteArray) : List Key := ss.map (·.toList)
theorem key_inj {a b : ByteArray} (h : a.toList = b.toList) : a = b := by
  rw [Go.ByteArray.toList_eq, Go.ByteArray.toList_eq] at h
  cases a; cases b; simp at h; rw [h]
theorem ins_keys (ss : List ByteArray) (x : ByteArray) : (∀ z, z ∈ keys (insL ss x) ↔ z ∈ keys ss ∨ z = x.toList) ∧ ((keys ss).Pairwise (· < ·) → (keys (insL ss x)).Pairwise (· < ·)) := by
  induction ss with
  | nil => simp [insL, keys]
  | cons y r ih =>
    obtain ⟨im, ip⟩ := ih
    rw [insL]
    by_cases h1 : lessB y x = true
    · rw [if_pos h1]
      have h1' : y.toList < x.toList := by rw [lessB, less_eq] at h1; simpa using h1
      refine ⟨fun z => ?_, fun hp => ?_⟩
      · have := im z
        simp only [keys, List.map_cons, List.mem_cons] at this ⊢
        rw [this]; constructor
        · rintro (h | h | h)
          · exact .inl (.inl h)
          · exact .inl (.inr h)
          · exact .inr h
        · rintro ((h | h) | h)
          · exact .inl h
          · exact .inr (.inl h)
          · exact .inr (.inr h)
      · simp only [keys, List.map_cons] at hp ⊢
        obtain ⟨p1, p2⟩ := List.pairwise_cons.1 hp
        refine List.pairwise_cons.2 ⟨fun z hz => ?_, ip p2⟩
        rcases (im z).1 hz with h | h
        · exact p1 z h
        · subst h; exact h1'
    · rw [if_neg h1]
      have h1' : ¬ y.toList < x.toList := by rw [lessB, less_eq] at h1; simpa using h1
      by_cases h2 : sameB y x = true
      · rw [if_pos h2]
        have e : y.toList = x.toList := by simpa [sameB] using h2
        refine ⟨fun z => ?_, fun hp => hp⟩
        simp only [keys, List.map_cons, List.mem_cons]
        rw [e]; constructor
        · exact .inl
        · rintro (h | h)
          · exact h
          · exact .inl h
      · rw [if_neg h2]
        have e : y.toList ≠ x.toList := by simpa [sameB] using h2
        have lt : x.toList < y.toList := by
          rcases key_tri y.toList x.toList with k | k | k
          · exact absurd k h1'
          · exact absurd k e
          · exact k
        refine ⟨fun z => ?_, fun hp => ?_⟩
        · simp only [keys, List.map_cons, List.mem_cons]
          constructor
          · rintro (h | h | h)
            · exact .inr h
            · exact .inl (.inl h)
            · exact .inl (.inr h)
          · rintro ((h | h) | h)
            · exact .inr (.inl h)
            · exact .inr (.inr h)
            · exact .inl h
        · simp only [keys, List.map_cons] at hp ⊢
          refine List.pairwise_cons.2 ⟨fun z hz => ?_, hp⟩
          rcases List.mem_cons.1 hz with h | h
          · subst h; exact lt
          · exact key_trans lt ((List.pairwise_cons.1 hp).1 z h)
theorem both_keys (b : List ByteArray) : ∀ a : List ByteArray, (∀ z, z ∈ keys (bothL a b) ↔ z ∈ keys a ∨ z ∈ keys b) ∧ ((keys a).Pairwise (· < ·) → (keys (bothL a b)).Pairwise (· < ·)) := by
  induction b with
  | nil => intro a; exact ⟨fun z => by simp [bothL, keys], fun h => h⟩
  | cons x r ih =>
    intro a
    obtain ⟨im, ip⟩ := ih (insL a x)
    obtain ⟨jm, jp⟩ := ins_keys a x
    refine ⟨fun z => ?_, fun h => ip (jp h)⟩
    have h1 := im z
    have h2 := jm z
    show z ∈ keys (bothL (insL a x) r) ↔ _
    rw [h1, h2]
    simp only [keys, List.map_cons, List.mem_cons]
    constructor
    · rintro ((h | h) | h)
      · exact .inl h
      · exact .inr (.inl h)
      · exact .inr (.inr h)
    · rintro (h | h | h)
      · exact .inl (.inl h)
      · exact .inl (.inr h)
      · exact .inr h
/-- What is left of a list in order where neighbours are one: ascending, the same names. -/
theorem compact_keys (zs : List Key) (hs : zs.Pairwise (· ≤ ·)) : ∀ m, m ≤ zs.length → (Lib.compactUpTo zs.toArray m).Pairwise (· < ·) ∧ (∀ x, x ∈ Lib.compactUpTo zs.toArray m ↔ ∃ j, j < m ∧ zs[j]? = some x) ∧ (∀ x ∈ Lib.compactUpTo zs.toArray m, ∀ y, zs[m - 1]? = some y → x ≤ y) := by
  intro m
  induction m with
  | zero => intro _; simp [Lib.compactUpTo]
  | succ m ih =>
    intro hm
    obtain ⟨h1, h2, h3⟩ := ih (by omega)
    have hml : m < zs.length := by omega
    have hd : (zs.toArray)[m]! = zs[m] := by simp [hml]
    rw [Lib.compactUpTo_succ, hd]
    by_cases hk : Lib.keeps zs.toArray m = true
    · rw [if_pos hk]
      have hlt : ∀ x ∈ Lib.compactUpTo zs.toArray m, x < zs[m] := by
        intro x hx
        rcases Nat.eq_zero_or_pos m with h0 | h0
        · subst h0; simp [Lib.compactUpTo] at hx
        · have hm1 : m - 1 < zs.length := by omega
          have hle := h3 x hx zs[m - 1] (by simp [hm1])
          have hne : zs[m] ≠ zs[m - 1] := by
            simp only [Lib.keeps, decide_eq_true_eq] at hk
            rcases hk with hk | hk
            · omega
            · simpa [hml, hm1] using hk
          have hle2 : zs[m - 1] ≤ zs[m] := List.pairwise_iff_getElem.1 hs (m - 1) m hm1 hml (by omega)
          have hlt2 : zs[m - 1] < zs[m] := by
            rcases key_le.1 hle2 with k | k
            · exact k
            · exact absurd k.symm hne
          rcases key_le.1 hle with k | k
          · exact key_trans k hlt2
          · rw [k]; exact hlt2
      refine ⟨List.pairwise_append.2 ⟨h1, by simp, fun x hx y hy => by simp at hy; subst hy; exact hlt x hx⟩, fun x => ?_, fun x hx y hy => ?_⟩
      · rw [List.mem_append, h2, List.mem_singleton]
        constructor
        · rintro (⟨j, hj, e⟩ | rfl)
          · exact ⟨j, by omega, e⟩
          · exact ⟨m, by omega, by simp [hml]⟩
        · rintro ⟨j, hj, e⟩
          rcases Nat.lt_or_ge j m with h | h
          · exact .inl ⟨j, h, e⟩
          · obtain rfl : j = m := by omega
            right; rw [List.getElem?_eq_getElem hml] at e; exact (Option.some.inj e).symm
      · simp only [Nat.add_sub_cancel] at hy
        rw [List.getElem?_eq_getElem hml] at hy
        obtain rfl := Option.some.inj hy
        rcases List.mem_append.1 hx with h | h
        · exact key_le.2 (.inl (hlt x h))
        · simp at h; subst h; exact List.le_refl _
    · rw [if_neg hk, List.append_nil]
      have h0 : 0 < m := by
        rcases Nat.eq_zero_or_pos m with h | h
        · subst h; simp [Lib.keeps] at hk
        · exact h
      have hm1 : m - 1 < zs.length := by omega
      have he : zs[m] = zs[m - 1] := by
        simp only [Lib.keeps, decide_eq_true_eq, not_or, Decidable.not_not] at hk
        have := hk.2
        simpa [hml, hm1] using this
      refine ⟨h1, fun x => ?_, fun x hx y hy => ?_⟩
      · rw [h2]
        constructor
        · rintro ⟨j, hj, e⟩; exact ⟨j, by omega, e⟩
        · rintro ⟨j, hj, e⟩
          rcases Nat.lt_or_ge j m with h | h
          · exact ⟨j, h, e⟩
          · obtain rfl : j = m := by omega
            exact ⟨j - 1, by omega, by rw [List.getElem?_eq_getElem hml] at e; rw [List.getElem?_eq_getElem hm1, ← he]; exact e⟩
      · simp only [Nat.add_sub_cancel] at hy
        rw [List.getElem?_eq_getElem hml, he] at hy
        exact h3 x hx y (by rw [List.getElem?_eq_getElem hm1]; exact hy)
/-- What the program makes of three lists. -/
def uniq (l : List Key) : List Key := Lib.compact (l.mergeSort fun x y => decide (x ≤ y))
theorem uniq_keys (l : List Key) : (uniq l).Pairwise (· < ·) ∧ ∀ x, x ∈ uniq l ↔ x ∈ l := by
  have hs : (l.mergeSort fun x y => decide (x ≤ y)).Pairwise (· ≤ ·) := by
    have := List.pairwise_mergeSort (le := fun (x y : Key) => decide (x ≤ y)) (fun a b c h k => by
      simp only [decide_eq_true_eq] at *; exact List.le_trans h k) (fun a b => by
      simp only [Bool.or_eq_true, decide_eq_true_eq]; exact List.le_total a b) l
    simpa using this
  obtain ⟨h1, h2, _⟩ := compact_keys _ hs _ (Nat.le_refl _)
  refine ⟨h1, fun x => ?_⟩
  have := h2 x
  unfold uniq Lib.compact
  rw [this]
  have hm : x ∈ (l.mergeSort fun x y => decide (x ≤ y)) ↔ x ∈ l := List.mem_mergeSort
  rw [← hm, List.mem_iff_getElem?]
  constructor
  · rintro ⟨j, _, e⟩; exact ⟨j, e⟩
  · rintro ⟨j, e⟩; exact ⟨j, (List.getElem?_eq_some_iff.1 e).1, e⟩
end Go.Proofs.YtliebjbbomghiaaGreatDoor
