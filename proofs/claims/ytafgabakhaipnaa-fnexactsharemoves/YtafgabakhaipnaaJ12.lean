/- What opening an argument leans on: lists, cells, texts and numbers that can be read. -/
import Derived.Test.YtafgabakhaipnaaRows
import Derived.Test.YtafgabakhaipnaaJ9
import Derived.ProofKit
import Derived.OpenShut
import Derived.OpenVars
import Derived.LaidLaws
import Derived.Lib.LaidTab
import Derived.ChangeBears2
import Derived.Deep.DeepHandedRow
import Derived.Test.YtafgabakhaipnaaJ0
import Derived.Laws.Strings
namespace Go.Proofs.Ytafgabakhaipnaa
open Go.ChangeShapes Go.WideShapes Go.ChangeAt Go.RowKit

theorem own : ownKnob Try.prog.godebug = none := by kernel_rfl
theorem laidOut : laidOutB Try.prog = true := by kernel_rfl
theorem cellsString : Try.prog.cellsOf 9 = 1 := by kernel_rfl
theorem cellsInt : Try.prog.cellsOf 3 = 1 := by kernel_rfl
theorem str_of_trod {H : Type} {enc : TypeId × Value → H} {w : World} {base : Nat} {sp : Nat → Bool} {held : Bool} {fuel : Nat} {c : Value} {y : DataW H × List MemPlace}
    (h : DataW.trod enc Try.prog w base sp held fuel 9 [c] = some y) : ∃ s : ByteArray, c = .string s ∧ y = (.lit (.string s.data.toList), []) ∧ s.size ≤ maxLen := by
  obtain ⟨s, hc, hy, hs⟩ := DataW.trod_string Try.underlying9 h
  simp only [List.cons.injEq, and_true] at hc
  exact ⟨s, hc, hy, hs⟩
theorem int_of_trod {H : Type} {enc : TypeId × Value → H} {w : World} {base : Nat} {sp : Nat → Bool} {held : Bool} {fuel : Nat} {c : Value} {y : DataW H × List MemPlace}
    (h : DataW.trod enc Try.prog w base sp held fuel 3 [c] = some y) : ∃ n : Int, c = .int .i64 n ∧ y = (.lit (.int .i64 n), []) ∧ (Lit.int .i64 n).wf = true := by
  obtain ⟨s, hc, hy, hs⟩ := DataW.trod_int Try.underlying3 h
  simp only [List.cons.injEq, and_true] at hc
  exact ⟨s, hc, hy, hs⟩
theorem ba_of_list {s : ByteArray} {l : List UInt8} (h : s.data.toList = l) : s = ⟨l.toArray⟩ := by cases s; simp_all [← h]
theorem one_var {H : Type} {enc : TypeId × Value → H} {W : World} {sp : Nat → Bool} {n : String} {gs : List (DataW H)} {q : List MemPlace} (h : DataW.TrodVars enc Try.prog W sp [n] gs q) : ∃ g, gs = [g] := by
  match gs, h with
  | [], h => exact h.elim
  | [g], _ => exact ⟨g, rfl⟩
  | _ :: _ :: _, ⟨_, _, _, _, _, _, _, _, _, _, h, _⟩ => exact h.elim
theorem list_of {α : Type} (n : Nat) (Q : Nat → α → Prop) (h : ∀ i, i < n → ∃ p, Q i p) : ∃ ps : List α, ps.length = n ∧ ∀ (i : Nat) (p : α), ps[i]? = some p → Q i p := by
  induction n with
  | zero => exact ⟨[], rfl, fun i p hp => by simp at hp⟩
  | succ n ih =>
    obtain ⟨ps, hl, hq⟩ := ih fun i hi => h i (by omega)
    obtain ⟨p, hp⟩ := h n (by omega)
    refine ⟨ps ++ [p], by simp [hl], fun i q hq' => ?_⟩
    rw [List.getElem?_append] at hq'
    split at hq'
    · exact hq i q hq'
    · rename_i hi
      have : i = n := by
        rcases Nat.lt_or_ge (i - ps.length) 1 with h1 | h1
        · omega
        · rw [List.getElem?_eq_none (by simpa using h1)] at hq'; cases hq'
      subst this
      rw [hl, Nat.sub_self] at hq'
      obtain rfl : p = q := by simpa using hq'
      exact hp
theorem rangeAt_of_cells {w : World} {base b o n : Nat} {cs : List Value} (h : w.cells? base ⟨b, o, none⟩ n = some cs) : w.rangeAt b o cs := by
  unfold World.cells? at h
  split at h
  · intro j v hv
    have hl : cs.length = n := by simpa using Lib.mapM_length h
    have hj : j < n := by rw [← hl]; exact (List.getElem?_eq_some_iff.1 hv).1
    obtain ⟨x, hx, hc⟩ := Lib.mapM_at h j j (by simp [hj])
    rw [hv] at hx
    obtain rfl := Option.some.inj hx
    rwa [Addr.add_mid] at hc
  · cases h
theorem cellsBool : Try.prog.cellsOf 4 = 1 := by kernel_rfl
theorem list3 {α : Type} {l : List α} (h : l.length = 3) : ∃ c0 c1 c2, l = [c0, c1, c2] := by
  match l, h with
  | [c0, c1, c2], _ => exact ⟨c0, c1, c2, rfl⟩
theorem list2 {α : Type} {l : List α} (h : l.length = 2) : ∃ c0 c1, l = [c0, c1] := by
  match l, h with
  | [c0, c1], _ => exact ⟨c0, c1, rfl⟩
theorem bool_of_trod {H : Type} {enc : TypeId × Value → H} {w : World} {base : Nat} {sp : Nat → Bool} {held : Bool} {fuel : Nat} {c : Value} {y : DataW H × List MemPlace}
    (h : DataW.trod enc Try.prog w base sp held fuel 4 [c] = some y) : ∃ b : Bool, c = .bool b ∧ y = (.lit (.bool b), []) := by
  obtain ⟨s, hc, hy⟩ := DataW.trod_bool Try.underlying4 h
  simp only [List.cons.injEq, and_true] at hc
  exact ⟨s, hc, hy⟩
theorem list8 {α : Type} {l : List α} (h : l.length = 8) : ∃ c0 c1 c2 c3 c4 c5 c6 c7, l = [c0, c1, c2, c3, c4, c5, c6, c7] := by
  match l, h with
  | [c0, c1, c2, c3, c4, c5, c6, c7], _ => exact ⟨c0, c1, c2, c3, c4, c5, c6, c7, rfl⟩
end Go.Proofs.Ytafgabakhaipnaa

/- Books in plain: no program in it. -/
namespace Go.Proofs.Ytafgabakhaipnaa

/-- A batch; a book. -/
structure Ba where
  nm : ByteArray
  has : List ByteArray
  needs : List ByteArray
structure Bk where
  things : List ByteArray
  bs : List Ba
/-- Whether something holds, as a bool. -/
noncomputable def pB (p : Prop) : Bool := @decide p (Classical.propDecidable p)
theorem pB_yes {p : Prop} (h : p) : pB p = true := by unfold pB; simp [h]
theorem pB_no {p : Prop} (h : ¬ p) : pB p = false := by unfold pB; simp [h]
theorem pB_iff {p : Prop} : pB p = true ↔ p := by unfold pB; simp
theorem pB_not {p : Prop} : pB p = false ↔ ¬ p := by unfold pB; simp

def ltS (a b : ByteArray) : Bool := Op.bytesLess a.toList b.toList
def memS (l : List ByteArray) (s : ByteArray) : Bool := l.any fun x => x.toList == s.toList
def shareB (a b : List ByteArray) : Bool := a.any fun s => memS b s
theorem toL_eq {a b : ByteArray} (h : a.toList = b.toList) : a = b := by
  rw [Go.ByteArray.toList_eq, Go.ByteArray.toList_eq] at h
  cases a; cases b; simp at h; rw [h]
theorem memS_iff (l : List ByteArray) (s : ByteArray) : memS l s = true ↔ s ∈ l := by
  simp only [memS, List.any_eq_true, beq_iff_eq]
  constructor
  · rintro ⟨x, hx, h⟩; rwa [← toL_eq h]
  · exact fun h => ⟨s, h, rfl⟩
theorem memS_no (l : List ByteArray) (s : ByteArray) : memS l s = false ↔ s ∉ l := by rw [← memS_iff]; simp
theorem shareB_iff (a b : List ByteArray) : shareB a b = true ↔ ∃ s, s ∈ a ∧ s ∈ b := by
  simp only [shareB, List.any_eq_true, memS_iff]
theorem shareB_no (a b : List ByteArray) : shareB a b = false ↔ ∀ s, s ∈ a → s ∉ b := by
  rw [← Bool.not_eq_true, shareB_iff]; simp
theorem memS_take {l : List ByteArray} {s : ByteArray} {k : Nat} (hk : k < l.length) (h : memS (l.take k) s = false) (hq : ((l[k]).toList == s.toList) = false) : memS (l.take (k + 1)) s = false := by
  rw [List.take_succ_eq_append_getElem hk, memS, List.any_append]
  rw [memS] at h
  simp [h, hq]
theorem memS_found {l : List ByteArray} {s : ByteArray} {k : Nat} (hk : k < l.length) (hq : ((l[k]).toList == s.toList) = true) : memS l s = true := by
  rw [memS, List.any_eq_true]
  exact ⟨l[k], List.getElem_mem hk, hq⟩
theorem memS_all {l : List ByteArray} {s : ByteArray} {k : Nat} (hk : ¬ k < l.length) (h : memS (l.take k) s = false) : memS l s = false := by
  rwa [List.take_of_length_le (by omega)] at h
theorem shareB_take {a b : List ByteArray} {k : Nat} (hk : k < a.length) (h : shareB (a.take k) b = false) (hq : memS b a[k] = false) : shareB (a.take (k + 1)) b = false := by
  rw [List.take_succ_eq_append_getElem hk, shareB, List.any_append]
  rw [shareB] at h
  simp [h, hq]
theorem shareB_found {a b : List ByteArray} {k : Nat} (hk : k < a.length) (hq : memS b a[k] = true) : shareB a b = true := by
  rw [shareB, List.any_eq_true]
  exact ⟨a[k], List.getElem_mem hk, hq⟩
theorem shareB_all {a b : List ByteArray} {k : Nat} (hk : ¬ k < a.length) (h : shareB (a.take k) b = false) : shareB a b = false := by
  rwa [List.take_of_length_le (by omega)] at h

/-- Ascending up to place k; names up to place k; of a list up to place k. -/
def AscTo (l : List ByteArray) (k : Nat) : Prop := ∀ (i : Nat) (a b : ByteArray), i + 1 < k → l[i]? = some a → l[i + 1]? = some b → ltS a b = true
def NamesTo (l : List ByteArray) (k : Nat) : Prop := ∀ (i : Nat) (a : ByteArray), i < k → l[i]? = some a → nameB a = true
def PartTo (l all : List ByteArray) (k : Nat) : Prop := ∀ (i : Nat) (a : ByteArray), i < k → l[i]? = some a → memS all a = true
def Asc (l : List ByteArray) : Prop := AscTo l l.length
def Names (l : List ByteArray) : Prop := NamesTo l l.length
def Part (l all : List ByteArray) : Prop := PartTo l all l.length
def PartOk (l all : List ByteArray) : Prop := Part l all ∧ Asc l
def ThingsOk (l : List ByteArray) : Prop := l.length ≤ 8 ∧ Names l ∧ Asc l
theorem AscTo.zero (l : List ByteArray) : AscTo l 0 := fun i _ _ h => by omega
theorem AscTo.one (l : List ByteArray) : AscTo l 1 := fun i _ _ h => by omega
theorem NamesTo.zero (l : List ByteArray) : NamesTo l 0 := fun i _ h => by omega
theorem PartTo.zero (l all : List ByteArray) : PartTo l all 0 := fun i _ h => by omega
theorem AscTo.step {l : List ByteArray} {k : Nat} (h : AscTo l (k + 1)) (hk : k + 1 < l.length) (hl : ltS l[k] l[k + 1] = true) : AscTo l (k + 2) := fun i a b hi ha hb => by
  by_cases e : i = k
  · subst e
    rw [List.getElem?_eq_getElem (by omega)] at ha hb
    obtain rfl := Option.some.inj ha
    obtain rfl := Option.some.inj hb
    exact hl
  · exact h i a b (by omega) ha hb
theorem NamesTo.step {l : List ByteArray} {k : Nat} (h : NamesTo l k) (hk : k < l.length) (hl : nameB l[k] = true) : NamesTo l (k + 1) := fun i a hi ha => by
  by_cases e : i = k
  · subst e
    rw [List.getElem?_eq_getElem hk] at ha
    obtain rfl := Option.some.inj ha
    exact hl
  · exact h i a (by omega) ha
theorem PartTo.step {l all : List ByteArray} {k : Nat} (h : PartTo l all k) (hk : k < l.length) (hl : memS all l[k] = true) : PartTo l all (k + 1) := fun i a hi ha => by
  by_cases e : i = k
  · subst e
    rw [List.getElem?_eq_getElem hk] at ha
    obtain rfl := Option.some.inj ha
    exact hl
  · exact h i a (by omega) ha
theorem asc_end {l : List ByteArray} {k : Nat} (h : AscTo l k) (hk : ¬ k < l.length) : Asc l := fun i a b hi ha hb => h i a b (by omega) ha hb
theorem names_end {l : List ByteArray} {k : Nat} (h : NamesTo l k) (hk : ¬ k < l.length) : Names l := fun i a hi ha => h i a (by omega) ha
theorem part_end {l all : List ByteArray} {k : Nat} (h : PartTo l all k) (hk : ¬ k < l.length) : Part l all := fun i a hi ha => h i a (by omega) ha
theorem asc_at {l : List ByteArray} (h : Asc l) {k : Nat} (hk : k + 1 < l.length) : ltS l[k] l[k + 1] = true := h k _ _ hk (by rw [List.getElem?_eq_getElem]) (by rw [List.getElem?_eq_getElem])
theorem names_at {l : List ByteArray} (h : Names l) {k : Nat} (hk : k < l.length) : nameB l[k] = true := h k _ hk (by rw [List.getElem?_eq_getElem])
theorem part_at {l all : List ByteArray} (h : Part l all) {k : Nat} (hk : k < l.length) : memS all l[k] = true := h k _ hk (by rw [List.getElem?_eq_getElem])
theorem names_mem {l : List ByteArray} (h : Names l) {s : ByteArray} (hs : s ∈ l) : nameB s = true := by
  obtain ⟨i, hi, rfl⟩ := List.getElem_of_mem hs
  exact names_at h hi
theorem part_mem {l all : List ByteArray} (h : Part l all) {s : ByteArray} (hs : s ∈ l) : s ∈ all := by
  obtain ⟨i, hi, rfl⟩ := List.getElem_of_mem hs
  exact (memS_iff _ _).1 (part_at h hi)

/-- What a batch at place i of a book is asked; none of the batches up to place k shares what it has with one ahead of it. -/
def BaOk (things : List ByteArray) (x : Ba) : Prop := PartOk x.needs things ∧ PartOk x.has x.needs
def BasTo (things : List ByteArray) (bs : List Ba) (k : Nat) : Prop := ∀ (i : Nat) (x : Ba), i < k → bs[i]? = some x → BaOk things x
/-- No batch up to place n has what one ahead of it has; of batch n itself those ahead of place m. -/
def ApartTo (bs : List Ba) (n m : Nat) : Prop := ∀ (i j : Nat) (x y : Ba), j < i → (i < n ∨ i = n ∧ j < m) → bs[i]? = some x → bs[j]? = some y → shareB x.has y.has = false
def nms (bs : List Ba) : List ByteArray := bs.map (·.nm)
def Apart (bs : List Ba) : Prop := ApartTo bs bs.length 0
def BookOk (b : Bk) : Prop := ThingsOk b.things ∧ b.bs.length ≤ 5 ∧ Names (nms b.bs) ∧ Asc (nms b.bs) ∧ BasTo b.things b.bs b.bs.length ∧ Apart b.bs
noncomputable def bookB (b : Bk) : Bool := pB (BookOk b)
theorem nms_length (bs : List Ba) : (nms bs).length = bs.length := by simp [nms]
theorem nms_get (bs : List Ba) (k : Nat) (hk : k < bs.length) : (nms bs)[k]'(by rw [nms_length]; exact hk) = (bs[k]).nm := by simp [nms]
theorem nms_take (bs : List Ba) (k : Nat) : nms (bs.take k) = (nms bs).take k := by simp [nms]
theorem BasTo.zero (things : List ByteArray) (bs : List Ba) : BasTo things bs 0 := fun i _ h => by omega
theorem BasTo.step {things : List ByteArray} {bs : List Ba} {k : Nat} (h : BasTo things bs k) (hk : k < bs.length) (hl : BaOk things bs[k]) : BasTo things bs (k + 1) := fun i a hi ha => by
  by_cases e : i = k
  · subst e
    rw [List.getElem?_eq_getElem hk] at ha
    obtain rfl := Option.some.inj ha
    exact hl
  · exact h i a (by omega) ha
theorem BasTo.at {things : List ByteArray} {bs : List Ba} {n k : Nat} (h : BasTo things bs n) (hn : k < n) (hk : k < bs.length) : BaOk things bs[k] := h k _ hn (by rw [List.getElem?_eq_getElem])
theorem bas_end {things : List ByteArray} {bs : List Ba} {k : Nat} (h : BasTo things bs k) (hk : ¬ k < bs.length) : BasTo things bs bs.length := fun i a hi ha => h i a (by omega) ha
theorem ApartTo.zero (bs : List Ba) : ApartTo bs 0 0 := fun i j _ _ _ h => by omega
theorem ApartTo.step {bs : List Ba} {n m : Nat} (h : ApartTo bs n m) (hn : n < bs.length) (hm : m < n) (hq : shareB (bs[n]).has (bs[m]).has = false) : ApartTo bs n (m + 1) := fun i j x y hji hi hx hy => by
  by_cases e : i = n ∧ j = m
  · obtain ⟨rfl, rfl⟩ := e
    rw [List.getElem?_eq_getElem (by omega)] at hx hy
    obtain rfl := Option.some.inj hx
    obtain rfl := Option.some.inj hy
    exact hq
  · exact h i j x y hji (by omega) hx hy
theorem ApartTo.next {bs : List Ba} {n m : Nat} (h : ApartTo bs n m) (hm : ¬ m < n) : ApartTo bs (n + 1) 0 := fun i j x y hji hi hx hy => h i j x y hji (by omega) hx hy
theorem apart_end {bs : List Ba} {n : Nat} (h : ApartTo bs n 0) (hn : ¬ n < bs.length) : Apart bs := fun i j x y hji hi hx hy => h i j x y hji (by
  have := (List.getElem?_eq_some_iff.1 hx).1
  omega) hx hy
theorem Apart.at {bs : List Ba} (h : Apart bs) {n m : Nat} (hn : n < bs.length) (hm : m < n) : shareB (bs[n]).has (bs[m]).has = false := h n m _ _ hm (by omega) (by rw [List.getElem?_eq_getElem]) (by rw [List.getElem?_eq_getElem])
/-- The place of the first batch that has a thing, and its name. -/
def whoB (bs : List Ba) (s : ByteArray) : ByteArray := ((bs.find? fun x => memS x.has s).map (·.nm)).getD ⟨#[]⟩
noncomputable def whoS (b : Bk) (s : ByteArray) : ByteArray := if bookB b = true then whoB b.bs s else ⟨#[]⟩
/-- No batch up to place k has a thing. -/
def FreeTo (bs : List Ba) (s : ByteArray) (k : Nat) : Prop := ∀ (i : Nat) (x : Ba), i < k → bs[i]? = some x → memS x.has s = false
theorem FreeTo.zero (bs : List Ba) (s : ByteArray) : FreeTo bs s 0 := fun i _ h => by omega
theorem FreeTo.step {bs : List Ba} {s : ByteArray} {k : Nat} (h : FreeTo bs s k) (hk : k < bs.length) (hl : memS (bs[k]).has s = false) : FreeTo bs s (k + 1) := fun i a hi ha => by
  by_cases e : i = k
  · subst e
    rw [List.getElem?_eq_getElem hk] at ha
    obtain rfl := Option.some.inj ha
    exact hl
  · exact h i a (by omega) ha
theorem whoB_at {bs : List Ba} {s : ByteArray} {k : Nat} (hk : k < bs.length) (h : FreeTo bs s k) (hl : memS (bs[k]).has s = true) : whoB bs s = (bs[k]).nm := by
  have : bs.find? (fun x => memS x.has s) = some bs[k] := by
    rw [List.find?_eq_some_iff_getElem]
    exact ⟨hl, k, hk, rfl, fun j hj => by rw [h j _ hj (by rw [List.getElem?_eq_getElem (by omega)])]; rfl⟩
  rw [whoB, this]; rfl
theorem whoB_none {bs : List Ba} {s : ByteArray} {k : Nat} (hk : ¬ k < bs.length) (h : FreeTo bs s k) : whoB bs s = ⟨#[]⟩ := by
  have : bs.find? (fun x => memS x.has s) = none := by
    rw [List.find?_eq_none]
    intro x hx
    obtain ⟨i, hi, rfl⟩ := List.getElem_of_mem hx
    rw [h i _ (by omega) (by rw [List.getElem?_eq_getElem])]; simp
  rw [whoB, this]; rfl
/-- The place of a text in a list, -1 if it is not there. -/
def idxI (l : List ByteArray) (s : ByteArray) : Int := if memS l s = true then (l.findIdx fun x => x.toList == s.toList : Nat) else -1
theorem idxI_found {l : List ByteArray} {s : ByteArray} {k : Nat} (hk : k < l.length) (h : memS (l.take k) s = false) (hq : ((l[k]).toList == s.toList) = true) : idxI l s = (k : Int) := by
  have hf : l.findIdx (fun x => x.toList == s.toList) = k := by
    rw [List.findIdx_eq hk]
    refine ⟨hq, fun j hj => ?_⟩
    rw [memS, List.any_eq_false] at h
    have := h (l[j]) (by rw [List.mem_take_iff_getElem]; exact ⟨j, by omega, rfl⟩)
    simpa using this
  rw [idxI, if_pos (memS_found hk hq), hf]
theorem idxI_none {l : List ByteArray} {s : ByteArray} (h : memS l s = false) : idxI l s = -1 := by rw [idxI, h]; simp
theorem idxI_mem (l : List ByteArray) (s : ByteArray) : decide (0 ≤ idxI l s) = memS l s := by
  cases h : memS l s
  · rw [idxI_none h]; rfl
  · rw [idxI, if_pos h]; simp
theorem beq_flip (a b : List UInt8) : (a == b) = (b == a) := by
  rw [Bool.eq_iff_iff, beq_iff_eq, beq_iff_eq]; exact eq_comm
end Go.Proofs.Ytafgabakhaipnaa

/- Functions that end with a struct in their result's block. -/
namespace Go.Proofs.Ytafgabakhaipnaa
open Go.RowKit
/-- A function that ends so, with a struct of three (two; three and a second result) in its result's block, stored whole. -/
theorem end_cb3 {P : Program} {fn : Func} {q : Tmp} {T : TypeId} (h : fn.results = #[.cell q T]) {d : TypeDesc} (hu : P.underlying T = some d) (hd : d.isRow = true) (hi : (P.info? T).map (·.size) = some 3) {R : Ending → World → Prop} {tmps : Array Value} {w : World} {rk : Nat} {y0 y1 y2 x0 x1 x2 : Value}
    (k : CB w rk [y0, y1, y2]) (ht : tmps.getD q undef = .pointer (some ⟨rk, 0, none⟩)) (hR : R (.returned (.agg #[x0, x1, x2])) (((w.setCell ⟨rk, 0, none⟩ x0).setCell ⟨rk, 1, none⟩ x1).setCell ⟨rk, 2, none⟩ x2)) :
    bodyPost P fn R .ret { tmps := tmps, defers := [] } (((w.setCell ⟨rk, 0, none⟩ x0).setCell ⟨rk, 1, none⟩ x1).setCell ⟨rk, 2, none⟩ x2) :=
  bodyPost_ret (ret_cb (cs := [x0, x1, x2]) h hu hd hi ht (k.copy3 x0 x1 x2)) rfl hR
theorem end_cb2 {P : Program} {fn : Func} {q : Tmp} {T : TypeId} (h : fn.results = #[.cell q T]) {d : TypeDesc} (hu : P.underlying T = some d) (hd : d.isRow = true) (hi : (P.info? T).map (·.size) = some 2) {R : Ending → World → Prop} {tmps : Array Value} {w : World} {rk : Nat} {y0 y1 x0 x1 : Value}
    (k : CB w rk [y0, y1]) (ht : tmps.getD q undef = .pointer (some ⟨rk, 0, none⟩)) (hR : R (.returned (.agg #[x0, x1])) ((w.setCell ⟨rk, 0, none⟩ x0).setCell ⟨rk, 1, none⟩ x1)) :
    bodyPost P fn R .ret { tmps := tmps, defers := [] } ((w.setCell ⟨rk, 0, none⟩ x0).setCell ⟨rk, 1, none⟩ x1) :=
  bodyPost_ret (ret_cb (cs := [x0, x1]) h hu hd hi ht (k.copy2 x0 x1)) rfl hR
theorem end_cb3b {P : Program} {fn : Func} {q q2 : Tmp} {T : TypeId} (h : fn.results = #[.cell q T, .tmp q2]) {d : TypeDesc} (hu : P.underlying T = some d) (hd : d.isRow = true) (hi : (P.info? T).map (·.size) = some 3) {R : Ending → World → Prop} {tmps : Array Value} {w : World} {rk : Nat} {y0 y1 y2 x0 x1 x2 v : Value}
    (k : CB w rk [y0, y1, y2]) (ht : tmps.getD q undef = .pointer (some ⟨rk, 0, none⟩)) (hv : tmps.getD q2 undef = v) (hR : R (.returned (.tuple #[.agg #[x0, x1, x2], v])) (((w.setCell ⟨rk, 0, none⟩ x0).setCell ⟨rk, 1, none⟩ x1).setCell ⟨rk, 2, none⟩ x2)) :
    bodyPost P fn R .ret { tmps := tmps, defers := [] } (((w.setCell ⟨rk, 0, none⟩ x0).setCell ⟨rk, 1, none⟩ x1).setCell ⟨rk, 2, none⟩ x2) :=
  bodyPost_ret (ret_cb2 (cs := [x0, x1, x2]) h hu hd hi ht hv (k.copy3 x0 x1 x2)) rfl hR
end Go.Proofs.Ytafgabakhaipnaa
