/- A code that can be read, opened. -/
import Derived.Test.YtliebjbbomghiaaGreatDoorJ0
import Derived.OpenShut
import Derived.Deep.MidRow
import Derived.Laws.Strings
import Derived.Laws.OwnMore
namespace Go.Proofs.YtliebjbbomghiaaGreatDoor
open Go.ChangeShapes Go.WideShapes Go.ChangeAt Go.RowKit

theorem cellsByte : Tryz.prog.cellsOf 5 = 1 := by kernel_rfl
theorem bytes_of_trod {H : Type} {enc : TypeId × Value → H} {W : World} {base : Nat} {sp : Nat → Bool} {held : Bool} {v : Value} {d : DataW H} {p : List MemPlace} (hv : ∃ a l c, v = .slice a l c)
    (h : DataW.Trod enc Tryz.prog W base sp held 22 v d p) : ∃ (a : Option Addr) (l c : Nat), v = .slice a l c ∧ BytesAt W W.heap.size (.slice a l c) l ∧ l ≤ c ∧ c ≤ maxLen := by
  obtain ⟨a0, l0, k0, rfl⟩ := hv
  obtain ⟨fuel, hf⟩ := h
  rcases open_ints Tryz.underlying22 Tryz.underlying5 cellsByte hf with ⟨hcs, _⟩ | ⟨a, len, cap, zs, hcs, _, hl, hm, hz, _, hcell, hwf⟩
  · have : Value.slice a0 l0 k0 = .slice none 0 0 := by simpa [Value.cells] using hcs
    rw [this]
    exact ⟨none, 0, 0, rfl, ⟨none, 0, rfl, .inl rfl⟩, Nat.le_refl _, Nat.zero_le _⟩
  · have : Value.slice a0 l0 k0 = .slice (some a) len cap := by simpa [Value.cells] using hcs
    rw [this]
    refine ⟨some a, len, cap, rfl, ⟨some a, cap, rfl, ?_⟩, hl, hm⟩
    rcases Nat.eq_zero_or_pos len with h0 | h0
    · exact .inl h0
    · have hlz : len ≤ zs.length := by rw [hz]; split <;> omega
      obtain ⟨b, o, spot⟩ := a
      have c0 := hcell 0 (by omega)
      have hs : spot = none := by simpa [Addr.add] using World.cell?_spot c0
      subst hs
      refine .inr ⟨b, o, fun i => zs.getD i 0, rfl, World.block_lt_of_cell? W _ c0, fun i hi => ⟨?_, ?_⟩⟩
      · have := hcell i (by omega)
        rwa [Addr.add_mid] at this
      · have := range_u8 hwf i
        simpa [List.getD_eq_getElem?_getD] using this
end Go.Proofs.YtliebjbbomghiaaGreatDoor

/- Books in plain: no program in it. -/
namespace Go.Proofs.YtliebjbbomghiaaGreatDoor

/-- A batch; a book. -/
structure Ba where
  nm : ByteArray
  has : List ByteArray
  needs : List ByteArray
structure Bk where
  things : List ByteArray
  bs : List Ba
/-- Whether something holds, as a bool. -/
noncomputable def pB (p : Prop) : Bool := @decide p (Classical.propDecidable p)
theorem pB_yes {p : Prop} (h : p) : pB p = true := by unfold pB; simp [h]
theorem pB_no {p : Prop} (h : ¬ p) : pB p = false := by unfold pB; simp [h]
theorem pB_iff {p : Prop} : pB p = true ↔ p := by unfold pB; simp
theorem pB_not {p : Prop} : pB p = false ↔ ¬ p := by unfold pB; simp

def ltS (a b : ByteArray) : Bool := Op.bytesLess a.toList b.toList
def memS (l : List ByteArray) (s : ByteArray) : Bool := l.any fun x => x.toList == s.toList
def shareB (a b : List ByteArray) : Bool := a.any fun s => memS b s
theorem toL_eq {a b : ByteArray} (h : a.toList = b.toList) : a = b := by
  rw [Go.ByteArray.toList_eq, Go.ByteArray.toList_eq] at h
  cases a; cases b; simp at h; rw [h]
theorem memS_iff (l : List ByteArray) (s : ByteArray) : memS l s = true ↔ s ∈ l := by
  simp only [memS, List.any_eq_true, beq_iff_eq]
  constructor
  · rintro ⟨x, hx, h⟩; rwa [← toL_eq h]
  · exact fun h => ⟨s, h, rfl⟩
theorem memS_no (l : List ByteArray) (s : ByteArray) : memS l s = false ↔ s ∉ l := by rw [← memS_iff]; simp
theorem shareB_iff (a b : List ByteArray) : shareB a b = true ↔ ∃ s, s ∈ a ∧ s ∈ b := by
  simp only [shareB, List.any_eq_true, memS_iff]
theorem shareB_no (a b : List ByteArray) : shareB a b = false ↔ ∀ s, s ∈ a → s ∉ b := by
  rw [← Bool.not_eq_true, shareB_iff]; simp
theorem memS_take {l : List ByteArray} {s : ByteArray} {k : Nat} (hk : k < l.length) (h : memS (l.take k) s = false) (hq : ((l[k]).toList == s.toList) = false) : memS (l.take (k + 1)) s = false := by
  rw [List.take_succ_eq_append_getElem hk, memS, List.any_append]
  rw [memS] at h
  simp [h, hq]
theorem memS_found {l : List ByteArray} {s : ByteArray} {k : Nat} (hk : k < l.length) (hq : ((l[k]).toList == s.toList) = true) : memS l s = true := by
  rw [memS, List.any_eq_true]
  exact ⟨l[k], List.getElem_mem hk, hq⟩
theorem memS_all {l : List ByteArray} {s : ByteArray} {k : Nat} (hk : ¬ k < l.length) (h : memS (l.take k) s = false) : memS l s = false := by
  rwa [List.take_of_length_le (by omega)] at h
theorem shareB_take {a b : List ByteArray} {k : Nat} (hk : k < a.length) (h : shareB (a.take k) b = false) (hq : memS b a[k] = false) : shareB (a.take (k + 1)) b = false := by
  rw [List.take_succ_eq_append_getElem hk, shareB, List.any_append]
  rw [shareB] at h
  simp [h, hq]
theorem shareB_found {a b : List ByteArray} {k : Nat} (hk : k < a.length) (hq : memS b a[k] = true) : shareB a b = true := by
  rw [shareB, List.any_eq_true]
  exact ⟨a[k], List.getElem_mem hk, hq⟩
theorem shareB_all {a b : List ByteArray} {k : Nat} (hk : ¬ k < a.length) (h : shareB (a.take k) b = false) : shareB a b = false := by
  rwa [List.take_of_length_le (by omega)] at h

/-- Ascending up to place k; names up to place k; of a list up to place k. -/
def AscTo (l : List ByteArray) (k : Nat) : Prop := ∀ (i : Nat) (a b : ByteArray), i + 1 < k → l[i]? = some a → l[i + 1]? = some b → ltS a b = true
def NamesTo (l : List ByteArray) (k : Nat) : Prop := ∀ (i : Nat) (a : ByteArray), i < k → l[i]? = some a → nameB a = true
def PartTo (l all : List ByteArray) (k : Nat) : Prop := ∀ (i : Nat) (a : ByteArray), i < k → l[i]? = some a → memS all a = true
def Asc (l : List ByteArray) : Prop := AscTo l l.length
def Names (l : List ByteArray) : Prop := NamesTo l l.length
def Part (l all : List ByteArray) : Prop := PartTo l all l.length
def PartOk (l all : List ByteArray) : Prop := Part l all ∧ Asc l
def ThingsOk (l : List ByteArray) : Prop := l.length ≤ 8 ∧ Names l ∧ Asc l
theorem AscTo.zero (l : List ByteArray) : AscTo l 0 := fun i _ _ h => by omega
theorem AscTo.one (l : List ByteArray) : AscTo l 1 := fun i _ _ h => by omega
theorem NamesTo.zero (l : List ByteArray) : NamesTo l 0 := fun i _ h => by omega
theorem PartTo.zero (l all : List ByteArray) : PartTo l all 0 := fun i _ h => by omega
theorem AscTo.step {l : List ByteArray} {k : Nat} (h : AscTo l (k + 1)) (hk : k + 1 < l.length) (hl : ltS l[k] l[k + 1] = true) : AscTo l (k + 2) := fun i a b hi ha hb => by
  by_cases e : i = k
  · subst e
    rw [List.getElem?_eq_getElem (by omega)] at ha hb
    obtain rfl := Option.some.inj ha
    obtain rfl := Option.some.inj hb
    exact hl
  · exact h i a b (by omega) ha hb
theorem NamesTo.step {l : List ByteArray} {k : Nat} (h : NamesTo l k) (hk : k < l.length) (hl : nameB l[k] = true) : NamesTo l (k + 1) := fun i a hi ha => by
  by_cases e : i = k
  · subst e
    rw [List.getElem?_eq_getElem hk] at ha
    obtain rfl := Option.some.inj ha
    exact hl
  · exact h i a (by omega) ha
theorem PartTo.step {l all : List ByteArray} {k : Nat} (h : PartTo l all k) (hk : k < l.length) (hl : memS all l[k] = true) : PartTo l all (k + 1) := fun i a hi ha => by
  by_cases e : i = k
  · subst e
    rw [List.getElem?_eq_getElem hk] at ha
    obtain rfl := Option.some.inj ha
    exact hl
  · exact h i a (by omega) ha
theorem asc_end {l : List ByteArray} {k : Nat} (h : AscTo l k) (hk : ¬ k < l.length) : Asc l := fun i a b hi ha hb => h i a b (by omega) ha hb
theorem names_end {l : List ByteArray} {k : Nat} (h : NamesTo l k) (hk : ¬ k < l.length) : Names l := fun i a hi ha => h i a (by omega) ha
theorem part_end {l all : List ByteArray} {k : Nat} (h : PartTo l all k) (hk : ¬ k < l.length) : Part l all := fun i a hi ha => h i a (by omega) ha
theorem asc_at {l : List ByteArray} (h : Asc l) {k : Nat} (hk : k + 1 < l.length) : ltS l[k] l[k + 1] = true := h k _ _ hk (by rw [List.getElem?_eq_getElem]) (by rw [List.getElem?_eq_getElem])
theorem names_at {l : List ByteArray} (h : Names l) {k : Nat} (hk : k < l.length) : nameB l[k] = true := h k _ hk (by rw [List.getElem?_eq_getElem])
theorem part_at {l all : List ByteArray} (h : Part l all) {k : Nat} (hk : k < l.length) : memS all l[k] = true := h k _ hk (by rw [List.getElem?_eq_getElem])
theorem names_mem {l : List ByteArray} (h : Names l) {s : ByteArray} (hs : s ∈ l) : nameB s = true := by
  obtain ⟨i, hi, rfl⟩ := List.getElem_of_mem hs
  exact names_at h hi
theorem part_mem {l all : List ByteArray} (h : Part l all) {s : ByteArray} (hs : s ∈ l) : s ∈ all := by
  obtain ⟨i, hi, rfl⟩ := List.getElem_of_mem hs
  exact (memS_iff _ _).1 (part_at h hi)

/-- What a batch at place i of a book is asked; none of the batches up to place k shares what it has with one ahead of it. -/
def BaOk (things : List ByteArray) (x : Ba) : Prop := PartOk x.needs things ∧ PartOk x.has x.needs
def BasTo (things : List ByteArray) (bs : List Ba) (k : Nat) : Prop := ∀ (i : Nat) (x : Ba), i < k → bs[i]? = some x → BaOk things x
/-- No batch up to place n has what one ahead of it has; of batch n itself those ahead of place m. -/
def ApartTo (bs : List Ba) (n m : Nat) : Prop := ∀ (i j : Nat) (x y : Ba), j < i → (i < n ∨ i = n ∧ j < m) → bs[i]? = some x → bs[j]? = some y → shareB x.has y.has = false
def nms (bs : List Ba) : List ByteArray := bs.map (·.nm)
def Apart (bs : List Ba) : Prop := ApartTo bs bs.length 0
def BookOk (b : Bk) : Prop := ThingsOk b.things ∧ b.bs.length ≤ 5 ∧ Names (nms b.bs) ∧ Asc (nms b.bs) ∧ BasTo b.things b.bs b.bs.length ∧ Apart b.bs
noncomputable def bookB (b : Bk) : Bool := pB (BookOk b)
theorem nms_length (bs : List Ba) : (nms bs).length = bs.length := by simp [nms]
theorem nms_get (bs : List Ba) (k : Nat) (hk : k < bs.length) : (nms bs)[k]'(by rw [nms_length]; exact hk) = (bs[k]).nm := by simp [nms]
theorem nms_take (bs : List Ba) (k : Nat) : nms (bs.take k) = (nms bs).take k := by simp [nms]
theorem BasTo.zero (things : List ByteArray) (bs : List Ba) : BasTo things bs 0 := fun i _ h => by omega
theorem BasTo.step {things : List ByteArray} {bs : List Ba} {k : Nat} (h : BasTo things bs k) (hk : k < bs.length) (hl : BaOk things bs[k]) : BasTo things bs (k + 1) := fun i a hi ha => by
  by_cases e : i = k
  · subst e
    rw [List.getElem?_eq_getElem hk] at ha
    obtain rfl := Option.some.inj ha
    exact hl
  · exact h i a (by omega) ha
theorem BasTo.at {things : List ByteArray} {bs : List Ba} {n k : Nat} (h : BasTo things bs n) (hn : k < n) (hk : k < bs.length) : BaOk things bs[k] := h k _ hn (by rw [List.getElem?_eq_getElem])
theorem bas_end {things : List ByteArray} {bs : List Ba} {k : Nat} (h : BasTo things bs k) (hk : ¬ k < bs.length) : BasTo things bs bs.length := fun i a hi ha => h i a (by omega) ha
theorem ApartTo.zero (bs : List Ba) : ApartTo bs 0 0 := fun i j _ _ _ h => by omega
theorem ApartTo.step {bs : List Ba} {n m : Nat} (h : ApartTo bs n m) (hn : n < bs.length) (hm : m < n) (hq : shareB (bs[n]).has (bs[m]).has = false) : ApartTo bs n (m + 1) := fun i j x y hji hi hx hy => by
  by_cases e : i = n ∧ j = m
  · obtain ⟨rfl, rfl⟩ := e
    rw [List.getElem?_eq_getElem (by omega)] at hx hy
    obtain rfl := Option.some.inj hx
    obtain rfl := Option.some.inj hy
    exact hq
  · exact h i j x y hji (by omega) hx hy
theorem ApartTo.next {bs : List Ba} {n m : Nat} (h : ApartTo bs n m) (hm : ¬ m < n) : ApartTo bs (n + 1) 0 := fun i j x y hji hi hx hy => h i j x y hji (by omega) hx hy
theorem apart_end {bs : List Ba} {n : Nat} (h : ApartTo bs n 0) (hn : ¬ n < bs.length) : Apart bs := fun i j x y hji hi hx hy => h i j x y hji (by
  have := (List.getElem?_eq_some_iff.1 hx).1
  omega) hx hy
theorem Apart.at {bs : List Ba} (h : Apart bs) {n m : Nat} (hn : n < bs.length) (hm : m < n) : shareB (bs[n]).has (bs[m]).has = false := h n m _ _ hm (by omega) (by rw [List.getElem?_eq_getElem]) (by rw [List.getElem?_eq_getElem])
/-- The place of the first batch that has a thing, and its name. -/
def whoB (bs : List Ba) (s : ByteArray) : ByteArray := ((bs.find? fun x => memS x.has s).map (·.nm)).getD ⟨#[]⟩
noncomputable def whoS (b : Bk) (s : ByteArray) : ByteArray := if bookB b = true then whoB b.bs s else ⟨#[]⟩
/-- No batch up to place k has a thing. -/
def FreeTo (bs : List Ba) (s : ByteArray) (k : Nat) : Prop := ∀ (i : Nat) (x : Ba), i < k → bs[i]? = some x → memS x.has s = false
theorem FreeTo.zero (bs : List Ba) (s : ByteArray) : FreeTo bs s 0 := fun i _ h => by omega
theorem FreeTo.step {bs : List Ba} {s : ByteArray} {k : Nat} (h : FreeTo bs s k) (hk : k < bs.length) (hl : memS (bs[k]).has s = false) : FreeTo bs s (k + 1) := fun i a hi ha => by
  by_cases e : i = k
  · subst e
    rw [List.getElem?_eq_getElem hk] at ha
    obtain rfl := Option.some.inj ha
    exact hl
  · exact h i a (by omega) ha
theorem whoB_at {bs : List Ba} {s : ByteArray} {k : Nat} (hk : k < bs.length) (h : FreeTo bs s k) (hl : memS (bs[k]).has s = true) : whoB bs s = (bs[k]).nm := by
  have : bs.find? (fun x => memS x.has s) = some bs[k] := by
    rw [List.find?_eq_some_iff_getElem]
    exact ⟨hl, k, hk, rfl, fun j hj => by rw [h j _ hj (by rw [List.getElem?_eq_getElem (by omega)])]; rfl⟩
  rw [whoB, this]; rfl
theorem whoB_none {bs : List Ba} {s : ByteArray} {k : Nat} (hk : ¬ k < bs.length) (h : FreeTo bs s k) : whoB bs s = ⟨#[]⟩ := by
  have : bs.find? (fun x => memS x.has s) = none := by
    rw [List.find?_eq_none]
    intro x hx
    obtain ⟨i, hi, rfl⟩ := List.getElem_of_mem hx
    rw [h i _ (by omega) (by rw [List.getElem?_eq_getElem])]; simp
  rw [whoB, this]; rfl
/-- The place of a text in a list, -1 if it is not there. -/
def idxI (l : List ByteArray) (s : ByteArray) : Int := if memS l s = true then (l.findIdx fun x => x.toList == s.toList : Nat) else -1
theorem idxI_found {l : List ByteArray} {s : ByteArray} {k : Nat} (hk : k < l.length) (h : memS (l.take k) s = false) (hq : ((l[k]).toList == s.toList) = true) : idxI l s = (k : Int) := by
  have hf : l.findIdx (fun x => x.toList == s.toList) = k := by
    rw [List.findIdx_eq hk]
    refine ⟨hq, fun j hj => ?_⟩
    rw [memS, List.any_eq_false] at h
    have := h (l[j]) (by rw [List.mem_take_iff_getElem]; exact ⟨j, by omega, rfl⟩)
    simpa using this
  rw [idxI, if_pos (memS_found hk hq), hf]
theorem idxI_none {l : List ByteArray} {s : ByteArray} (h : memS l s = false) : idxI l s = -1 := by rw [idxI, h]; simp
theorem idxI_mem (l : List ByteArray) (s : ByteArray) : decide (0 ≤ idxI l s) = memS l s := by
  cases h : memS l s
  · rw [idxI_none h]; rfl
  · rw [idxI, if_pos h]; simp
theorem beq_flip (a b : List UInt8) : (a == b) = (b == a) := by
  rw [Bool.eq_iff_iff, beq_iff_eq, beq_iff_eq]; exact eq_comm
end Go.Proofs.YtliebjbbomghiaaGreatDoor

/- Books in memory: lists of texts, batches, a book. -/
namespace Go.Proofs.YtliebjbbomghiaaGreatDoor
open Go.RowKit

/-- A list of texts that a slice leads to. -/
def Ls (w : World) (v : Value) (ss : List ByteArray) : Prop :=
  ∃ a c, v = .slice a ss.length c ∧ ss.length ≤ maxLen ∧ (∀ s ∈ ss, s.size ≤ maxLen) ∧ (0 < ss.length → ∃ b o, a = some ⟨b, o, none⟩ ∧ StrsAt w b o ss ∧ b < w.heap.size)
theorem StrsAt.up {w w' : World} {g o : Nat} {ss : List ByteArray} (h : StrsAt w g o ss) (hb : Below w.heap.size w w') (hg : g < w.heap.size) : StrsAt w' g o ss :=
  fun i s hs => (hb.cell (p := ⟨g, o + i, none⟩) hg).trans (h i s hs)
theorem StrsAt.cell {w : World} {g o : Nat} {ss : List ByteArray} (h : StrsAt w g o ss) {k : Nat} (hk : k < ss.length) : w.cell? ⟨g, o + k, none⟩ = some (.string ss[k]) := h k _ (by rw [List.getElem?_eq_getElem])
theorem Ls.up {w w' : World} {v : Value} {ss : List ByteArray} (h : Ls w v ss) (hb : Below w.heap.size w w') : Ls w' v ss := by
  obtain ⟨a, c, rfl, h1, h2, h3⟩ := h
  refine ⟨a, c, rfl, h1, h2, fun hp => ?_⟩
  obtain ⟨b, o, rfl, hS, hlt⟩ := h3 hp
  exact ⟨b, o, rfl, hS.up hb hlt, Nat.lt_of_lt_of_le hlt hb.size⟩
theorem Ls.inv {w : World} {a : Option Addr} {n c : Nat} {ss : List ByteArray} (h : Ls w (.slice a n c) ss) : ss.length ≤ maxLen ∧ (∀ s ∈ ss, s.size ≤ maxLen) ∧ (0 < ss.length → ∃ b o, a = some ⟨b, o, none⟩ ∧ StrsAt w b o ss ∧ b < w.heap.size) := by
  obtain ⟨a', c', e, h1⟩ := h
  obtain ⟨rfl, -, rfl⟩ := Value.slice.inj e
  exact h1
theorem Ls.drew {w : World} {v : Value} {ss : List ByteArray} (h : Ls w v ss) : Ls w.drew v ss := h
theorem Ls.drewN {w : World} {v : Value} {ss : List ByteArray} (h : Ls w v ss) {n : Nat} : Ls (w.drewN n) v ss := h
theorem Ls.take {w : World} {a : Option Addr} {c : Nat} {ss : List ByteArray} (h : Ls w (.slice a ss.length c) ss) {k : Nat} (hk : k ≤ ss.length) (c' : Nat) : Ls w (.slice a k c') (ss.take k) := by
  obtain ⟨a', c', e, h1, h2, h3⟩ := h
  obtain ⟨rfl, -, rfl⟩ := Value.slice.inj e
  have hl : (ss.take k).length = k := by rw [List.length_take]; omega
  refine ⟨a, _, by rw [hl], by rw [hl]; omega, fun s hs => h2 s (List.mem_of_mem_take hs), fun hp => ?_⟩
  obtain ⟨b, o, rfl, hS, hlt⟩ := h3 (by omega)
  exact ⟨b, o, rfl, hS.take k, hlt⟩
theorem Ls.nil (w : World) (a : Option Addr) (c : Nat) : Ls w (.slice a 0 c) [] := ⟨a, c, rfl, by simp, fun s hs => by simp at hs, fun h => by simp at h⟩
theorem Lst.ls {w : World} {v : Value} {ss : List ByteArray} (h : Lst w v ss) (hz : ∀ s ∈ ss, s.size ≤ maxLen) : Ls w v ss := by
  rcases h with ⟨rfl, rfl⟩ | ⟨g, c, rfl, hS, hg, h1, h2⟩
  · exact Ls.nil _ _ _
  · exact ⟨_, c, rfl, by omega, hz, fun _ => ⟨g, 0, rfl, hS, hg⟩⟩
/-- A batch's three cells. -/
def BaAt (w : World) (b o : Nat) (x : Ba) : Prop := ∃ hv nv, w.rangeAt b o [.string x.nm, hv, nv] ∧ Ls w hv x.has ∧ Ls w nv x.needs ∧ x.nm.size ≤ maxLen
theorem BaAt.up {w w' : World} {b o : Nat} {x : Ba} (h : BaAt w b o x) (hb : Below w.heap.size w w') (hlt : b < w.heap.size) : BaAt w' b o x := by
  obtain ⟨hv, nv, hr, h1, h2, h3⟩ := h
  exact ⟨hv, nv, fun j v hv => (hb.cell (p := ⟨b, o + j, none⟩) hlt).trans (hr j v hv), h1.up hb, h2.up hb, h3⟩
def BsAt (w : World) (b o : Nat) (bs : List Ba) : Prop := ∀ (i : Nat) (x : Ba), bs[i]? = some x → BaAt w b (o + i * 3) x
theorem BsAt.up {w w' : World} {b o : Nat} {bs : List Ba} (h : BsAt w b o bs) (hb : Below w.heap.size w w') (hlt : b < w.heap.size) : BsAt w' b o bs := fun i x hx => (h i x hx).up hb hlt
theorem BsAt.at {w : World} {b o : Nat} {bs : List Ba} (h : BsAt w b o bs) {k : Nat} (hk : k < bs.length) : BaAt w b (o + k * 3) bs[k] := h k _ (by rw [List.getElem?_eq_getElem])
/-- The cells of a batch, its lists with their shapes. -/
theorem BaAt.cells {w : World} {b o : Nat} {x : Ba} (h : BaAt w b o x) : ∃ a1 c1 a2 c2, w.cell? ⟨b, o, none⟩ = some (.string x.nm) ∧ w.cell? ⟨b, o + 1, none⟩ = some (.slice a1 x.has.length c1) ∧ w.cell? ⟨b, o + 2, none⟩ = some (.slice a2 x.needs.length c2) ∧
    Ls w (.slice a1 x.has.length c1) x.has ∧ Ls w (.slice a2 x.needs.length c2) x.needs ∧ x.nm.size ≤ maxLen := by
  obtain ⟨hv, nv, hr, h1, h2, h3⟩ := h
  obtain ⟨a1, c1, rfl, -⟩ := id h1
  obtain ⟨a2, c2, rfl, -⟩ := id h2
  exact ⟨a1, c1, a2, c2, hr 0 _ rfl, hr 1 _ rfl, hr 2 _ rfl, h1, h2, h3⟩
/-- The batches that a slice leads to. -/
def Bs (w : World) (v : Value) (bs : List Ba) : Prop := ∃ a c, v = .slice a bs.length c ∧ bs.length ≤ maxLen ∧ (0 < bs.length → ∃ b o, a = some ⟨b, o, none⟩ ∧ BsAt w b o bs ∧ b < w.heap.size)
theorem Bs.up {w w' : World} {v : Value} {bs : List Ba} (h : Bs w v bs) (hb : Below w.heap.size w w') : Bs w' v bs := by
  obtain ⟨a, c, rfl, h1, h3⟩ := h
  refine ⟨a, c, rfl, h1, fun hp => ?_⟩
  obtain ⟨b, o, rfl, hS, hlt⟩ := h3 hp
  exact ⟨b, o, rfl, hS.up hb hlt, Nat.lt_of_lt_of_le hlt hb.size⟩
theorem Bs.drew {w : World} {v : Value} {bs : List Ba} (h : Bs w v bs) : Bs w.drew v bs := h
/-- A book, as a value. -/
def BkV (w : World) (v : Value) (b : Bk) : Prop := ∃ tv bv, v = .agg #[tv, bv] ∧ Ls w tv b.things ∧ Bs w bv b.bs
theorem BkV.up {w w' : World} {v : Value} {b : Bk} (h : BkV w v b) (hb : Below w.heap.size w w') : BkV w' v b := by
  obtain ⟨tv, bv, rfl, h1, h2⟩ := h
  exact ⟨tv, bv, rfl, h1.up hb, h2.up hb⟩
theorem BkV.drew {w : World} {v : Value} {b : Bk} (h : BkV w v b) : BkV w.drew v b := h
theorem BkV.parts {w : World} {v : Value} {b : Bk} (h : BkV w v b) : ∃ a1 c1 a2 c2, v = .agg #[.slice a1 b.things.length c1, .slice a2 b.bs.length c2] ∧ Ls w (.slice a1 b.things.length c1) b.things ∧ Bs w (.slice a2 b.bs.length c2) b.bs := by
  obtain ⟨tv, bv, rfl, h1, h2⟩ := h
  obtain ⟨a1, c1, rfl, -⟩ := id h1
  obtain ⟨a2, c2, rfl, -⟩ := id h2
  exact ⟨a1, c1, a2, c2, rfl, h1, h2⟩
theorem CB.c2' {w : World} {b : Nat} {x0 x1 : Value} (h : CB w b [x0, x1]) : w.cell? ⟨b, 0, none⟩ = some x0 ∧ w.cell? ⟨b, 1, none⟩ = some x1 := h.c2.1
theorem Bs.at {w : World} {a : Option Addr} {n c : Nat} {bs : List Ba} (h : Bs w (.slice a n c) bs) : bs.length ≤ maxLen ∧ (0 < bs.length → ∃ b o, a = some ⟨b, o, none⟩ ∧ BsAt w b o bs ∧ b < w.heap.size) := by
  obtain ⟨a', c', e, h1⟩ := h
  obtain ⟨rfl, -, rfl⟩ := Value.slice.inj e
  exact h1
end Go.Proofs.YtliebjbbomghiaaGreatDoor

/- Books of one's own in memory: what the laws' copies are. -/
namespace Go.Proofs.YtliebjbbomghiaaGreatDoor
open Go.RowKit

/-- A list of texts in a block of its own, at or behind a base. -/
def LsO (w : World) (base : Nat) (v : Value) (ss : List ByteArray) : Prop := ∃ b, v = .slice (some ⟨b, 0, none⟩) ss.length ss.length ∧ StrsAt w b 0 ss ∧ w.there b 0 ss.length ∧ base ≤ b ∧ b < w.heap.size ∧ ss.length ≤ maxLen ∧ ∀ s ∈ ss, s.size ≤ maxLen
theorem LsO.ls {w : World} {base : Nat} {v : Value} {ss : List ByteArray} (h : LsO w base v ss) : Ls w v ss := by
  obtain ⟨b, rfl, h1, -, -, h2, h3, h4⟩ := h
  exact ⟨_, _, rfl, h3, h4, fun _ => ⟨b, 0, rfl, h1, h2⟩⟩
theorem LsO.up {w w' : World} {base : Nat} {v : Value} {ss : List ByteArray} (h : LsO w base v ss) (hb : Below w.heap.size w w') : LsO w' base v ss := by
  obtain ⟨b, rfl, h1, ht, h0, h2, h3⟩ := h
  exact ⟨b, rfl, h1.up hb h2, there_up ht hb h2, h0, Nat.lt_of_lt_of_le h2 hb.size, h3⟩
theorem there_kept {w w' : World} {b o n : Nat} {r : Option Nat} (h : w.there b o n) (hg : w.grownBy w' r) (hb : b < w.heap.size) (hne : some b ≠ r) : w'.there b o n := fun j hj => by
  have hk := hg.block b hb hne
  rw [World.cell?_of_block (w := w) (a := ⟨b, o + j, none⟩) hk, World.frozen?_of_block (w := w) (a := ⟨b, o + j, none⟩) hk]; exact h j hj
theorem LsO.kept {w w' : World} {base r : Nat} {v : Value} {ss : List ByteArray} (h : LsO w base v ss) (hg : w.grownBy w' (some r)) (hr : r < base) : LsO w' base v ss := by
  obtain ⟨b, rfl, h1, ht, h0, h2, h3⟩ := h
  exact ⟨b, rfl, fun i s hs => hg.cell (h1 i s hs) (by simp; omega), there_kept ht hg h2 (by simp; omega), h0, Nat.lt_of_lt_of_le h2 hg.size, h3⟩
theorem LsO.low {w : World} {base base' : Nat} {v : Value} {ss : List ByteArray} (h : LsO w base v ss) (hb : base' ≤ base) : LsO w base' v ss := by
  obtain ⟨b, rfl, h1, ht, h0, h2⟩ := h
  exact ⟨b, rfl, h1, ht, by omega, h2⟩
/-- A batch's cells in block b, its lists behind b. -/
def BaO (w : World) (b o : Nat) (x : Ba) : Prop := ∃ hv nv, w.rangeAt b o [.string x.nm, hv, nv] ∧ LsO w (b + 1) hv x.has ∧ LsO w (b + 1) nv x.needs ∧ x.nm.size ≤ maxLen
theorem BaO.up {w w' : World} {b o : Nat} {x : Ba} (h : BaO w b o x) (hb : Below w.heap.size w w') (hlt : b < w.heap.size) : BaO w' b o x := by
  obtain ⟨hv, nv, hr, h1, h2, h3⟩ := h
  exact ⟨hv, nv, fun j v hv => (hb.cell (p := ⟨b, o + j, none⟩) hlt).trans (hr j v hv), h1.up hb, h2.up hb, h3⟩
theorem BaO.at {w : World} {b o : Nat} {x : Ba} (h : BaO w b o x) : BaAt w b o x := by
  obtain ⟨hv, nv, hr, h1, h2, h3⟩ := h
  exact ⟨hv, nv, hr, h1.ls, h2.ls, h3⟩
def BsOAt (w : World) (b : Nat) (bs : List Ba) : Prop := ∀ (i : Nat) (x : Ba), bs[i]? = some x → BaO w b (i * 3) x
theorem BsOAt.up {w w' : World} {b : Nat} {bs : List Ba} (h : BsOAt w b bs) (hb : Below w.heap.size w w') (hlt : b < w.heap.size) : BsOAt w' b bs := fun i x hx => (h i x hx).up hb hlt
theorem bsO_store {w1 : World} {b k : Nat} {bs : List Ba} {hv nv : Value} (hk : k < bs.length) (h : BsOAt w1 b (bs.take k)) (ht : w1.there b 0 (bs.length * 3)) (h1 : LsO w1 (b + 1) hv (bs[k]).has) (h2 : LsO w1 (b + 1) nv (bs[k]).needs) (h3 : (bs[k]).nm.size ≤ maxLen) :
    BsOAt (w1.setCells b (k * 3) [.string (bs[k]).nm, hv, nv]) b (bs.take (k + 1)) := by
  have hg : w1.grownBy (w1.setCells b (k * 3) [.string (bs[k]).nm, hv, nv]) (some b) := grown_copies b _ _ w1 w1 (some b) (World.grownBy.refl' w1) rfl
  intro i p hp
  by_cases hi : i < k
  · obtain ⟨hv', nv', hr, g1, g2, g3⟩ := h i p (by rw [List.getElem?_take] at hp ⊢; rw [if_pos (by omega)] at hp; rw [if_pos hi]; exact hp)
    refine ⟨hv', nv', World.rangeAt_setCells_apart hr b (k * 3) _ (.inr (.inl ?_)), g1.kept hg (by omega), g2.kept hg (by omega), g3⟩
    simp; omega
  · have hik : i = k := by
      rw [List.getElem?_take] at hp
      split at hp
      · omega
      · cases hp
    subst hik
    rw [List.getElem?_take, if_pos (by omega), List.getElem?_eq_getElem hk] at hp
    obtain rfl := Option.some.inj hp
    refine ⟨hv, nv, World.rangeAt_setCells_same _ _ _ _ (fun j hj => ?_), h1.kept hg (by omega), h2.kept hg (by omega), h3⟩
    have := ht (i * 3 + j) (by simp at hj; omega)
    simpa using this
/-- Batches in a block of their own; a book of its own. -/
def BsO (w : World) (base : Nat) (v : Value) (bs : List Ba) : Prop := ∃ b, v = .slice (some ⟨b, 0, none⟩) bs.length bs.length ∧ BsOAt w b bs ∧ w.there b 0 (bs.length * 3) ∧ base ≤ b ∧ b < w.heap.size ∧ bs.length ≤ maxLen
theorem BsO.bs {w : World} {base : Nat} {v : Value} {bs : List Ba} (h : BsO w base v bs) : Bs w v bs := by
  obtain ⟨b, rfl, h1, -, -, h2, h3⟩ := h
  exact ⟨_, _, rfl, h3, fun _ => ⟨b, 0, rfl, fun i x hx => by rw [Nat.zero_add]; exact (h1 i x hx).at, h2⟩⟩
theorem BsO.up {w w' : World} {base : Nat} {v : Value} {bs : List Ba} (h : BsO w base v bs) (hb : Below w.heap.size w w') : BsO w' base v bs := by
  obtain ⟨b, rfl, h1, ht, h0, h2, h3⟩ := h
  exact ⟨b, rfl, h1.up hb h2, there_up ht hb h2, h0, Nat.lt_of_lt_of_le h2 hb.size, h3⟩
def BkO (w : World) (base : Nat) (v : Value) (b : Bk) : Prop := ∃ tv bv mid, v = .agg #[tv, bv] ∧ LsO w base tv b.things ∧ BsO w mid bv b.bs ∧ base ≤ mid ∧ ∀ g, tv.ownBlock = some g → g < mid
theorem BkO.bk {w : World} {base : Nat} {v : Value} {b : Bk} (h : BkO w base v b) : BkV w v b := by
  obtain ⟨tv, bv, mid, rfl, h1, h2, -⟩ := h
  exact ⟨tv, bv, rfl, h1.ls, h2.bs⟩
theorem BkO.up {w w' : World} {base : Nat} {v : Value} {b : Bk} (h : BkO w base v b) (hb : Below w.heap.size w w') : BkO w' base v b := by
  obtain ⟨tv, bv, mid, rfl, h1, h2, r⟩ := h
  exact ⟨tv, bv, mid, rfl, h1.up hb, h2.up hb, r⟩
end Go.Proofs.YtliebjbbomghiaaGreatDoor

/- An append of nothing. -/
namespace Go.Proofs.YtliebjbbomghiaaGreatDoor
open Go.RowKit

theorem run_append_zero {P : Program} {w : World} (base : Nat) (t ty e : TypeId) (i : TypeInfo) (size : Nat) (ht : P.underlying t = some (.slice e)) (hi : P.info? e = some i)
    (v : Value) (n : Nat) (xs : List Value) (hown : w.ownsRow base e size v n xs) (a : Option Addr) (c : Nat) : (Builtin.append_ #[t, t] ty #[v, .slice a 0 c]).run P w = .ok v w := by
  rcases hown.2 with ⟨rfl, rfl⟩ | ⟨g, cap, cur, rfl, _, _, hnc, _⟩
  · cases a <;> simp [Builtin.append_, run_underlying ht, sizeOf, typeInfo, hi, Builtin.lenOf, Builtin.firstCells, loadCells, loadCellsFrom, Result.andThen]
  · cases a <;> simp [Builtin.append_, run_underlying ht, sizeOf, typeInfo, hi, Builtin.lenOf, Builtin.firstCells, hnc, storeCells, loadCells, loadCellsFrom, Result.andThen]
theorem wpList_append_zero {P : Program} (w : World) {ops : Array Oper} {rest : List Oper} {o : Oper} {ac : Act} {Q : Exit → Act → World → Prop} (hg : o.guard = none) (s x : Operand) (t : TypeId) (hop : o.op = .call { callee := .builtin .append, args := #[s, x], argTypes := #[t, t] })
    (base : Nat) (e : TypeId) (i : TypeInfo) (size : Nat) (ht : P.underlying t = some (.slice e)) (hi : P.info? e = some i) (v : Value) (n : Nat) (xs : List Value) (hs : ac.eval s = v) (hown : w.ownsRow base e size v n xs) (a : Option Addr) (c : Nat) (hx : ac.eval x = .slice a 0 c)
    (h : wpList P ops Q rest (ac.put o.dst v) w) : wpList P ops Q (o :: rest) ac w := by
  refine wpList_plain hg fun K hK => ?_
  have hr := run_append_zero (P := P) base t o.type e i size ht hi v n xs hown a c
  unfold Oper.wp
  simp [execOp, hop, resolve, invoke, builtin, hs, hx, hr, Result.andThen]
  exact hK _ _ h
/-- A slice that is not nil. -/
def NN (u : Value) : Prop := ∃ g n c, u = .slice (some ⟨g, 0, none⟩) n c
theorem ownT_lit0 (w : World) : OwnT (w.alloc (.cells #[] 9)) w.heap.size (.slice (some ⟨w.heap.size, 0, none⟩) 0 0) [] := World.ownsRow_lit w #[] 0 (Nat.le_refl _) (by unfold maxLen; omega) rfl
end Go.Proofs.YtliebjbbomghiaaGreatDoor

/- Functions that end with a struct in their result's block. -/
namespace Go.Proofs.YtliebjbbomghiaaGreatDoor
open Go.RowKit
/-- A function that ends so, with a struct of three (two; three and a second result) in its result's block, stored whole. -/
theorem end_cb3 {P : Program} {fn : Func} {q : Tmp} {T : TypeId} (h : fn.results = #[.cell q T]) {d : TypeDesc} (hu : P.underlying T = some d) (hd : d.isRow = true) (hi : (P.info? T).map (·.size) = some 3) {R : Ending → World → Prop} {tmps : Array Value} {w : World} {rk : Nat} {y0 y1 y2 x0 x1 x2 : Value}
    (k : CB w rk [y0, y1, y2]) (ht : tmps.getD q undef = .pointer (some ⟨rk, 0, none⟩)) (hR : R (.returned (.agg #[x0, x1, x2])) (((w.setCell ⟨rk, 0, none⟩ x0).setCell ⟨rk, 1, none⟩ x1).setCell ⟨rk, 2, none⟩ x2)) :
    bodyPost P fn R .ret { tmps := tmps, defers := [] } (((w.setCell ⟨rk, 0, none⟩ x0).setCell ⟨rk, 1, none⟩ x1).setCell ⟨rk, 2, none⟩ x2) :=
  bodyPost_ret (ret_cb (cs := [x0, x1, x2]) h hu hd hi ht (k.copy3 x0 x1 x2)) rfl hR
theorem end_cb2 {P : Program} {fn : Func} {q : Tmp} {T : TypeId} (h : fn.results = #[.cell q T]) {d : TypeDesc} (hu : P.underlying T = some d) (hd : d.isRow = true) (hi : (P.info? T).map (·.size) = some 2) {R : Ending → World → Prop} {tmps : Array Value} {w : World} {rk : Nat} {y0 y1 x0 x1 : Value}
    (k : CB w rk [y0, y1]) (ht : tmps.getD q undef = .pointer (some ⟨rk, 0, none⟩)) (hR : R (.returned (.agg #[x0, x1])) ((w.setCell ⟨rk, 0, none⟩ x0).setCell ⟨rk, 1, none⟩ x1)) :
    bodyPost P fn R .ret { tmps := tmps, defers := [] } ((w.setCell ⟨rk, 0, none⟩ x0).setCell ⟨rk, 1, none⟩ x1) :=
  bodyPost_ret (ret_cb (cs := [x0, x1]) h hu hd hi ht (k.copy2 x0 x1)) rfl hR
theorem end_cb3b {P : Program} {fn : Func} {q q2 : Tmp} {T : TypeId} (h : fn.results = #[.cell q T, .tmp q2]) {d : TypeDesc} (hu : P.underlying T = some d) (hd : d.isRow = true) (hi : (P.info? T).map (·.size) = some 3) {R : Ending → World → Prop} {tmps : Array Value} {w : World} {rk : Nat} {y0 y1 y2 x0 x1 x2 v : Value}
    (k : CB w rk [y0, y1, y2]) (ht : tmps.getD q undef = .pointer (some ⟨rk, 0, none⟩)) (hv : tmps.getD q2 undef = v) (hR : R (.returned (.tuple #[.agg #[x0, x1, x2], v])) (((w.setCell ⟨rk, 0, none⟩ x0).setCell ⟨rk, 1, none⟩ x1).setCell ⟨rk, 2, none⟩ x2)) :
    bodyPost P fn R .ret { tmps := tmps, defers := [] } (((w.setCell ⟨rk, 0, none⟩ x0).setCell ⟨rk, 1, none⟩ x1).setCell ⟨rk, 2, none⟩ x2) :=
  bodyPost_ret (ret_cb2 (cs := [x0, x1, x2]) h hu hd hi ht hv (k.copy3 x0 x1 x2)) rfl hR
end Go.Proofs.YtliebjbbomghiaaGreatDoor

/- The specification's copy of a book (chapter 11). -/
namespace Go.Proofs.YtliebjbbomghiaaGreatDoor
open Go.RowKit

theorem infoBat1 : (Tryz.prog.info? 172).map (fun i => (i.zero, i.size, i.bytes)) = some (some (.agg #[.string ⟨#[]⟩, .slice none 0 0, .slice none 0 0]), 3, 64) := by kernel_rfl
/-- A batch and the two slices of its lists. -/
abbrev Bv := Ba × Value × Value
def rowB (p : Bv) : List Value := [.string p.1.nm, p.2.1, p.2.2]
def rowsB : List Bv → List Value
  | [] => []
  | p :: r => rowB p ++ rowsB r
theorem rowsB_length : ∀ ps : List Bv, (rowsB ps).length = ps.length * 3
  | [] => rfl
  | p :: r => by rw [rowsB, List.length_append, rowsB_length r, List.length_cons]; simp [rowB]; omega
theorem rowsB_snoc (p : Bv) : ∀ ps : List Bv, rowsB (ps ++ [p]) = rowsB ps ++ rowB p
  | [] => by simp [rowsB]
  | q :: r => by rw [List.cons_append, rowsB, rowsB, rowsB_snoc p r, List.append_assoc]
/-- Batches in a row of their own, their lists too. -/
def BsW (w : World) (base : Nat) (v : Value) (ps : List Bv) : Prop := w.ownsRow base 172 3 v ps.length (rowsB ps) ∧ ∀ p ∈ ps, OwnT w base p.2.1 p.1.has ∧ OwnT w base p.2.2 p.1.needs ∧ p.1.nm.size ≤ maxLen
theorem BsW.up {w w' : World} {base : Nat} {v : Value} {ps : List Bv} (h : BsW w base v ps) (hb : Below w.heap.size w w') : BsW w' base v ps :=
  ⟨own_up h.1 hb, fun p hp => ⟨(h.2 p hp).1.up hb, (h.2 p hp).2.1.up hb, (h.2 p hp).2.2⟩⟩
theorem own_apart2 {w : World} {base base' e e' s s' n n' : Nat} {v v' : Value} {xs xs' : List Value} (h : w.ownsRow base e s v n xs) (h' : w.ownsRow base' e' s' v' n' xs') (hne : e ≠ e') : ∀ g, v.ownBlock = some g → some g ≠ v'.ownBlock := fun g hg hg' => by
  rcases h.2 with ⟨rfl, _⟩ | ⟨g1, cap, cur, rfl, _, hh, _⟩
  · simp [Value.ownBlock] at hg
  · rcases h'.2 with ⟨rfl, _⟩ | ⟨g2, cap', cur', rfl, _, hh', _⟩
    · simp [Value.ownBlock] at hg'
    · simp [Value.ownBlock] at hg hg'
      subst hg hg'
      rw [hh] at hh'
      simp at hh'
      exact hne hh'.2
theorem own_keep2 {w w' : World} {base e s n : Nat} {v : Value} {xs : List Value} {r : Option Nat} (h : w.ownsRow base e s v n xs) (hg : w.grownBy w' r) (hne : ∀ g, v.ownBlock = some g → some g ≠ r) : w'.ownsRow base e s v n xs := by
  refine ⟨h.1, ?_⟩
  rcases h.2 with h0 | ⟨g, cap, cur, hv, hb, hh, q⟩
  · exact .inl h0
  · refine .inr ⟨g, cap, cur, hv, hb, ?_, q⟩
    rw [hg.block g (Array.getElem?_eq_some_iff.1 hh).1 (hne g (by rw [hv]; rfl))]; exact hh
/-- One more batch. -/
theorem bsW_app {wr Wl w' : World} {base : Nat} {xv v' hu nu : Value} {ps : List Bv} {x : Ba} {o' : Obj} (hW : BsW wr base xv ps) (hb : Below wr.heap.size wr Wl) (hoh : OwnT Wl base hu x.has) (hon : OwnT Wl base nu x.needs) (hz : x.nm.size ≤ maxLen)
    (hgr : (Wl.alloc o').grownBy w' xv.ownBlock) (hown : w'.ownsRow base 172 3 v' (ps.length + 1) (rowsB ps ++ [.string x.nm, hu, nu])) : BsW w' base v' (ps ++ [(x, hu, nu)]) := by
  have ha : Below Wl.heap.size Wl (Wl.alloc o') := (Below.refl _ _).alloc (Nat.le_refl _) _
  have hrow := own_up (own_up hW.1 hb) ha
  refine ⟨by rw [List.length_append, rowsB_snoc]; exact hown, fun p hp => ?_⟩
  rcases List.mem_append.1 hp with h | h
  · obtain ⟨q1, q2, q3⟩ := hW.2 p h
    have r1 := (q1.up hb).up ha
    have r2 := (q2.up hb).up ha
    exact ⟨own_keep2 r1 hgr (own_apart2 r1 hrow (by decide)), own_keep2 r2 hgr (own_apart2 r2 hrow (by decide)), q3⟩
  · obtain rfl : p = (x, hu, nu) := by simpa using h
    have r1 := hoh.up ha
    have r2 := hon.up ha
    exact ⟨own_keep2 r1 hgr (own_apart2 r1 hrow (by decide)), own_keep2 r2 hgr (own_apart2 r2 hrow (by decide)), hz⟩
theorem hnew3 (w : World) (x y z : Value) (ty : TypeId) {j : Nat} {v : Value} (h : [x, y, z][j]? = some v) : (w.alloc (.cells #[x, y, z] ty)).cell? ((⟨w.heap.size, 0, none⟩ : Addr).add j) = some v := by
  have := (cb_alloc w [x, y, z] ty).1 j v h
  rw [Addr.add_mid]; exact this
theorem BaAt.batch' {w : World} {b o : Nat} {x : Ba} (h : BaAt w b o x) : x.nm.size ≤ maxLen := by
  obtain ⟨_, _, _, _, _, h3⟩ := h; exact h3
end Go.Proofs.YtliebjbbomghiaaGreatDoor
