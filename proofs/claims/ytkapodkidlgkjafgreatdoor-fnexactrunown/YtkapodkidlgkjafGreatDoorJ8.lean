/- The slots of a recipe from a name on: both sides' lists are one. -/
import Derived.Test.YtkapodkidlgkjafGreatDoorJ6
import Derived.Test.YtkapodkidlgkjafGreatDoorPt
import Derived.Test.YtkapodkidlgkjafGreatDoorJ0
import Derived.Laws.Strings
import Derived.Maps.Views
namespace Go.Proofs.YtkapodkidlgkjafGreatDoor

def ownK (p : Ph) : List Key := if p.k = 2 then [p.a.toList, p.b.toList] else [p.a.toList]
/-- The specification's list. -/
def slE (ps : List Ph) (nm : ByteArray) : List ByteArray := evL (fun _ => []) (fun p a b => bothL (bothL (ofL p) a) b) [] ps nm
def fpK (p : Ph) (a b : List Key) : List Key := uniq (ownK p ++ a ++ b)
def feK (_ : Int) : List Key := []
/-- The program's. -/
def slI (ps : List Ph) (nm : ByteArray) : List Key := evL feK fpK [] ps nm
theorem of_keys (p : Ph) : (keys (ofL p)).Pairwise (· < ·) ∧ ∀ x, x ∈ keys (ofL p) ↔ x ∈ ownK p := by
  unfold ofL ownK
  by_cases h : p.k = 2
  · rw [if_pos h, if_pos h]
    obtain ⟨h1, h2⟩ := ins_keys [p.a] p.b
    refine ⟨h2 (by simp [keys]), fun x => ?_⟩
    rw [h1]; simp [keys]
  · rw [if_neg h, if_neg h]
    exact ⟨by simp [keys], fun x => by simp [keys]⟩
theorem step_keys (p : Ph) (a b : List ByteArray) : keys (bothL (bothL (ofL p) a) b) = fpK p (keys a) (keys b) := by
  obtain ⟨o1, o2⟩ := of_keys p
  obtain ⟨m1, p1⟩ := both_keys a (ofL p)
  obtain ⟨m2, p2⟩ := both_keys b (bothL (ofL p) a)
  obtain ⟨u1, u2⟩ := uniq_keys (ownK p ++ keys a ++ keys b)
  refine asc_unique _ _ (p2 (p1 o1)) u1 fun x => ?_
  rw [m2, m1, o2]
  show _ ↔ x ∈ uniq _
  rw [u2, List.mem_append, List.mem_append]
theorem slots_keys : ∀ (ps : List Ph) (nm : ByteArray), keys (slE ps nm) = slI ps nm
  | [], nm => by unfold slE slI evL; split <;> rfl
  | p :: rest, nm => by
    have ih := slots_keys rest
    unfold slE slI at *
    rw [evL, evL]
    split
    · rw [step_keys, ih, ih]
    · exact ih nm
theorem slots_asc : ∀ (ps : List Ph) (nm : ByteArray), (slI ps nm).Pairwise (· < ·)
  | [], nm => by unfold slI evL; split <;> simp [feK]
  | p :: rest, nm => by
    have ih := slots_asc rest
    unfold slI at *
    rw [evL]
    split
    · exact (uniq_keys _).1
    · exact ih nm
theorem slots_mem : ∀ (ps : List Ph) (nm : ByteArray) (x : Key), x ∈ slI ps nm → x ∈ ps.flatMap ownK
  | [], nm, x, h => by
    unfold slI evL at h; split at h <;> simp [feK] at h
  | p :: rest, nm, x, h => by
    have ih := slots_mem rest
    unfold slI at *
    rw [evL] at h
    rw [List.flatMap_cons, List.mem_append]
    split at h
    · have := ((uniq_keys _).2 x).1 h
      rw [List.mem_append, List.mem_append] at this
      rcases this with (h1 | h1) | h1
      · exact .inl h1
      · exact .inr (ih _ x h1)
      · exact .inr (ih _ x h1)
    · exact .inr (ih _ x h)
theorem len_sub : ∀ (m l : List Key), l.Nodup → (∀ x ∈ l, x ∈ m) → l.length ≤ m.length
  | [], l, _, h => by
    cases l with
    | nil => simp
    | cons x r => have := h x (by simp); simp at this
  | a :: m, l, hn, h => by
    have ih := len_sub m (l.erase a) (hn.erase a) (fun x hx => by
      have hx' := (List.Nodup.mem_erase_iff hn).1 hx
      rcases List.mem_cons.1 (h x hx'.2) with e | e
      · exact absurd e hx'.1
      · exact e)
    have := List.length_erase (a := a) (l := l)
    split at this <;> simp only [List.length_cons] <;> omega
theorem slots_len (ps : List Ph) (nm : ByteArray) : (slI ps nm).length ≤ 2 * ps.length := by
  have hn : (slI ps nm).Nodup := (slots_asc ps nm).imp fun h e => by subst e; exact key_irrefl _ h
  have h1 := len_sub (ps.flatMap ownK) _ hn (slots_mem ps nm)
  have h2 : ∀ l : List Ph, (l.flatMap ownK).length ≤ 2 * l.length := by
    intro l
    induction l with
    | nil => simp
    | cons p r ih =>
      rw [List.flatMap_cons, List.length_append, List.length_cons]
      have : (ownK p).length ≤ 2 := by unfold ownK; split <;> simp
      omega
  exact Nat.le_trans h1 (h2 ps)
theorem slE_len (ps : List Ph) (nm : ByteArray) : (slE ps nm).length ≤ 2 * ps.length := by
  have := slots_len ps nm
  rw [← slots_keys] at this
  simpa [keys] using this
def slotsV (ps : List Ph) (nm : ByteArray) : List ByteArray := if recB ps = true then slE ps nm else []
def allB2 (a b : List ByteArray) : Bool := a.all fun x => b.any fun y => y.toList == x.toList
theorem allB2_iff (a b : List ByteArray) : allB2 a b = true ↔ ∀ x ∈ keys a, x ∈ keys b := by
  simp only [allB2, List.all_eq_true, List.any_eq_true, keys, List.mem_map, beq_iff_eq]
  constructor
  · rintro h x ⟨s, hs, rfl⟩
    obtain ⟨y, hy, e⟩ := h s hs
    exact ⟨y, hy, e⟩
  · intro h s hs
    obtain ⟨y, hy, e⟩ := h s.toList ⟨s, hs, rfl⟩
    exact ⟨y, hy, e⟩
end Go.Proofs.YtkapodkidlgkjafGreatDoor

/- Books in plain: no program in it. -/
namespace Go.Proofs.YtkapodkidlgkjafGreatDoor

/-- A batch; a book. -/
structure Ba where
  nm : ByteArray
  has : List ByteArray
  needs : List ByteArray
structure Bk where
  things : List ByteArray
  bs : List Ba
/-- Whether something holds, as a bool. -/
noncomputable def pB (p : Prop) : Bool := @decide p (Classical.propDecidable p)
theorem pB_yes {p : Prop} (h : p) : pB p = true := by unfold pB; simp [h]
theorem pB_no {p : Prop} (h : ¬ p) : pB p = false := by unfold pB; simp [h]
theorem pB_iff {p : Prop} : pB p = true ↔ p := by unfold pB; simp
theorem pB_not {p : Prop} : pB p = false ↔ ¬ p := by unfold pB; simp

def ltS (a b : ByteArray) : Bool := Op.bytesLess a.toList b.toList
def memS (l : List ByteArray) (s : ByteArray) : Bool := l.any fun x => x.toList == s.toList
def shareB (a b : List ByteArray) : Bool := a.any fun s => memS b s
theorem toL_eq {a b : ByteArray} (h : a.toList = b.toList) : a = b := by
  rw [Go.ByteArray.toList_eq, Go.ByteArray.toList_eq] at h
  cases a; cases b; simp at h; rw [h]
theorem memS_iff (l : List ByteArray) (s : ByteArray) : memS l s = true ↔ s ∈ l := by
  simp only [memS, List.any_eq_true, beq_iff_eq]
  constructor
  · rintro ⟨x, hx, h⟩; rwa [← toL_eq h]
  · exact fun h => ⟨s, h, rfl⟩
theorem memS_no (l : List ByteArray) (s : ByteArray) : memS l s = false ↔ s ∉ l := by rw [← memS_iff]; simp
theorem shareB_iff (a b : List ByteArray) : shareB a b = true ↔ ∃ s, s ∈ a ∧ s ∈ b := by
  simp only [shareB, List.any_eq_true, memS_iff]
theorem shareB_no (a b : List ByteArray) : shareB a b = false ↔ ∀ s, s ∈ a → s ∉ b := by
  rw [← Bool.not_eq_true, shareB_iff]; simp
theorem memS_take {l : List ByteArray} {s : ByteArray} {k : Nat} (hk : k < l.length) (h : memS (l.take k) s = false) (hq : ((l[k]).toList == s.toList) = false) : memS (l.take (k + 1)) s = false := by
  rw [List.take_succ_eq_append_getElem hk, memS, List.any_append]
  rw [memS] at h
  simp [h, hq]
theorem memS_found {l : List ByteArray} {s : ByteArray} {k : Nat} (hk : k < l.length) (hq : ((l[k]).toList == s.toList) = true) : memS l s = true := by
  rw [memS, List.any_eq_true]
  exact ⟨l[k], List.getElem_mem hk, hq⟩
theorem memS_all {l : List ByteArray} {s : ByteArray} {k : Nat} (hk : ¬ k < l.length) (h : memS (l.take k) s = false) : memS l s = false := by
  rwa [List.take_of_length_le (by omega)] at h
theorem shareB_take {a b : List ByteArray} {k : Nat} (hk : k < a.length) (h : shareB (a.take k) b = false) (hq : memS b a[k] = false) : shareB (a.take (k + 1)) b = false := by
  rw [List.take_succ_eq_append_getElem hk, shareB, List.any_append]
  rw [shareB] at h
  simp [h, hq]
theorem shareB_found {a b : List ByteArray} {k : Nat} (hk : k < a.length) (hq : memS b a[k] = true) : shareB a b = true := by
  rw [shareB, List.any_eq_true]
  exact ⟨a[k], List.getElem_mem hk, hq⟩
theorem shareB_all {a b : List ByteArray} {k : Nat} (hk : ¬ k < a.length) (h : shareB (a.take k) b = false) : shareB a b = false := by
  rwa [List.take_of_length_le (by omega)] at h

/-- Ascending up to place k; names up to place k; of a list up to place k. -/
def AscTo (l : List ByteArray) (k : Nat) : Prop := ∀ (i : Nat) (a b : ByteArray), i + 1 < k → l[i]? = some a → l[i + 1]? = some b → ltS a b = true
def NamesTo (l : List ByteArray) (k : Nat) : Prop := ∀ (i : Nat) (a : ByteArray), i < k → l[i]? = some a → nameB a = true
def PartTo (l all : List ByteArray) (k : Nat) : Prop := ∀ (i : Nat) (a : ByteArray), i < k → l[i]? = some a → memS all a = true
def Asc (l : List ByteArray) : Prop := AscTo l l.length
def Names (l : List ByteArray) : Prop := NamesTo l l.length
def Part (l all : List ByteArray) : Prop := PartTo l all l.length
def PartOk (l all : List ByteArray) : Prop := Part l all ∧ Asc l
def ThingsOk (l : List ByteArray) : Prop := l.length ≤ 8 ∧ Names l ∧ Asc l
theorem AscTo.zero (l : List ByteArray) : AscTo l 0 := fun i _ _ h => by omega
theorem AscTo.one (l : List ByteArray) : AscTo l 1 := fun i _ _ h => by omega
theorem NamesTo.zero (l : List ByteArray) : NamesTo l 0 := fun i _ h => by omega
theorem PartTo.zero (l all : List ByteArray) : PartTo l all 0 := fun i _ h => by omega
theorem AscTo.step {l : List ByteArray} {k : Nat} (h : AscTo l (k + 1)) (hk : k + 1 < l.length) (hl : ltS l[k] l[k + 1] = true) : AscTo l (k + 2) := fun i a b hi ha hb => by
  by_cases e : i = k
  · subst e
    rw [List.getElem?_eq_getElem (by omega)] at ha hb
    obtain rfl := Option.some.inj ha
    obtain rfl := Option.some.inj hb
    exact hl
  · exact h i a b (by omega) ha hb
theorem NamesTo.step {l : List ByteArray} {k : Nat} (h : NamesTo l k) (hk : k < l.length) (hl : nameB l[k] = true) : NamesTo l (k + 1) := fun i a hi ha => by
  by_cases e : i = k
  · subst e
    rw [List.getElem?_eq_getElem hk] at ha
    obtain rfl := Option.some.inj ha
    exact hl
  · exact h i a (by omega) ha
theorem PartTo.step {l all : List ByteArray} {k : Nat} (h : PartTo l all k) (hk : k < l.length) (hl : memS all l[k] = true) : PartTo l all (k + 1) := fun i a hi ha => by
  by_cases e : i = k
  · subst e
    rw [List.getElem?_eq_getElem hk] at ha
    obtain rfl := Option.some.inj ha
    exact hl
  · exact h i a (by omega) ha
theorem asc_end {l : List ByteArray} {k : Nat} (h : AscTo l k) (hk : ¬ k < l.length) : Asc l := fun i a b hi ha hb => h i a b (by omega) ha hb
theorem names_end {l : List ByteArray} {k : Nat} (h : NamesTo l k) (hk : ¬ k < l.length) : Names l := fun i a hi ha => h i a (by omega) ha
theorem part_end {l all : List ByteArray} {k : Nat} (h : PartTo l all k) (hk : ¬ k < l.length) : Part l all := fun i a hi ha => h i a (by omega) ha
theorem asc_at {l : List ByteArray} (h : Asc l) {k : Nat} (hk : k + 1 < l.length) : ltS l[k] l[k + 1] = true := h k _ _ hk (by rw [List.getElem?_eq_getElem]) (by rw [List.getElem?_eq_getElem])
theorem names_at {l : List ByteArray} (h : Names l) {k : Nat} (hk : k < l.length) : nameB l[k] = true := h k _ hk (by rw [List.getElem?_eq_getElem])
theorem part_at {l all : List ByteArray} (h : Part l all) {k : Nat} (hk : k < l.length) : memS all l[k] = true := h k _ hk (by rw [List.getElem?_eq_getElem])
theorem names_mem {l : List ByteArray} (h : Names l) {s : ByteArray} (hs : s ∈ l) : nameB s = true := by
  obtain ⟨i, hi, rfl⟩ := List.getElem_of_mem hs
  exact names_at h hi
theorem part_mem {l all : List ByteArray} (h : Part l all) {s : ByteArray} (hs : s ∈ l) : s ∈ all := by
  obtain ⟨i, hi, rfl⟩ := List.getElem_of_mem hs
  exact (memS_iff _ _).1 (part_at h hi)

/-- What a batch at place i of a book is asked; none of the batches up to place k shares what it has with one ahead of it. -/
def BaOk (things : List ByteArray) (x : Ba) : Prop := PartOk x.needs things ∧ PartOk x.has x.needs
def BasTo (things : List ByteArray) (bs : List Ba) (k : Nat) : Prop := ∀ (i : Nat) (x : Ba), i < k → bs[i]? = some x → BaOk things x
/-- No batch up to place n has what one ahead of it has; of batch n itself those ahead of place m. -/
def ApartTo (bs : List Ba) (n m : Nat) : Prop := ∀ (i j : Nat) (x y : Ba), j < i → (i < n ∨ i = n ∧ j < m) → bs[i]? = some x → bs[j]? = some y → shareB x.has y.has = false
def nms (bs : List Ba) : List ByteArray := bs.map (·.nm)
def Apart (bs : List Ba) : Prop := ApartTo bs bs.length 0
def BookOk (b : Bk) : Prop := ThingsOk b.things ∧ b.bs.length ≤ 5 ∧ Names (nms b.bs) ∧ Asc (nms b.bs) ∧ BasTo b.things b.bs b.bs.length ∧ Apart b.bs
noncomputable def bookB (b : Bk) : Bool := pB (BookOk b)
theorem nms_length (bs : List Ba) : (nms bs).length = bs.length := by simp [nms]
theorem nms_get (bs : List Ba) (k : Nat) (hk : k < bs.length) : (nms bs)[k]'(by rw [nms_length]; exact hk) = (bs[k]).nm := by simp [nms]
theorem nms_take (bs : List Ba) (k : Nat) : nms (bs.take k) = (nms bs).take k := by simp [nms]
theorem BasTo.zero (things : List ByteArray) (bs : List Ba) : BasTo things bs 0 := fun i _ h => by omega
theorem BasTo.step {things : List ByteArray} {bs : List Ba} {k : Nat} (h : BasTo things bs k) (hk : k < bs.length) (hl : BaOk things bs[k]) : BasTo things bs (k + 1) := fun i a hi ha => by
  by_cases e : i = k
  · subst e
    rw [List.getElem?_eq_getElem hk] at ha
    obtain rfl := Option.some.inj ha
    exact hl
  · exact h i a (by omega) ha
theorem BasTo.at {things : List ByteArray} {bs : List Ba} {n k : Nat} (h : BasTo things bs n) (hn : k < n) (hk : k < bs.length) : BaOk things bs[k] := h k _ hn (by rw [List.getElem?_eq_getElem])
theorem bas_end {things : List ByteArray} {bs : List Ba} {k : Nat} (h : BasTo things bs k) (hk : ¬ k < bs.length) : BasTo things bs bs.length := fun i a hi ha => h i a (by omega) ha
theorem ApartTo.zero (bs : List Ba) : ApartTo bs 0 0 := fun i j _ _ _ h => by omega
theorem ApartTo.step {bs : List Ba} {n m : Nat} (h : ApartTo bs n m) (hn : n < bs.length) (hm : m < n) (hq : shareB (bs[n]).has (bs[m]).has = false) : ApartTo bs n (m + 1) := fun i j x y hji hi hx hy => by
  by_cases e : i = n ∧ j = m
  · obtain ⟨rfl, rfl⟩ := e
    rw [List.getElem?_eq_getElem (by omega)] at hx hy
    obtain rfl := Option.some.inj hx
    obtain rfl := Option.some.inj hy
    exact hq
  · exact h i j x y hji (by omega) hx hy
theorem ApartTo.next {bs : List Ba} {n m : Nat} (h : ApartTo bs n m) (hm : ¬ m < n) : ApartTo bs (n + 1) 0 := fun i j x y hji hi hx hy => h i j x y hji (by omega) hx hy
theorem apart_end {bs : List Ba} {n : Nat} (h : ApartTo bs n 0) (hn : ¬ n < bs.length) : Apart bs := fun i j x y hji hi hx hy => h i j x y hji (by
  have := (List.getElem?_eq_some_iff.1 hx).1
  omega) hx hy
theorem Apart.at {bs : List Ba} (h : Apart bs) {n m : Nat} (hn : n < bs.length) (hm : m < n) : shareB (bs[n]).has (bs[m]).has = false := h n m _ _ hm (by omega) (by rw [List.getElem?_eq_getElem]) (by rw [List.getElem?_eq_getElem])
/-- The place of the first batch that has a thing, and its name. -/
def whoB (bs : List Ba) (s : ByteArray) : ByteArray := ((bs.find? fun x => memS x.has s).map (·.nm)).getD ⟨#[]⟩
noncomputable def whoS (b : Bk) (s : ByteArray) : ByteArray := if bookB b = true then whoB b.bs s else ⟨#[]⟩
/-- No batch up to place k has a thing. -/
def FreeTo (bs : List Ba) (s : ByteArray) (k : Nat) : Prop := ∀ (i : Nat) (x : Ba), i < k → bs[i]? = some x → memS x.has s = false
theorem FreeTo.zero (bs : List Ba) (s : ByteArray) : FreeTo bs s 0 := fun i _ h => by omega
theorem FreeTo.step {bs : List Ba} {s : ByteArray} {k : Nat} (h : FreeTo bs s k) (hk : k < bs.length) (hl : memS (bs[k]).has s = false) : FreeTo bs s (k + 1) := fun i a hi ha => by
  by_cases e : i = k
  · subst e
    rw [List.getElem?_eq_getElem hk] at ha
    obtain rfl := Option.some.inj ha
    exact hl
  · exact h i a (by omega) ha
theorem whoB_at {bs : List Ba} {s : ByteArray} {k : Nat} (hk : k < bs.length) (h : FreeTo bs s k) (hl : memS (bs[k]).has s = true) : whoB bs s = (bs[k]).nm := by
  have : bs.find? (fun x => memS x.has s) = some bs[k] := by
    rw [List.find?_eq_some_iff_getElem]
    exact ⟨hl, k, hk, rfl, fun j hj => by rw [h j _ hj (by rw [List.getElem?_eq_getElem (by omega)])]; rfl⟩
  rw [whoB, this]; rfl
theorem whoB_none {bs : List Ba} {s : ByteArray} {k : Nat} (hk : ¬ k < bs.length) (h : FreeTo bs s k) : whoB bs s = ⟨#[]⟩ := by
  have : bs.find? (fun x => memS x.has s) = none := by
    rw [List.find?_eq_none]
    intro x hx
    obtain ⟨i, hi, rfl⟩ := List.getElem_of_mem hx
    rw [h i _ (by omega) (by rw [List.getElem?_eq_getElem])]; simp
  rw [whoB, this]; rfl
/-- The place of a text in a list, -1 if it is not there. -/
def idxI (l : List ByteArray) (s : ByteArray) : Int := if memS l s = true then (l.findIdx fun x => x.toList == s.toList : Nat) else -1
theorem idxI_found {l : List ByteArray} {s : ByteArray} {k : Nat} (hk : k < l.length) (h : memS (l.take k) s = false) (hq : ((l[k]).toList == s.toList) = true) : idxI l s = (k : Int) := by
  have hf : l.findIdx (fun x => x.toList == s.toList) = k := by
    rw [List.findIdx_eq hk]
    refine ⟨hq, fun j hj => ?_⟩
    rw [memS, List.any_eq_false] at h
    have := h (l[j]) (by rw [List.mem_take_iff_getElem]; exact ⟨j, by omega, rfl⟩)
    simpa using this
  rw [idxI, if_pos (memS_found hk hq), hf]
theorem idxI_none {l : List ByteArray} {s : ByteArray} (h : memS l s = false) : idxI l s = -1 := by rw [idxI, h]; simp
theorem idxI_mem (l : List ByteArray) (s : ByteArray) : decide (0 ≤ idxI l s) = memS l s := by
  cases h : memS l s
  · rw [idxI_none h]; rfl
  · rw [idxI, if_pos h]; simp
theorem beq_flip (a b : List UInt8) : (a == b) = (b == a) := by
  rw [Bool.eq_iff_iff, beq_iff_eq, beq_iff_eq]; exact eq_comm
end Go.Proofs.YtkapodkidlgkjafGreatDoor

/- Books in plain: ascending lists, who has what in a map. -/
namespace Go.Proofs.YtkapodkidlgkjafGreatDoor
open Go.Maps

theorem bl_eq : ∀ (x y : List UInt8), Op.bytesLess x y = decide (x < y)
  | [], [] => by simp [Op.bytesLess]
  | _ :: _, [] => by simp [Op.bytesLess]
  | [], _ :: _ => by simp [Op.bytesLess]
  | a :: x, b :: y => by
    rw [Op.bytesLess, bl_eq x y]
    simp only [List.cons_lt_cons_iff]
    by_cases h1 : a < b <;> by_cases h2 : a = b <;> by_cases h3 : x < y <;> simp [h1, h2, h3]
theorem ltS_iff (a b : ByteArray) : ltS a b = true ↔ a.toList < b.toList := by rw [ltS, bl_eq]; simp
theorem ltS_trans {a b c : ByteArray} (h : ltS a b = true) (k : ltS b c = true) : ltS a c = true := by
  rw [ltS_iff] at *; exact List.lt_trans h k
theorem ltS_irrefl (a : ByteArray) : ltS a a = false := by
  rw [← Bool.not_eq_true, ltS_iff]; exact List.lt_irrefl _
theorem asc_lt {l : List ByteArray} (h : Asc l) : ∀ (d i : Nat) (a b : ByteArray), l[i]? = some a → l[i + 1 + d]? = some b → ltS a b = true
  | 0, i, a, b, ha, hb => h i a b (List.getElem?_eq_some_iff.1 hb).1 ha hb
  | d + 1, i, a, b, ha, hb => by
    have hl : i + 1 + (d + 1) < l.length := (List.getElem?_eq_some_iff.1 hb).1
    have hm : l[i + 1]? = some l[i + 1] := List.getElem?_eq_getElem (by omega)
    exact ltS_trans (h i a _ (by omega) ha hm) (asc_lt h d (i + 1) _ b hm (by rw [show i + 1 + 1 + d = i + 1 + (d + 1) by omega]; exact hb))
theorem asc_ne {l : List ByteArray} (h : Asc l) {i j : Nat} {a : ByteArray} (hi : l[i]? = some a) (hj : l[j]? = some a) : i = j := by
  rcases Nat.lt_trichotomy i j with h1 | h1 | h1
  · have := asc_lt h (j - i - 1) i a a hi (by rw [show i + 1 + (j - i - 1) = j by omega]; exact hj)
    rw [ltS_irrefl] at this; cases this
  · exact h1
  · have := asc_lt h (i - j - 1) j a a hj (by rw [show j + 1 + (i - j - 1) = i by omega]; exact hi)
    rw [ltS_irrefl] at this; cases this
/-- A list whose places differ, all of another list, is no longer than it. -/
theorem short_of : ∀ (l m : List ByteArray), (∀ (i j : Nat) (a : ByteArray), l[i]? = some a → l[j]? = some a → i = j) → (∀ s ∈ l, s ∈ m) → l.length ≤ m.length
  | [], m, _, _ => by simp
  | x :: r, m, hd, hs => by
    have hx : x ∈ m := hs x (by simp)
    obtain ⟨m1, m2, rfl⟩ := List.append_of_mem hx
    have := short_of r (m1 ++ m2) (fun i j a hi hj => by
      have := hd (i + 1) (j + 1) a (by simpa using hi) (by simpa using hj)
      omega) (fun s h => by
      have h1 := hs s (by simp [h])
      rcases List.mem_append.1 h1 with h2 | h2
      · simp [h2]
      · rcases List.mem_cons.1 h2 with h3 | h3
        · subst h3
          obtain ⟨i, hi, e⟩ := List.getElem_of_mem h
          have := hd 0 (i + 1) s (by simp) (by simp [List.getElem?_eq_getElem hi, e])
          omega
        · simp [h3])
    simp at this ⊢; omega
theorem part_short {l all : List ByteArray} (h : PartOk l all) : l.length ≤ all.length := short_of l all (fun _ _ _ hi hj => asc_ne h.2 hi hj) (fun _ hs => part_mem h.1 hs)

/-- What a name is in a map. -/
def kl (s : ByteArray) : Lit := .string s.data.toList
theorem kl_inj {a b : ByteArray} (h : kl a = kl b) : a = b := by
  simp only [kl, Lit.string.injEq] at h
  cases a; cases b; simp at h; rw [h]
theorem kl_key (s : ByteArray) : WideAt.IsKeyLit (kl s) := trivial
/-- Up to batch k, and of it up to place m, a thing is at place i. -/
def HadBy (bs : List Ba) (k m : Nat) (s : ByteArray) (i : Nat) : Prop := ∃ x, bs[i]? = some x ∧ (i < k ∧ s ∈ x.has ∨ i = k ∧ s ∈ x.has.take m)
/-- The map tells of each thing that somebody has, up to there, who. -/
def HoldD (D : DataW Unit) (bs : List Ba) (k m : Nat) : Prop := IsMap D ∧ (∀ s, Maps.has D (kl s) = true → ∃ i, HadBy bs k m s i) ∧ (∀ s i, HadBy bs k m s i → Maps.has D (kl s) = true ∧ ∀ z, D.atKey (kl s) z = .lit (.int .i64 (i : Int)))
theorem HoldD.start (bs : List Ba) : HoldD (.map []) bs 0 0 := by
  refine ⟨isMap_empty, fun s h => by simp [Maps.has] at h, fun s i h => ?_⟩
  obtain ⟨x, _, h | h⟩ := h
  · omega
  · simp at h
theorem HadBy.up {bs : List Ba} {k m i : Nat} {s : ByteArray} (h : HadBy bs k m s i) : HadBy bs k (m + 1) s i := by
  obtain ⟨x, hx, h | ⟨h1, h2⟩⟩ := h
  · exact ⟨x, hx, .inl h⟩
  · refine ⟨x, hx, .inr ⟨h1, ?_⟩⟩
    rw [List.mem_take_iff_getElem] at h2 ⊢
    obtain ⟨j, hj, e⟩ := h2
    exact ⟨j, by omega, e⟩
theorem HadBy.new {bs : List Ba} {k m : Nat} (hk : k < bs.length) (hm : m < (bs[k]).has.length) : HadBy bs k (m + 1) ((bs[k]).has[m]) k :=
  ⟨bs[k], List.getElem?_eq_getElem hk, .inr ⟨rfl, by rw [List.mem_take_iff_getElem]; exact ⟨m, by omega, rfl⟩⟩⟩
theorem HadBy.split {bs : List Ba} {k m i : Nat} {s : ByteArray} (hk : k < bs.length) (hm : m < (bs[k]).has.length) (h : HadBy bs k (m + 1) s i) : HadBy bs k m s i ∨ (i = k ∧ s = (bs[k]).has[m]) := by
  obtain ⟨x, hx, h | ⟨rfl, h2⟩⟩ := h
  · exact .inl ⟨x, hx, .inl h⟩
  · rw [List.getElem?_eq_getElem hk] at hx
    obtain rfl := Option.some.inj hx
    rw [List.take_succ_eq_append_getElem hm] at h2
    rcases List.mem_append.1 h2 with h3 | h3
    · exact .inl ⟨_, List.getElem?_eq_getElem hk, .inr ⟨rfl, h3⟩⟩
    · exact .inr ⟨rfl, by simpa using h3⟩
theorem HoldD.step {D : DataW Unit} {bs : List Ba} {k m : Nat} (h : HoldD D bs k m) (hk : k < bs.length) (hm : m < (bs[k]).has.length) (hn : Maps.has D (kl ((bs[k]).has[m])) = false) :
    HoldD (D.put (kl ((bs[k]).has[m])) (.lit (.int .i64 (k : Int)))) bs k (m + 1) := by
  obtain ⟨h1, h2, h3⟩ := h
  refine ⟨h1.put _ _, fun s hs => ?_, fun s i hi => ?_⟩
  · by_cases e : kl s = kl ((bs[k]).has[m])
    · obtain rfl := kl_inj e
      exact ⟨k, HadBy.new hk hm⟩
    · rw [has_put_other e] at hs
      obtain ⟨i, hi⟩ := h2 s hs
      exact ⟨i, hi.up⟩
  · rcases hi.split hk hm with h4 | ⟨rfl, rfl⟩
    · have e : kl s ≠ kl ((bs[k]).has[m]) := fun e => by
        have := (h3 s i h4).1
        rw [e, hn] at this; cases this
      exact ⟨by rw [has_put_other e]; exact (h3 s i h4).1, fun z => by rw [atKey_put_other e]; exact (h3 s i h4).2 z⟩
    · exact ⟨has_put_same h1 (kl_key _) _, fun z => atKey_put_same h1 (kl_key _) _ z⟩
theorem HadBy.next {bs : List Ba} {k m i : Nat} {s : ByteArray} (hk : k < bs.length) (hm : ¬ m < (bs[k]).has.length) : HadBy bs k m s i ↔ HadBy bs (k + 1) 0 s i := by
  constructor
  · rintro ⟨x, hx, h | ⟨rfl, h2⟩⟩
    · exact ⟨x, hx, .inl ⟨by omega, h.2⟩⟩
    · exact ⟨x, hx, .inl ⟨by omega, List.mem_of_mem_take h2⟩⟩
  · rintro ⟨x, hx, h | ⟨_, h2⟩⟩
    · by_cases e : i = k
      · subst e
        rw [List.getElem?_eq_getElem hk] at hx
        obtain rfl := Option.some.inj hx
        exact ⟨_, List.getElem?_eq_getElem hk, .inr ⟨rfl, by rw [List.take_of_length_le (by omega)]; exact h.2⟩⟩
      · exact ⟨x, hx, .inl ⟨by omega, h.2⟩⟩
    · simp at h2
theorem HoldD.next {D : DataW Unit} {bs : List Ba} {k m : Nat} (h : HoldD D bs k m) (hk : k < bs.length) (hm : ¬ m < (bs[k]).has.length) : HoldD D bs (k + 1) 0 :=
  ⟨h.1, fun s hs => by obtain ⟨i, hi⟩ := h.2.1 s hs; exact ⟨i, (HadBy.next hk hm).1 hi⟩, fun s i hi => h.2.2 s i ((HadBy.next hk hm).2 hi)⟩
/-- Somebody has it already: two have one thing. -/
theorem HoldD.twice {D : DataW Unit} {bs : List Ba} {k m : Nat} (h : HoldD D bs k m) (hk : k < bs.length) (hm : m < (bs[k]).has.length) (hd : Asc (bs[k]).has) (hn : Maps.has D (kl ((bs[k]).has[m])) = true) : ¬ Apart bs := fun ha => by
  obtain ⟨i, x, hx, h4 | ⟨rfl, h4⟩⟩ := h.2.1 _ hn
  · have hi : i < bs.length := (List.getElem?_eq_some_iff.1 hx).1
    have := ha.at hk h4.1
    rw [shareB_no] at this
    rw [List.getElem?_eq_getElem hi] at hx
    obtain rfl := Option.some.inj hx
    exact this _ (List.getElem_mem hm) h4.2
  · rw [List.getElem?_eq_getElem hk] at hx
    obtain rfl := Option.some.inj hx
    rw [List.mem_take_iff_getElem] at h4
    obtain ⟨j, hj, e⟩ := h4
    have := asc_ne hd (i := j) (j := m) (List.getElem?_eq_getElem (by omega)) (by rw [e]; exact List.getElem?_eq_getElem hm)
    omega
theorem HoldD.apart {D : DataW Unit} {bs : List Ba} {k : Nat} (h : HoldD D bs k 0) (hk : ¬ k < bs.length) : Apart bs := fun i j x y hji hi hx hy => by
  have li := (List.getElem?_eq_some_iff.1 hx).1
  have lj := (List.getElem?_eq_some_iff.1 hy).1
  rw [shareB_no]
  intro s h1 h2
  have e1 := (h.2.2 s i ⟨x, hx, .inl ⟨by omega, h1⟩⟩).2 .nil
  have e2 := (h.2.2 s j ⟨y, hy, .inl ⟨by omega, h2⟩⟩).2 .nil
  rw [e1] at e2
  simp at e2
  omega
/-- Who has a thing, off the map. -/
theorem HoldD.who {D : DataW Unit} {bs : List Ba} {k : Nat} (h : HoldD D bs k 0) {s : ByteArray} (hs : Maps.has D (kl s) = true) : ∃ (i : Nat) (hi : i < bs.length), (∀ z, D.atKey (kl s) z = .lit (.int .i64 (i : Int))) ∧ whoB bs s = (bs[i]).nm := by
  obtain ⟨i, hi⟩ := h.2.1 s hs
  have hz := (h.2.2 s i hi).2
  obtain ⟨x, hx, h4 | ⟨_, h4⟩⟩ := hi
  · have li := (List.getElem?_eq_some_iff.1 hx).1
    refine ⟨i, li, hz, whoB_at li (fun j y hj hy => ?_) ?_⟩
    · rw [memS_no]
      intro h5
      have := (h.2.2 s j ⟨y, hy, .inl ⟨by omega, h5⟩⟩).2 .nil
      rw [hz] at this
      simp at this
      omega
    · rw [memS_iff]
      rw [List.getElem?_eq_getElem li] at hx
      obtain rfl := Option.some.inj hx
      exact h4.2
  · simp at h4
theorem HoldD.whoNone {D : DataW Unit} {bs : List Ba} {k : Nat} (h : HoldD D bs k 0) (hk : ¬ k < bs.length) {s : ByteArray} (hs : Maps.has D (kl s) = false) : whoB bs s = ⟨#[]⟩ :=
  whoB_none hk fun i x hi hx => by
    rw [memS_no]
    intro h5
    have := (h.2.2 s i ⟨x, hx, .inl ⟨hi, h5⟩⟩).1
    rw [hs] at this; cases this
end Go.Proofs.YtkapodkidlgkjafGreatDoor
