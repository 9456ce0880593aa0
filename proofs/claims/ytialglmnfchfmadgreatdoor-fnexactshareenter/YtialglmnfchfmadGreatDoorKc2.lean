/- Books that change, in plain: needing less, asking. -/
import Derived.Test.YtialglmnfchfmadGreatDoorK6
import Derived.Test.YtialglmnfchfmadGreatDoorSp0
namespace Go.Proofs.YtialglmnfchfmadGreatDoor

/-- One batch is changed. -/
def chg (b : Bk) (p : Nat) (f : Ba → Ba) : Bk := match b.bs[p]? with
  | some x => ⟨b.things, b.bs.set p (f x)⟩
  | none => b
theorem chg_at {b : Bk} {p : Nat} {f : Ba → Ba} {x : Ba} (h : b.bs[p]? = some x) : chg b p f = ⟨b.things, b.bs.set p (f x)⟩ := by simp [chg, h]
def needsAt (b : Bk) (nm : ByteArray) : List ByteArray := ((b.bs[plN b nm]?).map (·.needs)).getD []
theorem needsAt_at {b : Bk} {nm : ByteArray} {x : Ba} (h : b.bs[plN b nm]? = some x) : needsAt b nm = x.needs := by simp [needsAt, h]
def lessF (needs : List ByteArray) (x : Ba) : Ba := ⟨x.nm, x.has.filter (memS needs), needs⟩
def insAll (has things : List ByteArray) : List ByteArray := things.foldl insL has
def askF (things : List ByteArray) (x : Ba) : Ba := ⟨x.nm, insAll x.has things, x.needs⟩
theorem insAll_take (has things : List ByteArray) (k : Nat) (hk : k < things.length) : insAll has (things.take (k + 1)) = insL (insAll has (things.take k)) things[k] := by
  unfold insAll; rw [List.take_succ_eq_append_getElem hk, List.foldl_append]; rfl
theorem insAll_len (has : List ByteArray) : ∀ things : List ByteArray, (insAll has things).length ≤ has.length + things.length := by
  intro things
  induction things generalizing has with
  | nil => simp [insAll]
  | cons x r ih =>
    have h1 := ih (insL has x)
    have h2 := insL_len has x
    simp only [insAll, List.foldl_cons, List.length_cons] at *
    omega
theorem insL_mem (ss : List ByteArray) (x : ByteArray) : ∀ s ∈ insL ss x, s ∈ ss ∨ s = x := by
  induction ss with
  | nil => intro s hs; simp [insL] at hs; exact .inr hs
  | cons y r ih =>
    intro s hs
    simp only [insL] at hs
    split at hs
    · rcases List.mem_cons.1 hs with h | h
      · exact .inl (by simp [h])
      · rcases ih s h with h | h
        · exact .inl (by simp [h])
        · exact .inr h
    · split at hs
      · exact .inl hs
      · rcases List.mem_cons.1 hs with h | h
        · exact .inr h
        · exact .inl h
theorem insAll_mem (has : List ByteArray) : ∀ things : List ByteArray, ∀ s ∈ insAll has things, s ∈ has ∨ s ∈ things := by
  intro things
  induction things generalizing has with
  | nil => intro s hs; exact .inl hs
  | cons x r ih =>
    intro s hs
    rcases ih (insL has x) s hs with h | h
    · rcases insL_mem has x s h with h | h
      · exact .inl h
      · exact .inr (by simp [h])
    · exact .inr (by simp [h])
noncomputable def lsnC (b : Bk) (nm : ByteArray) (needs : List ByteArray) : Int :=
  if bookB b = false then 1 else if memS (nms b.bs) nm = false then 3 else if pB (PartOk needs (needsAt b nm)) = false then 2 else 0
noncomputable def lsnB (b : Bk) (nm : ByteArray) (needs : List ByteArray) : Bk :=
  if bookB b = false then nobody else if lsnC b nm needs = 0 then chg b (plN b nm) (lessF needs) else b
theorem less_no {b : Bk} {nm : ByteArray} {needs : List ByteArray} (h : bookB b = false) : lsnC b nm needs = 1 ∧ lsnB b nm needs = nobody := by simp [lsnC, lsnB, h]
theorem less_none {b : Bk} {nm : ByteArray} {needs : List ByteArray} (h : bookB b = true) (hm : memS (nms b.bs) nm = false) : lsnC b nm needs = 3 ∧ lsnB b nm needs = b := by simp [lsnC, lsnB, h, hm]
theorem less_two {b : Bk} {nm : ByteArray} {needs : List ByteArray} (h : bookB b = true) (hm : memS (nms b.bs) nm = true) (hp : pB (PartOk needs (needsAt b nm)) = false) : lsnC b nm needs = 2 ∧ lsnB b nm needs = b := by simp [lsnC, lsnB, h, hm, hp]
theorem less_yes {b : Bk} {nm : ByteArray} {needs : List ByteArray} (h : bookB b = true) (hm : memS (nms b.bs) nm = true) (hp : pB (PartOk needs (needsAt b nm)) = true) : lsnC b nm needs = 0 ∧ lsnB b nm needs = chg b (plN b nm) (lessF needs) := by
  have hc : lsnC b nm needs = 0 := by simp [lsnC, h, hm, hp]
  exact ⟨hc, by rw [lsnB, h, if_neg (by simp), if_pos hc]⟩
theorem filter_take {ss : List ByteArray} {f : ByteArray → Bool} {k : Nat} (hk : k < ss.length) : (ss.take (k + 1)).filter f = (ss.take k).filter f ++ (if f ss[k] = true then [ss[k]] else []) := by
  rw [List.take_succ_eq_append_getElem hk, List.filter_append]
  congr 1
  by_cases h : f ss[k] = true
  · simp [h]
  · simp [h]
end Go.Proofs.YtialglmnfchfmadGreatDoor
