/- Runs in plain: promises 1 to 3: in time; an end that was told of; what may still be used. -/
import Derived.Test.YtcofjoacehacjaaGreatDoorRn
import Derived.Test.YtcofjoacehacjaaGreatDoorWcBool
import Derived.Test.YtcofjoacehacjaaGreatDoorJ0
import Derived.Test.YtcofjoacehacjaaGreatDoorJ12
namespace Go.Proofs.YtcofjoacehacjaaGreatDoor

/-- A step costs no more than it takes off what is left. -/
theorem step_less {ps : List Ph} (hok : recB ps = true) (y : Sy) {k : Nat} (hk : k < ps.length) {nm : ByteArray} (ha : atI ps nm = (k : Int)) :
    0 ≤ ticksT ps[k] y ∧ ticksT ps[k] y + evL feI fpI 0 ps (nextT ps[k] y) ≤ evL feI fpI 0 ps nm := by
  have hw := wi_of_recB hok ps[k] (by simp)
  have hT := ticks_bd ps[k] y hw.1
  refine ⟨hT.1, ?_⟩
  rw [evL_step hok feI fpI 0 nm hk ha, fpI]
  unfold nextT
  split <;> omega
theorem stN_left {ps : List Ph} (hok : recB ps = true) (ys : List Sy) {i : Nat} (hw : Went ps ys i) : (stN ps ys i).left = evL feI fpI 0 ps (stN ps ys i).nm := (went_inv hok ys i hw).2.2.2.2
theorem run_less {ps : List Ph} (hok : recB ps = true) (ys : List Sy) {i : Nat} (hw : Went ps ys (i + 1)) :
    (stN ps ys i).now ≤ (stN ps ys (i + 1)).now ∧ (stN ps ys (i + 1)).now + (stN ps ys (i + 1)).left ≤ (stN ps ys i).now + (stN ps ys i).left := by
  have hi := hw i (by omega)
  obtain ⟨k, hk, ha⟩ := at_nat hi
  have hs := step_less hok (ys[i]?.getD Sy.late) hk ha
  have hl := stN_left hok ys (i := i) (fun j hj => hw j (by omega))
  rw [stN, goV_at _ hk ha]
  simp only [stAt]
  omega
theorem run_bound {ps : List Ph} (hok : recB ps = true) (ys : List Sy) : ∀ (i : Nat), Went ps ys i → (stN ps ys i).now + (stN ps ys i).left ≤ evL feI fpI 0 ps (beginS ps).nm := by
  intro i
  induction i with
  | zero =>
    intro hw
    rw [stN_left hok ys hw, stN]
    have hl : 0 < ps.length := ((recB_iff ps).1 hok).1
    have : (beginS ps).now = 0 := by rw [begin_yes hok hl]; rfl
    omega
  | succ i ih =>
    intro hw
    have := (run_less hok ys hw).2
    have := ih fun j hj => hw j (by omega)
    omega
theorem end_left {ps : List Ph} (hok : recB ps = true) {nm : ByteArray} (h : endN nm ≠ 0) : evL feI fpI 0 ps nm = 0 := by
  rw [evL_out ps feI fpI 0 nm (at_end hok h)]
  simp [feI]
/-- The end that it comes to could be told of all along. -/
theorem run_can {ps : List Ph} (hok : recB ps = true) (ys : List Sy) {n : Nat} (hw : Went ps ys n) (hend : endN (stN ps ys n).nm ≠ 0) : ∀ (d : Nat), d ≤ n → evL (feB (endN (stN ps ys n).nm)) fpB false ps (stN ps ys (n - d)).nm = true := by
  intro d
  induction d with
  | zero =>
    intro _
    rw [Nat.sub_zero, evL_out ps _ _ _ _ (at_end hok hend), if_neg hend]
    simp [feB]
  | succ d ih =>
    intro hd
    have h1 := ih (by omega)
    have hi := hw (n - (d + 1)) (by omega)
    obtain ⟨k, hk, ha⟩ := at_nat hi
    rw [evL_step hok _ _ _ _ hk ha, fpB]
    rw [show n - d = n - (d + 1) + 1 by omega, stN, goV_at _ hk ha] at h1
    simp only [stAt, nextT] at h1
    split at h1
    · rw [h1]; rfl
    · rw [h1, Bool.or_true]
theorem endN_three (nm : ByteArray) (h : endN nm ≠ 0) : 1 ≤ endN nm ∧ endN nm ≤ 3 := by
  unfold endN at *
  repeat' split
  all_goals first | omega | skip
  all_goals simp_all
end Go.Proofs.YtcofjoacehacjaaGreatDoor

/- A name put into an ascending list: plain facts, and what is at hand while lists are joined. -/
namespace Go.Proofs.YtcofjoacehacjaaGreatDoor
open Go.RowKit

def lessB (a b : ByteArray) : Bool := Op.bytesLess a.toList b.toList
def sameB (a b : ByteArray) : Bool := a.toList == b.toList
/-- A name put into an ascending list. -/
def insL : List ByteArray → ByteArray → List ByteArray
  | [], x => [x]
  | y :: r, x => if lessB y x = true then y :: insL r x else if sameB y x = true then y :: r else x :: y :: r
/-- The first k are less. -/
def lowL (ss : List ByteArray) (x : ByteArray) (k : Nat) : Prop := ∀ (j : Nat) (s : ByteArray), j < k → ss[j]? = some s → lessB s x = true
theorem lowL_succ {ss : List ByteArray} {x : ByteArray} {k : Nat} (h : lowL ss x k) (hk : k < ss.length) (hl : lessB (ss[k]) x = true) : lowL ss x (k + 1) := fun j s hj hs => by
  rcases Nat.lt_or_ge j k with h' | h'
  · exact h j s h' hs
  · obtain rfl : j = k := by omega
    obtain ⟨_, rfl⟩ := List.getElem?_eq_some_iff.1 hs
    exact hl
theorem insL_new : ∀ (ss : List ByteArray) (x : ByteArray) (k : Nat), lowL ss x k → k ≤ ss.length → (∀ s, ss[k]? = some s → lessB s x = false ∧ sameB s x = false) → insL ss x = ss.take k ++ x :: ss.drop k
  | [], x, 0, _, _, _ => rfl
  | [], x, k + 1, _, h, _ => by simp at h
  | y :: r, x, 0, _, _, h => by
    obtain ⟨h1, h2⟩ := h y rfl
    rw [insL, h1, h2]; rfl
  | y :: r, x, k + 1, hl, hk, h => by
    have h0 := hl 0 y (by omega) rfl
    rw [insL, if_pos h0, insL_new r x k (fun j s hj hs => hl (j + 1) s (by omega) (by simpa using hs)) (by simpa using hk) (fun s hs => h s (by simpa using hs))]
    rfl
theorem insL_old : ∀ (ss : List ByteArray) (x : ByteArray) (k : Nat), lowL ss x k → (∃ s, ss[k]? = some s ∧ lessB s x = false ∧ sameB s x = true) → insL ss x = ss
  | [], x, k, _, ⟨s, hs, _⟩ => by simp at hs
  | y :: r, x, 0, _, ⟨s, hs, h1, h2⟩ => by
    obtain rfl : y = s := by simpa using hs
    rw [insL, h1, h2]; rfl
  | y :: r, x, k + 1, hl, ⟨s, hs, h1, h2⟩ => by
    have h0 := hl 0 y (by omega) rfl
    rw [insL, if_pos h0, insL_old r x k (fun j s hj hs => hl (j + 1) s (by omega) (by simpa using hs)) ⟨s, by simpa using hs, h1, h2⟩]
theorem insL_len (ss : List ByteArray) (x : ByteArray) : (insL ss x).length ≤ ss.length + 1 := by
  induction ss with
  | nil => simp [insL]
  | cons y r ih =>
    rw [insL]
    split
    · simp; omega
    · split <;> simp

/-- What is at hand while names are joined. -/
def Ow (w W : World) (g : Nat) (ss : List ByteArray) (v : Value) (n : Nat) (xs : List Value) : Prop := W.ownsRow w.heap.size 9 1 v n xs ∧ StrsAt W g 0 ss ∧ Below w.heap.size w W
theorem Ow.grow {w W W' : World} {g n n' : Nat} {ss : List ByteArray} {v v' : Value} {xs ys : List Value} (h : Ow w W g ss v n xs) (hg : g < w.heap.size) (hgr : W.grownBy W' v.ownBlock) (ho : W'.ownsRow w.heap.size 9 1 v' n' ys) : Ow w W' g ss v' n' ys :=
  ⟨ho, h.2.1.own h.1 hgr hg, below_own h.2.2 h.1 hgr (Nat.le_refl _)⟩
theorem Ow.alloc {w W : World} {g n : Nat} {ss : List ByteArray} {v : Value} {xs : List Value} (h : Ow w W g ss v n xs) (o : Obj) : Ow w (W.alloc o) g ss v n xs :=
  ⟨h.1.alloc o, h.2.1.alloc o, h.2.2.alloc h.2.2.size o⟩
theorem Ow.drew {w W : World} {g n : Nat} {ss : List ByteArray} {v : Value} {xs : List Value} (h : Ow w W g ss v n xs) : Ow w W.drew g ss v n xs := ⟨h.1, h.2.1, h.2.2.drew⟩
theorem ow_lit {w W : World} {g : Nat} {ss : List ByteArray} (hS : StrsAt W g 0 ss) (hB : Below w.heap.size w W) : Ow w (W.alloc (.cells #[] 9)) g ss (.slice (some ⟨W.heap.size, 0, none⟩) 0 0) 0 [] :=
  ⟨World.ownsRow_lit W #[] 0 hB.size (Nat.zero_le _) rfl, hS.alloc _, hB.alloc hB.size _⟩
theorem strs_drop {W : World} {g o2 k c : Nat} {ss : List ByteArray} (h : StrsAt W g 0 ss) (ho : (if c = k then some (⟨g, 0, none⟩ : Addr) else some ⟨g, k, none⟩) = some ⟨g, o2, none⟩) (hc : ss.length ≤ c) : StrsAt W g o2 (ss.drop k) := by
  by_cases h7 : c = k
  · intro i s hs
    have := (List.getElem?_eq_some_iff.1 hs).1; simp at this; omega
  · rw [if_neg h7] at ho
    obtain rfl : k = o2 := by simpa using ho
    have := h.drop k
    simpa using this
end Go.Proofs.YtcofjoacehacjaaGreatDoor

/- Slots in plain: lists joined. -/
namespace Go.Proofs.YtcofjoacehacjaaGreatDoor

def bothL (a : List ByteArray) (b : List ByteArray) : List ByteArray := b.foldl insL a
theorem bothL_take (a b : List ByteArray) (k : Nat) (hk : k < b.length) : bothL a (b.take (k + 1)) = insL (bothL a (b.take k)) b[k] := by
  unfold bothL; rw [List.take_succ_eq_append_getElem hk, List.foldl_append]; rfl
theorem bothL_len (a : List ByteArray) : ∀ b : List ByteArray, (bothL a b).length ≤ a.length + b.length
  | [] => by simp [bothL]
  | x :: r => by
    have h1 := bothL_len (insL a x) r
    have h2 := insL_len a x
    simp only [bothL, List.foldl_cons, List.length_cons] at *
    omega
/-- The slots of a phase alone. -/
def ofL (p : Ph) : List ByteArray := if p.k = 2 then insL [p.a] p.b else [p.a]
end Go.Proofs.YtcofjoacehacjaaGreatDoor
