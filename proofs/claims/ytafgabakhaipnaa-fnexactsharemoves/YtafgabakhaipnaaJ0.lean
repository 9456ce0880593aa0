/- Plain facts on names, ends and phases: no program in it. -/
import Derived.Laws.RangeAny
import Derived.Below
import Derived.Test.YtafgabakhaipnaaChecked
import Derived.WalkKit
import Derived.WalkSpells
import Derived.WalkLawsBesides
import Derived.Handy
import Derived.Outline
import Derived.Deep.Light
namespace Go.Proofs.Ytafgabakhaipnaa
/-- What a byte of a name is. -/
def nbB (n : Nat) : Bool := (decide (97 ≤ n) && decide (n ≤ 122)) || (decide (48 ≤ n) && decide (n ≤ 57)) || n == 45
def allB (l : List UInt8) : Bool := l.all fun b => nbB b.toNat
def nameB (s : ByteArray) : Bool := decide (1 ≤ s.size) && decide (s.size ≤ 8) && allB s.data.toList
theorem nbB_iff (n : Nat) : nbB n = true ↔ (97 ≤ n ∧ n ≤ 122) ∨ (48 ≤ n ∧ n ≤ 57) ∨ n = 45 := by
  simp [nbB, or_assoc]
theorem nbB_high (n : Nat) (h : 128 ≤ n) : nbB n = false := by
  rw [← Bool.not_eq_true, nbB_iff]; omega
theorem take_snoc (s : ByteArray) (k : Nat) (h : k < s.size) : s.data.toList.take (k + 1) = s.data.toList.take k ++ [s[k]] := by
  rw [List.take_succ_eq_append_getElem (by simpa using h)]; rfl
theorem allB_snoc (l : List UInt8) (b : UInt8) : allB (l ++ [b]) = (allB l && nbB b.toNat) := by simp [allB]
theorem allB_take (s : ByteArray) (k : Nat) (h : k < s.size) : allB (s.data.toList.take (k + 1)) = (allB (s.data.toList.take k) && nbB (s[k]).toNat) := by
  rw [take_snoc s k h, allB_snoc]
theorem allB_no (s : ByteArray) (k : Nat) (h : k < s.size) (hb : nbB (s[k]).toNat = false) : allB s.data.toList = false := by
  rw [← Bool.not_eq_true]; intro ha
  simp only [allB, List.all_eq_true] at ha
  have := ha (s[k]) (by show s.data[k] ∈ s.data.toList; simp)
  rw [hb] at this; cases this
theorem allB_yes (s : ByteArray) (k : Nat) (h : ¬ k < s.size) (ha : allB (s.data.toList.take k) = true) : allB s.data.toList = true := by
  rw [List.take_of_length_le (by simp; omega)] at ha; exact ha
def inB (n lo hi : Int) : Bool := decide (lo ≤ n) && decide (n ≤ hi)
theorem inB_iff (n lo hi : Int) : inB n lo hi = true ↔ lo ≤ n ∧ n ≤ hi := by simp [inB]
theorem inB_no (n lo hi : Int) : inB n lo hi = false ↔ ¬ (lo ≤ n ∧ n ≤ hi) := by rw [← inB_iff]; simp
def endN (s : ByteArray) : Int :=
  if s.toList == [103, 111, 111, 100] then 1 else if s.toList == [115, 97, 118, 101, 100] then 2 else if s.toList == [115, 99, 114, 97, 112, 112, 101, 100] then 3 else 0
/-- What a phase has by its kind. -/
def argsB (k : Int) (a b : ByteArray) (n wi : Int) : Bool :=
  if k = 1 then nameB a && nameB b && inB n 1 1000
  else if k = 2 then nameB a && nameB b && !(a.toList == b.toList) && inB n 1 1000
  else if k = 3 then nameB a && b.toList.isEmpty && inB n 1 wi
  else if k = 4 ∨ k = 5 then nameB a && b.toList.isEmpty && n == 0
  else false
def phaseB (nm : ByteArray) (k : Int) (a b : ByteArray) (n wi : Int) (t e : ByteArray) : Bool :=
  nameB nm && endN nm == 0 && inB wi 1 1000 && argsB k a b n wi && nameB t && nameB e
end Go.Proofs.Ytafgabakhaipnaa

/- What every walk leans on: what is handed back; worlds that grow. -/
namespace Go.Proofs.Ytafgabakhaipnaa
open Go.RowKit

theorem ret_bool {a b : Bool} (h : a = b) : Ending.returned (.bool a) = .returned (.bool b) := by rw [h]
theorem ret_int {k : IntKind} {a b : Int} (h : a = b) : Ending.returned (.int k a) = .returned (.int k b) := by rw [h]

theorem width_pos (s : ByteArray) (pos : Nat) (h : pos < s.size) : 1 ≤ (Utf8.decode s pos).2 := by
  by_cases ha : (s[pos]'h).toNat < 128
  · rw [decode_ascii s pos h ha]
    exact Nat.le_refl _
  · exact (decode_high s pos h (by omega)).2

theorem up_iter (w : World) (s : ByteArray) (p : Nat) : Below w.heap.size w (w.iter s p) := (Below.refl _ _).alloc (Nat.le_refl _) _
theorem bcell {W w1 : World} (hb : Below W.heap.size W w1) : (∀ b o, b < W.heap.size → w1.cell? ⟨b, o, none⟩ = W.cell? ⟨b, o, none⟩) ∧ (∀ b o, b < W.heap.size → w1.frozen? ⟨b, o, none⟩ = W.frozen? ⟨b, o, none⟩) :=
  ⟨fun b o h => hb.cell (p := ⟨b, o, none⟩) h, fun b o h => hb.frozen (p := ⟨b, o, none⟩) h⟩
theorem up_trans {a b c : World} (h : Below a.heap.size a b) (k : Below b.heap.size b c) : Below a.heap.size a c := h.trans (k.mono h.size)
end Go.Proofs.Ytafgabakhaipnaa

/- The walk of a rune of a name. -/
namespace Go.Proofs.Ytafgabakhaipnaa
open Go.RowKit

theorem rune_any (n : Nat) (w : World) :
    Calls Try.prog 51 #[.int .i32 n] w fun e w' => e = .returned (.bool (nbB n)) ∧ w' = w := by
  go_enter Try.func51, Try.ntmps51
  go_wp2
  all_goals
    go_ret
    exact ⟨ret_bool (by rw [Bool.eq_iff_iff, nbB_iff]; simp; omega), rfl⟩
end Go.Proofs.Ytafgabakhaipnaa
