/- Plain facts on names, ends and phases: no program in it. -/
import Derived.Laws.RangeAny
import Derived.Below
import Derived.Test.YtmccabenfdigdaaGreatDoorChecked
import Derived.WalkKit
import Derived.WalkSpells
import Derived.WalkLawsBesides
import Derived.Handy
import Derived.Outline
import Derived.Deep.Light
import Derived.Laws.Bits64
import Derived.BigQuiet
import Derived.Deep.QuietTactic
import Derived.Deep.DeepCutAuto
import Derived.Deep.RegionLaw
import Derived.Deep.RegionHeld
import Derived.Deep.RegionWith
import Derived.Deep.MidRow
import Derived.Laws.Strings
namespace Go.Proofs.YtmccabenfdigdaaGreatDoor
/-- What a byte of a name is. -/
def nbB (n : Nat) : Bool := (decide (97 ≤ n) && decide (n ≤ 122)) || (decide (48 ≤ n) && decide (n ≤ 57)) || n == 45
def allB (l : List UInt8) : Bool := l.all fun b => nbB b.toNat
def nameB (s : ByteArray) : Bool := decide (1 ≤ s.size) && decide (s.size ≤ 8) && allB s.data.toList
theorem nbB_iff (n : Nat) : nbB n = true ↔ (97 ≤ n ∧ n ≤ 122) ∨ (48 ≤ n ∧ n ≤ 57) ∨ n = 45 := by
  simp [nbB, or_assoc]
theorem nbB_high (n : Nat) (h : 128 ≤ n) : nbB n = false := by
  rw [← Bool.not_eq_true, nbB_iff]; omega
theorem take_snoc (s : ByteArray) (k : Nat) (h : k < s.size) : s.data.toList.take (k + 1) = s.data.toList.take k ++ [s[k]] := by
  rw [List.take_succ_eq_append_getElem (by simpa using h)]; rfl
theorem allB_snoc (l : List UInt8) (b : UInt8) : allB (l ++ [b]) = (allB l && nbB b.toNat) := by simp [allB]
theorem allB_take (s : ByteArray) (k : Nat) (h : k < s.size) : allB (s.data.toList.take (k + 1)) = (allB (s.data.toList.take k) && nbB (s[k]).toNat) := by
  rw [take_snoc s k h, allB_snoc]
theorem allB_no (s : ByteArray) (k : Nat) (h : k < s.size) (hb : nbB (s[k]).toNat = false) : allB s.data.toList = false := by
  rw [← Bool.not_eq_true]; intro ha
  simp only [allB, List.all_eq_true] at ha
  have := ha (s[k]) (by show s.data[k] ∈ s.data.toList; simp)
  rw [hb] at this; cases this
theorem allB_yes (s : ByteArray) (k : Nat) (h : ¬ k < s.size) (ha : allB (s.data.toList.take k) = true) : allB s.data.toList = true := by
  rw [List.take_of_length_le (by simp; omega)] at ha; exact ha
def inB (n lo hi : Int) : Bool := decide (lo ≤ n) && decide (n ≤ hi)
theorem inB_iff (n lo hi : Int) : inB n lo hi = true ↔ lo ≤ n ∧ n ≤ hi := by simp [inB]
theorem inB_no (n lo hi : Int) : inB n lo hi = false ↔ ¬ (lo ≤ n ∧ n ≤ hi) := by rw [← inB_iff]; simp
def endN (s : ByteArray) : Int :=
  if s.toList == [103, 111, 111, 100] then 1 else if s.toList == [115, 97, 118, 101, 100] then 2 else if s.toList == [115, 99, 114, 97, 112, 112, 101, 100] then 3 else 0
/-- What a phase has by its kind. -/
def argsB (k : Int) (a b : ByteArray) (n wi : Int) : Bool :=
  if k = 1 then nameB a && nameB b && inB n 1 1000
  else if k = 2 then nameB a && nameB b && !(a.toList == b.toList) && inB n 1 1000
  else if k = 3 then nameB a && b.toList.isEmpty && inB n 1 wi
  else if k = 4 ∨ k = 5 then nameB a && b.toList.isEmpty && n == 0
  else false
def phaseB (nm : ByteArray) (k : Int) (a b : ByteArray) (n wi : Int) (t e : ByteArray) : Bool :=
  nameB nm && endN nm == 0 && inB wi 1 1000 && argsB k a b n wi && nameB t && nameB e
end Go.Proofs.YtmccabenfdigdaaGreatDoor

/- What every walk leans on: what is handed back; worlds that grow. -/
namespace Go.Proofs.YtmccabenfdigdaaGreatDoor
open Go.RowKit

theorem ret_bool {a b : Bool} (h : a = b) : Ending.returned (.bool a) = .returned (.bool b) := by rw [h]
theorem ret_int {k : IntKind} {a b : Int} (h : a = b) : Ending.returned (.int k a) = .returned (.int k b) := by rw [h]

theorem width_pos (s : ByteArray) (pos : Nat) (h : pos < s.size) : 1 ≤ (Utf8.decode s pos).2 := by
  by_cases ha : (s[pos]'h).toNat < 128
  · rw [decode_ascii s pos h ha]
    exact Nat.le_refl _
  · exact (decode_high s pos h (by omega)).2

theorem up_iter (w : World) (s : ByteArray) (p : Nat) : Below w.heap.size w (w.iter s p) := (Below.refl _ _).alloc (Nat.le_refl _) _
theorem bcell {W w1 : World} (hb : Below W.heap.size W w1) : (∀ b o, b < W.heap.size → w1.cell? ⟨b, o, none⟩ = W.cell? ⟨b, o, none⟩) ∧ (∀ b o, b < W.heap.size → w1.frozen? ⟨b, o, none⟩ = W.frozen? ⟨b, o, none⟩) :=
  ⟨fun b o h => hb.cell (p := ⟨b, o, none⟩) h, fun b o h => hb.frozen (p := ⟨b, o, none⟩) h⟩
theorem up_trans {a b c : World} (h : Below a.heap.size a b) (k : Below b.heap.size b c) : Below a.heap.size a c := h.trans (k.mono h.size)
end Go.Proofs.YtmccabenfdigdaaGreatDoor

/- The walk of a rune of a name. -/
namespace Go.Proofs.YtmccabenfdigdaaGreatDoor
open Go.RowKit

theorem rune_any (n : Nat) (w : World) :
    Calls Tryz.prog 74 #[.int .i32 n] w fun e w' => e = .returned (.bool (nbB n)) ∧ w' = w := by
  go_enter Tryz.func74, Tryz.ntmps74
  go_wp2
  all_goals
    go_ret
    exact ⟨ret_bool (by rw [Bool.eq_iff_iff, nbB_iff]; simp; omega), rfl⟩
end Go.Proofs.YtmccabenfdigdaaGreatDoor

/- Worlds that grow, rows of one's own, lists of texts, structs in blocks: what all walks share. -/
namespace Go.Proofs.YtmccabenfdigdaaGreatDoor
open Go.RowKit

theorem grown_trans {a b c : World} {r : Option Nat} (h : a.grownBy b r) (k : b.grownBy c r) : a.grownBy c r :=
  ⟨k.os.trans h.os, k.tape.trans h.tape, k.output.trans h.output, Nat.le_trans h.size k.size, fun i hi hr => (k.block i (Nat.lt_of_lt_of_le hi h.size) hr).trans (h.block i hi hr)⟩
theorem grown_refl (a : World) (r : Option Nat) : a.grownBy a r := ⟨rfl, rfl, rfl, Nat.le_refl _, fun _ _ _ => rfl⟩
theorem grown_drew {a b : World} {r : Option Nat} (h : a.grownBy b r) : a.grownBy b.drew r := ⟨h.os, h.tape, h.output, h.size, h.block⟩
theorem grown_below {a b : World} {r : Option Nat} (h : Below a.heap.size a b) : a.grownBy b r := ⟨h.os, h.tape, h.output, h.size, fun i hi _ => h.block i hi⟩
theorem grown_alloc {a b : World} {r : Option Nat} (h : a.grownBy b r) (o : Obj) : a.grownBy (b.alloc o) r := grown_trans h (grown_below ((Below.refl _ _).alloc (Nat.le_refl _) _))
theorem grown_setCell {a b : World} {rb off : Nat} (h : a.grownBy b (some rb)) (u : Value) : a.grownBy (b.setCell ⟨rb, off, none⟩ u) (some rb) :=
  grown_trans h ⟨rfl, rfl, rfl, by simp, fun i _ hr => Below.heap_setCell _ _ _ _ (fun e => hr (by rw [e]))⟩
theorem grown_drewN {a b : World} {r : Option Nat} (h : a.grownBy b r) (n : Nat) : a.grownBy (b.drewN n) r := ⟨h.os, h.tape, h.output, h.size, h.block⟩
/-- A list of texts in block g from cell o on. -/
def StrsAt (w : World) (g o : Nat) (ss : List ByteArray) : Prop := ∀ (i : Nat) (s : ByteArray), ss[i]? = some s → w.cell? ⟨g, o + i, none⟩ = some (.string s)
theorem StrsAt.kept {w w' : World} {g o rb : Nat} {ss : List ByteArray} (h : StrsAt w g o ss) (hg : w.grownBy w' (some rb)) (hne : g ≠ rb) : StrsAt w' g o ss :=
  fun i s hs => hg.cell (h i s hs) (by simpa using hne)
theorem below_copies (b : Nat) : ∀ (vs : List Value) (o : Nat) (W w' : World) (B : Nat), Below B W w' → B ≤ b → Below B W (w'.setCells b o vs)
  | [], _, _, _, _, h, _ => h
  | v :: r, o, W, w', B, h, hB => by
    rw [World.setCells]
    exact below_copies b r (o + 1) W _ B (h.setCell (p := ⟨b, o, none⟩) hB v) hB
theorem World.size_setCells' {b : Nat} : ∀ {vs : List Value} {o : Nat} {w : World}, (w.setCells b o vs).heap.size = w.heap.size
  | [], _, _ => rfl
  | v :: r, o, w => by rw [World.setCells, World.size_setCells']; simp
theorem World.grownBy.refl' (w : World) {r : Option Nat} : w.grownBy w r := ⟨rfl, rfl, rfl, Nat.le_refl _, fun _ _ _ => rfl⟩
theorem grown_copies (b : Nat) : ∀ (vs : List Value) (o : Nat) (W w' : World) (r : Option Nat), W.grownBy w' r → r = some b → W.grownBy (w'.setCells b o vs) r
  | [], _, _, _, _, h, _ => h
  | v :: s, o, W, w', r, h, hr => by
    rw [World.setCells]
    refine grown_copies b s (o + 1) W _ r ⟨h.os, h.tape, h.output, Nat.le_trans h.size (by simp), fun i hi hne => ?_⟩ hr
    rw [Below.heap_setCell _ _ _ _ (fun e => hne (by rw [hr, e]))]
    exact h.block i hi hne
/-- The cells of one struct, in a block of its own, which may be written. -/
def CB (w : World) (b : Nat) (cs : List Value) : Prop := w.rangeAt b 0 cs ∧ w.there b 0 cs.length ∧ b < w.heap.size
theorem CB.kept {w w' : World} {b : Nat} {cs : List Value} {r : Option Nat} (h : CB w b cs) (hg : w.grownBy w' r) (hne : some b ≠ r) : CB w' b cs := by
  have hb := hg.block b h.2.2 hne
  refine ⟨fun j v hv => ?_, fun j hj => ?_, Nat.lt_of_lt_of_le h.2.2 hg.size⟩
  · rw [World.cell?_of_block (w := w) (a := ⟨b, 0 + j, none⟩) hb]; exact h.1 j v hv
  · rw [World.cell?_of_block (w := w) (a := ⟨b, 0 + j, none⟩) hb, World.frozen?_of_block (w := w) (a := ⟨b, 0 + j, none⟩) hb]; exact h.2.1 j hj
theorem CB.up {w w' : World} {b B : Nat} {cs : List Value} (h : CB w b cs) (hb : Below B w w') (hB : b < B) : CB w' b cs := by
  have hk := hb.block b hB
  refine ⟨fun j v hv => ?_, fun j hj => ?_, Nat.lt_of_lt_of_le h.2.2 hb.size⟩
  · rw [World.cell?_of_block (w := w) (a := ⟨b, 0 + j, none⟩) hk]; exact h.1 j v hv
  · rw [World.cell?_of_block (w := w) (a := ⟨b, 0 + j, none⟩) hk, World.frozen?_of_block (w := w) (a := ⟨b, 0 + j, none⟩) hk]; exact h.2.1 j hj
theorem cb_alloc (w : World) (cs : List Value) (t : TypeId) : CB (w.alloc (.cells cs.toArray t)) w.heap.size cs := by
  have hr : (w.alloc (.cells cs.toArray t)).rangeAt w.heap.size 0 cs := by
    intro j v hv
    rw [Nat.zero_add, World.cell?_alloc_at]
    · simpa using hv
    · rfl
  refine ⟨hr, fun j hj => ⟨hr.isSome j hj, ?_⟩, by simp⟩
  simp [go_sem]
theorem cb_range_set {w : World} {b : Nat} {cs : List Value} {j : Nat} {u : Value} (h : w.rangeAt b 0 cs) (hj : j < cs.length) : (w.setCell ⟨b, j, none⟩ u).rangeAt b 0 (cs.set j u) := by
  intro i x hx
  rw [List.getElem?_set] at hx
  by_cases e : j = i
  · subst e
    rw [if_pos rfl, if_pos hj] at hx
    obtain rfl := Option.some.inj hx
    have hc := h j cs[j] (by simp)
    rw [Nat.zero_add] at hc ⊢
    exact World.cell?_setCell_same _ _ _ hc
  · rw [if_neg e] at hx
    rw [World.cell?_setCell_other _ _ _ _ (by simp <;> omega)]
    exact h i x hx
theorem CB.set {w : World} {b j : Nat} {cs : List Value} {u : Value} (h : CB w b cs) (hj : j < cs.length) : CB (w.setCell ⟨b, j, none⟩ u) b (cs.set j u) := by
  refine ⟨cb_range_set h.1 hj, fun i hi => ?_, by simpa using h.2.2⟩
  have := World.there_setCells h.2.1 b j [u] i (by simpa using hi)
  simpa [World.setCells] using this
theorem CB.other {w : World} {b q j : Nat} {cs : List Value} {u : Value} (h : CB w b cs) (hne : b ≠ q) : CB (w.setCell ⟨q, j, none⟩ u) b cs :=
  h.kept (r := some q) ⟨rfl, rfl, rfl, by simp, fun i _ hr => Below.heap_setCell _ _ _ _ (fun e => hr (by rw [e]))⟩ (by simpa using hne)
theorem CB.c2 {w : World} {b : Nat} {x0 x1 : Value} (h : CB w b [x0, x1]) : (w.cell? ⟨b, 0, none⟩ = some x0 ∧ w.cell? ⟨b, 1, none⟩ = some x1) ∧ w.frozen? ⟨b, 0, none⟩ = false ∧ w.frozen? ⟨b, 1, none⟩ = false :=
  ⟨⟨h.1 0 _ rfl, h.1 1 _ rfl⟩, (h.2.1 0 (by simp)).2, (h.2.1 1 (by simp)).2⟩
theorem CB.c3 {w : World} {b : Nat} {x0 x1 x2 : Value} (h : CB w b [x0, x1, x2]) : (w.cell? ⟨b, 0, none⟩ = some x0 ∧ w.cell? ⟨b, 1, none⟩ = some x1 ∧ w.cell? ⟨b, 2, none⟩ = some x2) ∧ w.frozen? ⟨b, 0, none⟩ = false ∧ w.frozen? ⟨b, 1, none⟩ = false ∧ w.frozen? ⟨b, 2, none⟩ = false :=
  ⟨⟨h.1 0 _ rfl, h.1 1 _ rfl, h.1 2 _ rfl⟩, (h.2.1 0 (by simp)).2, (h.2.1 1 (by simp)).2, (h.2.1 2 (by simp)).2⟩
theorem CB.c8 {w : World} {b : Nat} {x0 x1 x2 x3 x4 x5 x6 x7 : Value} (h : CB w b [x0, x1, x2, x3, x4, x5, x6, x7]) :
    (w.cell? ⟨b, 0, none⟩ = some x0 ∧ w.cell? ⟨b, 1, none⟩ = some x1 ∧ w.cell? ⟨b, 2, none⟩ = some x2 ∧ w.cell? ⟨b, 3, none⟩ = some x3 ∧ w.cell? ⟨b, 4, none⟩ = some x4 ∧ w.cell? ⟨b, 5, none⟩ = some x5 ∧ w.cell? ⟨b, 6, none⟩ = some x6 ∧ w.cell? ⟨b, 7, none⟩ = some x7) ∧
    w.frozen? ⟨b, 0, none⟩ = false ∧ w.frozen? ⟨b, 1, none⟩ = false ∧ w.frozen? ⟨b, 2, none⟩ = false ∧ w.frozen? ⟨b, 3, none⟩ = false ∧ w.frozen? ⟨b, 4, none⟩ = false ∧ w.frozen? ⟨b, 5, none⟩ = false ∧ w.frozen? ⟨b, 6, none⟩ = false ∧ w.frozen? ⟨b, 7, none⟩ = false :=
  ⟨⟨h.1 0 _ rfl, h.1 1 _ rfl, h.1 2 _ rfl, h.1 3 _ rfl, h.1 4 _ rfl, h.1 5 _ rfl, h.1 6 _ rfl, h.1 7 _ rfl⟩, (h.2.1 0 (by simp)).2, (h.2.1 1 (by simp)).2, (h.2.1 2 (by simp)).2, (h.2.1 3 (by simp)).2, (h.2.1 4 (by simp)).2, (h.2.1 5 (by simp)).2, (h.2.1 6 (by simp)).2, (h.2.1 7 (by simp)).2⟩
/-- A struct stored whole. -/
theorem CB.copy {w : World} {b : Nat} {ys : List Value} (h : CB w b ys) (xs : List Value) (hl : xs.length = ys.length) : CB (w.setCells b 0 xs) b xs :=
  ⟨World.rangeAt_setCells_same _ _ _ _ (by rw [hl]; exact h.2.1), World.there_setCells (by rw [hl]; exact h.2.1) _ _ _, by rw [World.size_setCells']; exact h.2.2⟩
theorem below_copy {B : Nat} {a w : World} {b : Nat} (h : Below B a w) (hb : B ≤ b) (xs : List Value) : Below B a (w.setCells b 0 xs) := below_copies b xs 0 a w B h hb
theorem CB.otherCopy {w : World} {b q : Nat} {ys : List Value} (h : CB w b ys) (hne : b ≠ q) (xs : List Value) : CB (w.setCells q 0 xs) b ys :=
  h.kept (r := some q) (grown_copies q xs 0 w w (some q) (World.grownBy.refl' w) rfl) (by simpa using hne)
/-- The struct that lies there may be stored into. -/
theorem CB.room {w : World} {b : Nat} {ys : List Value} (h : CB w b ys) {n : Nat} (hn : n = ys.length) : w.there b 0 n := by subst hn; exact h.2.1
theorem CB.copy2 {w : World} {b : Nat} {y0 y1 : Value} (h : CB w b [y0, y1]) (x0 x1 : Value) : CB ((w.setCell ⟨b, 0, none⟩ x0).setCell ⟨b, 1, none⟩ x1) b [x0, x1] := h.copy [x0, x1] rfl
theorem CB.copy3 {w : World} {b : Nat} {y0 y1 y2 : Value} (h : CB w b [y0, y1, y2]) (x0 x1 x2 : Value) : CB (((w.setCell ⟨b, 0, none⟩ x0).setCell ⟨b, 1, none⟩ x1).setCell ⟨b, 2, none⟩ x2) b [x0, x1, x2] := h.copy [x0, x1, x2] rfl
theorem CB.copy8 {w : World} {b : Nat} {y0 y1 y2 y3 y4 y5 y6 y7 : Value} (h : CB w b [y0, y1, y2, y3, y4, y5, y6, y7]) (x0 x1 x2 x3 x4 x5 x6 x7 : Value) :
    CB ((((((((w.setCell ⟨b, 0, none⟩ x0).setCell ⟨b, 1, none⟩ x1).setCell ⟨b, 2, none⟩ x2).setCell ⟨b, 3, none⟩ x3).setCell ⟨b, 4, none⟩ x4).setCell ⟨b, 5, none⟩ x5).setCell ⟨b, 6, none⟩ x6).setCell ⟨b, 7, none⟩ x7) b [x0, x1, x2, x3, x4, x5, x6, x7] := h.copy [x0, x1, x2, x3, x4, x5, x6, x7] rfl
theorem below_set2 {B : Nat} {a w : World} {b : Nat} (h : Below B a w) (hb : B ≤ b) (x0 x1 : Value) : Below B a ((w.setCell ⟨b, 0, none⟩ x0).setCell ⟨b, 1, none⟩ x1) := below_copy h hb [x0, x1]
theorem below_set3 {B : Nat} {a w : World} {b : Nat} (h : Below B a w) (hb : B ≤ b) (x0 x1 x2 : Value) : Below B a (((w.setCell ⟨b, 0, none⟩ x0).setCell ⟨b, 1, none⟩ x1).setCell ⟨b, 2, none⟩ x2) := below_copy h hb [x0, x1, x2]
theorem below_set8 {B : Nat} {a w : World} {b : Nat} (h : Below B a w) (hb : B ≤ b) (x0 x1 x2 x3 x4 x5 x6 x7 : Value) :
    Below B a ((((((((w.setCell ⟨b, 0, none⟩ x0).setCell ⟨b, 1, none⟩ x1).setCell ⟨b, 2, none⟩ x2).setCell ⟨b, 3, none⟩ x3).setCell ⟨b, 4, none⟩ x4).setCell ⟨b, 5, none⟩ x5).setCell ⟨b, 6, none⟩ x6).setCell ⟨b, 7, none⟩ x7) := below_copy h hb [x0, x1, x2, x3, x4, x5, x6, x7]
/-- What a function hands back that lies in its result's block. -/
theorem ret_cb {P : Program} {fn : Func} {q : Tmp} {T : TypeId} (h : fn.results = #[.cell q T]) {d : TypeDesc} (hu : P.underlying T = some d) (hd : d.isRow = true) {tmps : Array Value} {Z : World} {rk : Nat} {cs : List Value} (hi : (P.info? T).map (·.size) = some cs.length)
    (ht : tmps.getD q undef = .pointer (some ⟨rk, 0, none⟩)) (hZ : CB Z rk cs) : (results fn tmps).run P Z = .ok (.agg cs.toArray) Z := by
  have hl := run_loadVar_mid (P := P) Z rk 0 T cs d hZ.1 hu hd hi
  have ha : (asAddr (.pointer (some ⟨rk, 0, none⟩))).run P Z = .ok ⟨rk, 0, none⟩ Z := by simp [go_sem]
  have ht' : tmps[q]?.getD undef = .pointer (some ⟨rk, 0, none⟩) := by simpa using ht
  simp only [results, h]
  simp [Sem.run_bind, Result.andThen, ht', ha, hl]
/-- The same, beside a second result that is a temporary. -/
theorem ret_cb2 {P : Program} {fn : Func} {q q2 : Tmp} {T : TypeId} (h : fn.results = #[.cell q T, .tmp q2]) {d : TypeDesc} (hu : P.underlying T = some d) (hd : d.isRow = true) {tmps : Array Value} {Z : World} {rk : Nat} {cs : List Value} (hi : (P.info? T).map (·.size) = some cs.length)
    {v : Value} (ht : tmps.getD q undef = .pointer (some ⟨rk, 0, none⟩)) (hv : tmps.getD q2 undef = v) (hZ : CB Z rk cs) : (results fn tmps).run P Z = .ok (.tuple #[.agg cs.toArray, v]) Z := by
  have hl := run_loadVar_mid (P := P) Z rk 0 T cs d hZ.1 hu hd hi
  have ha : (asAddr (.pointer (some ⟨rk, 0, none⟩))).run P Z = .ok ⟨rk, 0, none⟩ Z := by simp [go_sem]
  have ht' : tmps[q]?.getD undef = .pointer (some ⟨rk, 0, none⟩) := by simpa using ht
  have hv' : tmps[q2]?.getD undef = v := by simpa using hv
  simp only [results, h]
  simp [Sem.run_bind, Result.andThen, ht', hv', ha, hl]
/-- One, two, three structs laid one behind the other. -/
theorem cb1 (w : World) (x : List Value) (t : TypeId) : CB (w.alloc (.cells x.toArray t)) w.heap.size x ∧ Below w.heap.size w (w.alloc (.cells x.toArray t)) ∧ (w.alloc (.cells x.toArray t)).heap.size = w.heap.size + 1 :=
  ⟨cb_alloc w x t, (Below.refl _ _).alloc (Nat.le_refl _) _, by simp⟩
theorem cb2 (w : World) (x y : List Value) (t u : TypeId) : CB ((w.alloc (.cells x.toArray t)).alloc (.cells y.toArray u)) w.heap.size x ∧ CB ((w.alloc (.cells x.toArray t)).alloc (.cells y.toArray u)) (w.heap.size + 1) y ∧
    Below w.heap.size w ((w.alloc (.cells x.toArray t)).alloc (.cells y.toArray u)) ∧ ((w.alloc (.cells x.toArray t)).alloc (.cells y.toArray u)).heap.size = w.heap.size + 2 := by
  obtain ⟨h1, hb, hs⟩ := cb1 w x t
  obtain ⟨h2, hb2, hs2⟩ := cb1 (w.alloc (.cells x.toArray t)) y u
  refine ⟨h1.up hb2 (by rw [hs]; omega), by rw [hs] at h2; exact h2, hb.trans (hb2.mono (by rw [hs]; omega)), by rw [hs2, hs]⟩
theorem cb3 (w : World) (x y z : List Value) (t u v : TypeId) : CB (((w.alloc (.cells x.toArray t)).alloc (.cells y.toArray u)).alloc (.cells z.toArray v)) w.heap.size x ∧ CB (((w.alloc (.cells x.toArray t)).alloc (.cells y.toArray u)).alloc (.cells z.toArray v)) (w.heap.size + 1) y ∧
    CB (((w.alloc (.cells x.toArray t)).alloc (.cells y.toArray u)).alloc (.cells z.toArray v)) (w.heap.size + 2) z ∧
    Below w.heap.size w (((w.alloc (.cells x.toArray t)).alloc (.cells y.toArray u)).alloc (.cells z.toArray v)) ∧ (((w.alloc (.cells x.toArray t)).alloc (.cells y.toArray u)).alloc (.cells z.toArray v)).heap.size = w.heap.size + 3 := by
  obtain ⟨h1, h2, hb, hs⟩ := cb2 w x y t u
  obtain ⟨h3, hb3, hs3⟩ := cb1 ((w.alloc (.cells x.toArray t)).alloc (.cells y.toArray u)) z v
  refine ⟨h1.up hb3 (by rw [hs]; omega), h2.up hb3 (by rw [hs]; omega), by rw [hs] at h3; exact h3, hb.trans (hb3.mono (by rw [hs]; omega)), by rw [hs3, hs]⟩
theorem own_ptr {w : World} {base e size n : Nat} {v : Value} {xs : List Value} (h : w.ownsRow base e size v n xs) (hn : 0 < n) : ∃ g cap, v = .slice (some ⟨g, 0, none⟩) n cap := by
  rcases h.2 with ⟨_, h0⟩ | ⟨g, cap, _, hv, _⟩
  · omega
  · exact ⟨g, cap, hv⟩
theorem own_up {W w' : World} {base e size n : Nat} {v : Value} {xs : List Value} (h : W.ownsRow base e size v n xs) (hb : Below W.heap.size W w') : w'.ownsRow base e size v n xs := by
  refine ⟨h.1, ?_⟩
  rcases h.2 with h0 | ⟨g, cap, cur, hv, hg, hh, r⟩
  · exact .inl h0
  · refine .inr ⟨g, cap, cur, hv, hg, ?_, r⟩
    rw [hb.block g (Array.getElem?_eq_some_iff.1 hh).1]; exact hh
theorem new2 (w : World) (a b : Value) (ty : TypeId) {j : Nat} {u : Value} (h : [a, b][j]? = some u) : (w.alloc (.cells #[a, b] ty)).cell? ((⟨w.heap.size, 0, none⟩ : Addr).add j) = some u := by
  match j, h with
  | 0, h => simp at h; subst h; simp [Addr.add]
  | 1, h => simp at h; subst h; simp [Addr.add]
theorem one2 {s : ByteArray} {x u : Value} (hx : x.oneCell' = true) (h : u ∈ [Value.string s, x]) : u.oneCell' = true := by
  simp at h; rcases h with rfl | rfl
  · rfl
  · exact hx
theorem grown_setNew {a b : World} {r : Option Nat} {pb off : Nat} (h : a.grownBy b r) (hp : a.heap.size ≤ pb) (u : Value) : a.grownBy (b.setCell ⟨pb, off, none⟩ u) r :=
  ⟨h.os, h.tape, h.output, by simpa using h.size, fun i hi hr => (Below.heap_setCell _ _ _ _ (by simp; omega)).trans (h.block i hi hr)⟩
theorem infoStr : (Tryz.prog.info? 9).map (fun i => (i.zero, i.size, i.bytes)) = some (some (.string ⟨#[]⟩), 1, 16) := by kernel_rfl
theorem StrsAt.alloc {w : World} {g o : Nat} {ss : List ByteArray} (h : StrsAt w g o ss) (ob : Obj) : StrsAt (w.alloc ob) g o ss := fun i s hs => by
  have := h i s hs
  rw [World.cell?_alloc_lt _ _ _ (World.block_lt_of_cell? w _ this)]; exact this
theorem news_of {w : World} {g o : Nat} {ss : List ByteArray} (h : StrsAt w g o ss) : ∀ (j : Nat) (u : Value), (ss.map Value.string)[j]? = some u → w.cell? ((⟨g, o, none⟩ : Addr).add j) = some u := fun j u hu => by
  rw [List.getElem?_map, Option.map_eq_some_iff] at hu
  obtain ⟨s, hs, rfl⟩ := hu
  rw [Addr.add_mid]; exact h j s hs
theorem oneS (ss : List ByteArray) : ∀ u ∈ ss.map Value.string, u.oneCell' = true := fun u hu => by
  obtain ⟨s, _, rfl⟩ := List.mem_map.1 hu; rfl
theorem own_ptr2 {w : World} {base e size n : Nat} {v : Value} {xs : List Value} (h : w.ownsRow base e size v n xs) (hn : 0 < n) : ∃ g cap, v = .slice (some ⟨g, 0, none⟩) n cap := by
  rcases h.2 with ⟨_, h0⟩ | ⟨g, cap, _, hv, _⟩
  · omega
  · exact ⟨g, cap, hv⟩
theorem strs_of_own {w : World} {base e g n cap : Nat} {ss : List ByteArray} (h : w.ownsRow base e 1 (.slice (some ⟨g, 0, none⟩) n cap) n (ss.map Value.string)) (hn : ss.length = n) : StrsAt w g 0 ss := fun i s hs => by
  have hi : i < ss.length := (List.getElem?_eq_some_iff.1 hs).1
  rw [Nat.zero_add, h.cellAt i (by omega), List.getElem?_map, hs]; rfl
theorem grown_new {a b c : World} {r : Option Nat} {k : Nat} (h : a.grownBy b r) (hg : b.grownBy c (some k)) (hk : a.heap.size ≤ k) : a.grownBy c r :=
  ⟨hg.os.trans h.os, hg.tape.trans h.tape, hg.output.trans h.output, Nat.le_trans h.size hg.size, fun i hi hr => (hg.block i (Nat.lt_of_lt_of_le hi h.size) (by simp; omega)).trans (h.block i hi hr)⟩
theorem StrsAt.other {w : World} {g o pb off : Nat} {u : Value} {ss : List ByteArray} (h : StrsAt w g o ss) (hne : g ≠ pb) : StrsAt (w.setCell ⟨pb, off, none⟩ u) g o ss := fun i s hs => by
  rw [World.cell?_setCell_other _ _ _ _ (by simp <;> omega)]; exact h i s hs
theorem step_append_own {P : Program} {ops : Array Oper} {o : Oper} {a : Act} {w : World} {K : Act → World → Prop} {Q : Exit → Act → World → Prop} {E : Prop}
    (hg : o.guard = none) (s x : Operand) (t : TypeId) (hop : o.op = Op.call { callee := Callee.builtin Builtin.append, args := #[s, x], argTypes := #[t, t] })
    (base : Nat) (e : TypeId) (i : TypeInfo) (z : Value) (size bytes : Nat) (ht : P.underlying t = some (.slice e)) (hi : P.info? e = some i) (hz : i.zero = some z)
    (hsize : i.size = size) (hby : i.bytes = bytes) (hzs : z.cells.size = size) (hsz : 0 < size)
    (v : Value) (n : Nat) (xs : List Value) (hs : a.eval s = v) (hown : w.ownsRow base e size v n xs)
    (ad : Addr) (m c : Nat) (news : List Value) (hx : a.eval x = .slice (some ad) m c) (hl : news.length = m * size) (hnews : ∀ j u, news[j]? = some u → w.cell? (ad.add j) = some u) (h1 : ∀ u ∈ news, u.oneCell' = true)
    (h63 : n + m ≤ maxLen) (hbytes : (n + m) * bytes ≤ 140737488355328) (hbase : base ≤ w.heap.size)
    (hK : ∀ v' w', w'.ownsRow base e size v' (n + m) (xs ++ news) → w.grownBy w' v.ownBlock → K (a.put o.dst v') w') :
    if Region.wanted o (yielded ops a.tmps) = true then Oper.wp P o a w K Q else E := by
  have hw : Region.wanted o (yielded ops a.tmps) = true := by simp [Region.wanted, hg]
  rw [if_pos hw]
  obtain ⟨v', w', hr, h2, h3, _⟩ := run_append_own (P := P) w base t o.type e i z size bytes ht hi hz hsize hby hzs hsz v n xs hown ad m c news hl hnews h1 h63 hbytes hbase
  unfold Oper.wp
  simp [execOp, hop, resolve, invoke, builtin, hs, hx, hr, Result.andThen]
  exact hK v' w' h2 h3
theorem own_grown {w w' : World} {base e size n rb : Nat} {v : Value} {xs : List Value} (h : w.ownsRow base e size v n xs) (hg : w.grownBy w' (some rb)) (hrb : rb < base) : w'.ownsRow base e size v n xs := by
  refine ⟨h.1, ?_⟩
  rcases h.2 with h0 | ⟨g, cap, cur, hv, hb, hh, r⟩
  · exact .inl h0
  · refine .inr ⟨g, cap, cur, hv, hb, ?_, r⟩
    rw [hg.block g (Array.getElem?_eq_some_iff.1 hh).1 (by simp; omega)]; exact hh
theorem own_low {w : World} {base base' e size n : Nat} {v : Value} {xs : List Value} (h : w.ownsRow base e size v n xs) (hb : base' ≤ base) : w.ownsRow base' e size v n xs := by
  refine ⟨h.1, ?_⟩
  rcases h.2 with h0 | ⟨g, cap, cur, hv, hg, r⟩
  · exact .inl h0
  · exact .inr ⟨g, cap, cur, hv, Nat.le_trans hb hg, r⟩
theorem own_ne {w : World} {base e size n b : Nat} {v : Value} {xs : List Value} (h : w.ownsRow base e size v n xs) (hb : b < base) : some b ≠ v.ownBlock := fun e => by
  have := (h.lt b e.symm).1; omega
theorem grown_own {a b c : World} {r : Option Nat} {base e size n : Nat} {v : Value} {xs : List Value} (h : a.grownBy b r) (hown : b.ownsRow base e size v n xs) (hg : b.grownBy c v.ownBlock) (hk : a.heap.size ≤ base) : a.grownBy c r :=
  ⟨hg.os.trans h.os, hg.tape.trans h.tape, hg.output.trans h.output, Nat.le_trans h.size hg.size, fun i hi hr => (hg.block i (Nat.lt_of_lt_of_le hi h.size) (own_ne hown (by omega))).trans (h.block i hi hr)⟩
theorem StrsAt.own {w w' : World} {g o base e size n : Nat} {u : Value} {xs : List Value} {ss : List ByteArray} (h : StrsAt w g o ss) (hown : w.ownsRow base e size u n xs) (hg : w.grownBy w' u.ownBlock) (hk : g < base) : StrsAt w' g o ss :=
  fun i s hs => hg.cell (h i s hs) (own_ne hown hk)
theorem StrsAt.drew {w : World} {g o : Nat} {ss : List ByteArray} (h : StrsAt w g o ss) : StrsAt w.drew g o ss := h
theorem own_drew {w : World} {base e size n : Nat} {v : Value} {xs : List Value} (h : w.ownsRow base e size v n xs) : w.drew.ownsRow base e size v n xs := h
theorem StrsAt.drop {w : World} {g o : Nat} {ss : List ByteArray} (h : StrsAt w g o ss) (k : Nat) : StrsAt w g (o + k) (ss.drop k) := fun i s hs => by
  rw [List.getElem?_drop] at hs
  rw [Nat.add_assoc]; exact h (k + i) s hs
theorem StrsAt.take {w : World} {g o : Nat} {ss : List ByteArray} (h : StrsAt w g o ss) (k : Nat) : StrsAt w g o (ss.take k) := fun i s hs => by
  rw [List.getElem?_take] at hs
  split at hs
  · exact h i s hs
  · cases hs
/-- A list of texts, handed about as a slice. -/
def Txt (w : World) (v : Value) (ss : List ByteArray) : Prop := ∃ g c, v = .slice (some ⟨g, 0, none⟩) ss.length c ∧ StrsAt w g 0 ss ∧ g < w.heap.size ∧ ss.length ≤ c ∧ c ≤ maxLen
theorem Txt.up {w w' : World} {v : Value} {ss : List ByteArray} (h : Txt w v ss) (hb : Below w.heap.size w w') : Txt w' v ss := by
  obtain ⟨g, c, rfl, hS, hg, r⟩ := h
  exact ⟨g, c, rfl, fun i s hs => (hb.cell (p := ⟨g, 0 + i, none⟩) hg).trans (hS i s hs), Nat.lt_of_lt_of_le hg hb.size, r⟩
theorem Txt.own {w : World} {base e n : Nat} {v : Value} {ss : List ByteArray} (h : w.ownsRow base e 1 v n (ss.map Value.string)) (hn : ss.length = n) (hv : ∃ g c, v = .slice (some ⟨g, 0, none⟩) n c) : Txt w v ss := by
  obtain ⟨g, c, rfl⟩ := hv
  refine ⟨g, c, by rw [hn], strs_of_own h hn, (h.lt g rfl).2, ?_, ?_⟩
  · rcases h.2 with ⟨h0, _⟩ | ⟨g', cap', cur, h', _, _, hc, _⟩
    · cases h0
    · cases h'; omega
  · rcases h.2 with ⟨h0, _⟩ | ⟨g', cap', cur, h', _, _, _, hc, _⟩
    · cases h0
    · cases h'; exact hc
theorem below_own {w W W' : World} {base e size n : Nat} {v : Value} {xs : List Value} (h : Below w.heap.size w W) (hown : W.ownsRow base e size v n xs) (hg : W.grownBy W' v.ownBlock) (hk : w.heap.size ≤ base) : Below w.heap.size w W' :=
  { os := hg.os.trans h.os, tape := hg.tape.trans h.tape, output := hg.output.trans h.output, size := Nat.le_trans h.size hg.size, block := fun i hi => (hg.block i (Nat.lt_of_lt_of_le hi h.size) (own_ne hown (by omega))).trans (h.block i hi) }
theorem one_new (w : World) (s : ByteArray) (t : TypeId) : ∀ (j : Nat) (u : Value), [Value.string s][j]? = some u → (w.alloc (.cells #[.string s] t)).cell? ((⟨w.heap.size, 0, none⟩ : Addr).add j) = some u := fun j u hj => by
  match j, hj with
  | 0, hj => simp at hj; subst hj; simp [Addr.add]
theorem one_old {w : World} {b : Nat} {s : ByteArray} (h : w.cell? ⟨b, 0, none⟩ = some (.string s)) : ∀ (j : Nat) (u : Value), [Value.string s][j]? = some u → w.cell? ((⟨b, 0, none⟩ : Addr).add j) = some u := fun j u hj => by
  match j, hj with
  | 0, hj => simp at hj; subst hj; rw [Addr.add_mid]; exact h
theorem oneV (s : ByteArray) : ∀ u ∈ [Value.string s], u.oneCell' = true := fun u hu => by simp at hu; subst hu; rfl
def Lst (w : World) (v : Value) (ss : List ByteArray) : Prop := (v = .slice none 0 0 ∧ ss = []) ∨ Txt w v ss
theorem Lst.up {w w' : World} {v : Value} {ss : List ByteArray} (h : Lst w v ss) (hb : Below w.heap.size w w') : Lst w' v ss := by
  rcases h with h | h
  · exact .inl h
  · exact .inr (h.up hb)
/-- The names of a list, whatever it is. -/
theorem Lst.shape {w : World} {v : Value} {ss : List ByteArray} (h : Lst w v ss) : ∃ a c, v = .slice a ss.length c := by
  rcases h with ⟨rfl, rfl⟩ | ⟨g, c, rfl, _⟩
  · exact ⟨none, 0, rfl⟩
  · exact ⟨_, _, rfl⟩
/-- A list of its own. -/
def OwnT (w : World) (base : Nat) (u : Value) (ss : List ByteArray) : Prop := w.ownsRow base 9 1 u ss.length (ss.map Value.string)
theorem OwnT.lst {w : World} {base : Nat} {u : Value} {ss : List ByteArray} (h : OwnT w base u ss) : Lst w u ss := by
  rcases h.2 with ⟨h0, h1⟩ | ⟨g, cap, cur, hv, _⟩
  · exact .inl ⟨h0, List.length_eq_zero_iff.1 h1⟩
  · exact .inr (Txt.own h rfl ⟨g, cap, hv⟩)
theorem below_gr {w a b : World} {x : Nat} (h : Below w.heap.size w a) (hg : a.grownBy b (some x)) (hx : w.heap.size ≤ x) : Below w.heap.size w b :=
  { os := hg.os.trans h.os, tape := hg.tape.trans h.tape, output := hg.output.trans h.output, size := Nat.le_trans h.size hg.size, block := fun i hi => (hg.block i (Nat.lt_of_lt_of_le hi h.size) (by simp; omega)).trans (h.block i hi) }
theorem Lst.grown {w w' : World} {r : Option Nat} {v : Value} {ss : List ByteArray} (h : Lst w v ss) (hg : w.grownBy w' r) (hne : ∀ g, v.ownBlock = some g → some g ≠ r) : Lst w' v ss := by
  rcases h with h | ⟨g, c, rfl, hS, hlt, rest⟩
  · exact .inl h
  · exact .inr ⟨g, c, rfl, fun i s hs => hg.cell (hS i s hs) (hne g rfl), Nat.lt_of_lt_of_le hlt hg.size, rest⟩
theorem Lst.lt {w : World} {v : Value} {ss : List ByteArray} (h : Lst w v ss) : ∀ g, v.ownBlock = some g → g < w.heap.size := by
  intro g hg
  rcases h with ⟨rfl, _⟩ | ⟨g', c, rfl, _, hlt, _⟩
  · simp [Value.ownBlock] at hg
  · simp [Value.ownBlock] at hg; omega
theorem OwnT.up {w w' : World} {base : Nat} {u : Value} {ss : List ByteArray} (h : OwnT w base u ss) (hb : Below w.heap.size w w') : OwnT w' base u ss := own_up h hb
theorem below_setCells (b : Nat) : ∀ (vs : List Value) (o : Nat) (W w' : World) (B : Nat), Below B W w' → B ≤ b → Below B W (w'.setCells b o vs)
  | [], _, _, _, _, h, _ => h
  | v :: r, o, W, w', B, h, hB => by
    rw [World.setCells]
    exact below_setCells b r (o + 1) W _ B (h.setCell (p := ⟨b, o, none⟩) hB v) hB
theorem cellOf_alloc (w : World) (C : Array Value) (t : TypeId) (j : Nat) (hj : j < C.size) : ((w.alloc (.cells C t)).cell? ⟨w.heap.size, j, none⟩).isSome = true ∧ (w.alloc (.cells C t)).frozen? ⟨w.heap.size, j, none⟩ = false := by
  constructor
  · simp [hj, go_sem]
  · simp [go_sem]
theorem there_alloc (w : World) (C : Array Value) (t : TypeId) : (w.alloc (.cells C t)).there w.heap.size 0 C.size := fun j hj => by
  simpa using cellOf_alloc w C t j hj
theorem there_up {w w' : World} {b o n B : Nat} (h : w.there b o n) (hb : Below B w w') (hB : b < B) : w'.there b o n := fun j hj => by
  rw [hb.cell (p := ⟨b, o + j, none⟩) hB, hb.frozen (p := ⟨b, o + j, none⟩) hB]; exact h j hj
theorem size_setCells (w1 : World) (b o : Nat) (vs : List Value) : w1.heap.size ≤ (w1.setCells b o vs).heap.size := (below_setCells b vs o w1 w1 0 (Below.refl _ _) (Nat.zero_le _)).size
theorem keep1 {W w0 w1 : World} {b o : Nat} {x : Value} (hb : b < W.heap.size) (h : Below W.heap.size W w0 ∧ w0.cell? ⟨b, o, none⟩ = some x) (hB : Below w0.heap.size w0 w1) : Below W.heap.size W w1 ∧ w1.cell? ⟨b, o, none⟩ = some x :=
  ⟨up_trans h.1 hB, (hB.cell (p := ⟨b, o, none⟩) (Nat.lt_of_lt_of_le hb h.1.size)).trans h.2⟩
theorem below_drewN {a b : World} {B : Nat} (h : Below B a b) (n : Nat) : Below B a (b.drewN n) := { os := h.os, tape := h.tape, output := h.output, size := h.size, block := h.block }
end Go.Proofs.YtmccabenfdigdaaGreatDoor

/- Recipes: plain facts. -/
namespace Go.Proofs.YtmccabenfdigdaaGreatDoor
open Go.RowKit
structure Ph where
  nm : ByteArray
  k : Int
  a : ByteArray
  b : ByteArray
  n : Int
  wi : Int
  t : ByteArray
  e : ByteArray
def Ph.cells (p : Ph) : List Value := [.string p.nm, .int .i64 p.k, .string p.a, .string p.b, .int .i64 p.n, .int .i64 p.wi, .string p.t, .string p.e]
def Ph.okB (p : Ph) : Bool := phaseB p.nm p.k p.a p.b p.n p.wi p.t p.e
/-- The recipe lies in block b from cell o on. -/
def RecAt (w : World) (b o : Nat) (ps : List Ph) : Prop := ∀ (i : Nat) (p : Ph), ps[i]? = some p → w.rangeAt b (o + i * 8) p.cells
/-- Its texts have sizes. -/
def Sized (ps : List Ph) : Prop := ∀ p ∈ ps, p.nm.size ≤ maxLen ∧ p.a.size ≤ maxLen ∧ p.b.size ≤ maxLen ∧ p.t.size ≤ maxLen ∧ p.e.size ≤ maxLen
def hasB (ps : List Ph) (nm : ByteArray) : Bool := ps.any fun p => p.nm.toList == nm.toList
def atI (ps : List Ph) (nm : ByteArray) : Int := match ps.findIdx? fun p => p.nm.toList == nm.toList with
  | some i => i
  | none => -1
theorem RecAt.cells {w : World} {b o : Nat} {ps : List Ph} (h : RecAt w b o ps) (i : Nat) (hi : i < ps.length) :
    w.cell? ⟨b, o + i * 8, none⟩ = some (.string (ps[i]).nm) ∧ w.cell? ⟨b, o + i * 8 + 1, none⟩ = some (.int .i64 (ps[i]).k) ∧ w.cell? ⟨b, o + i * 8 + 2, none⟩ = some (.string (ps[i]).a) ∧ w.cell? ⟨b, o + i * 8 + 3, none⟩ = some (.string (ps[i]).b) ∧
    w.cell? ⟨b, o + i * 8 + 4, none⟩ = some (.int .i64 (ps[i]).n) ∧ w.cell? ⟨b, o + i * 8 + 5, none⟩ = some (.int .i64 (ps[i]).wi) ∧ w.cell? ⟨b, o + i * 8 + 6, none⟩ = some (.string (ps[i]).t) ∧ w.cell? ⟨b, o + i * 8 + 7, none⟩ = some (.string (ps[i]).e) := by
  have hr := h i ps[i] (by simp [hi])
  exact ⟨hr 0 _ rfl, hr 1 _ rfl, hr 2 _ rfl, hr 3 _ rfl, hr 4 _ rfl, hr 5 _ rfl, hr 6 _ rfl, hr 7 _ rfl⟩
theorem RecAt.drop {w : World} {b o : Nat} {ps : List Ph} (h : RecAt w b o ps) (i : Nat) : RecAt w b (o + i * 8) (ps.drop i) := fun j p hp => by
  have := h (i + j) p (by simpa [List.getElem?_drop] using hp)
  rwa [show o + i * 8 + j * 8 = o + (i + j) * 8 by omega]
theorem RecAt.up {w w' : World} {b o B : Nat} {ps : List Ph} (h : RecAt w b o ps) (hb : Below B w w') (hB : b < B) : RecAt w' b o ps := fun i p hp j v hv => by
  rw [hb.cell (p := ⟨b, o + i * 8 + j, none⟩) hB]; exact h i p hp j v hv
theorem hasB_take (ps : List Ph) (nm : ByteArray) (k : Nat) (h : k < ps.length) : hasB (ps.take (k + 1)) nm = (hasB (ps.take k) nm || ((ps[k]).nm.toList == nm.toList)) := by
  unfold hasB; rw [List.take_succ_eq_append_getElem h, List.any_append]; simp
theorem hasB_all (ps : List Ph) (nm : ByteArray) (k : Nat) (h : ¬ k < ps.length) (hn : hasB (ps.take k) nm = false) : hasB ps nm = false := by
  rwa [List.take_of_length_le (by omega)] at hn
theorem hasB_yes (ps : List Ph) (nm : ByteArray) (k : Nat) (h : k < ps.length) (he : ((ps[k]).nm.toList == nm.toList) = true) : hasB ps nm = true := by
  unfold hasB; rw [List.any_eq_true]; exact ⟨ps[k], by simp, he⟩
theorem hasB_iff (ps : List Ph) (nm : ByteArray) : hasB ps nm = true ↔ ∃ (j : Nat) (q : Ph), ps[j]? = some q ∧ (q.nm.toList == nm.toList) = true := by
  unfold hasB; rw [List.any_eq_true]
  constructor
  · rintro ⟨q, hq, he⟩
    obtain ⟨j, hj, rfl⟩ := List.getElem_of_mem hq
    exact ⟨j, ps[j], by simp [hj], he⟩
  · rintro ⟨j, q, hq, he⟩
    exact ⟨q, List.mem_of_getElem? hq, he⟩
theorem atI_none (ps : List Ph) (nm : ByteArray) (h : hasB ps nm = false) : atI ps nm = -1 := by
  have : (ps.findIdx? fun p => p.nm.toList == nm.toList) = none := by
    rw [List.findIdx?_eq_none_iff]; simpa [hasB] using h
  simp only [atI, this]
theorem atI_found (ps : List Ph) (nm : ByteArray) (k : Nat) (h : k < ps.length) (hn : hasB (ps.take k) nm = false) (he : ((ps[k]).nm.toList == nm.toList) = true) : atI ps nm = k := by
  have : (ps.findIdx? fun p => p.nm.toList == nm.toList) = some k := by
    rw [List.findIdx?_eq_some_iff_getElem]
    refine ⟨h, he, fun j hj => ?_⟩
    intro hc
    have : hasB (ps.take k) nm = true := by
      rw [hasB_iff]
      exact ⟨j, ps[j], by simp [hj, Nat.lt_trans hj h], hc⟩
    rw [hn] at this; cases this
  simp only [atI, this]
def goesB (later : List Ph) (nm : ByteArray) : Bool := endN nm != 0 || hasB later nm
end Go.Proofs.YtmccabenfdigdaaGreatDoor

/- When a recipe is ok: both sides' tests are one. -/
namespace Go.Proofs.YtmccabenfdigdaaGreatDoor
/-- The program's test of the phase at place i. -/
def stepI (ps : List Ph) (i : Nat) (p : Ph) : Bool := p.okB && !hasB (ps.drop (i + 1)) p.nm && goesB (ps.drop (i + 1)) p.t && goesB (ps.drop (i + 1)) p.e
/-- The specification's. -/
def stepS (ps : List Ph) (i : Nat) (p : Ph) : Bool := p.okB && atI ps p.nm == (i : Int) && !(endN p.t == 0 && decide (atI ps p.t ≤ (i : Int))) && !(endN p.e == 0 && decide (atI ps p.e ≤ (i : Int)))
def allI (ps : List Ph) (k : Nat) : Prop := ∀ (i : Nat) (p : Ph), i < k → ps[i]? = some p → stepI ps i p = true
def allS (ps : List Ph) (k : Nat) : Prop := ∀ (i : Nat) (p : Ph), i < k → ps[i]? = some p → stepS ps i p = true
/-- A recipe that is ok. -/
def recB (ps : List Ph) : Bool := decide (1 ≤ ps.length) && decide (ps.length ≤ 12) && (List.range ps.length).all fun i => (ps[i]?.map (stepI ps i)).getD true
theorem recB_iff (ps : List Ph) : recB ps = true ↔ 1 ≤ ps.length ∧ ps.length ≤ 12 ∧ allI ps ps.length := by
  simp only [recB, Bool.and_eq_true, decide_eq_true_eq, List.all_eq_true, List.mem_range, allI, and_assoc]
  refine and_congr_right fun _ => and_congr_right fun _ => ⟨fun h i p hi hp => ?_, fun h i hi => ?_⟩
  · have := h i hi; simpa [hp] using this
  · have hg : ps[i]? = some ps[i] := by simp [hi]
    rw [hg]; simpa using h i ps[i] hi hg
theorem hasB_drop (ps : List Ph) (nm : ByteArray) (i : Nat) : hasB (ps.drop i) nm = true ↔ ∃ (j : Nat) (q : Ph), i ≤ j ∧ ps[j]? = some q ∧ (q.nm.toList == nm.toList) = true := by
  rw [hasB_iff]
  constructor
  · rintro ⟨j, q, hq, he⟩
    exact ⟨i + j, q, by omega, by simpa [List.getElem?_drop] using hq, he⟩
  · rintro ⟨j, q, hj, hq, he⟩
    exact ⟨j - i, q, by rw [List.getElem?_drop, show i + (j - i) = j by omega]; exact hq, he⟩
theorem atI_cases (ps : List Ph) (nm : ByteArray) : (hasB ps nm = false ∧ atI ps nm = -1) ∨ ∃ (j : Nat) (q : Ph), ps[j]? = some q ∧ (q.nm.toList == nm.toList) = true ∧ atI ps nm = (j : Int) ∧ ∀ (l : Nat) (r : Ph), l < j → ps[l]? = some r → (r.nm.toList == nm.toList) = false := by
  cases h : ps.findIdx? fun p => p.nm.toList == nm.toList with
  | none =>
    left
    rw [List.findIdx?_eq_none_iff] at h
    exact ⟨by simpa [hasB] using h, by simp only [atI, List.findIdx?_eq_none_iff.2 h]⟩
  | some j =>
    right
    have h' := h
    rw [List.findIdx?_eq_some_iff_getElem] at h
    obtain ⟨hj, he, hl⟩ := h
    refine ⟨j, ps[j], by simp [hj], he, by simp only [atI, h'], fun l r hlj hr => ?_⟩
    obtain ⟨hl', rfl⟩ := List.getElem?_eq_some_iff.1 hr
    simpa using hl l hlj
theorem beq_trans' {a b c : List UInt8} (h1 : (a == b) = true) (h2 : (c == b) = true) : (a == c) = true := by
  rw [beq_iff_eq] at *; rw [h1, h2]
/-- The two tests over the whole recipe say one thing. -/
theorem allI_iff_allS (ps : List Ph) : allI ps ps.length ↔ allS ps ps.length := by
  have lt_of : ∀ {i : Nat} {p : Ph}, ps[i]? = some p → i < ps.length := fun h => (List.getElem?_eq_some_iff.1 h).1
  -- what follows where names are found once
  have key : ∀ (i : Nat) (nm : ByteArray), (∀ (l j : Nat) (r q : Ph), ps[l]? = some r → ps[j]? = some q → (r.nm.toList == q.nm.toList) = true → l = j) →
      (goesB (ps.drop (i + 1)) nm = true ↔ (!(endN nm == 0 && decide (atI ps nm ≤ (i : Int)))) = true) := by
    intro i nm hu
    unfold goesB
    by_cases h0 : endN nm = 0
    · simp only [h0, bne_self_eq_false, Bool.false_or, beq_self_eq_true, Bool.true_and, Bool.not_eq_true', decide_eq_false_iff_not]
      rw [hasB_drop]
      rcases atI_cases ps nm with ⟨hn, ha⟩ | ⟨j, q, hq, he, ha, _⟩
      · rw [ha]
        constructor
        · rintro ⟨l, r, _, hr, hre⟩
          have : hasB ps nm = true := (hasB_iff _ _).2 ⟨l, r, hr, hre⟩
          rw [hn] at this; cases this
        · intro h; omega
      · rw [ha]
        constructor
        · rintro ⟨l, r, hl, hr, hre⟩
          have := hu l j r q hr hq (beq_trans' hre he)
          omega
        · intro h
          exact ⟨j, q, by omega, hq, he⟩
    · have : (endN nm == 0) = false := by simpa using h0
      simp [this, bne]
  constructor
  · intro h i p hi hp
    have hu : ∀ (l j : Nat) (r q : Ph), ps[l]? = some r → ps[j]? = some q → (r.nm.toList == q.nm.toList) = true → l = j := by
      intro l j r q hr hq he
      rcases Nat.lt_trichotomy l j with hlj | rfl | hlj
      · have hs := h l r (lt_of hr) hr
        simp only [stepI, Bool.and_eq_true, Bool.not_eq_true'] at hs
        have : hasB (ps.drop (l + 1)) r.nm = true := (hasB_drop _ _ _).2 ⟨j, q, hlj, hq, by rw [Bool.beq_comm]; exact he⟩
        rw [hs.1.1.2] at this; cases this
      · rfl
      · have hs := h j q (lt_of hq) hq
        simp only [stepI, Bool.and_eq_true, Bool.not_eq_true'] at hs
        have : hasB (ps.drop (j + 1)) q.nm = true := (hasB_drop _ _ _).2 ⟨l, r, hlj, hr, he⟩
        rw [hs.1.1.2] at this; cases this
    have hs := h i p hi hp
    simp only [stepI, Bool.and_eq_true] at hs
    simp only [stepS, Bool.and_eq_true]
    refine ⟨⟨⟨hs.1.1.1, ?_⟩, (key i p.t hu).1 hs.1.2⟩, (key i p.e hu).1 hs.2⟩
    rcases atI_cases ps p.nm with ⟨hn, _⟩ | ⟨j, q, hq, he, ha, _⟩
    · have : hasB ps p.nm = true := (hasB_iff _ _).2 ⟨i, p, hp, by simp⟩
      rw [hn] at this; cases this
    · rw [ha, hu j i q p hq hp he]; simp
  · intro h i p hi hp
    have hu : ∀ (l j : Nat) (r q : Ph), ps[l]? = some r → ps[j]? = some q → (r.nm.toList == q.nm.toList) = true → l = j := by
      intro l j r q hr hq he
      have h1 := h l r (lt_of hr) hr
      have h2 := h j q (lt_of hq) hq
      simp only [stepS, Bool.and_eq_true, beq_iff_eq] at h1 h2
      have : atI ps r.nm = atI ps q.nm := by
        have e : r.nm.toList = q.nm.toList := by simpa using he
        simp only [atI, e]
      have := h1.1.1.2.symm.trans (this.trans h2.1.1.2)
      omega
    have hs := h i p hi hp
    simp only [stepS, Bool.and_eq_true] at hs
    simp only [stepI, Bool.and_eq_true]
    refine ⟨⟨⟨hs.1.1.1, ?_⟩, (key i p.t hu).2 hs.1.2⟩, (key i p.e hu).2 hs.2⟩
    rw [Bool.not_eq_true', ← Bool.not_eq_true]
    intro hc
    obtain ⟨j, q, hj, hq, he⟩ := (hasB_drop _ _ _).1 hc
    have := hu j i q p hq hp he
    omega
theorem recB_iffS (ps : List Ph) : recB ps = true ↔ 1 ≤ ps.length ∧ ps.length ≤ 12 ∧ allS ps ps.length := by rw [recB_iff, allI_iff_allS]
theorem nand_of {x : Bool} {Q : Prop} [Decidable Q] (h : ¬ (x = true ∧ Q)) : (!(x && decide Q)) = true := by cases x <;> simp_all
theorem recB_noS (ps : List Ph) (k : Nat) (hk : k < ps.length) (h : stepS ps k ps[k] = false) : recB ps = false := by
  rw [← Bool.not_eq_true, recB_iffS]
  rintro ⟨_, _, ha⟩
  have := ha k ps[k] hk (by simp [hk])
  rw [h] at this; cases this
theorem recB_noI (ps : List Ph) (k : Nat) (hk : k < ps.length) (h : stepI ps k ps[k] = false) : recB ps = false := by
  rw [← Bool.not_eq_true, recB_iff]
  rintro ⟨_, _, ha⟩
  have := ha k ps[k] hk (by simp [hk])
  rw [h] at this; cases this
theorem recB_len (ps : List Ph) (h : ¬ (1 ≤ ps.length ∧ ps.length ≤ 12)) : recB ps = false := by
  rw [← Bool.not_eq_true, recB_iff]
  rintro ⟨h1, h2, _⟩; exact h ⟨h1, h2⟩
theorem allS_succ {ps : List Ph} {k : Nat} (h : allS ps k) (hk : k < ps.length) (hs : stepS ps k ps[k] = true) : allS ps (k + 1) := fun i p hi hp => by
  rcases Nat.lt_or_ge i k with h' | h'
  · exact h i p h' hp
  · obtain rfl : i = k := by omega
    obtain ⟨_, rfl⟩ := List.getElem?_eq_some_iff.1 hp
    exact hs
theorem allI_succ {ps : List Ph} {k : Nat} (h : allI ps k) (hk : k < ps.length) (hs : stepI ps k ps[k] = true) : allI ps (k + 1) := fun i p hi hp => by
  rcases Nat.lt_or_ge i k with h' | h'
  · exact h i p h' hp
  · obtain rfl : i = k := by omega
    obtain ⟨_, rfl⟩ := List.getElem?_eq_some_iff.1 hp
    exact hs
theorem allS_zero (ps : List Ph) : allS ps 0 := fun _ _ h => by omega
theorem allI_zero (ps : List Ph) : allI ps 0 := fun _ _ h => by omega
theorem recB_yesS (ps : List Ph) (k : Nat) (h1 : 1 ≤ ps.length ∧ ps.length ≤ 12) (hk : k ≤ ps.length) (hk' : ¬ k < ps.length) (ha : allS ps k) : recB ps = true := by
  obtain rfl : k = ps.length := by omega
  exact (recB_iffS ps).2 ⟨h1.1, h1.2, ha⟩
theorem recB_yesI (ps : List Ph) (k : Nat) (h1 : 1 ≤ ps.length ∧ ps.length ≤ 12) (hk : k ≤ ps.length) (hk' : ¬ k < ps.length) (ha : allI ps k) : recB ps = true := by
  obtain rfl : k = ps.length := by omega
  exact (recB_iff ps).2 ⟨h1.1, h1.2, ha⟩
end Go.Proofs.YtmccabenfdigdaaGreatDoor

/- Tables over a recipe: plain facts. -/
namespace Go.Proofs.YtmccabenfdigdaaGreatDoor
section
variable {τ : Type}
def look (rows : List (ByteArray × τ)) (nm : ByteArray) (d : τ) : τ := match rows.find? fun r => r.1.toList == nm.toList with
  | some r => r.2
  | none => d
def good : ByteArray := ⟨#[103, 111, 111, 100]⟩
def saved : ByteArray := ⟨#[115, 97, 118, 101, 100]⟩
def scrapped : ByteArray := ⟨#[115, 99, 114, 97, 112, 112, 101, 100]⟩
def endsT (fe : Int → τ) : List (ByteArray × τ) := [(good, fe 1), (saved, fe 2), (scrapped, fe 3)]
/-- The table that the program fills, from the last phase back. -/
def fill (fe : Int → τ) (fp : Ph → τ → τ → τ) (d : τ) : List Ph → List (ByteArray × τ)
  | [] => endsT fe
  | p :: rest => fill fe fp d rest ++ [(p.nm, fp p (look (fill fe fp d rest) p.t d) (look (fill fe fp d rest) p.e d))]
/-- What is told of a name. -/
def evL (fe : Int → τ) (fp : Ph → τ → τ → τ) (d : τ) : List Ph → ByteArray → τ
  | [], nm => if endN nm = 0 then d else fe (endN nm)
  | p :: rest, nm => if (p.nm.toList == nm.toList) = true then fp p (evL fe fp d rest p.t) (evL fe fp d rest p.e) else evL fe fp d rest nm
/-- No two of one name, and none is an end. -/
def Dist : List Ph → Prop
  | [] => True
  | p :: rest => endN p.nm = 0 ∧ hasB rest p.nm = false ∧ Dist rest
theorem endN_congr {a b : ByteArray} (h : (a.toList == b.toList) = true) : endN a = endN b := by
  have e : a.toList = b.toList := by simpa using h
  simp only [endN, e]
theorem hasB_congr {a b : ByteArray} (h : (a.toList == b.toList) = true) (ps : List Ph) : hasB ps a = hasB ps b := by
  have e : a.toList = b.toList := by simpa using h
  simp only [hasB, e]
theorem look_append (rows : List (ByteArray × τ)) (a nm : ByteArray) (v d : τ) : look (rows ++ [(a, v)]) nm d = if (rows.any fun r => r.1.toList == nm.toList) = true then look rows nm d else if (a.toList == nm.toList) = true then v else d := by
  unfold look
  rw [List.find?_append]
  cases h : rows.find? fun r => r.1.toList == nm.toList with
  | some r =>
    have : (rows.any fun r => r.1.toList == nm.toList) = true := by
      rw [List.any_eq_true]; exact ⟨r, List.mem_of_find?_eq_some h, by have := List.find?_some h; simpa using this⟩
    simp [this]
  | none =>
    have : (rows.any fun r => r.1.toList == nm.toList) = false := by
      rw [← Bool.not_eq_true, List.any_eq_true]; rintro ⟨r, hr, he⟩
      have := List.find?_eq_none.1 h r hr; exact this he
    by_cases ha : (a.toList == nm.toList) = true
    · simp [this, ha]
    · simp only [Bool.not_eq_true] at ha
      simp [this, ha]
/-- None of the first k rows bears the name. -/
def noneT (rows : List (ByteArray × τ)) (nm : ByteArray) (k : Nat) : Prop := ∀ (j : Nat) (r : ByteArray × τ), j < k → rows[j]? = some r → (r.1.toList == nm.toList) = false
theorem noneT_succ {rows : List (ByteArray × τ)} {nm : ByteArray} {k : Nat} (h : noneT rows nm k) (hk : k < rows.length) (hq : ((rows[k]).1.toList == nm.toList) = false) : noneT rows nm (k + 1) := fun j r hj hr => by
  rcases Nat.lt_or_ge j k with h' | h'
  · exact h j r h' hr
  · obtain rfl : j = k := by omega
    obtain ⟨_, rfl⟩ := List.getElem?_eq_some_iff.1 hr
    exact hq
theorem look_hit {rows : List (ByteArray × τ)} {nm : ByteArray} {k : Nat} (d : τ) (h : noneT rows nm k) (hk : k < rows.length) (hq : ((rows[k]).1.toList == nm.toList) = true) : look rows nm d = (rows[k]).2 := by
  have : (rows.find? fun r => r.1.toList == nm.toList) = some rows[k] := by
    rw [List.find?_eq_some_iff_getElem]
    exact ⟨hq, k, hk, rfl, fun j hj => by simp [h j rows[j] hj (by simp [Nat.lt_trans hj hk])]⟩
  simp only [look, this]
theorem look_miss {rows : List (ByteArray × τ)} {nm : ByteArray} {k : Nat} (d : τ) (h : noneT rows nm k) (hk : ¬ k < rows.length) : look rows nm d = d := by
  have : (rows.find? fun r => r.1.toList == nm.toList) = none := by
    rw [List.find?_eq_none]
    intro r hr
    obtain ⟨j, hj, rfl⟩ := List.getElem_of_mem hr
    simp [h j rows[j] (by omega) (by simp [hj])]
  simp only [look, this]
theorem toList_lit (l : List UInt8) : (⟨l.toArray⟩ : ByteArray).toList = l := by
  rw [Go.ByteArray.toList_eq]
theorem endsT_any (fe : Int → τ) (nm : ByteArray) : ((endsT fe).any fun r => r.1.toList == nm.toList) = (endN nm != 0) := by
  have g : good.toList = [103, 111, 111, 100] := toList_lit [103, 111, 111, 100]
  have s : saved.toList = [115, 97, 118, 101, 100] := toList_lit [115, 97, 118, 101, 100]
  have c : scrapped.toList = [115, 99, 114, 97, 112, 112, 101, 100] := toList_lit [115, 99, 114, 97, 112, 112, 101, 100]
  simp only [endsT, List.any_cons, List.any_nil, g, s, c, endN, Bool.beq_comm (b := nm.toList), Bool.or_false]
  split
  · simp [*]
  · split
    · simp [*]
    · split
      · simp [*]
      · simp_all
theorem endsT_look (fe : Int → τ) (nm : ByteArray) (d : τ) : look (endsT fe) nm d = if endN nm = 0 then d else fe (endN nm) := by
  have g : good.toList = [103, 111, 111, 100] := toList_lit [103, 111, 111, 100]
  have s : saved.toList = [115, 97, 118, 101, 100] := toList_lit [115, 97, 118, 101, 100]
  have c : scrapped.toList = [115, 99, 114, 97, 112, 112, 101, 100] := toList_lit [115, 99, 114, 97, 112, 112, 101, 100]
  have hb : ∀ l : List UInt8, (l == nm.toList) = (nm.toList == l) := fun l => Bool.beq_comm
  simp only [look, endsT, List.find?_cons, g, s, c, hb, endN]
  by_cases h1 : (nm.toList == [103, 111, 111, 100]) = true
  · simp [h1]
  · by_cases h2 : (nm.toList == [115, 97, 118, 101, 100]) = true
    · simp only [Bool.not_eq_true] at h1; simp [h1, h2]
    · by_cases h3 : (nm.toList == [115, 99, 114, 97, 112, 112, 101, 100]) = true
      · simp only [Bool.not_eq_true] at h1 h2; simp [h1, h2, h3]
      · simp only [Bool.not_eq_true] at h1 h2 h3; simp [h1, h2, h3]
theorem fill_any (fe : Int → τ) (fp : Ph → τ → τ → τ) (d : τ) : ∀ (l : List Ph) (nm : ByteArray), ((fill fe fp d l).any fun r => r.1.toList == nm.toList) = (endN nm != 0 || hasB l nm)
  | [], nm => by rw [fill, endsT_any]; simp [hasB]
  | p :: rest, nm => by
    rw [fill, List.any_append, fill_any fe fp d rest nm]
    simp only [List.any_cons, List.any_nil, Bool.or_false, hasB, Bool.or_assoc]
    rw [Bool.or_comm (p.nm.toList == nm.toList)]
theorem evL_none (fe : Int → τ) (fp : Ph → τ → τ → τ) (d : τ) : ∀ (l : List Ph) (nm : ByteArray), hasB l nm = false → evL fe fp d l nm = if endN nm = 0 then d else fe (endN nm)
  | [], nm, _ => rfl
  | p :: rest, nm, h => by
    simp only [hasB, List.any_cons, Bool.or_eq_false_iff] at h
    rw [evL, if_neg (by simp [h.1])]
    exact evL_none fe fp d rest nm h.2
theorem fill_look (fe : Int → τ) (fp : Ph → τ → τ → τ) (d : τ) : ∀ (l : List Ph), Dist l → ∀ nm, look (fill fe fp d l) nm d = evL fe fp d l nm
  | [], _, nm => by rw [fill, endsT_look, evL]
  | p :: rest, hd, nm => by
    obtain ⟨h1, h2, h3⟩ := hd
    have ih := fill_look fe fp d rest h3
    rw [fill, look_append, fill_any, evL]
    by_cases he : (p.nm.toList == nm.toList) = true
    · have e1 : endN nm = 0 := (endN_congr he).symm.trans h1
      have e2 : hasB rest nm = false := (hasB_congr he rest).symm.trans h2
      simp [he, e1, e2, ih]
    · rw [if_neg he, if_neg he, ih nm]
      split
      · rfl
      · rename_i hn
        simp only [Bool.not_eq_true, Bool.or_eq_false_iff, bne_eq_false_iff_eq] at hn
        rw [evL_none fe fp d rest nm hn.2, if_pos hn.1]
theorem fill_len (fe : Int → τ) (fp : Ph → τ → τ → τ) (d : τ) : ∀ l : List Ph, (fill fe fp d l).length = l.length + 3
  | [] => rfl
  | p :: rest => by rw [fill, List.length_append, fill_len fe fp d rest]; simp only [List.length_cons, List.length_nil]
theorem fill_pos (fe : Int → τ) (fp : Ph → τ → τ → τ) (d : τ) (l : List Ph) : 0 < (fill fe fp d l).length := by rw [fill_len]; omega
theorem fill_drop (fe : Int → τ) (fp : Ph → τ → τ → τ) (d : τ) {ps : List Ph} {m : Nat} (hm : m < ps.length) :
    fill fe fp d (ps.drop m) = fill fe fp d (ps.drop (m + 1)) ++ [((ps[m]).nm, fp ps[m] (look (fill fe fp d (ps.drop (m + 1))) (ps[m]).t d) (look (fill fe fp d (ps.drop (m + 1))) (ps[m]).e d))] := by
  rw [List.drop_eq_getElem_cons hm]; rfl
theorem dist_drop {ps : List Ph} (h : recB ps = true) : ∀ i, Dist (ps.drop i) := by
  obtain ⟨_, _, ha⟩ := (recB_iff ps).1 h
  suffices hh : ∀ n i, ps.length - i = n → Dist (ps.drop i) from fun i => hh _ i rfl
  intro n
  induction n with
  | zero => intro i hi; rw [List.drop_of_length_le (by omega)]; trivial
  | succ n ih =>
    intro i hn
    have hi : i < ps.length := by omega
    have hs := ha i ps[i] hi (by simp [hi])
    rw [List.drop_eq_getElem_cons hi]
    simp only [stepI, Bool.and_eq_true, Bool.not_eq_true', Ph.okB, phaseB] at hs
    refine ⟨?_, hs.1.1.2, ih (i + 1) (by omega)⟩
    simpa using hs.1.1.1.1.1.1.1.2
theorem evL_skip (fe : Int → τ) (fp : Ph → τ → τ → τ) (d : τ) : ∀ (l1 l2 : List Ph) (nm : ByteArray), hasB l1 nm = false → evL fe fp d (l1 ++ l2) nm = evL fe fp d l2 nm
  | [], _, _, _ => rfl
  | p :: rest, l2, nm, h => by
    simp only [hasB, List.any_cons, Bool.or_eq_false_iff] at h
    rw [List.cons_append, evL, if_neg (by simp [h.1])]
    exact evL_skip fe fp d rest l2 nm h.2
/-- What a phase goes on to lies behind it. -/
theorem later_of {ps : List Ph} (h : recB ps = true) {k : Nat} (hk : k < ps.length) (nm : ByteArray) (hg : goesB (ps.drop (k + 1)) nm = true) : hasB (ps.take (k + 1)) nm = false := by
  obtain ⟨_, _, ha⟩ := (recB_iff ps).1 h
  rw [← Bool.not_eq_true]
  intro hc
  obtain ⟨l, q, hq, he⟩ := (hasB_iff _ _).1 hc
  rw [List.getElem?_take] at hq
  split at hq
  · rename_i hl
    have hll : l < ps.length := by omega
    have hs := ha l q hll hq
    simp only [stepI, Bool.and_eq_true, Bool.not_eq_true', Ph.okB, phaseB] at hs
    have h0 : endN q.nm = 0 := by simpa using hs.1.1.1.1.1.1.1.2
    have hn : endN nm = 0 := (endN_congr he).symm.trans h0
    simp only [goesB, hn, bne_self_eq_false, Bool.false_or] at hg
    obtain ⟨j, r, hj, hr, hre⟩ := (hasB_drop _ _ _).1 hg
    have : hasB (ps.drop (l + 1)) q.nm = true := (hasB_drop _ _ _).2 ⟨j, r, by omega, hr, beq_trans' hre he⟩
    rw [hs.1.1.2] at this; cases this
  · cases hq
theorem goes_of {ps : List Ph} (h : recB ps = true) {k : Nat} (hk : k < ps.length) : goesB (ps.drop (k + 1)) (ps[k]).t = true ∧ goesB (ps.drop (k + 1)) (ps[k]).e = true := by
  obtain ⟨_, _, ha⟩ := (recB_iff ps).1 h
  have hs := ha k ps[k] hk (by simp [hk])
  simp only [stepI, Bool.and_eq_true] at hs
  exact ⟨hs.1.2, hs.2⟩
theorem evL_later {ps : List Ph} (h : recB ps = true) (fe : Int → τ) (fp : Ph → τ → τ → τ) (d : τ) {k : Nat} (hk : k < ps.length) (nm : ByteArray) (hg : goesB (ps.drop (k + 1)) nm = true) : evL fe fp d ps nm = evL fe fp d (ps.drop (k + 1)) nm := by
  have := evL_skip fe fp d (ps.take (k + 1)) (ps.drop (k + 1)) nm (later_of h hk nm hg)
  rwa [List.take_append_drop] at this
theorem atI_later {ps : List Ph} (h : recB ps = true) {k : Nat} (hk : k < ps.length) (nm : ByteArray) (hg : goesB (ps.drop (k + 1)) nm = true) : atI ps nm < 0 ∨ (k : Int) < atI ps nm := by
  rcases atI_cases ps nm with ⟨_, ha⟩ | ⟨j, q, hq, he, ha, _⟩
  · left; rw [ha]; omega
  · right
    rw [ha]
    rcases Nat.lt_or_ge k j with h' | h'
    · omega
    · have : hasB (ps.take (k + 1)) nm = true := (hasB_iff _ _).2 ⟨j, q, by rw [List.getElem?_take, if_pos (by omega)]; exact hq, he⟩
      rw [later_of h hk nm hg] at this; cases this
/-- At a phase. -/
theorem evL_step {ps : List Ph} (h : recB ps = true) (fe : Int → τ) (fp : Ph → τ → τ → τ) (d : τ) (nm : ByteArray) {k : Nat} (hk : k < ps.length) (ha : atI ps nm = (k : Int)) :
    evL fe fp d ps nm = fp ps[k] (evL fe fp d ps (ps[k]).t) (evL fe fp d ps (ps[k]).e) := by
  obtain ⟨g1, g2⟩ := goes_of h hk
  rw [evL_later h fe fp d hk _ g1, evL_later h fe fp d hk _ g2]
  rcases atI_cases ps nm with ⟨_, hn⟩ | ⟨j, q, hq, he, hj, hl⟩
  · omega
  · obtain rfl : j = k := by omega
    have hno : hasB (ps.take j) nm = false := by
      rw [← Bool.not_eq_true]
      intro hc
      obtain ⟨l, r, hr, hre⟩ := (hasB_iff _ _).1 hc
      rw [List.getElem?_take] at hr
      split at hr
      · rename_i hlj
        rw [hl l r hlj hr] at hre; cases hre
      · cases hr
    have h1 := evL_skip fe fp d (ps.take j) (ps.drop j) nm hno
    rw [List.take_append_drop] at h1
    obtain ⟨_, rfl⟩ := List.getElem?_eq_some_iff.1 hq
    rw [h1, List.drop_eq_getElem_cons hk, evL, if_pos he]
theorem evL_out (ps : List Ph) (fe : Int → τ) (fp : Ph → τ → τ → τ) (d : τ) (nm : ByteArray) (ha : atI ps nm < 0) : evL fe fp d ps nm = if endN nm = 0 then d else fe (endN nm) := by
  rcases atI_cases ps nm with ⟨hn, _⟩ | ⟨j, q, hq, he, hj, hl⟩
  · exact evL_none fe fp d ps nm hn
  · omega
theorem atI_lt (ps : List Ph) (nm : ByteArray) : atI ps nm < (ps.length : Int) := by
  rcases atI_cases ps nm with ⟨_, hn⟩ | ⟨j, q, hq, he, hj, hl⟩
  · omega
  · have := (List.getElem?_eq_some_iff.1 hq).1; omega
end
end Go.Proofs.YtmccabenfdigdaaGreatDoor
