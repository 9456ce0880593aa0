/- Plain facts on names, ends and phases: no program in it. -/
import Derived.Laws.RangeAny
import Derived.Below
import Derived.Test.YtlkpgiifdclijaaGreatDoorChecked
import Derived.WalkKit
import Derived.WalkSpells
import Derived.WalkLawsBesides
import Derived.Handy
import Derived.Outline
import Derived.Deep.Light
import Derived.Laws.Bits64
import Derived.BigQuiet
import Derived.Deep.QuietTactic
import Derived.Deep.DeepCutAuto
import Derived.Deep.RegionLaw
import Derived.Deep.RegionHeld
import Derived.Deep.RegionWith
import Derived.Deep.MidRow
import Derived.Lib.SlicesCompact
namespace Go.Proofs.YtlkpgiifdclijaaGreatDoor
/-- What a byte of a name is. -/
def nbB (n : Nat) : Bool := (decide (97 ≤ n) && decide (n ≤ 122)) || (decide (48 ≤ n) && decide (n ≤ 57)) || n == 45
def allB (l : List UInt8) : Bool := l.all fun b => nbB b.toNat
def nameB (s : ByteArray) : Bool := decide (1 ≤ s.size) && decide (s.size ≤ 8) && allB s.data.toList
theorem nbB_iff (n : Nat) : nbB n = true ↔ (97 ≤ n ∧ n ≤ 122) ∨ (48 ≤ n ∧ n ≤ 57) ∨ n = 45 := by
  simp [nbB, or_assoc]
theorem nbB_high (n : Nat) (h : 128 ≤ n) : nbB n = false := by
  rw [← Bool.not_eq_true, nbB_iff]; omega
theorem take_snoc (s : ByteArray) (k : Nat) (h : k < s.size) : s.data.toList.take (k + 1) = s.data.toList.take k ++ [s[k]] := by
  rw [List.take_succ_eq_append_getElem (by simpa using h)]; rfl
theorem allB_snoc (l : List UInt8) (b : UInt8) : allB (l ++ [b]) = (allB l && nbB b.toNat) := by simp [allB]
theorem allB_take (s : ByteArray) (k : Nat) (h : k < s.size) : allB (s.data.toList.take (k + 1)) = (allB (s.data.toList.take k) && nbB (s[k]).toNat) := by
  rw [take_snoc s k h, allB_snoc]
theorem allB_no (s : ByteArray) (k : Nat) (h : k < s.size) (hb : nbB (s[k]).toNat = false) : allB s.data.toList = false := by
  rw [← Bool.not_eq_true]; intro ha
  simp only [allB, List.all_eq_true] at ha
  have := ha (s[k]) (by show s.data[k] ∈ s.data.toList; simp)
  rw [hb] at this; cases this
theorem allB_yes (s : ByteArray) (k : Nat) (h : ¬ k < s.size) (ha : allB (s.data.toList.take k) = true) : allB s.data.toList = true := by
  rw [List.take_of_length_le (by simp; omega)] at ha; exact ha
def inB (n lo hi : Int) : Bool := decide (lo ≤ n) && decide (n ≤ hi)
theorem inB_iff (n lo hi : Int) : inB n lo hi = true ↔ lo ≤ n ∧ n ≤ hi := by simp [inB]
theorem inB_no (n lo hi : Int) : inB n lo hi = false ↔ ¬ (lo ≤ n ∧ n ≤ hi) := by rw [← inB_iff]; simp
def endN (s : ByteArray) : Int :=
  if s.toList == [103, 111, 111, 100] then 1 else if s.toList == [115, 97, 118, 101, 100] then 2 else if s.toList == [115, 99, 114, 97, 112, 112, 101, 100] then 3 else 0
/-- What a phase has by its kind. -/
def argsB (k : Int) (a b : ByteArray) (n wi : Int) : Bool :=
  if k = 1 then nameB a && nameB b && inB n 1 1000
  else if k = 2 then nameB a && nameB b && !(a.toList == b.toList) && inB n 1 1000
  else if k = 3 then nameB a && b.toList.isEmpty && inB n 1 wi
  else if k = 4 ∨ k = 5 then nameB a && b.toList.isEmpty && n == 0
  else false
def phaseB (nm : ByteArray) (k : Int) (a b : ByteArray) (n wi : Int) (t e : ByteArray) : Bool :=
  nameB nm && endN nm == 0 && inB wi 1 1000 && argsB k a b n wi && nameB t && nameB e
end Go.Proofs.YtlkpgiifdclijaaGreatDoor

/- What every walk leans on: what is handed back; worlds that grow. -/
namespace Go.Proofs.YtlkpgiifdclijaaGreatDoor
open Go.RowKit

theorem ret_bool {a b : Bool} (h : a = b) : Ending.returned (.bool a) = .returned (.bool b) := by rw [h]
theorem ret_int {k : IntKind} {a b : Int} (h : a = b) : Ending.returned (.int k a) = .returned (.int k b) := by rw [h]

theorem width_pos (s : ByteArray) (pos : Nat) (h : pos < s.size) : 1 ≤ (Utf8.decode s pos).2 := by
  by_cases ha : (s[pos]'h).toNat < 128
  · rw [decode_ascii s pos h ha]
    exact Nat.le_refl _
  · exact (decode_high s pos h (by omega)).2

theorem up_iter (w : World) (s : ByteArray) (p : Nat) : Below w.heap.size w (w.iter s p) := (Below.refl _ _).alloc (Nat.le_refl _) _
theorem bcell {W w1 : World} (hb : Below W.heap.size W w1) : (∀ b o, b < W.heap.size → w1.cell? ⟨b, o, none⟩ = W.cell? ⟨b, o, none⟩) ∧ (∀ b o, b < W.heap.size → w1.frozen? ⟨b, o, none⟩ = W.frozen? ⟨b, o, none⟩) :=
  ⟨fun b o h => hb.cell (p := ⟨b, o, none⟩) h, fun b o h => hb.frozen (p := ⟨b, o, none⟩) h⟩
theorem up_trans {a b c : World} (h : Below a.heap.size a b) (k : Below b.heap.size b c) : Below a.heap.size a c := h.trans (k.mono h.size)
end Go.Proofs.YtlkpgiifdclijaaGreatDoor

/- Worlds that grow, rows of one's own, lists of texts, structs in blocks: what all walks share. -/
namespace Go.Proofs.YtlkpgiifdclijaaGreatDoor
open Go.RowKit

theorem grown_trans {a b c : World} {r : Option Nat} (h : a.grownBy b r) (k : b.grownBy c r) : a.grownBy c r :=
  ⟨k.os.trans h.os, k.tape.trans h.tape, k.output.trans h.output, Nat.le_trans h.size k.size, fun i hi hr => (k.block i (Nat.lt_of_lt_of_le hi h.size) hr).trans (h.block i hi hr)⟩
theorem grown_refl (a : World) (r : Option Nat) : a.grownBy a r := ⟨rfl, rfl, rfl, Nat.le_refl _, fun _ _ _ => rfl⟩
theorem grown_drew {a b : World} {r : Option Nat} (h : a.grownBy b r) : a.grownBy b.drew r := ⟨h.os, h.tape, h.output, h.size, h.block⟩
theorem grown_below {a b : World} {r : Option Nat} (h : Below a.heap.size a b) : a.grownBy b r := ⟨h.os, h.tape, h.output, h.size, fun i hi _ => h.block i hi⟩
theorem grown_alloc {a b : World} {r : Option Nat} (h : a.grownBy b r) (o : Obj) : a.grownBy (b.alloc o) r := grown_trans h (grown_below ((Below.refl _ _).alloc (Nat.le_refl _) _))
theorem grown_setCell {a b : World} {rb off : Nat} (h : a.grownBy b (some rb)) (u : Value) : a.grownBy (b.setCell ⟨rb, off, none⟩ u) (some rb) :=
  grown_trans h ⟨rfl, rfl, rfl, by simp, fun i _ hr => Below.heap_setCell _ _ _ _ (fun e => hr (by rw [e]))⟩
theorem grown_drewN {a b : World} {r : Option Nat} (h : a.grownBy b r) (n : Nat) : a.grownBy (b.drewN n) r := ⟨h.os, h.tape, h.output, h.size, h.block⟩
/-- A list of texts in block g from cell o on. -/
def StrsAt (w : World) (g o : Nat) (ss : List ByteArray) : Prop := ∀ (i : Nat) (s : ByteArray), ss[i]? = some s → w.cell? ⟨g, o + i, none⟩ = some (.string s)
theorem StrsAt.kept {w w' : World} {g o rb : Nat} {ss : List ByteArray} (h : StrsAt w g o ss) (hg : w.grownBy w' (some rb)) (hne : g ≠ rb) : StrsAt w' g o ss :=
  fun i s hs => hg.cell (h i s hs) (by simpa using hne)
theorem below_copies (b : Nat) : ∀ (vs : List Value) (o : Nat) (W w' : World) (B : Nat), Below B W w' → B ≤ b → Below B W (w'.setCells b o vs)
  | [], _, _, _, _, h, _ => h
  | v :: r, o, W, w', B, h, hB => by
    rw [World.setCells]
    exact below_copies b r (o + 1) W _ B (h.setCell (p := ⟨b, o, none⟩) hB v) hB
theorem World.size_setCells' {b : Nat} : ∀ {vs : List Value} {o : Nat} {w : World}, (w.setCells b o vs).heap.size = w.heap.size
  | [], _, _ => rfl
  | v :: r, o, w => by rw [World.setCells, World.size_setCells']; simp
theorem World.grownBy.refl' (w : World) {r : Option Nat} : w.grownBy w r := ⟨rfl, rfl, rfl, Nat.le_refl _, fun _ _ _ => rfl⟩
theorem grown_copies (b : Nat) : ∀ (vs : List Value) (o : Nat) (W w' : World) (r : Option Nat), W.grownBy w' r → r = some b → W.grownBy (w'.setCells b o vs) r
  | [], _, _, _, _, h, _ => h
  | v :: s, o, W, w', r, h, hr => by
    rw [World.setCells]
    refine grown_copies b s (o + 1) W _ r ⟨h.os, h.tape, h.output, Nat.le_trans h.size (by simp), fun i hi hne => ?_⟩ hr
    rw [Below.heap_setCell _ _ _ _ (fun e => hne (by rw [hr, e]))]
    exact h.block i hi hne
/-- The cells of one struct, in a block of its own, which may be written. -/
def CB (w : World) (b : Nat) (cs : List Value) : Prop := w.rangeAt b 0 cs ∧ w.there b 0 cs.length ∧ b < w.heap.size
theorem CB.kept {w w' : World} {b : Nat} {cs : List Value} {r : Option Nat} (h : CB w b cs) (hg : w.grownBy w' r) (hne : some b ≠ r) : CB w' b cs := by
  have hb := hg.block b h.2.2 hne
  refine ⟨fun j v hv => ?_, fun j hj => ?_, Nat.lt_of_lt_of_le h.2.2 hg.size⟩
  · rw [World.cell?_of_block (w := w) (a := ⟨b, 0 + j, none⟩) hb]; exact h.1 j v hv
  · rw [World.cell?_of_block (w := w) (a := ⟨b, 0 + j, none⟩) hb, World.frozen?_of_block (w := w) (a := ⟨b, 0 + j, none⟩) hb]; exact h.2.1 j hj
theorem CB.up {w w' : World} {b B : Nat} {cs : List Value} (h : CB w b cs) (hb : Below B w w') (hB : b < B) : CB w' b cs := by
  have hk := hb.block b hB
  refine ⟨fun j v hv => ?_, fun j hj => ?_, Nat.lt_of_lt_of_le h.2.2 hb.size⟩
  · rw [World.cell?_of_block (w := w) (a := ⟨b, 0 + j, none⟩) hk]; exact h.1 j v hv
  · rw [World.cell?_of_block (w := w) (a := ⟨b, 0 + j, none⟩) hk, World.frozen?_of_block (w := w) (a := ⟨b, 0 + j, none⟩) hk]; exact h.2.1 j hj
theorem cb_alloc (w : World) (cs : List Value) (t : TypeId) : CB (w.alloc (.cells cs.toArray t)) w.heap.size cs := by
  have hr : (w.alloc (.cells cs.toArray t)).rangeAt w.heap.size 0 cs := by
    intro j v hv
    rw [Nat.zero_add, World.cell?_alloc_at]
    · simpa using hv
    · rfl
  refine ⟨hr, fun j hj => ⟨hr.isSome j hj, ?_⟩, by simp⟩
  simp [go_sem]
theorem cb_range_set {w : World} {b : Nat} {cs : List Value} {j : Nat} {u : Value} (h : w.rangeAt b 0 cs) (hj : j < cs.length) : (w.setCell ⟨b, j, none⟩ u).rangeAt b 0 (cs.set j u) := by
  intro i x hx
  rw [List.getElem?_set] at hx
  by_cases e : j = i
  · subst e
    rw [if_pos rfl, if_pos hj] at hx
    obtain rfl := Option.some.inj hx
    have hc := h j cs[j] (by simp)
    rw [Nat.zero_add] at hc ⊢
    exact World.cell?_setCell_same _ _ _ hc
  · rw [if_neg e] at hx
    rw [World.cell?_setCell_other _ _ _ _ (by simp <;> omega)]
    exact h i x hx
theorem CB.set {w : World} {b j : Nat} {cs : List Value} {u : Value} (h : CB w b cs) (hj : j < cs.length) : CB (w.setCell ⟨b, j, none⟩ u) b (cs.set j u) := by
  refine ⟨cb_range_set h.1 hj, fun i hi => ?_, by simpa using h.2.2⟩
  have := World.there_setCells h.2.1 b j [u] i (by simpa using hi)
  simpa [World.setCells] using this
theorem CB.other {w : World} {b q j : Nat} {cs : List Value} {u : Value} (h : CB w b cs) (hne : b ≠ q) : CB (w.setCell ⟨q, j, none⟩ u) b cs :=
  h.kept (r := some q) ⟨rfl, rfl, rfl, by simp, fun i _ hr => Below.heap_setCell _ _ _ _ (fun e => hr (by rw [e]))⟩ (by simpa using hne)
theorem CB.c2 {w : World} {b : Nat} {x0 x1 : Value} (h : CB w b [x0, x1]) : (w.cell? ⟨b, 0, none⟩ = some x0 ∧ w.cell? ⟨b, 1, none⟩ = some x1) ∧ w.frozen? ⟨b, 0, none⟩ = false ∧ w.frozen? ⟨b, 1, none⟩ = false :=
  ⟨⟨h.1 0 _ rfl, h.1 1 _ rfl⟩, (h.2.1 0 (by simp)).2, (h.2.1 1 (by simp)).2⟩
theorem CB.c3 {w : World} {b : Nat} {x0 x1 x2 : Value} (h : CB w b [x0, x1, x2]) : (w.cell? ⟨b, 0, none⟩ = some x0 ∧ w.cell? ⟨b, 1, none⟩ = some x1 ∧ w.cell? ⟨b, 2, none⟩ = some x2) ∧ w.frozen? ⟨b, 0, none⟩ = false ∧ w.frozen? ⟨b, 1, none⟩ = false ∧ w.frozen? ⟨b, 2, none⟩ = false :=
  ⟨⟨h.1 0 _ rfl, h.1 1 _ rfl, h.1 2 _ rfl⟩, (h.2.1 0 (by simp)).2, (h.2.1 1 (by simp)).2, (h.2.1 2 (by simp)).2⟩
theorem CB.c8 {w : World} {b : Nat} {x0 x1 x2 x3 x4 x5 x6 x7 : Value} (h : CB w b [x0, x1, x2, x3, x4, x5, x6, x7]) :
    (w.cell? ⟨b, 0, none⟩ = some x0 ∧ w.cell? ⟨b, 1, none⟩ = some x1 ∧ w.cell? ⟨b, 2, none⟩ = some x2 ∧ w.cell? ⟨b, 3, none⟩ = some x3 ∧ w.cell? ⟨b, 4, none⟩ = some x4 ∧ w.cell? ⟨b, 5, none⟩ = some x5 ∧ w.cell? ⟨b, 6, none⟩ = some x6 ∧ w.cell? ⟨b, 7, none⟩ = some x7) ∧
    w.frozen? ⟨b, 0, none⟩ = false ∧ w.frozen? ⟨b, 1, none⟩ = false ∧ w.frozen? ⟨b, 2, none⟩ = false ∧ w.frozen? ⟨b, 3, none⟩ = false ∧ w.frozen? ⟨b, 4, none⟩ = false ∧ w.frozen? ⟨b, 5, none⟩ = false ∧ w.frozen? ⟨b, 6, none⟩ = false ∧ w.frozen? ⟨b, 7, none⟩ = false :=
  ⟨⟨h.1 0 _ rfl, h.1 1 _ rfl, h.1 2 _ rfl, h.1 3 _ rfl, h.1 4 _ rfl, h.1 5 _ rfl, h.1 6 _ rfl, h.1 7 _ rfl⟩, (h.2.1 0 (by simp)).2, (h.2.1 1 (by simp)).2, (h.2.1 2 (by simp)).2, (h.2.1 3 (by simp)).2, (h.2.1 4 (by simp)).2, (h.2.1 5 (by simp)).2, (h.2.1 6 (by simp)).2, (h.2.1 7 (by simp)).2⟩
/-- A struct stored whole. -/
theorem CB.copy {w : World} {b : Nat} {ys : List Value} (h : CB w b ys) (xs : List Value) (hl : xs.length = ys.length) : CB (w.setCells b 0 xs) b xs :=
  ⟨World.rangeAt_setCells_same _ _ _ _ (by rw [hl]; exact h.2.1), World.there_setCells (by rw [hl]; exact h.2.1) _ _ _, by rw [World.size_setCells']; exact h.2.2⟩
theorem below_copy {B : Nat} {a w : World} {b : Nat} (h : Below B a w) (hb : B ≤ b) (xs : List Value) : Below B a (w.setCells b 0 xs) := below_copies b xs 0 a w B h hb
theorem CB.otherCopy {w : World} {b q : Nat} {ys : List Value} (h : CB w b ys) (hne : b ≠ q) (xs : List Value) : CB (w.setCells q 0 xs) b ys :=
  h.kept (r := some q) (grown_copies q xs 0 w w (some q) (World.grownBy.refl' w) rfl) (by simpa using hne)
/-- The struct that lies there may be stored into. -/
theorem CB.room {w : World} {b : Nat} {ys : List Value} (h : CB w b ys) {n : Nat} (hn : n = ys.length) : w.there b 0 n := by subst hn; exact h.2.1
theorem CB.copy2 {w : World} {b : Nat} {y0 y1 : Value} (h : CB w b [y0, y1]) (x0 x1 : Value) : CB ((w.setCell ⟨b, 0, none⟩ x0).setCell ⟨b, 1, none⟩ x1) b [x0, x1] := h.copy [x0, x1] rfl
theorem CB.copy3 {w : World} {b : Nat} {y0 y1 y2 : Value} (h : CB w b [y0, y1, y2]) (x0 x1 x2 : Value) : CB (((w.setCell ⟨b, 0, none⟩ x0).setCell ⟨b, 1, none⟩ x1).setCell ⟨b, 2, none⟩ x2) b [x0, x1, x2] := h.copy [x0, x1, x2] rfl
theorem CB.copy8 {w : World} {b : Nat} {y0 y1 y2 y3 y4 y5 y6 y7 : Value} (h : CB w b [y0, y1, y2, y3, y4, y5, y6, y7]) (x0 x1 x2 x3 x4 x5 x6 x7 : Value) :
    CB ((((((((w.setCell ⟨b, 0, none⟩ x0).setCell ⟨b, 1, none⟩ x1).setCell ⟨b, 2, none⟩ x2).setCell ⟨b, 3, none⟩ x3).setCell ⟨b, 4, none⟩ x4).setCell ⟨b, 5, none⟩ x5).setCell ⟨b, 6, none⟩ x6).setCell ⟨b, 7, none⟩ x7) b [x0, x1, x2, x3, x4, x5, x6, x7] := h.copy [x0, x1, x2, x3, x4, x5, x6, x7] rfl
theorem below_set2 {B : Nat} {a w : World} {b : Nat} (h : Below B a w) (hb : B ≤ b) (x0 x1 : Value) : Below B a ((w.setCell ⟨b, 0, none⟩ x0).setCell ⟨b, 1, none⟩ x1) := below_copy h hb [x0, x1]
theorem below_set3 {B : Nat} {a w : World} {b : Nat} (h : Below B a w) (hb : B ≤ b) (x0 x1 x2 : Value) : Below B a (((w.setCell ⟨b, 0, none⟩ x0).setCell ⟨b, 1, none⟩ x1).setCell ⟨b, 2, none⟩ x2) := below_copy h hb [x0, x1, x2]
theorem below_set8 {B : Nat} {a w : World} {b : Nat} (h : Below B a w) (hb : B ≤ b) (x0 x1 x2 x3 x4 x5 x6 x7 : Value) :
    Below B a ((((((((w.setCell ⟨b, 0, none⟩ x0).setCell ⟨b, 1, none⟩ x1).setCell ⟨b, 2, none⟩ x2).setCell ⟨b, 3, none⟩ x3).setCell ⟨b, 4, none⟩ x4).setCell ⟨b, 5, none⟩ x5).setCell ⟨b, 6, none⟩ x6).setCell ⟨b, 7, none⟩ x7) := below_copy h hb [x0, x1, x2, x3, x4, x5, x6, x7]
/-- What a function hands back that lies in its result's block. -/
theorem ret_cb {P : Program} {fn : Func} {q : Tmp} {T : TypeId} (h : fn.results = #[.cell q T]) {d : TypeDesc} (hu : P.underlying T = some d) (hd : d.isRow = true) {tmps : Array Value} {Z : World} {rk : Nat} {cs : List Value} (hi : (P.info? T).map (·.size) = some cs.length)
    (ht : tmps.getD q undef = .pointer (some ⟨rk, 0, none⟩)) (hZ : CB Z rk cs) : (results fn tmps).run P Z = .ok (.agg cs.toArray) Z := by
  have hl := run_loadVar_mid (P := P) Z rk 0 T cs d hZ.1 hu hd hi
  have ha : (asAddr (.pointer (some ⟨rk, 0, none⟩))).run P Z = .ok ⟨rk, 0, none⟩ Z := by simp [go_sem]
  have ht' : tmps[q]?.getD undef = .pointer (some ⟨rk, 0, none⟩) := by simpa using ht
  simp only [results, h]
  simp [Sem.run_bind, Result.andThen, ht', ha, hl]
/-- The same, beside a second result that is a temporary. -/
theorem ret_cb2 {P : Program} {fn : Func} {q q2 : Tmp} {T : TypeId} (h : fn.results = #[.cell q T, .tmp q2]) {d : TypeDesc} (hu : P.underlying T = some d) (hd : d.isRow = true) {tmps : Array Value} {Z : World} {rk : Nat} {cs : List Value} (hi : (P.info? T).map (·.size) = some cs.length)
    {v : Value} (ht : tmps.getD q undef = .pointer (some ⟨rk, 0, none⟩)) (hv : tmps.getD q2 undef = v) (hZ : CB Z rk cs) : (results fn tmps).run P Z = .ok (.tuple #[.agg cs.toArray, v]) Z := by
  have hl := run_loadVar_mid (P := P) Z rk 0 T cs d hZ.1 hu hd hi
  have ha : (asAddr (.pointer (some ⟨rk, 0, none⟩))).run P Z = .ok ⟨rk, 0, none⟩ Z := by simp [go_sem]
  have ht' : tmps[q]?.getD undef = .pointer (some ⟨rk, 0, none⟩) := by simpa using ht
  have hv' : tmps[q2]?.getD undef = v := by simpa using hv
  simp only [results, h]
  simp [Sem.run_bind, Result.andThen, ht', hv', ha, hl]
/-- One, two, three structs laid one behind the other. -/
theorem cb1 (w : World) (x : List Value) (t : TypeId) : CB (w.alloc (.cells x.toArray t)) w.heap.size x ∧ Below w.heap.size w (w.alloc (.cells x.toArray t)) ∧ (w.alloc (.cells x.toArray t)).heap.size = w.heap.size + 1 :=
  ⟨cb_alloc w x t, (Below.refl _ _).alloc (Nat.le_refl _) _, by simp⟩
theorem cb2 (w : World) (x y : List Value) (t u : TypeId) : CB ((w.alloc (.cells x.toArray t)).alloc (.cells y.toArray u)) w.heap.size x ∧ CB ((w.alloc (.cells x.toArray t)).alloc (.cells y.toArray u)) (w.heap.size + 1) y ∧
    Below w.heap.size w ((w.alloc (.cells x.toArray t)).alloc (.cells y.toArray u)) ∧ ((w.alloc (.cells x.toArray t)).alloc (.cells y.toArray u)).heap.size = w.heap.size + 2 := by
  obtain ⟨h1, hb, hs⟩ := cb1 w x t
  obtain ⟨h2, hb2, hs2⟩ := cb1 (w.alloc (.cells x.toArray t)) y u
  refine ⟨h1.up hb2 (by rw [hs]; omega), by rw [hs] at h2; exact h2, hb.trans (hb2.mono (by rw [hs]; omega)), by rw [hs2, hs]⟩
theorem cb3 (w : World) (x y z : List Value) (t u v : TypeId) : CB (((w.alloc (.cells x.toArray t)).alloc (.cells y.toArray u)).alloc (.cells z.toArray v)) w.heap.size x ∧ CB (((w.alloc (.cells x.toArray t)).alloc (.cells y.toArray u)).alloc (.cells z.toArray v)) (w.heap.size + 1) y ∧
    CB (((w.alloc (.cells x.toArray t)).alloc (.cells y.toArray u)).alloc (.cells z.toArray v)) (w.heap.size + 2) z ∧
    Below w.heap.size w (((w.alloc (.cells x.toArray t)).alloc (.cells y.toArray u)).alloc (.cells z.toArray v)) ∧ (((w.alloc (.cells x.toArray t)).alloc (.cells y.toArray u)).alloc (.cells z.toArray v)).heap.size = w.heap.size + 3 := by
  obtain ⟨h1, h2, hb, hs⟩ := cb2 w x y t u
  obtain ⟨h3, hb3, hs3⟩ := cb1 ((w.alloc (.cells x.toArray t)).alloc (.cells y.toArray u)) z v
  refine ⟨h1.up hb3 (by rw [hs]; omega), h2.up hb3 (by rw [hs]; omega), by rw [hs] at h3; exact h3, hb.trans (hb3.mono (by rw [hs]; omega)), by rw [hs3, hs]⟩
theorem own_ptr {w : World} {base e size n : Nat} {v : Value} {xs : List Value} (h : w.ownsRow base e size v n xs) (hn : 0 < n) : ∃ g cap, v = .slice (some ⟨g, 0, none⟩) n cap := by
  rcases h.2 with ⟨_, h0⟩ | ⟨g, cap, _, hv, _⟩
  · omega
  · exact ⟨g, cap, hv⟩
theorem own_up {W w' : World} {base e size n : Nat} {v : Value} {xs : List Value} (h : W.ownsRow base e size v n xs) (hb : Below W.heap.size W w') : w'.ownsRow base e size v n xs := by
  refine ⟨h.1, ?_⟩
  rcases h.2 with h0 | ⟨g, cap, cur, hv, hg, hh, r⟩
  · exact .inl h0
  · refine .inr ⟨g, cap, cur, hv, hg, ?_, r⟩
    rw [hb.block g (Array.getElem?_eq_some_iff.1 hh).1]; exact hh
theorem new2 (w : World) (a b : Value) (ty : TypeId) {j : Nat} {u : Value} (h : [a, b][j]? = some u) : (w.alloc (.cells #[a, b] ty)).cell? ((⟨w.heap.size, 0, none⟩ : Addr).add j) = some u := by
  match j, h with
  | 0, h => simp at h; subst h; simp [Addr.add]
  | 1, h => simp at h; subst h; simp [Addr.add]
theorem one2 {s : ByteArray} {x u : Value} (hx : x.oneCell' = true) (h : u ∈ [Value.string s, x]) : u.oneCell' = true := by
  simp at h; rcases h with rfl | rfl
  · rfl
  · exact hx
theorem grown_setNew {a b : World} {r : Option Nat} {pb off : Nat} (h : a.grownBy b r) (hp : a.heap.size ≤ pb) (u : Value) : a.grownBy (b.setCell ⟨pb, off, none⟩ u) r :=
  ⟨h.os, h.tape, h.output, by simpa using h.size, fun i hi hr => (Below.heap_setCell _ _ _ _ (by simp; omega)).trans (h.block i hi hr)⟩
theorem infoStr : (Tryz.prog.info? 9).map (fun i => (i.zero, i.size, i.bytes)) = some (some (.string ⟨#[]⟩), 1, 16) := by kernel_rfl
theorem StrsAt.alloc {w : World} {g o : Nat} {ss : List ByteArray} (h : StrsAt w g o ss) (ob : Obj) : StrsAt (w.alloc ob) g o ss := fun i s hs => by
  have := h i s hs
  rw [World.cell?_alloc_lt _ _ _ (World.block_lt_of_cell? w _ this)]; exact this
theorem news_of {w : World} {g o : Nat} {ss : List ByteArray} (h : StrsAt w g o ss) : ∀ (j : Nat) (u : Value), (ss.map Value.string)[j]? = some u → w.cell? ((⟨g, o, none⟩ : Addr).add j) = some u := fun j u hu => by
  rw [List.getElem?_map, Option.map_eq_some_iff] at hu
  obtain ⟨s, hs, rfl⟩ := hu
  rw [Addr.add_mid]; exact h j s hs
theorem oneS (ss : List ByteArray) : ∀ u ∈ ss.map Value.string, u.oneCell' = true := fun u hu => by
  obtain ⟨s, _, rfl⟩ := List.mem_map.1 hu; rfl
theorem own_ptr2 {w : World} {base e size n : Nat} {v : Value} {xs : List Value} (h : w.ownsRow base e size v n xs) (hn : 0 < n) : ∃ g cap, v = .slice (some ⟨g, 0, none⟩) n cap := by
  rcases h.2 with ⟨_, h0⟩ | ⟨g, cap, _, hv, _⟩
  · omega
  · exact ⟨g, cap, hv⟩
theorem strs_of_own {w : World} {base e g n cap : Nat} {ss : List ByteArray} (h : w.ownsRow base e 1 (.slice (some ⟨g, 0, none⟩) n cap) n (ss.map Value.string)) (hn : ss.length = n) : StrsAt w g 0 ss := fun i s hs => by
  have hi : i < ss.length := (List.getElem?_eq_some_iff.1 hs).1
  rw [Nat.zero_add, h.cellAt i (by omega), List.getElem?_map, hs]; rfl
theorem grown_new {a b c : World} {r : Option Nat} {k : Nat} (h : a.grownBy b r) (hg : b.grownBy c (some k)) (hk : a.heap.size ≤ k) : a.grownBy c r :=
  ⟨hg.os.trans h.os, hg.tape.trans h.tape, hg.output.trans h.output, Nat.le_trans h.size hg.size, fun i hi hr => (hg.block i (Nat.lt_of_lt_of_le hi h.size) (by simp; omega)).trans (h.block i hi hr)⟩
theorem StrsAt.other {w : World} {g o pb off : Nat} {u : Value} {ss : List ByteArray} (h : StrsAt w g o ss) (hne : g ≠ pb) : StrsAt (w.setCell ⟨pb, off, none⟩ u) g o ss := fun i s hs => by
  rw [World.cell?_setCell_other _ _ _ _ (by simp <;> omega)]; exact h i s hs
theorem step_append_own {P : Program} {ops : Array Oper} {o : Oper} {a : Act} {w : World} {K : Act → World → Prop} {Q : Exit → Act → World → Prop} {E : Prop}
    (hg : o.guard = none) (s x : Operand) (t : TypeId) (hop : o.op = Op.call { callee := Callee.builtin Builtin.append, args := #[s, x], argTypes := #[t, t] })
    (base : Nat) (e : TypeId) (i : TypeInfo) (z : Value) (size bytes : Nat) (ht : P.underlying t = some (.slice e)) (hi : P.info? e = some i) (hz : i.zero = some z)
    (hsize : i.size = size) (hby : i.bytes = bytes) (hzs : z.cells.size = size) (hsz : 0 < size)
    (v : Value) (n : Nat) (xs : List Value) (hs : a.eval s = v) (hown : w.ownsRow base e size v n xs)
    (ad : Addr) (m c : Nat) (news : List Value) (hx : a.eval x = .slice (some ad) m c) (hl : news.length = m * size) (hnews : ∀ j u, news[j]? = some u → w.cell? (ad.add j) = some u) (h1 : ∀ u ∈ news, u.oneCell' = true)
    (h63 : n + m ≤ maxLen) (hbytes : (n + m) * bytes ≤ 140737488355328) (hbase : base ≤ w.heap.size)
    (hK : ∀ v' w', w'.ownsRow base e size v' (n + m) (xs ++ news) → w.grownBy w' v.ownBlock → K (a.put o.dst v') w') :
    if Region.wanted o (yielded ops a.tmps) = true then Oper.wp P o a w K Q else E := by
  have hw : Region.wanted o (yielded ops a.tmps) = true := by simp [Region.wanted, hg]
  rw [if_pos hw]
  obtain ⟨v', w', hr, h2, h3, _⟩ := run_append_own (P := P) w base t o.type e i z size bytes ht hi hz hsize hby hzs hsz v n xs hown ad m c news hl hnews h1 h63 hbytes hbase
  unfold Oper.wp
  simp [execOp, hop, resolve, invoke, builtin, hs, hx, hr, Result.andThen]
  exact hK v' w' h2 h3
theorem own_grown {w w' : World} {base e size n rb : Nat} {v : Value} {xs : List Value} (h : w.ownsRow base e size v n xs) (hg : w.grownBy w' (some rb)) (hrb : rb < base) : w'.ownsRow base e size v n xs := by
  refine ⟨h.1, ?_⟩
  rcases h.2 with h0 | ⟨g, cap, cur, hv, hb, hh, r⟩
  · exact .inl h0
  · refine .inr ⟨g, cap, cur, hv, hb, ?_, r⟩
    rw [hg.block g (Array.getElem?_eq_some_iff.1 hh).1 (by simp; omega)]; exact hh
theorem own_low {w : World} {base base' e size n : Nat} {v : Value} {xs : List Value} (h : w.ownsRow base e size v n xs) (hb : base' ≤ base) : w.ownsRow base' e size v n xs := by
  refine ⟨h.1, ?_⟩
  rcases h.2 with h0 | ⟨g, cap, cur, hv, hg, r⟩
  · exact .inl h0
  · exact .inr ⟨g, cap, cur, hv, Nat.le_trans hb hg, r⟩
theorem own_ne {w : World} {base e size n b : Nat} {v : Value} {xs : List Value} (h : w.ownsRow base e size v n xs) (hb : b < base) : some b ≠ v.ownBlock := fun e => by
  have := (h.lt b e.symm).1; omega
theorem grown_own {a b c : World} {r : Option Nat} {base e size n : Nat} {v : Value} {xs : List Value} (h : a.grownBy b r) (hown : b.ownsRow base e size v n xs) (hg : b.grownBy c v.ownBlock) (hk : a.heap.size ≤ base) : a.grownBy c r :=
  ⟨hg.os.trans h.os, hg.tape.trans h.tape, hg.output.trans h.output, Nat.le_trans h.size hg.size, fun i hi hr => (hg.block i (Nat.lt_of_lt_of_le hi h.size) (own_ne hown (by omega))).trans (h.block i hi hr)⟩
theorem StrsAt.own {w w' : World} {g o base e size n : Nat} {u : Value} {xs : List Value} {ss : List ByteArray} (h : StrsAt w g o ss) (hown : w.ownsRow base e size u n xs) (hg : w.grownBy w' u.ownBlock) (hk : g < base) : StrsAt w' g o ss :=
  fun i s hs => hg.cell (h i s hs) (own_ne hown hk)
theorem StrsAt.drew {w : World} {g o : Nat} {ss : List ByteArray} (h : StrsAt w g o ss) : StrsAt w.drew g o ss := h
theorem own_drew {w : World} {base e size n : Nat} {v : Value} {xs : List Value} (h : w.ownsRow base e size v n xs) : w.drew.ownsRow base e size v n xs := h
theorem StrsAt.drop {w : World} {g o : Nat} {ss : List ByteArray} (h : StrsAt w g o ss) (k : Nat) : StrsAt w g (o + k) (ss.drop k) := fun i s hs => by
  rw [List.getElem?_drop] at hs
  rw [Nat.add_assoc]; exact h (k + i) s hs
theorem StrsAt.take {w : World} {g o : Nat} {ss : List ByteArray} (h : StrsAt w g o ss) (k : Nat) : StrsAt w g o (ss.take k) := fun i s hs => by
  rw [List.getElem?_take] at hs
  split at hs
  · exact h i s hs
  · cases hs
/-- A list of texts, handed about as a slice. -/
def Txt (w : World) (v : Value) (ss : List ByteArray) : Prop := ∃ g c, v = .slice (some ⟨g, 0, none⟩) ss.length c ∧ StrsAt w g 0 ss ∧ g < w.heap.size ∧ ss.length ≤ c ∧ c ≤ maxLen
theorem Txt.up {w w' : World} {v : Value} {ss : List ByteArray} (h : Txt w v ss) (hb : Below w.heap.size w w') : Txt w' v ss := by
  obtain ⟨g, c, rfl, hS, hg, r⟩ := h
  exact ⟨g, c, rfl, fun i s hs => (hb.cell (p := ⟨g, 0 + i, none⟩) hg).trans (hS i s hs), Nat.lt_of_lt_of_le hg hb.size, r⟩
theorem Txt.own {w : World} {base e n : Nat} {v : Value} {ss : List ByteArray} (h : w.ownsRow base e 1 v n (ss.map Value.string)) (hn : ss.length = n) (hv : ∃ g c, v = .slice (some ⟨g, 0, none⟩) n c) : Txt w v ss := by
  obtain ⟨g, c, rfl⟩ := hv
  refine ⟨g, c, by rw [hn], strs_of_own h hn, (h.lt g rfl).2, ?_, ?_⟩
  · rcases h.2 with ⟨h0, _⟩ | ⟨g', cap', cur, h', _, _, hc, _⟩
    · cases h0
    · cases h'; omega
  · rcases h.2 with ⟨h0, _⟩ | ⟨g', cap', cur, h', _, _, _, hc, _⟩
    · cases h0
    · cases h'; exact hc
theorem below_own {w W W' : World} {base e size n : Nat} {v : Value} {xs : List Value} (h : Below w.heap.size w W) (hown : W.ownsRow base e size v n xs) (hg : W.grownBy W' v.ownBlock) (hk : w.heap.size ≤ base) : Below w.heap.size w W' :=
  { os := hg.os.trans h.os, tape := hg.tape.trans h.tape, output := hg.output.trans h.output, size := Nat.le_trans h.size hg.size, block := fun i hi => (hg.block i (Nat.lt_of_lt_of_le hi h.size) (own_ne hown (by omega))).trans (h.block i hi) }
theorem one_new (w : World) (s : ByteArray) (t : TypeId) : ∀ (j : Nat) (u : Value), [Value.string s][j]? = some u → (w.alloc (.cells #[.string s] t)).cell? ((⟨w.heap.size, 0, none⟩ : Addr).add j) = some u := fun j u hj => by
  match j, hj with
  | 0, hj => simp at hj; subst hj; simp [Addr.add]
theorem one_old {w : World} {b : Nat} {s : ByteArray} (h : w.cell? ⟨b, 0, none⟩ = some (.string s)) : ∀ (j : Nat) (u : Value), [Value.string s][j]? = some u → w.cell? ((⟨b, 0, none⟩ : Addr).add j) = some u := fun j u hj => by
  match j, hj with
  | 0, hj => simp at hj; subst hj; rw [Addr.add_mid]; exact h
theorem oneV (s : ByteArray) : ∀ u ∈ [Value.string s], u.oneCell' = true := fun u hu => by simp at hu; subst hu; rfl
def Lst (w : World) (v : Value) (ss : List ByteArray) : Prop := (v = .slice none 0 0 ∧ ss = []) ∨ Txt w v ss
theorem Lst.up {w w' : World} {v : Value} {ss : List ByteArray} (h : Lst w v ss) (hb : Below w.heap.size w w') : Lst w' v ss := by
  rcases h with h | h
  · exact .inl h
  · exact .inr (h.up hb)
/-- The names of a list, whatever it is. -/
theorem Lst.shape {w : World} {v : Value} {ss : List ByteArray} (h : Lst w v ss) : ∃ a c, v = .slice a ss.length c := by
  rcases h with ⟨rfl, rfl⟩ | ⟨g, c, rfl, _⟩
  · exact ⟨none, 0, rfl⟩
  · exact ⟨_, _, rfl⟩
/-- A list of its own. -/
def OwnT (w : World) (base : Nat) (u : Value) (ss : List ByteArray) : Prop := w.ownsRow base 9 1 u ss.length (ss.map Value.string)
theorem OwnT.lst {w : World} {base : Nat} {u : Value} {ss : List ByteArray} (h : OwnT w base u ss) : Lst w u ss := by
  rcases h.2 with ⟨h0, h1⟩ | ⟨g, cap, cur, hv, _⟩
  · exact .inl ⟨h0, List.length_eq_zero_iff.1 h1⟩
  · exact .inr (Txt.own h rfl ⟨g, cap, hv⟩)
theorem below_gr {w a b : World} {x : Nat} (h : Below w.heap.size w a) (hg : a.grownBy b (some x)) (hx : w.heap.size ≤ x) : Below w.heap.size w b :=
  { os := hg.os.trans h.os, tape := hg.tape.trans h.tape, output := hg.output.trans h.output, size := Nat.le_trans h.size hg.size, block := fun i hi => (hg.block i (Nat.lt_of_lt_of_le hi h.size) (by simp; omega)).trans (h.block i hi) }
theorem Lst.grown {w w' : World} {r : Option Nat} {v : Value} {ss : List ByteArray} (h : Lst w v ss) (hg : w.grownBy w' r) (hne : ∀ g, v.ownBlock = some g → some g ≠ r) : Lst w' v ss := by
  rcases h with h | ⟨g, c, rfl, hS, hlt, rest⟩
  · exact .inl h
  · exact .inr ⟨g, c, rfl, fun i s hs => hg.cell (hS i s hs) (hne g rfl), Nat.lt_of_lt_of_le hlt hg.size, rest⟩
theorem Lst.lt {w : World} {v : Value} {ss : List ByteArray} (h : Lst w v ss) : ∀ g, v.ownBlock = some g → g < w.heap.size := by
  intro g hg
  rcases h with ⟨rfl, _⟩ | ⟨g', c, rfl, _, hlt, _⟩
  · simp [Value.ownBlock] at hg
  · simp [Value.ownBlock] at hg; omega
theorem OwnT.up {w w' : World} {base : Nat} {u : Value} {ss : List ByteArray} (h : OwnT w base u ss) (hb : Below w.heap.size w w') : OwnT w' base u ss := own_up h hb
theorem below_setCells (b : Nat) : ∀ (vs : List Value) (o : Nat) (W w' : World) (B : Nat), Below B W w' → B ≤ b → Below B W (w'.setCells b o vs)
  | [], _, _, _, _, h, _ => h
  | v :: r, o, W, w', B, h, hB => by
    rw [World.setCells]
    exact below_setCells b r (o + 1) W _ B (h.setCell (p := ⟨b, o, none⟩) hB v) hB
theorem cellOf_alloc (w : World) (C : Array Value) (t : TypeId) (j : Nat) (hj : j < C.size) : ((w.alloc (.cells C t)).cell? ⟨w.heap.size, j, none⟩).isSome = true ∧ (w.alloc (.cells C t)).frozen? ⟨w.heap.size, j, none⟩ = false := by
  constructor
  · simp [hj, go_sem]
  · simp [go_sem]
theorem there_alloc (w : World) (C : Array Value) (t : TypeId) : (w.alloc (.cells C t)).there w.heap.size 0 C.size := fun j hj => by
  simpa using cellOf_alloc w C t j hj
theorem there_up {w w' : World} {b o n B : Nat} (h : w.there b o n) (hb : Below B w w') (hB : b < B) : w'.there b o n := fun j hj => by
  rw [hb.cell (p := ⟨b, o + j, none⟩) hB, hb.frozen (p := ⟨b, o + j, none⟩) hB]; exact h j hj
theorem size_setCells (w1 : World) (b o : Nat) (vs : List Value) : w1.heap.size ≤ (w1.setCells b o vs).heap.size := (below_setCells b vs o w1 w1 0 (Below.refl _ _) (Nat.zero_le _)).size
theorem keep1 {W w0 w1 : World} {b o : Nat} {x : Value} (hb : b < W.heap.size) (h : Below W.heap.size W w0 ∧ w0.cell? ⟨b, o, none⟩ = some x) (hB : Below w0.heap.size w0 w1) : Below W.heap.size W w1 ∧ w1.cell? ⟨b, o, none⟩ = some x :=
  ⟨up_trans h.1 hB, (hB.cell (p := ⟨b, o, none⟩) (Nat.lt_of_lt_of_le hb h.1.size)).trans h.2⟩
theorem below_drewN {a b : World} {B : Nat} (h : Below B a b) (n : Nat) : Below B a (b.drewN n) := { os := h.os, tape := h.tape, output := h.output, size := h.size, block := h.block }
end Go.Proofs.YtlkpgiifdclijaaGreatDoor

/- A name put into an ascending list: plain facts, and what is at hand while lists are joined. -/
namespace Go.Proofs.YtlkpgiifdclijaaGreatDoor
open Go.RowKit

def lessB (a b : ByteArray) : Bool := Op.bytesLess a.toList b.toList
def sameB (a b : ByteArray) : Bool := a.toList == b.toList
/-- A name put into an ascending list. -/
def insL : List ByteArray → ByteArray → List ByteArray
  | [], x => [x]
  | y :: r, x => if lessB y x = true then y :: insL r x else if sameB y x = true then y :: r else x :: y :: r
/-- The first k are less. -/
def lowL (ss : List ByteArray) (x : ByteArray) (k : Nat) : Prop := ∀ (j : Nat) (s : ByteArray), j < k → ss[j]? = some s → lessB s x = true
theorem lowL_succ {ss : List ByteArray} {x : ByteArray} {k : Nat} (h : lowL ss x k) (hk : k < ss.length) (hl : lessB (ss[k]) x = true) : lowL ss x (k + 1) := fun j s hj hs => by
  rcases Nat.lt_or_ge j k with h' | h'
  · exact h j s h' hs
  · obtain rfl : j = k := by omega
    obtain ⟨_, rfl⟩ := List.getElem?_eq_some_iff.1 hs
    exact hl
theorem insL_new : ∀ (ss : List ByteArray) (x : ByteArray) (k : Nat), lowL ss x k → k ≤ ss.length → (∀ s, ss[k]? = some s → lessB s x = false ∧ sameB s x = false) → insL ss x = ss.take k ++ x :: ss.drop k
  | [], x, 0, _, _, _ => rfl
  | [], x, k + 1, _, h, _ => by simp at h
  | y :: r, x, 0, _, _, h => by
    obtain ⟨h1, h2⟩ := h y rfl
    rw [insL, h1, h2]; rfl
  | y :: r, x, k + 1, hl, hk, h => by
    have h0 := hl 0 y (by omega) rfl
    rw [insL, if_pos h0, insL_new r x k (fun j s hj hs => hl (j + 1) s (by omega) (by simpa using hs)) (by simpa using hk) (fun s hs => h s (by simpa using hs))]
    rfl
theorem insL_old : ∀ (ss : List ByteArray) (x : ByteArray) (k : Nat), lowL ss x k → (∃ s, ss[k]? = some s ∧ lessB s x = false ∧ sameB s x = true) → insL ss x = ss
  | [], x, k, _, ⟨s, hs, _⟩ => by simp at hs
  | y :: r, x, 0, _, ⟨s, hs, h1, h2⟩ => by
    obtain rfl : y = s := by simpa using hs
    rw [insL, h1, h2]; rfl
  | y :: r, x, k + 1, hl, ⟨s, hs, h1, h2⟩ => by
    have h0 := hl 0 y (by omega) rfl
    rw [insL, if_pos h0, insL_old r x k (fun j s hj hs => hl (j + 1) s (by omega) (by simpa using hs)) ⟨s, by simpa using hs, h1, h2⟩]
theorem insL_len (ss : List ByteArray) (x : ByteArray) : (insL ss x).length ≤ ss.length + 1 := by
  induction ss with
  | nil => simp [insL]
  | cons y r ih =>
    rw [insL]
    split
    · simp; omega
    · split <;> simp

/-- What is at hand while names are joined. -/
def Ow (w W : World) (g : Nat) (ss : List ByteArray) (v : Value) (n : Nat) (xs : List Value) : Prop := W.ownsRow w.heap.size 9 1 v n xs ∧ StrsAt W g 0 ss ∧ Below w.heap.size w W
theorem Ow.grow {w W W' : World} {g n n' : Nat} {ss : List ByteArray} {v v' : Value} {xs ys : List Value} (h : Ow w W g ss v n xs) (hg : g < w.heap.size) (hgr : W.grownBy W' v.ownBlock) (ho : W'.ownsRow w.heap.size 9 1 v' n' ys) : Ow w W' g ss v' n' ys :=
  ⟨ho, h.2.1.own h.1 hgr hg, below_own h.2.2 h.1 hgr (Nat.le_refl _)⟩
theorem Ow.alloc {w W : World} {g n : Nat} {ss : List ByteArray} {v : Value} {xs : List Value} (h : Ow w W g ss v n xs) (o : Obj) : Ow w (W.alloc o) g ss v n xs :=
  ⟨h.1.alloc o, h.2.1.alloc o, h.2.2.alloc h.2.2.size o⟩
theorem Ow.drew {w W : World} {g n : Nat} {ss : List ByteArray} {v : Value} {xs : List Value} (h : Ow w W g ss v n xs) : Ow w W.drew g ss v n xs := ⟨h.1, h.2.1, h.2.2.drew⟩
theorem ow_lit {w W : World} {g : Nat} {ss : List ByteArray} (hS : StrsAt W g 0 ss) (hB : Below w.heap.size w W) : Ow w (W.alloc (.cells #[] 9)) g ss (.slice (some ⟨W.heap.size, 0, none⟩) 0 0) 0 [] :=
  ⟨World.ownsRow_lit W #[] 0 hB.size (Nat.zero_le _) rfl, hS.alloc _, hB.alloc hB.size _⟩
theorem strs_drop {W : World} {g o2 k c : Nat} {ss : List ByteArray} (h : StrsAt W g 0 ss) (ho : (if c = k then some (⟨g, 0, none⟩ : Addr) else some ⟨g, k, none⟩) = some ⟨g, o2, none⟩) (hc : ss.length ≤ c) : StrsAt W g o2 (ss.drop k) := by
  by_cases h7 : c = k
  · intro i s hs
    have := (List.getElem?_eq_some_iff.1 hs).1; simp at this; omega
  · rw [if_neg h7] at ho
    obtain rfl : k = o2 := by simpa using ho
    have := h.drop k
    simpa using this
end Go.Proofs.YtlkpgiifdclijaaGreatDoor

/- Recipes: plain facts. -/
namespace Go.Proofs.YtlkpgiifdclijaaGreatDoor
open Go.RowKit
structure Ph where
  nm : ByteArray
  k : Int
  a : ByteArray
  b : ByteArray
  n : Int
  wi : Int
  t : ByteArray
  e : ByteArray
def Ph.cells (p : Ph) : List Value := [.string p.nm, .int .i64 p.k, .string p.a, .string p.b, .int .i64 p.n, .int .i64 p.wi, .string p.t, .string p.e]
def Ph.okB (p : Ph) : Bool := phaseB p.nm p.k p.a p.b p.n p.wi p.t p.e
/-- The recipe lies in block b from cell o on. -/
def RecAt (w : World) (b o : Nat) (ps : List Ph) : Prop := ∀ (i : Nat) (p : Ph), ps[i]? = some p → w.rangeAt b (o + i * 8) p.cells
/-- Its texts have sizes. -/
def Sized (ps : List Ph) : Prop := ∀ p ∈ ps, p.nm.size ≤ maxLen ∧ p.a.size ≤ maxLen ∧ p.b.size ≤ maxLen ∧ p.t.size ≤ maxLen ∧ p.e.size ≤ maxLen
def hasB (ps : List Ph) (nm : ByteArray) : Bool := ps.any fun p => p.nm.toList == nm.toList
def atI (ps : List Ph) (nm : ByteArray) : Int := match ps.findIdx? fun p => p.nm.toList == nm.toList with
  | some i => i
  | none => -1
theorem RecAt.cells {w : World} {b o : Nat} {ps : List Ph} (h : RecAt w b o ps) (i : Nat) (hi : i < ps.length) :
    w.cell? ⟨b, o + i * 8, none⟩ = some (.string (ps[i]).nm) ∧ w.cell? ⟨b, o + i * 8 + 1, none⟩ = some (.int .i64 (ps[i]).k) ∧ w.cell? ⟨b, o + i * 8 + 2, none⟩ = some (.string (ps[i]).a) ∧ w.cell? ⟨b, o + i * 8 + 3, none⟩ = some (.string (ps[i]).b) ∧
    w.cell? ⟨b, o + i * 8 + 4, none⟩ = some (.int .i64 (ps[i]).n) ∧ w.cell? ⟨b, o + i * 8 + 5, none⟩ = some (.int .i64 (ps[i]).wi) ∧ w.cell? ⟨b, o + i * 8 + 6, none⟩ = some (.string (ps[i]).t) ∧ w.cell? ⟨b, o + i * 8 + 7, none⟩ = some (.string (ps[i]).e) := by
  have hr := h i ps[i] (by simp [hi])
  exact ⟨hr 0 _ rfl, hr 1 _ rfl, hr 2 _ rfl, hr 3 _ rfl, hr 4 _ rfl, hr 5 _ rfl, hr 6 _ rfl, hr 7 _ rfl⟩
theorem RecAt.drop {w : World} {b o : Nat} {ps : List Ph} (h : RecAt w b o ps) (i : Nat) : RecAt w b (o + i * 8) (ps.drop i) := fun j p hp => by
  have := h (i + j) p (by simpa [List.getElem?_drop] using hp)
  rwa [show o + i * 8 + j * 8 = o + (i + j) * 8 by omega]
theorem RecAt.up {w w' : World} {b o B : Nat} {ps : List Ph} (h : RecAt w b o ps) (hb : Below B w w') (hB : b < B) : RecAt w' b o ps := fun i p hp j v hv => by
  rw [hb.cell (p := ⟨b, o + i * 8 + j, none⟩) hB]; exact h i p hp j v hv
theorem hasB_take (ps : List Ph) (nm : ByteArray) (k : Nat) (h : k < ps.length) : hasB (ps.take (k + 1)) nm = (hasB (ps.take k) nm || ((ps[k]).nm.toList == nm.toList)) := by
  unfold hasB; rw [List.take_succ_eq_append_getElem h, List.any_append]; simp
theorem hasB_all (ps : List Ph) (nm : ByteArray) (k : Nat) (h : ¬ k < ps.length) (hn : hasB (ps.take k) nm = false) : hasB ps nm = false := by
  rwa [List.take_of_length_le (by omega)] at hn
theorem hasB_yes (ps : List Ph) (nm : ByteArray) (k : Nat) (h : k < ps.length) (he : ((ps[k]).nm.toList == nm.toList) = true) : hasB ps nm = true := by
  unfold hasB; rw [List.any_eq_true]; exact ⟨ps[k], by simp, he⟩
theorem hasB_iff (ps : List Ph) (nm : ByteArray) : hasB ps nm = true ↔ ∃ (j : Nat) (q : Ph), ps[j]? = some q ∧ (q.nm.toList == nm.toList) = true := by
  unfold hasB; rw [List.any_eq_true]
  constructor
  · rintro ⟨q, hq, he⟩
    obtain ⟨j, hj, rfl⟩ := List.getElem_of_mem hq
    exact ⟨j, ps[j], by simp [hj], he⟩
  · rintro ⟨j, q, hq, he⟩
    exact ⟨q, List.mem_of_getElem? hq, he⟩
theorem atI_none (ps : List Ph) (nm : ByteArray) (h : hasB ps nm = false) : atI ps nm = -1 := by
  have : (ps.findIdx? fun p => p.nm.toList == nm.toList) = none := by
    rw [List.findIdx?_eq_none_iff]; simpa [hasB] using h
  simp only [atI, this]
theorem atI_found (ps : List Ph) (nm : ByteArray) (k : Nat) (h : k < ps.length) (hn : hasB (ps.take k) nm = false) (he : ((ps[k]).nm.toList == nm.toList) = true) : atI ps nm = k := by
  have : (ps.findIdx? fun p => p.nm.toList == nm.toList) = some k := by
    rw [List.findIdx?_eq_some_iff_getElem]
    refine ⟨h, he, fun j hj => ?_⟩
    intro hc
    have : hasB (ps.take k) nm = true := by
      rw [hasB_iff]
      exact ⟨j, ps[j], by simp [hj, Nat.lt_trans hj h], hc⟩
    rw [hn] at this; cases this
  simp only [atI, this]
def goesB (later : List Ph) (nm : ByteArray) : Bool := endN nm != 0 || hasB later nm
end Go.Proofs.YtlkpgiifdclijaaGreatDoor

/- When a recipe is ok: both sides' tests are one. -/
namespace Go.Proofs.YtlkpgiifdclijaaGreatDoor
/-- The program's test of the phase at place i. -/
def stepI (ps : List Ph) (i : Nat) (p : Ph) : Bool := p.okB && !hasB (ps.drop (i + 1)) p.nm && goesB (ps.drop (i + 1)) p.t && goesB (ps.drop (i + 1)) p.e
/-- The specification's. -/
def stepS (ps : List Ph) (i : Nat) (p : Ph) : Bool := p.okB && atI ps p.nm == (i : Int) && !(endN p.t == 0 && decide (atI ps p.t ≤ (i : Int))) && !(endN p.e == 0 && decide (atI ps p.e ≤ (i : Int)))
def allI (ps : List Ph) (k : Nat) : Prop := ∀ (i : Nat) (p : Ph), i < k → ps[i]? = some p → stepI ps i p = true
def allS (ps : List Ph) (k : Nat) : Prop := ∀ (i : Nat) (p : Ph), i < k → ps[i]? = some p → stepS ps i p = true
/-- A recipe that is ok. -/
def recB (ps : List Ph) : Bool := decide (1 ≤ ps.length) && decide (ps.length ≤ 12) && (List.range ps.length).all fun i => (ps[i]?.map (stepI ps i)).getD true
theorem recB_iff (ps : List Ph) : recB ps = true ↔ 1 ≤ ps.length ∧ ps.length ≤ 12 ∧ allI ps ps.length := by
  simp only [recB, Bool.and_eq_true, decide_eq_true_eq, List.all_eq_true, List.mem_range, allI, and_assoc]
  refine and_congr_right fun _ => and_congr_right fun _ => ⟨fun h i p hi hp => ?_, fun h i hi => ?_⟩
  · have := h i hi; simpa [hp] using this
  · have hg : ps[i]? = some ps[i] := by simp [hi]
    rw [hg]; simpa using h i ps[i] hi hg
theorem hasB_drop (ps : List Ph) (nm : ByteArray) (i : Nat) : hasB (ps.drop i) nm = true ↔ ∃ (j : Nat) (q : Ph), i ≤ j ∧ ps[j]? = some q ∧ (q.nm.toList == nm.toList) = true := by
  rw [hasB_iff]
  constructor
  · rintro ⟨j, q, hq, he⟩
    exact ⟨i + j, q, by omega, by simpa [List.getElem?_drop] using hq, he⟩
  · rintro ⟨j, q, hj, hq, he⟩
    exact ⟨j - i, q, by rw [List.getElem?_drop, show i + (j - i) = j by omega]; exact hq, he⟩
theorem atI_cases (ps : List Ph) (nm : ByteArray) : (hasB ps nm = false ∧ atI ps nm = -1) ∨ ∃ (j : Nat) (q : Ph), ps[j]? = some q ∧ (q.nm.toList == nm.toList) = true ∧ atI ps nm = (j : Int) ∧ ∀ (l : Nat) (r : Ph), l < j → ps[l]? = some r → (r.nm.toList == nm.toList) = false := by
  cases h : ps.findIdx? fun p => p.nm.toList == nm.toList with
  | none =>
    left
    rw [List.findIdx?_eq_none_iff] at h
    exact ⟨by simpa [hasB] using h, by simp only [atI, List.findIdx?_eq_none_iff.2 h]⟩
  | some j =>
    right
    have h' := h
    rw [List.findIdx?_eq_some_iff_getElem] at h
    obtain ⟨hj, he, hl⟩ := h
    refine ⟨j, ps[j], by simp [hj], he, by simp only [atI, h'], fun l r hlj hr => ?_⟩
    obtain ⟨hl', rfl⟩ := List.getElem?_eq_some_iff.1 hr
    simpa using hl l hlj
theorem beq_trans' {a b c : List UInt8} (h1 : (a == b) = true) (h2 : (c == b) = true) : (a == c) = true := by
  rw [beq_iff_eq] at *; rw [h1, h2]
/-- The two tests over the whole recipe say one thing. -/
theorem allI_iff_allS (ps : List Ph) : allI ps ps.length ↔ allS ps ps.length := by
  have lt_of : ∀ {i : Nat} {p : Ph}, ps[i]? = some p → i < ps.length := fun h => (List.getElem?_eq_some_iff.1 h).1
  -- what follows where names are found once
  have key : ∀ (i : Nat) (nm : ByteArray), (∀ (l j : Nat) (r q : Ph), ps[l]? = some r → ps[j]? = some q → (r.nm.toList == q.nm.toList) = true → l = j) →
      (goesB (ps.drop (i + 1)) nm = true ↔ (!(endN nm == 0 && decide (atI ps nm ≤ (i : Int)))) = true) := by
    intro i nm hu
    unfold goesB
    by_cases h0 : endN nm = 0
    · simp only [h0, bne_self_eq_false, Bool.false_or, beq_self_eq_true, Bool.true_and, Bool.not_eq_true', decide_eq_false_iff_not]
      rw [hasB_drop]
      rcases atI_cases ps nm with ⟨hn, ha⟩ | ⟨j, q, hq, he, ha, _⟩
      · rw [ha]
        constructor
        · rintro ⟨l, r, _, hr, hre⟩
          have : hasB ps nm = true := (hasB_iff _ _).2 ⟨l, r, hr, hre⟩
          rw [hn] at this; cases this
        · intro h; omega
      · rw [ha]
        constructor
        · rintro ⟨l, r, hl, hr, hre⟩
          have := hu l j r q hr hq (beq_trans' hre he)
          omega
        · intro h
          exact ⟨j, q, by omega, hq, he⟩
    · have : (endN nm == 0) = false := by simpa using h0
      simp [this, bne]
  constructor
  · intro h i p hi hp
    have hu : ∀ (l j : Nat) (r q : Ph), ps[l]? = some r → ps[j]? = some q → (r.nm.toList == q.nm.toList) = true → l = j := by
      intro l j r q hr hq he
      rcases Nat.lt_trichotomy l j with hlj | rfl | hlj
      · have hs := h l r (lt_of hr) hr
        simp only [stepI, Bool.and_eq_true, Bool.not_eq_true'] at hs
        have : hasB (ps.drop (l + 1)) r.nm = true := (hasB_drop _ _ _).2 ⟨j, q, hlj, hq, by rw [Bool.beq_comm]; exact he⟩
        rw [hs.1.1.2] at this; cases this
      · rfl
      · have hs := h j q (lt_of hq) hq
        simp only [stepI, Bool.and_eq_true, Bool.not_eq_true'] at hs
        have : hasB (ps.drop (j + 1)) q.nm = true := (hasB_drop _ _ _).2 ⟨l, r, hlj, hr, he⟩
        rw [hs.1.1.2] at this; cases this
    have hs := h i p hi hp
    simp only [stepI, Bool.and_eq_true] at hs
    simp only [stepS, Bool.and_eq_true]
    refine ⟨⟨⟨hs.1.1.1, ?_⟩, (key i p.t hu).1 hs.1.2⟩, (key i p.e hu).1 hs.2⟩
    rcases atI_cases ps p.nm with ⟨hn, _⟩ | ⟨j, q, hq, he, ha, _⟩
    · have : hasB ps p.nm = true := (hasB_iff _ _).2 ⟨i, p, hp, by simp⟩
      rw [hn] at this; cases this
    · rw [ha, hu j i q p hq hp he]; simp
  · intro h i p hi hp
    have hu : ∀ (l j : Nat) (r q : Ph), ps[l]? = some r → ps[j]? = some q → (r.nm.toList == q.nm.toList) = true → l = j := by
      intro l j r q hr hq he
      have h1 := h l r (lt_of hr) hr
      have h2 := h j q (lt_of hq) hq
      simp only [stepS, Bool.and_eq_true, beq_iff_eq] at h1 h2
      have : atI ps r.nm = atI ps q.nm := by
        have e : r.nm.toList = q.nm.toList := by simpa using he
        simp only [atI, e]
      have := h1.1.1.2.symm.trans (this.trans h2.1.1.2)
      omega
    have hs := h i p hi hp
    simp only [stepS, Bool.and_eq_true] at hs
    simp only [stepI, Bool.and_eq_true]
    refine ⟨⟨⟨hs.1.1.1, ?_⟩, (key i p.t hu).2 hs.1.2⟩, (key i p.e hu).2 hs.2⟩
    rw [Bool.not_eq_true', ← Bool.not_eq_true]
    intro hc
    obtain ⟨j, q, hj, hq, he⟩ := (hasB_drop _ _ _).1 hc
    have := hu j i q p hq hp he
    omega
theorem recB_iffS (ps : List Ph) : recB ps = true ↔ 1 ≤ ps.length ∧ ps.length ≤ 12 ∧ allS ps ps.length := by rw [recB_iff, allI_iff_allS]
theorem nand_of {x : Bool} {Q : Prop} [Decidable Q] (h : ¬ (x = true ∧ Q)) : (!(x && decide Q)) = true := by cases x <;> simp_all
theorem recB_noS (ps : List Ph) (k : Nat) (hk : k < ps.length) (h : stepS ps k ps[k] = false) : recB ps = false := by
  rw [← Bool.not_eq_true, recB_iffS]
  rintro ⟨_, _, ha⟩
  have := ha k ps[k] hk (by simp [hk])
  rw [h] at this; cases this
theorem recB_noI (ps : List Ph) (k : Nat) (hk : k < ps.length) (h : stepI ps k ps[k] = false) : recB ps = false := by
  rw [← Bool.not_eq_true, recB_iff]
  rintro ⟨_, _, ha⟩
  have := ha k ps[k] hk (by simp [hk])
  rw [h] at this; cases this
theorem recB_len (ps : List Ph) (h : ¬ (1 ≤ ps.length ∧ ps.length ≤ 12)) : recB ps = false := by
  rw [← Bool.not_eq_true, recB_iff]
  rintro ⟨h1, h2, _⟩; exact h ⟨h1, h2⟩
theorem allS_succ {ps : List Ph} {k : Nat} (h : allS ps k) (hk : k < ps.length) (hs : stepS ps k ps[k] = true) : allS ps (k + 1) := fun i p hi hp => by
  rcases Nat.lt_or_ge i k with h' | h'
  · exact h i p h' hp
  · obtain rfl : i = k := by omega
    obtain ⟨_, rfl⟩ := List.getElem?_eq_some_iff.1 hp
    exact hs
theorem allI_succ {ps : List Ph} {k : Nat} (h : allI ps k) (hk : k < ps.length) (hs : stepI ps k ps[k] = true) : allI ps (k + 1) := fun i p hi hp => by
  rcases Nat.lt_or_ge i k with h' | h'
  · exact h i p h' hp
  · obtain rfl : i = k := by omega
    obtain ⟨_, rfl⟩ := List.getElem?_eq_some_iff.1 hp
    exact hs
theorem allS_zero (ps : List Ph) : allS ps 0 := fun _ _ h => by omega
theorem allI_zero (ps : List Ph) : allI ps 0 := fun _ _ h => by omega
theorem recB_yesS (ps : List Ph) (k : Nat) (h1 : 1 ≤ ps.length ∧ ps.length ≤ 12) (hk : k ≤ ps.length) (hk' : ¬ k < ps.length) (ha : allS ps k) : recB ps = true := by
  obtain rfl : k = ps.length := by omega
  exact (recB_iffS ps).2 ⟨h1.1, h1.2, ha⟩
theorem recB_yesI (ps : List Ph) (k : Nat) (h1 : 1 ≤ ps.length ∧ ps.length ≤ 12) (hk : k ≤ ps.length) (hk' : ¬ k < ps.length) (ha : allI ps k) : recB ps = true := by
  obtain rfl : k = ps.length := by omega
  exact (recB_iff ps).2 ⟨h1.1, h1.2, ha⟩
end Go.Proofs.YtlkpgiifdclijaaGreatDoor

/- Slots in plain: lists joined. -/
namespace Go.Proofs.YtlkpgiifdclijaaGreatDoor

def bothL (a : List ByteArray) (b : List ByteArray) : List ByteArray := b.foldl insL a
theorem bothL_take (a b : List ByteArray) (k : Nat) (hk : k < b.length) : bothL a (b.take (k + 1)) = insL (bothL a (b.take k)) b[k] := by
  unfold bothL; rw [List.take_succ_eq_append_getElem hk, List.foldl_append]; rfl
theorem bothL_len (a : List ByteArray) : ∀ b : List ByteArray, (bothL a b).length ≤ a.length + b.length
  | [] => by simp [bothL]
  | x :: r => by
    have h1 := bothL_len (insL a x) r
    have h2 := insL_len a x
    simp only [bothL, List.foldl_cons, List.length_cons] at *
    omega
/-- The slots of a phase alone. -/
def ofL (p : Ph) : List ByteArray := if p.k = 2 then insL [p.a] p.b else [p.a]
end Go.Proofs.YtlkpgiifdclijaaGreatDoor

/- Names in order: plain facts. -/
namespace Go.Proofs.YtlkpgiifdclijaaGreatDoor

theorem less_eq : ∀ (x y : List UInt8), Op.bytesLess x y = decide (x < y)
  | [], [] => by simp [Op.bytesLess]
  | _ :: _, [] => by simp [Op.bytesLess]
  | [], _ :: _ => by simp [Op.bytesLess]
  | a :: x, b :: y => by
    rw [Op.bytesLess, less_eq x y]
    simp only [List.cons_lt_cons_iff]
    by_cases h1 : a < b <;> by_cases h2 : a = b <;> by_cases h3 : x < y <;> simp [h1, h2, h3]
abbrev Key := List UInt8
theorem key_irrefl (x : Key) : ¬ x < x := List.lt_irrefl x
theorem key_trans {x y z : Key} (h : x < y) (k : y < z) : x < z := List.lt_trans h k
theorem key_tri (x y : Key) : x < y ∨ x = y ∨ y < x := by
  rcases Decidable.em (x < y) with h | h
  · exact .inl h
  · rcases Decidable.em (y < x) with k | k
    · exact .inr (.inr k)
    · exact .inr (.inl (List.le_antisymm (List.not_lt.1 k) (List.not_lt.1 h)))
theorem key_le {x y : Key} : x ≤ y ↔ x < y ∨ x = y := by
  constructor
  · intro h
    rcases key_tri x y with k | k | k
    · exact .inl k
    · exact .inr k
    · exact absurd k (List.not_lt.2 h)
  · rintro (h | rfl)
    · exact List.not_lt.1 fun k => key_irrefl _ (key_trans h k)
    · exact List.le_refl _
/-- Two ascending lists of the same names are one. -/
theorem asc_unique : ∀ (a b : List Key), a.Pairwise (· < ·) → b.Pairwise (· < ·) → (∀ x, x ∈ a ↔ x ∈ b) → a = b
  | [], [], _, _, _ => rfl
  | [], y :: s, _, _, h => by have := (h y).2 (by simp); simp at this
  | x :: r, [], _, _, h => by have := (h x).1 (by simp); simp at this
  | x :: r, y :: s, ha, hb, h => by
    obtain ⟨ha1, ha2⟩ := List.pairwise_cons.1 ha
    obtain ⟨hb1, hb2⟩ := List.pairwise_cons.1 hb
    have e : x = y := by
      rcases List.mem_cons.1 ((h x).1 (by simp)) with e | e
      · exact e
      · rcases List.mem_cons.1 ((h y).2 (by simp)) with e' | e'
        · exact e'.symm
        · exact absurd (key_trans (hb1 x e) (ha1 y e')) (key_irrefl _)
    subst e
    rw [asc_unique r s ha2 hb2 fun z => ?_]
    constructor
    · intro hz
      rcases List.mem_cons.1 ((h z).1 (by simp [hz])) with e | e
      · subst e; exact absurd (ha1 z hz) (key_irrefl _)
      · exact e
    · intro hz
      rcases List.mem_cons.1 ((h z).2 (by simp [hz])) with e | e
      · subst e; exact absurd (hb1 z hz) (key_irrefl _)
      · exact e
/-- The names' bytes. -/
def keys (ss : List ByteArray) : List Key := ss.map (·.toList)
theorem key_inj {a b : ByteArray} (h : a.toList = b.toList) : a = b := by
  rw [Go.ByteArray.toList_eq, Go.ByteArray.toList_eq] at h
  cases a; cases b; simp at h; rw [h]
theorem ins_keys (ss : List ByteArray) (x : ByteArray) : (∀ z, z ∈ keys (insL ss x) ↔ z ∈ keys ss ∨ z = x.toList) ∧ ((keys ss).Pairwise (· < ·) → (keys (insL ss x)).Pairwise (· < ·)) := by
  induction ss with
  | nil => simp [insL, keys]
  | cons y r ih =>
    obtain ⟨im, ip⟩ := ih
    rw [insL]
    by_cases h1 : lessB y x = true
    · rw [if_pos h1]
      have h1' : y.toList < x.toList := by rw [lessB, less_eq] at h1; simpa using h1
      refine ⟨fun z => ?_, fun hp => ?_⟩
      · have := im z
        simp only [keys, List.map_cons, List.mem_cons] at this ⊢
        rw [this]; constructor
        · rintro (h | h | h)
          · exact .inl (.inl h)
          · exact .inl (.inr h)
          · exact .inr h
        · rintro ((h | h) | h)
          · exact .inl h
          · exact .inr (.inl h)
          · exact .inr (.inr h)
      · simp only [keys, List.map_cons] at hp ⊢
        obtain ⟨p1, p2⟩ := List.pairwise_cons.1 hp
        refine List.pairwise_cons.2 ⟨fun z hz => ?_, ip p2⟩
        rcases (im z).1 hz with h | h
        · exact p1 z h
        · subst h; exact h1'
    · rw [if_neg h1]
      have h1' : ¬ y.toList < x.toList := by rw [lessB, less_eq] at h1; simpa using h1
      by_cases h2 : sameB y x = true
      · rw [if_pos h2]
        have e : y.toList = x.toList := by simpa [sameB] using h2
        refine ⟨fun z => ?_, fun hp => hp⟩
        simp only [keys, List.map_cons, List.mem_cons]
        rw [e]; constructor
        · exact .inl
        · rintro (h | h)
          · exact h
          · exact .inl h
      · rw [if_neg h2]
        have e : y.toList ≠ x.toList := by simpa [sameB] using h2
        have lt : x.toList < y.toList := by
          rcases key_tri y.toList x.toList with k | k | k
          · exact absurd k h1'
          · exact absurd k e
          · exact k
        refine ⟨fun z => ?_, fun hp => ?_⟩
        · simp only [keys, List.map_cons, List.mem_cons]
          constructor
          · rintro (h | h | h)
            · exact .inr h
            · exact .inl (.inl h)
            · exact .inl (.inr h)
          · rintro ((h | h) | h)
            · exact .inr (.inl h)
            · exact .inr (.inr h)
            · exact .inl h
        · simp only [keys, List.map_cons] at hp ⊢
          refine List.pairwise_cons.2 ⟨fun z hz => ?_, hp⟩
          rcases List.mem_cons.1 hz with h | h
          · subst h; exact lt
          · exact key_trans lt ((List.pairwise_cons.1 hp).1 z h)
theorem both_keys (b : List ByteArray) : ∀ a : List ByteArray, (∀ z, z ∈ keys (bothL a b) ↔ z ∈ keys a ∨ z ∈ keys b) ∧ ((keys a).Pairwise (· < ·) → (keys (bothL a b)).Pairwise (· < ·)) := by
  induction b with
  | nil => intro a; exact ⟨fun z => by simp [bothL, keys], fun h => h⟩
  | cons x r ih =>
    intro a
    obtain ⟨im, ip⟩ := ih (insL a x)
    obtain ⟨jm, jp⟩ := ins_keys a x
    refine ⟨fun z => ?_, fun h => ip (jp h)⟩
    have h1 := im z
    have h2 := jm z
    show z ∈ keys (bothL (insL a x) r) ↔ _
    rw [h1, h2]
    simp only [keys, List.map_cons, List.mem_cons]
    constructor
    · rintro ((h | h) | h)
      · exact .inl h
      · exact .inr (.inl h)
      · exact .inr (.inr h)
    · rintro (h | h | h)
      · exact .inl (.inl h)
      · exact .inl (.inr h)
      · exact .inr h
/-- What is left of a list in order where neighbours are one: ascending, the same names. -/
theorem compact_keys (zs : List Key) (hs : zs.Pairwise (· ≤ ·)) : ∀ m, m ≤ zs.length → (Lib.compactUpTo zs.toArray m).Pairwise (· < ·) ∧ (∀ x, x ∈ Lib.compactUpTo zs.toArray m ↔ ∃ j, j < m ∧ zs[j]? = some x) ∧ (∀ x ∈ Lib.compactUpTo zs.toArray m, ∀ y, zs[m - 1]? = some y → x ≤ y) := by
  intro m
  induction m with
  | zero => intro _; simp [Lib.compactUpTo]
  | succ m ih =>
    intro hm
    obtain ⟨h1, h2, h3⟩ := ih (by omega)
    have hml : m < zs.length := by omega
    have hd : (zs.toArray)[m]! = zs[m] := by simp [hml]
    rw [Lib.compactUpTo_succ, hd]
    by_cases hk : Lib.keeps zs.toArray m = true
    · rw [if_pos hk]
      have hlt : ∀ x ∈ Lib.compactUpTo zs.toArray m, x < zs[m] := by
        intro x hx
        rcases Nat.eq_zero_or_pos m with h0 | h0
        · subst h0; simp [Lib.compactUpTo] at hx
        · have hm1 : m - 1 < zs.length := by omega
          have hle := h3 x hx zs[m - 1] (by simp [hm1])
          have hne : zs[m] ≠ zs[m - 1] := by
            simp only [Lib.keeps, decide_eq_true_eq] at hk
            rcases hk with hk | hk
            · omega
            · simpa [hml, hm1] using hk
          have hle2 : zs[m - 1] ≤ zs[m] := List.pairwise_iff_getElem.1 hs (m - 1) m hm1 hml (by omega)
          have hlt2 : zs[m - 1] < zs[m] := by
            rcases key_le.1 hle2 with k | k
            · exact k
            · exact absurd k.symm hne
          rcases key_le.1 hle with k | k
          · exact key_trans k hlt2
          · rw [k]; exact hlt2
      refine ⟨List.pairwise_append.2 ⟨h1, by simp, fun x hx y hy => by simp at hy; subst hy; exact hlt x hx⟩, fun x => ?_, fun x hx y hy => ?_⟩
      · rw [List.mem_append, h2, List.mem_singleton]
        constructor
        · rintro (⟨j, hj, e⟩ | rfl)
          · exact ⟨j, by omega, e⟩
          · exact ⟨m, by omega, by simp [hml]⟩
        · rintro ⟨j, hj, e⟩
          rcases Nat.lt_or_ge j m with h | h
          · exact .inl ⟨j, h, e⟩
          · obtain rfl : j = m := by omega
            right; rw [List.getElem?_eq_getElem hml] at e; exact (Option.some.inj e).symm
      · simp only [Nat.add_sub_cancel] at hy
        rw [List.getElem?_eq_getElem hml] at hy
        obtain rfl := Option.some.inj hy
        rcases List.mem_append.1 hx with h | h
        · exact key_le.2 (.inl (hlt x h))
        · simp at h; subst h; exact List.le_refl _
    · rw [if_neg hk, List.append_nil]
      have h0 : 0 < m := by
        rcases Nat.eq_zero_or_pos m with h | h
        · subst h; simp [Lib.keeps] at hk
        · exact h
      have hm1 : m - 1 < zs.length := by omega
      have he : zs[m] = zs[m - 1] := by
        simp only [Lib.keeps, decide_eq_true_eq, not_or, Decidable.not_not] at hk
        have := hk.2
        simpa [hml, hm1] using this
      refine ⟨h1, fun x => ?_, fun x hx y hy => ?_⟩
      · rw [h2]
        constructor
        · rintro ⟨j, hj, e⟩; exact ⟨j, by omega, e⟩
        · rintro ⟨j, hj, e⟩
          rcases Nat.lt_or_ge j m with h | h
          · exact ⟨j, h, e⟩
          · obtain rfl : j = m := by omega
            exact ⟨j - 1, by omega, by rw [List.getElem?_eq_getElem hml] at e; rw [List.getElem?_eq_getElem hm1, ← he]; exact e⟩
      · simp only [Nat.add_sub_cancel] at hy
        rw [List.getElem?_eq_getElem hml, he] at hy
        exact h3 x hx y (by rw [List.getElem?_eq_getElem hm1]; exact hy)
/-- What the program makes of three lists. -/
def uniq (l : List Key) : List Key := Lib.compact (l.mergeSort fun x y => decide (x ≤ y))
theorem uniq_keys (l : List Key) : (uniq l).Pairwise (· < ·) ∧ ∀ x, x ∈ uniq l ↔ x ∈ l := by
  have hs : (l.mergeSort fun x y => decide (x ≤ y)).Pairwise (· ≤ ·) := by
    have := List.pairwise_mergeSort (le := fun (x y : Key) => decide (x ≤ y)) (fun a b c h k => by
      simp only [decide_eq_true_eq] at *; exact List.le_trans h k) (fun a b => by
      simp only [Bool.or_eq_true, decide_eq_true_eq]; exact List.le_total a b) l
    simpa using this
  obtain ⟨h1, h2, _⟩ := compact_keys _ hs _ (Nat.le_refl _)
  refine ⟨h1, fun x => ?_⟩
  have := h2 x
  unfold uniq Lib.compact
  rw [this]
  have hm : x ∈ (l.mergeSort fun x y => decide (x ≤ y)) ↔ x ∈ l := List.mem_mergeSort
  rw [← hm, List.mem_iff_getElem?]
  constructor
  · rintro ⟨j, _, e⟩; exact ⟨j, e⟩
  · rintro ⟨j, e⟩; exact ⟨j, (List.getElem?_eq_some_iff.1 e).1, e⟩
end Go.Proofs.YtlkpgiifdclijaaGreatDoor
