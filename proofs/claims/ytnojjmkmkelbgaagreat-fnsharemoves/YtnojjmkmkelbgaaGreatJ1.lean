/- Plain facts on names, ends and phases: no program in it. -/
import Derived.Laws.RangeAny
import Derived.Below
import Derived.Test.YtnojjmkmkelbgaaGreatChecked
import Derived.WalkKit
import Derived.WalkSpells
import Derived.WalkLawsBesides
import Derived.Handy
import Derived.Outline
import Derived.Deep.Light
import Derived.Laws.Bits64
import Derived.BigQuiet
import Derived.Deep.QuietTactic
import Derived.Deep.DeepCutAuto
import Derived.Deep.RegionLaw
import Derived.Deep.RegionHeld
import Derived.Deep.RegionWith
import Derived.Laws.Strings
namespace Go.Proofs.YtnojjmkmkelbgaaGreat
/-- What a byte of a name is. -/
def nbB (n : Nat) : Bool := (decide (97 ≤ n) && decide (n ≤ 122)) || (decide (48 ≤ n) && decide (n ≤ 57)) || n == 45
def allB (l : List UInt8) : Bool := l.all fun b => nbB b.toNat
def nameB (s : ByteArray) : Bool := decide (1 ≤ s.size) && decide (s.size ≤ 8) && allB s.data.toList
theorem nbB_iff (n : Nat) : nbB n = true ↔ (97 ≤ n ∧ n ≤ 122) ∨ (48 ≤ n ∧ n ≤ 57) ∨ n = 45 := by
  simp [nbB, or_assoc]
theorem nbB_high (n : Nat) (h : 128 ≤ n) : nbB n = false := by
  rw [← Bool.not_eq_true, nbB_iff]; omega
theorem take_snoc (s : ByteArray) (k : Nat) (h : k < s.size) : s.data.toList.take (k + 1) = s.data.toList.take k ++ [s[k]] := by
  rw [List.take_succ_eq_append_getElem (by simpa using h)]; rfl
theorem allB_snoc (l : List UInt8) (b : UInt8) : allB (l ++ [b]) = (allB l && nbB b.toNat) := by simp [allB]
theorem allB_take (s : ByteArray) (k : Nat) (h : k < s.size) : allB (s.data.toList.take (k + 1)) = (allB (s.data.toList.take k) && nbB (s[k]).toNat) := by
  rw [take_snoc s k h, allB_snoc]
theorem allB_no (s : ByteArray) (k : Nat) (h : k < s.size) (hb : nbB (s[k]).toNat = false) : allB s.data.toList = false := by
  rw [← Bool.not_eq_true]; intro ha
  simp only [allB, List.all_eq_true] at ha
  have := ha (s[k]) (by show s.data[k] ∈ s.data.toList; simp)
  rw [hb] at this; cases this
theorem allB_yes (s : ByteArray) (k : Nat) (h : ¬ k < s.size) (ha : allB (s.data.toList.take k) = true) : allB s.data.toList = true := by
  rw [List.take_of_length_le (by simp; omega)] at ha; exact ha
def inB (n lo hi : Int) : Bool := decide (lo ≤ n) && decide (n ≤ hi)
theorem inB_iff (n lo hi : Int) : inB n lo hi = true ↔ lo ≤ n ∧ n ≤ hi := by simp [inB]
theorem inB_no (n lo hi : Int) : inB n lo hi = false ↔ ¬ (lo ≤ n ∧ n ≤ hi) := by rw [← inB_iff]; simp
def endN (s : ByteArray) : Int :=
  if s.toList == [103, 111, 111, 100] then 1 else if s.toList == [115, 97, 118, 101, 100] then 2 else if s.toList == [115, 99, 114, 97, 112, 112, 101, 100] then 3 else 0
/-- What a phase has by its kind. -/
def argsB (k : Int) (a b : ByteArray) (n wi : Int) : Bool :=
  if k = 1 then nameB a && nameB b && inB n 1 1000
  else if k = 2 then nameB a && nameB b && !(a.toList == b.toList) && inB n 1 1000
  else if k = 3 then nameB a && b.toList.isEmpty && inB n 1 wi
  else if k = 4 ∨ k = 5 then nameB a && b.toList.isEmpty && n == 0
  else false
def phaseB (nm : ByteArray) (k : Int) (a b : ByteArray) (n wi : Int) (t e : ByteArray) : Bool :=
  nameB nm && endN nm == 0 && inB wi 1 1000 && argsB k a b n wi && nameB t && nameB e
end Go.Proofs.YtnojjmkmkelbgaaGreat

/- What every walk leans on: what is handed back; worlds that grow. -/
namespace Go.Proofs.YtnojjmkmkelbgaaGreat
open Go.RowKit

theorem ret_bool {a b : Bool} (h : a = b) : Ending.returned (.bool a) = .returned (.bool b) := by rw [h]
theorem ret_int {k : IntKind} {a b : Int} (h : a = b) : Ending.returned (.int k a) = .returned (.int k b) := by rw [h]

theorem width_pos (s : ByteArray) (pos : Nat) (h : pos < s.size) : 1 ≤ (Utf8.decode s pos).2 := by
  by_cases ha : (s[pos]'h).toNat < 128
  · rw [decode_ascii s pos h ha]
    exact Nat.le_refl _
  · exact (decode_high s pos h (by omega)).2

theorem up_iter (w : World) (s : ByteArray) (p : Nat) : Below w.heap.size w (w.iter s p) := (Below.refl _ _).alloc (Nat.le_refl _) _
theorem bcell {W w1 : World} (hb : Below W.heap.size W w1) : (∀ b o, b < W.heap.size → w1.cell? ⟨b, o, none⟩ = W.cell? ⟨b, o, none⟩) ∧ (∀ b o, b < W.heap.size → w1.frozen? ⟨b, o, none⟩ = W.frozen? ⟨b, o, none⟩) :=
  ⟨fun b o h => hb.cell (p := ⟨b, o, none⟩) h, fun b o h => hb.frozen (p := ⟨b, o, none⟩) h⟩
theorem up_trans {a b c : World} (h : Below a.heap.size a b) (k : Below b.heap.size b c) : Below a.heap.size a c := h.trans (k.mono h.size)
end Go.Proofs.YtnojjmkmkelbgaaGreat

/- Worlds that grow, rows of one's own, lists of texts, structs in blocks: what all walks share. -/
namespace Go.Proofs.YtnojjmkmkelbgaaGreat
open Go.RowKit

theorem grown_trans {a b c : World} {r : Option Nat} (h : a.grownBy b r) (k : b.grownBy c r) : a.grownBy c r :=
  ⟨k.os.trans h.os, k.tape.trans h.tape, k.output.trans h.output, Nat.le_trans h.size k.size, fun i hi hr => (k.block i (Nat.lt_of_lt_of_le hi h.size) hr).trans (h.block i hi hr)⟩
theorem grown_refl (a : World) (r : Option Nat) : a.grownBy a r := ⟨rfl, rfl, rfl, Nat.le_refl _, fun _ _ _ => rfl⟩
theorem grown_drew {a b : World} {r : Option Nat} (h : a.grownBy b r) : a.grownBy b.drew r := ⟨h.os, h.tape, h.output, h.size, h.block⟩
theorem grown_below {a b : World} {r : Option Nat} (h : Below a.heap.size a b) : a.grownBy b r := ⟨h.os, h.tape, h.output, h.size, fun i hi _ => h.block i hi⟩
theorem grown_alloc {a b : World} {r : Option Nat} (h : a.grownBy b r) (o : Obj) : a.grownBy (b.alloc o) r := grown_trans h (grown_below ((Below.refl _ _).alloc (Nat.le_refl _) _))
theorem grown_setCell {a b : World} {rb off : Nat} (h : a.grownBy b (some rb)) (u : Value) : a.grownBy (b.setCell ⟨rb, off, none⟩ u) (some rb) :=
  grown_trans h ⟨rfl, rfl, rfl, by simp, fun i _ hr => Below.heap_setCell _ _ _ _ (fun e => hr (by rw [e]))⟩
theorem grown_drewN {a b : World} {r : Option Nat} (h : a.grownBy b r) (n : Nat) : a.grownBy (b.drewN n) r := ⟨h.os, h.tape, h.output, h.size, h.block⟩
/-- A list of texts in block g from cell o on. -/
def StrsAt (w : World) (g o : Nat) (ss : List ByteArray) : Prop := ∀ (i : Nat) (s : ByteArray), ss[i]? = some s → w.cell? ⟨g, o + i, none⟩ = some (.string s)
theorem StrsAt.kept {w w' : World} {g o rb : Nat} {ss : List ByteArray} (h : StrsAt w g o ss) (hg : w.grownBy w' (some rb)) (hne : g ≠ rb) : StrsAt w' g o ss :=
  fun i s hs => hg.cell (h i s hs) (by simpa using hne)
theorem below_copies (b : Nat) : ∀ (vs : List Value) (o : Nat) (W w' : World) (B : Nat), Below B W w' → B ≤ b → Below B W (w'.setCells b o vs)
  | [], _, _, _, _, h, _ => h
  | v :: r, o, W, w', B, h, hB => by
    rw [World.setCells]
    exact below_copies b r (o + 1) W _ B (h.setCell (p := ⟨b, o, none⟩) hB v) hB
theorem World.size_setCells' {b : Nat} : ∀ {vs : List Value} {o : Nat} {w : World}, (w.setCells b o vs).heap.size = w.heap.size
  | [], _, _ => rfl
  | v :: r, o, w => by rw [World.setCells, World.size_setCells']; simp
theorem World.grownBy.refl' (w : World) {r : Option Nat} : w.grownBy w r := ⟨rfl, rfl, rfl, Nat.le_refl _, fun _ _ _ => rfl⟩
theorem grown_copies (b : Nat) : ∀ (vs : List Value) (o : Nat) (W w' : World) (r : Option Nat), W.grownBy w' r → r = some b → W.grownBy (w'.setCells b o vs) r
  | [], _, _, _, _, h, _ => h
  | v :: s, o, W, w', r, h, hr => by
    rw [World.setCells]
    refine grown_copies b s (o + 1) W _ r ⟨h.os, h.tape, h.output, Nat.le_trans h.size (by simp), fun i hi hne => ?_⟩ hr
    rw [Below.heap_setCell _ _ _ _ (fun e => hne (by rw [hr, e]))]
    exact h.block i hi hne
/-- The cells of one struct, in a block of its own, which may be written. -/
def CB (w : World) (b : Nat) (cs : List Value) : Prop := w.rangeAt b 0 cs ∧ w.there b 0 cs.length ∧ b < w.heap.size
theorem CB.kept {w w' : World} {b : Nat} {cs : List Value} {r : Option Nat} (h : CB w b cs) (hg : w.grownBy w' r) (hne : some b ≠ r) : CB w' b cs := by
  have hb := hg.block b h.2.2 hne
  refine ⟨fun j v hv => ?_, fun j hj => ?_, Nat.lt_of_lt_of_le h.2.2 hg.size⟩
  · rw [World.cell?_of_block (w := w) (a := ⟨b, 0 + j, none⟩) hb]; exact h.1 j v hv
  · rw [World.cell?_of_block (w := w) (a := ⟨b, 0 + j, none⟩) hb, World.frozen?_of_block (w := w) (a := ⟨b, 0 + j, none⟩) hb]; exact h.2.1 j hj
theorem CB.up {w w' : World} {b B : Nat} {cs : List Value} (h : CB w b cs) (hb : Below B w w') (hB : b < B) : CB w' b cs := by
  have hk := hb.block b hB
  refine ⟨fun j v hv => ?_, fun j hj => ?_, Nat.lt_of_lt_of_le h.2.2 hb.size⟩
  · rw [World.cell?_of_block (w := w) (a := ⟨b, 0 + j, none⟩) hk]; exact h.1 j v hv
  · rw [World.cell?_of_block (w := w) (a := ⟨b, 0 + j, none⟩) hk, World.frozen?_of_block (w := w) (a := ⟨b, 0 + j, none⟩) hk]; exact h.2.1 j hj
theorem cb_alloc (w : World) (cs : List Value) (t : TypeId) : CB (w.alloc (.cells cs.toArray t)) w.heap.size cs := by
  have hr : (w.alloc (.cells cs.toArray t)).rangeAt w.heap.size 0 cs := by
    intro j v hv
    rw [Nat.zero_add, World.cell?_alloc_at]
    · simpa using hv
    · rfl
  refine ⟨hr, fun j hj => ⟨hr.isSome j hj, ?_⟩, by simp⟩
  simp [go_sem]
theorem cb_range_set {w : World} {b : Nat} {cs : List Value} {j : Nat} {u : Value} (h : w.rangeAt b 0 cs) (hj : j < cs.length) : (w.setCell ⟨b, j, none⟩ u).rangeAt b 0 (cs.set j u) := by
  intro i x hx
  rw [List.getElem?_set] at hx
  by_cases e : j = i
  · subst e
    rw [if_pos rfl, if_pos hj] at hx
    obtain rfl := Option.some.inj hx
    have hc := h j cs[j] (by simp)
    rw [Nat.zero_add] at hc ⊢
    exact World.cell?_setCell_same _ _ _ hc
  · rw [if_neg e] at hx
    rw [World.cell?_setCell_other _ _ _ _ (by simp <;> omega)]
    exact h i x hx
theorem CB.set {w : World} {b j : Nat} {cs : List Value} {u : Value} (h : CB w b cs) (hj : j < cs.length) : CB (w.setCell ⟨b, j, none⟩ u) b (cs.set j u) := by
  refine ⟨cb_range_set h.1 hj, fun i hi => ?_, by simpa using h.2.2⟩
  have := World.there_setCells h.2.1 b j [u] i (by simpa using hi)
  simpa [World.setCells] using this
theorem CB.other {w : World} {b q j : Nat} {cs : List Value} {u : Value} (h : CB w b cs) (hne : b ≠ q) : CB (w.setCell ⟨q, j, none⟩ u) b cs :=
  h.kept (r := some q) ⟨rfl, rfl, rfl, by simp, fun i _ hr => Below.heap_setCell _ _ _ _ (fun e => hr (by rw [e]))⟩ (by simpa using hne)
theorem CB.c2 {w : World} {b : Nat} {x0 x1 : Value} (h : CB w b [x0, x1]) : (w.cell? ⟨b, 0, none⟩ = some x0 ∧ w.cell? ⟨b, 1, none⟩ = some x1) ∧ w.frozen? ⟨b, 0, none⟩ = false ∧ w.frozen? ⟨b, 1, none⟩ = false :=
  ⟨⟨h.1 0 _ rfl, h.1 1 _ rfl⟩, (h.2.1 0 (by simp)).2, (h.2.1 1 (by simp)).2⟩
theorem CB.c3 {w : World} {b : Nat} {x0 x1 x2 : Value} (h : CB w b [x0, x1, x2]) : (w.cell? ⟨b, 0, none⟩ = some x0 ∧ w.cell? ⟨b, 1, none⟩ = some x1 ∧ w.cell? ⟨b, 2, none⟩ = some x2) ∧ w.frozen? ⟨b, 0, none⟩ = false ∧ w.frozen? ⟨b, 1, none⟩ = false ∧ w.frozen? ⟨b, 2, none⟩ = false :=
  ⟨⟨h.1 0 _ rfl, h.1 1 _ rfl, h.1 2 _ rfl⟩, (h.2.1 0 (by simp)).2, (h.2.1 1 (by simp)).2, (h.2.1 2 (by simp)).2⟩
theorem CB.c8 {w : World} {b : Nat} {x0 x1 x2 x3 x4 x5 x6 x7 : Value} (h : CB w b [x0, x1, x2, x3, x4, x5, x6, x7]) :
    (w.cell? ⟨b, 0, none⟩ = some x0 ∧ w.cell? ⟨b, 1, none⟩ = some x1 ∧ w.cell? ⟨b, 2, none⟩ = some x2 ∧ w.cell? ⟨b, 3, none⟩ = some x3 ∧ w.cell? ⟨b, 4, none⟩ = some x4 ∧ w.cell? ⟨b, 5, none⟩ = some x5 ∧ w.cell? ⟨b, 6, none⟩ = some x6 ∧ w.cell? ⟨b, 7, none⟩ = some x7) ∧
    w.frozen? ⟨b, 0, none⟩ = false ∧ w.frozen? ⟨b, 1, none⟩ = false ∧ w.frozen? ⟨b, 2, none⟩ = false ∧ w.frozen? ⟨b, 3, none⟩ = false ∧ w.frozen? ⟨b, 4, none⟩ = false ∧ w.frozen? ⟨b, 5, none⟩ = false ∧ w.frozen? ⟨b, 6, none⟩ = false ∧ w.frozen? ⟨b, 7, none⟩ = false :=
  ⟨⟨h.1 0 _ rfl, h.1 1 _ rfl, h.1 2 _ rfl, h.1 3 _ rfl, h.1 4 _ rfl, h.1 5 _ rfl, h.1 6 _ rfl, h.1 7 _ rfl⟩, (h.2.1 0 (by simp)).2, (h.2.1 1 (by simp)).2, (h.2.1 2 (by simp)).2, (h.2.1 3 (by simp)).2, (h.2.1 4 (by simp)).2, (h.2.1 5 (by simp)).2, (h.2.1 6 (by simp)).2, (h.2.1 7 (by simp)).2⟩
/-- A struct stored whole. -/
theorem CB.copy {w : World} {b : Nat} {ys : List Value} (h : CB w b ys) (xs : List Value) (hl : xs.length = ys.length) : CB (w.setCells b 0 xs) b xs :=
  ⟨World.rangeAt_setCells_same _ _ _ _ (by rw [hl]; exact h.2.1), World.there_setCells (by rw [hl]; exact h.2.1) _ _ _, by rw [World.size_setCells']; exact h.2.2⟩
theorem below_copy {B : Nat} {a w : World} {b : Nat} (h : Below B a w) (hb : B ≤ b) (xs : List Value) : Below B a (w.setCells b 0 xs) := below_copies b xs 0 a w B h hb
theorem CB.otherCopy {w : World} {b q : Nat} {ys : List Value} (h : CB w b ys) (hne : b ≠ q) (xs : List Value) : CB (w.setCells q 0 xs) b ys :=
  h.kept (r := some q) (grown_copies q xs 0 w w (some q) (World.grownBy.refl' w) rfl) (by simpa using hne)
/-- The struct that lies there may be stored into. -/
theorem CB.room {w : World} {b : Nat} {ys : List Value} (h : CB w b ys) {n : Nat} (hn : n = ys.length) : w.there b 0 n := by subst hn; exact h.2.1
theorem CB.copy2 {w : World} {b : Nat} {y0 y1 : Value} (h : CB w b [y0, y1]) (x0 x1 : Value) : CB ((w.setCell ⟨b, 0, none⟩ x0).setCell ⟨b, 1, none⟩ x1) b [x0, x1] := h.copy [x0, x1] rfl
theorem CB.copy3 {w : World} {b : Nat} {y0 y1 y2 : Value} (h : CB w b [y0, y1, y2]) (x0 x1 x2 : Value) : CB (((w.setCell ⟨b, 0, none⟩ x0).setCell ⟨b, 1, none⟩ x1).setCell ⟨b, 2, none⟩ x2) b [x0, x1, x2] := h.copy [x0, x1, x2] rfl
theorem CB.copy8 {w : World} {b : Nat} {y0 y1 y2 y3 y4 y5 y6 y7 : Value} (h : CB w b [y0, y1, y2, y3, y4, y5, y6, y7]) (x0 x1 x2 x3 x4 x5 x6 x7 : Value) :
    CB ((((((((w.setCell ⟨b, 0, none⟩ x0).setCell ⟨b, 1, none⟩ x1).setCell ⟨b, 2, none⟩ x2).setCell ⟨b, 3, none⟩ x3).setCell ⟨b, 4, none⟩ x4).setCell ⟨b, 5, none⟩ x5).setCell ⟨b, 6, none⟩ x6).setCell ⟨b, 7, none⟩ x7) b [x0, x1, x2, x3, x4, x5, x6, x7] := h.copy [x0, x1, x2, x3, x4, x5, x6, x7] rfl
theorem below_set2 {B : Nat} {a w : World} {b : Nat} (h : Below B a w) (hb : B ≤ b) (x0 x1 : Value) : Below B a ((w.setCell ⟨b, 0, none⟩ x0).setCell ⟨b, 1, none⟩ x1) := below_copy h hb [x0, x1]
theorem below_set3 {B : Nat} {a w : World} {b : Nat} (h : Below B a w) (hb : B ≤ b) (x0 x1 x2 : Value) : Below B a (((w.setCell ⟨b, 0, none⟩ x0).setCell ⟨b, 1, none⟩ x1).setCell ⟨b, 2, none⟩ x2) := below_copy h hb [x0, x1, x2]
theorem below_set8 {B : Nat} {a w : World} {b : Nat} (h : Below B a w) (hb : B ≤ b) (x0 x1 x2 x3 x4 x5 x6 x7 : Value) :
    Below B a ((((((((w.setCell ⟨b, 0, none⟩ x0).setCell ⟨b, 1, none⟩ x1).setCell ⟨b, 2, none⟩ x2).setCell ⟨b, 3, none⟩ x3).setCell ⟨b, 4, none⟩ x4).setCell ⟨b, 5, none⟩ x5).setCell ⟨b, 6, none⟩ x6).setCell ⟨b, 7, none⟩ x7) := below_copy h hb [x0, x1, x2, x3, x4, x5, x6, x7]
/-- What a function hands back that lies in its result's block. -/
theorem ret_cb {P : Program} {fn : Func} {q : Tmp} {T : TypeId} (h : fn.results = #[.cell q T]) {d : TypeDesc} (hu : P.underlying T = some d) (hd : d.isRow = true) {tmps : Array Value} {Z : World} {rk : Nat} {cs : List Value} (hi : (P.info? T).map (·.size) = some cs.length)
    (ht : tmps.getD q undef = .pointer (some ⟨rk, 0, none⟩)) (hZ : CB Z rk cs) : (results fn tmps).run P Z = .ok (.agg cs.toArray) Z := by
  have hl := run_loadVar_mid (P := P) Z rk 0 T cs d hZ.1 hu hd hi
  have ha : (asAddr (.pointer (some ⟨rk, 0, none⟩))).run P Z = .ok ⟨rk, 0, none⟩ Z := by simp [go_sem]
  have ht' : tmps[q]?.getD undef = .pointer (some ⟨rk, 0, none⟩) := by simpa using ht
  simp only [results, h]
  simp [Sem.run_bind, Result.andThen, ht', ha, hl]
/-- The same, beside a second result that is a temporary. -/
theorem ret_cb2 {P : Program} {fn : Func} {q q2 : Tmp} {T : TypeId} (h : fn.results = #[.cell q T, .tmp q2]) {d : TypeDesc} (hu : P.underlying T = some d) (hd : d.isRow = true) {tmps : Array Value} {Z : World} {rk : Nat} {cs : List Value} (hi : (P.info? T).map (·.size) = some cs.length)
    {v : Value} (ht : tmps.getD q undef = .pointer (some ⟨rk, 0, none⟩)) (hv : tmps.getD q2 undef = v) (hZ : CB Z rk cs) : (results fn tmps).run P Z = .ok (.tuple #[.agg cs.toArray, v]) Z := by
  have hl := run_loadVar_mid (P := P) Z rk 0 T cs d hZ.1 hu hd hi
  have ha : (asAddr (.pointer (some ⟨rk, 0, none⟩))).run P Z = .ok ⟨rk, 0, none⟩ Z := by simp [go_sem]
  have ht' : tmps[q]?.getD undef = .pointer (some ⟨rk, 0, none⟩) := by simpa using ht
  have hv' : tmps[q2]?.getD undef = v := by simpa using hv
  simp only [results, h]
  simp [Sem.run_bind, Result.andThen, ht', hv', ha, hl]
/-- One, two, three structs laid one behind the other. -/
theorem cb1 (w : World) (x : List Value) (t : TypeId) : CB (w.alloc (.cells x.toArray t)) w.heap.size x ∧ Below w.heap.size w (w.alloc (.cells x.toArray t)) ∧ (w.alloc (.cells x.toArray t)).heap.size = w.heap.size + 1 :=
  ⟨cb_alloc w x t, (Below.refl _ _).alloc (Nat.le_refl _) _, by simp⟩
theorem cb2 (w : World) (x y : List Value) (t u : TypeId) : CB ((w.alloc (.cells x.toArray t)).alloc (.cells y.toArray u)) w.heap.size x ∧ CB ((w.alloc (.cells x.toArray t)).alloc (.cells y.toArray u)) (w.heap.size + 1) y ∧
    Below w.heap.size w ((w.alloc (.cells x.toArray t)).alloc (.cells y.toArray u)) ∧ ((w.alloc (.cells x.toArray t)).alloc (.cells y.toArray u)).heap.size = w.heap.size + 2 := by
  obtain ⟨h1, hb, hs⟩ := cb1 w x t
  obtain ⟨h2, hb2, hs2⟩ := cb1 (w.alloc (.cells x.toArray t)) y u
  refine ⟨h1.up hb2 (by rw [hs]; omega), by rw [hs] at h2; exact h2, hb.trans (hb2.mono (by rw [hs]; omega)), by rw [hs2, hs]⟩
theorem cb3 (w : World) (x y z : List Value) (t u v : TypeId) : CB (((w.alloc (.cells x.toArray t)).alloc (.cells y.toArray u)).alloc (.cells z.toArray v)) w.heap.size x ∧ CB (((w.alloc (.cells x.toArray t)).alloc (.cells y.toArray u)).alloc (.cells z.toArray v)) (w.heap.size + 1) y ∧
    CB (((w.alloc (.cells x.toArray t)).alloc (.cells y.toArray u)).alloc (.cells z.toArray v)) (w.heap.size + 2) z ∧
    Below w.heap.size w (((w.alloc (.cells x.toArray t)).alloc (.cells y.toArray u)).alloc (.cells z.toArray v)) ∧ (((w.alloc (.cells x.toArray t)).alloc (.cells y.toArray u)).alloc (.cells z.toArray v)).heap.size = w.heap.size + 3 := by
  obtain ⟨h1, h2, hb, hs⟩ := cb2 w x y t u
  obtain ⟨h3, hb3, hs3⟩ := cb1 ((w.alloc (.cells x.toArray t)).alloc (.cells y.toArray u)) z v
  refine ⟨h1.up hb3 (by rw [hs]; omega), h2.up hb3 (by rw [hs]; omega), by rw [hs] at h3; exact h3, hb.trans (hb3.mono (by rw [hs]; omega)), by rw [hs3, hs]⟩
theorem cbE1 (w : World) (x : List Value) (t : TypeId) : ∃ W, w.alloc (.cells x.toArray t) = W ∧ CB W w.heap.size x ∧ Below w.heap.size w W ∧ W.heap.size = w.heap.size + 1 := ⟨_, rfl, cb1 w x t⟩
theorem cbE2 (w : World) (x : List Value) (t : TypeId) (y : List Value) (u : TypeId) : ∃ W, (w.alloc (.cells x.toArray t)).alloc (.cells y.toArray u) = W ∧ CB W w.heap.size x ∧ CB W (w.heap.size + 1) y ∧ Below w.heap.size w W ∧ W.heap.size = w.heap.size + 2 := ⟨_, rfl, cb2 w x y t u⟩
theorem cbE3 (w : World) (x : List Value) (t : TypeId) (y : List Value) (u : TypeId) (z : List Value) (v : TypeId) : ∃ W, ((w.alloc (.cells x.toArray t)).alloc (.cells y.toArray u)).alloc (.cells z.toArray v) = W ∧ CB W w.heap.size x ∧ CB W (w.heap.size + 1) y ∧ CB W (w.heap.size + 2) z ∧ Below w.heap.size w W ∧ W.heap.size = w.heap.size + 3 := ⟨_, rfl, cb3 w x y z t u v⟩
theorem own_ptr {w : World} {base e size n : Nat} {v : Value} {xs : List Value} (h : w.ownsRow base e size v n xs) (hn : 0 < n) : ∃ g cap, v = .slice (some ⟨g, 0, none⟩) n cap := by
  rcases h.2 with ⟨_, h0⟩ | ⟨g, cap, _, hv, _⟩
  · omega
  · exact ⟨g, cap, hv⟩
theorem own_up {W w' : World} {base e size n : Nat} {v : Value} {xs : List Value} (h : W.ownsRow base e size v n xs) (hb : Below W.heap.size W w') : w'.ownsRow base e size v n xs := by
  refine ⟨h.1, ?_⟩
  rcases h.2 with h0 | ⟨g, cap, cur, hv, hg, hh, r⟩
  · exact .inl h0
  · refine .inr ⟨g, cap, cur, hv, hg, ?_, r⟩
    rw [hb.block g (Array.getElem?_eq_some_iff.1 hh).1]; exact hh
theorem new2 (w : World) (a b : Value) (ty : TypeId) {j : Nat} {u : Value} (h : [a, b][j]? = some u) : (w.alloc (.cells #[a, b] ty)).cell? ((⟨w.heap.size, 0, none⟩ : Addr).add j) = some u := by
  match j, h with
  | 0, h => simp at h; subst h; simp [Addr.add]
  | 1, h => simp at h; subst h; simp [Addr.add]
theorem one2 {s : ByteArray} {x u : Value} (hx : x.oneCell' = true) (h : u ∈ [Value.string s, x]) : u.oneCell' = true := by
  simp at h; rcases h with rfl | rfl
  · rfl
  · exact hx
theorem grown_setNew {a b : World} {r : Option Nat} {pb off : Nat} (h : a.grownBy b r) (hp : a.heap.size ≤ pb) (u : Value) : a.grownBy (b.setCell ⟨pb, off, none⟩ u) r :=
  ⟨h.os, h.tape, h.output, by simpa using h.size, fun i hi hr => (Below.heap_setCell _ _ _ _ (by simp; omega)).trans (h.block i hi hr)⟩
theorem infoStr : (Tryz.prog.info? 9).map (fun i => (i.zero, i.size, i.bytes)) = some (some (.string ⟨#[]⟩), 1, 16) := by kernel_rfl
theorem StrsAt.alloc {w : World} {g o : Nat} {ss : List ByteArray} (h : StrsAt w g o ss) (ob : Obj) : StrsAt (w.alloc ob) g o ss := fun i s hs => by
  have := h i s hs
  rw [World.cell?_alloc_lt _ _ _ (World.block_lt_of_cell? w _ this)]; exact this
theorem news_of {w : World} {g o : Nat} {ss : List ByteArray} (h : StrsAt w g o ss) : ∀ (j : Nat) (u : Value), (ss.map Value.string)[j]? = some u → w.cell? ((⟨g, o, none⟩ : Addr).add j) = some u := fun j u hu => by
  rw [List.getElem?_map, Option.map_eq_some_iff] at hu
  obtain ⟨s, hs, rfl⟩ := hu
  rw [Addr.add_mid]; exact h j s hs
theorem oneS (ss : List ByteArray) : ∀ u ∈ ss.map Value.string, u.oneCell' = true := fun u hu => by
  obtain ⟨s, _, rfl⟩ := List.mem_map.1 hu; rfl
theorem own_ptr2 {w : World} {base e size n : Nat} {v : Value} {xs : List Value} (h : w.ownsRow base e size v n xs) (hn : 0 < n) : ∃ g cap, v = .slice (some ⟨g, 0, none⟩) n cap := by
  rcases h.2 with ⟨_, h0⟩ | ⟨g, cap, _, hv, _⟩
  · omega
  · exact ⟨g, cap, hv⟩
theorem strs_of_own {w : World} {base e g n cap : Nat} {ss : List ByteArray} (h : w.ownsRow base e 1 (.slice (some ⟨g, 0, none⟩) n cap) n (ss.map Value.string)) (hn : ss.length = n) : StrsAt w g 0 ss := fun i s hs => by
  have hi : i < ss.length := (List.getElem?_eq_some_iff.1 hs).1
  rw [Nat.zero_add, h.cellAt i (by omega), List.getElem?_map, hs]; rfl
theorem grown_new {a b c : World} {r : Option Nat} {k : Nat} (h : a.grownBy b r) (hg : b.grownBy c (some k)) (hk : a.heap.size ≤ k) : a.grownBy c r :=
  ⟨hg.os.trans h.os, hg.tape.trans h.tape, hg.output.trans h.output, Nat.le_trans h.size hg.size, fun i hi hr => (hg.block i (Nat.lt_of_lt_of_le hi h.size) (by simp; omega)).trans (h.block i hi hr)⟩
theorem StrsAt.other {w : World} {g o pb off : Nat} {u : Value} {ss : List ByteArray} (h : StrsAt w g o ss) (hne : g ≠ pb) : StrsAt (w.setCell ⟨pb, off, none⟩ u) g o ss := fun i s hs => by
  rw [World.cell?_setCell_other _ _ _ _ (by simp <;> omega)]; exact h i s hs
theorem step_append_own {P : Program} {ops : Array Oper} {o : Oper} {a : Act} {w : World} {K : Act → World → Prop} {Q : Exit → Act → World → Prop} {E : Prop}
    (hg : o.guard = none) (s x : Operand) (t : TypeId) (hop : o.op = Op.call { callee := Callee.builtin Builtin.append, args := #[s, x], argTypes := #[t, t] })
    (base : Nat) (e : TypeId) (i : TypeInfo) (z : Value) (size bytes : Nat) (ht : P.underlying t = some (.slice e)) (hi : P.info? e = some i) (hz : i.zero = some z)
    (hsize : i.size = size) (hby : i.bytes = bytes) (hzs : z.cells.size = size) (hsz : 0 < size)
    (v : Value) (n : Nat) (xs : List Value) (hs : a.eval s = v) (hown : w.ownsRow base e size v n xs)
    (ad : Addr) (m c : Nat) (news : List Value) (hx : a.eval x = .slice (some ad) m c) (hl : news.length = m * size) (hnews : ∀ j u, news[j]? = some u → w.cell? (ad.add j) = some u) (h1 : ∀ u ∈ news, u.oneCell' = true)
    (h63 : n + m ≤ maxLen) (hbytes : (n + m) * bytes ≤ 140737488355328) (hbase : base ≤ w.heap.size)
    (hK : ∀ v' w', w'.ownsRow base e size v' (n + m) (xs ++ news) → w.grownBy w' v.ownBlock → K (a.put o.dst v') w') :
    if Region.wanted o (yielded ops a.tmps) = true then Oper.wp P o a w K Q else E := by
  have hw : Region.wanted o (yielded ops a.tmps) = true := by simp [Region.wanted, hg]
  rw [if_pos hw]
  obtain ⟨v', w', hr, h2, h3, _⟩ := run_append_own (P := P) w base t o.type e i z size bytes ht hi hz hsize hby hzs hsz v n xs hown ad m c news hl hnews h1 h63 hbytes hbase
  unfold Oper.wp
  simp [execOp, hop, resolve, invoke, builtin, hs, hx, hr, Result.andThen]
  exact hK v' w' h2 h3
theorem own_grown {w w' : World} {base e size n rb : Nat} {v : Value} {xs : List Value} (h : w.ownsRow base e size v n xs) (hg : w.grownBy w' (some rb)) (hrb : rb < base) : w'.ownsRow base e size v n xs := by
  refine ⟨h.1, ?_⟩
  rcases h.2 with h0 | ⟨g, cap, cur, hv, hb, hh, r⟩
  · exact .inl h0
  · refine .inr ⟨g, cap, cur, hv, hb, ?_, r⟩
    rw [hg.block g (Array.getElem?_eq_some_iff.1 hh).1 (by simp; omega)]; exact hh
theorem own_low {w : World} {base base' e size n : Nat} {v : Value} {xs : List Value} (h : w.ownsRow base e size v n xs) (hb : base' ≤ base) : w.ownsRow base' e size v n xs := by
  refine ⟨h.1, ?_⟩
  rcases h.2 with h0 | ⟨g, cap, cur, hv, hg, r⟩
  · exact .inl h0
  · exact .inr ⟨g, cap, cur, hv, Nat.le_trans hb hg, r⟩
theorem own_ne {w : World} {base e size n b : Nat} {v : Value} {xs : List Value} (h : w.ownsRow base e size v n xs) (hb : b < base) : some b ≠ v.ownBlock := fun e => by
  have := (h.lt b e.symm).1; omega
theorem grown_own {a b c : World} {r : Option Nat} {base e size n : Nat} {v : Value} {xs : List Value} (h : a.grownBy b r) (hown : b.ownsRow base e size v n xs) (hg : b.grownBy c v.ownBlock) (hk : a.heap.size ≤ base) : a.grownBy c r :=
  ⟨hg.os.trans h.os, hg.tape.trans h.tape, hg.output.trans h.output, Nat.le_trans h.size hg.size, fun i hi hr => (hg.block i (Nat.lt_of_lt_of_le hi h.size) (own_ne hown (by omega))).trans (h.block i hi hr)⟩
theorem StrsAt.own {w w' : World} {g o base e size n : Nat} {u : Value} {xs : List Value} {ss : List ByteArray} (h : StrsAt w g o ss) (hown : w.ownsRow base e size u n xs) (hg : w.grownBy w' u.ownBlock) (hk : g < base) : StrsAt w' g o ss :=
  fun i s hs => hg.cell (h i s hs) (own_ne hown hk)
theorem StrsAt.drew {w : World} {g o : Nat} {ss : List ByteArray} (h : StrsAt w g o ss) : StrsAt w.drew g o ss := h
theorem own_drew {w : World} {base e size n : Nat} {v : Value} {xs : List Value} (h : w.ownsRow base e size v n xs) : w.drew.ownsRow base e size v n xs := h
theorem StrsAt.drop {w : World} {g o : Nat} {ss : List ByteArray} (h : StrsAt w g o ss) (k : Nat) : StrsAt w g (o + k) (ss.drop k) := fun i s hs => by
  rw [List.getElem?_drop] at hs
  rw [Nat.add_assoc]; exact h (k + i) s hs
theorem StrsAt.take {w : World} {g o : Nat} {ss : List ByteArray} (h : StrsAt w g o ss) (k : Nat) : StrsAt w g o (ss.take k) := fun i s hs => by
  rw [List.getElem?_take] at hs
  split at hs
  · exact h i s hs
  · cases hs
/-- A list of texts, handed about as a slice. -/
def Txt (w : World) (v : Value) (ss : List ByteArray) : Prop := ∃ g c, v = .slice (some ⟨g, 0, none⟩) ss.length c ∧ StrsAt w g 0 ss ∧ g < w.heap.size ∧ ss.length ≤ c ∧ c ≤ maxLen
theorem Txt.up {w w' : World} {v : Value} {ss : List ByteArray} (h : Txt w v ss) (hb : Below w.heap.size w w') : Txt w' v ss := by
  obtain ⟨g, c, rfl, hS, hg, r⟩ := h
  exact ⟨g, c, rfl, fun i s hs => (hb.cell (p := ⟨g, 0 + i, none⟩) hg).trans (hS i s hs), Nat.lt_of_lt_of_le hg hb.size, r⟩
theorem Txt.own {w : World} {base e n : Nat} {v : Value} {ss : List ByteArray} (h : w.ownsRow base e 1 v n (ss.map Value.string)) (hn : ss.length = n) (hv : ∃ g c, v = .slice (some ⟨g, 0, none⟩) n c) : Txt w v ss := by
  obtain ⟨g, c, rfl⟩ := hv
  refine ⟨g, c, by rw [hn], strs_of_own h hn, (h.lt g rfl).2, ?_, ?_⟩
  · rcases h.2 with ⟨h0, _⟩ | ⟨g', cap', cur, h', _, _, hc, _⟩
    · cases h0
    · cases h'; omega
  · rcases h.2 with ⟨h0, _⟩ | ⟨g', cap', cur, h', _, _, _, hc, _⟩
    · cases h0
    · cases h'; exact hc
theorem below_own {w W W' : World} {base e size n : Nat} {v : Value} {xs : List Value} (h : Below w.heap.size w W) (hown : W.ownsRow base e size v n xs) (hg : W.grownBy W' v.ownBlock) (hk : w.heap.size ≤ base) : Below w.heap.size w W' :=
  { os := hg.os.trans h.os, tape := hg.tape.trans h.tape, output := hg.output.trans h.output, size := Nat.le_trans h.size hg.size, block := fun i hi => (hg.block i (Nat.lt_of_lt_of_le hi h.size) (own_ne hown (by omega))).trans (h.block i hi) }
theorem one_new (w : World) (s : ByteArray) (t : TypeId) : ∀ (j : Nat) (u : Value), [Value.string s][j]? = some u → (w.alloc (.cells #[.string s] t)).cell? ((⟨w.heap.size, 0, none⟩ : Addr).add j) = some u := fun j u hj => by
  match j, hj with
  | 0, hj => simp at hj; subst hj; simp [Addr.add]
theorem one_old {w : World} {b : Nat} {s : ByteArray} (h : w.cell? ⟨b, 0, none⟩ = some (.string s)) : ∀ (j : Nat) (u : Value), [Value.string s][j]? = some u → w.cell? ((⟨b, 0, none⟩ : Addr).add j) = some u := fun j u hj => by
  match j, hj with
  | 0, hj => simp at hj; subst hj; rw [Addr.add_mid]; exact h
theorem oneV (s : ByteArray) : ∀ u ∈ [Value.string s], u.oneCell' = true := fun u hu => by simp at hu; subst hu; rfl
def Lst (w : World) (v : Value) (ss : List ByteArray) : Prop := (v = .slice none 0 0 ∧ ss = []) ∨ Txt w v ss
theorem Lst.up {w w' : World} {v : Value} {ss : List ByteArray} (h : Lst w v ss) (hb : Below w.heap.size w w') : Lst w' v ss := by
  rcases h with h | h
  · exact .inl h
  · exact .inr (h.up hb)
/-- The names of a list, whatever it is. -/
theorem Lst.shape {w : World} {v : Value} {ss : List ByteArray} (h : Lst w v ss) : ∃ a c, v = .slice a ss.length c := by
  rcases h with ⟨rfl, rfl⟩ | ⟨g, c, rfl, _⟩
  · exact ⟨none, 0, rfl⟩
  · exact ⟨_, _, rfl⟩
/-- A list of its own. -/
def OwnT (w : World) (base : Nat) (u : Value) (ss : List ByteArray) : Prop := w.ownsRow base 9 1 u ss.length (ss.map Value.string)
theorem OwnT.lst {w : World} {base : Nat} {u : Value} {ss : List ByteArray} (h : OwnT w base u ss) : Lst w u ss := by
  rcases h.2 with ⟨h0, h1⟩ | ⟨g, cap, cur, hv, _⟩
  · exact .inl ⟨h0, List.length_eq_zero_iff.1 h1⟩
  · exact .inr (Txt.own h rfl ⟨g, cap, hv⟩)
theorem below_gr {w a b : World} {x : Nat} (h : Below w.heap.size w a) (hg : a.grownBy b (some x)) (hx : w.heap.size ≤ x) : Below w.heap.size w b :=
  { os := hg.os.trans h.os, tape := hg.tape.trans h.tape, output := hg.output.trans h.output, size := Nat.le_trans h.size hg.size, block := fun i hi => (hg.block i (Nat.lt_of_lt_of_le hi h.size) (by simp; omega)).trans (h.block i hi) }
theorem Lst.grown {w w' : World} {r : Option Nat} {v : Value} {ss : List ByteArray} (h : Lst w v ss) (hg : w.grownBy w' r) (hne : ∀ g, v.ownBlock = some g → some g ≠ r) : Lst w' v ss := by
  rcases h with h | ⟨g, c, rfl, hS, hlt, rest⟩
  · exact .inl h
  · exact .inr ⟨g, c, rfl, fun i s hs => hg.cell (hS i s hs) (hne g rfl), Nat.lt_of_lt_of_le hlt hg.size, rest⟩
theorem Lst.lt {w : World} {v : Value} {ss : List ByteArray} (h : Lst w v ss) : ∀ g, v.ownBlock = some g → g < w.heap.size := by
  intro g hg
  rcases h with ⟨rfl, _⟩ | ⟨g', c, rfl, _, hlt, _⟩
  · simp [Value.ownBlock] at hg
  · simp [Value.ownBlock] at hg; omega
theorem OwnT.up {w w' : World} {base : Nat} {u : Value} {ss : List ByteArray} (h : OwnT w base u ss) (hb : Below w.heap.size w w') : OwnT w' base u ss := own_up h hb
theorem below_setCells (b : Nat) : ∀ (vs : List Value) (o : Nat) (W w' : World) (B : Nat), Below B W w' → B ≤ b → Below B W (w'.setCells b o vs)
  | [], _, _, _, _, h, _ => h
  | v :: r, o, W, w', B, h, hB => by
    rw [World.setCells]
    exact below_setCells b r (o + 1) W _ B (h.setCell (p := ⟨b, o, none⟩) hB v) hB
theorem cellOf_alloc (w : World) (C : Array Value) (t : TypeId) (j : Nat) (hj : j < C.size) : ((w.alloc (.cells C t)).cell? ⟨w.heap.size, j, none⟩).isSome = true ∧ (w.alloc (.cells C t)).frozen? ⟨w.heap.size, j, none⟩ = false := by
  constructor
  · simp [hj, go_sem]
  · simp [go_sem]
theorem there_alloc (w : World) (C : Array Value) (t : TypeId) : (w.alloc (.cells C t)).there w.heap.size 0 C.size := fun j hj => by
  simpa using cellOf_alloc w C t j hj
theorem there_up {w w' : World} {b o n B : Nat} (h : w.there b o n) (hb : Below B w w') (hB : b < B) : w'.there b o n := fun j hj => by
  rw [hb.cell (p := ⟨b, o + j, none⟩) hB, hb.frozen (p := ⟨b, o + j, none⟩) hB]; exact h j hj
theorem size_setCells (w1 : World) (b o : Nat) (vs : List Value) : w1.heap.size ≤ (w1.setCells b o vs).heap.size := (below_setCells b vs o w1 w1 0 (Below.refl _ _) (Nat.zero_le _)).size
theorem keep1 {W w0 w1 : World} {b o : Nat} {x : Value} (hb : b < W.heap.size) (h : Below W.heap.size W w0 ∧ w0.cell? ⟨b, o, none⟩ = some x) (hB : Below w0.heap.size w0 w1) : Below W.heap.size W w1 ∧ w1.cell? ⟨b, o, none⟩ = some x :=
  ⟨up_trans h.1 hB, (hB.cell (p := ⟨b, o, none⟩) (Nat.lt_of_lt_of_le hb h.1.size)).trans h.2⟩
theorem below_drewN {a b : World} {B : Nat} (h : Below B a b) (n : Nat) : Below B a (b.drewN n) := { os := h.os, tape := h.tape, output := h.output, size := h.size, block := h.block }
end Go.Proofs.YtnojjmkmkelbgaaGreat

/- Books in plain: no program in it. -/
namespace Go.Proofs.YtnojjmkmkelbgaaGreat

/-- A batch; a book. -/
structure Ba where
  nm : ByteArray
  has : List ByteArray
  needs : List ByteArray
structure Bk where
  things : List ByteArray
  bs : List Ba
/-- Whether something holds, as a bool. -/
noncomputable def pB (p : Prop) : Bool := @decide p (Classical.propDecidable p)
theorem pB_yes {p : Prop} (h : p) : pB p = true := by unfold pB; simp [h]
theorem pB_no {p : Prop} (h : ¬ p) : pB p = false := by unfold pB; simp [h]
theorem pB_iff {p : Prop} : pB p = true ↔ p := by unfold pB; simp
theorem pB_not {p : Prop} : pB p = false ↔ ¬ p := by unfold pB; simp

def ltS (a b : ByteArray) : Bool := Op.bytesLess a.toList b.toList
def memS (l : List ByteArray) (s : ByteArray) : Bool := l.any fun x => x.toList == s.toList
def shareB (a b : List ByteArray) : Bool := a.any fun s => memS b s
theorem toL_eq {a b : ByteArray} (h : a.toList = b.toList) : a = b := by
  rw [Go.ByteArray.toList_eq, Go.ByteArray.toList_eq] at h
  cases a; cases b; simp at h; rw [h]
theorem memS_iff (l : List ByteArray) (s : ByteArray) : memS l s = true ↔ s ∈ l := by
  simp only [memS, List.any_eq_true, beq_iff_eq]
  constructor
  · rintro ⟨x, hx, h⟩; rwa [← toL_eq h]
  · exact fun h => ⟨s, h, rfl⟩
theorem memS_no (l : List ByteArray) (s : ByteArray) : memS l s = false ↔ s ∉ l := by rw [← memS_iff]; simp
theorem shareB_iff (a b : List ByteArray) : shareB a b = true ↔ ∃ s, s ∈ a ∧ s ∈ b := by
  simp only [shareB, List.any_eq_true, memS_iff]
theorem shareB_no (a b : List ByteArray) : shareB a b = false ↔ ∀ s, s ∈ a → s ∉ b := by
  rw [← Bool.not_eq_true, shareB_iff]; simp
theorem memS_take {l : List ByteArray} {s : ByteArray} {k : Nat} (hk : k < l.length) (h : memS (l.take k) s = false) (hq : ((l[k]).toList == s.toList) = false) : memS (l.take (k + 1)) s = false := by
  rw [List.take_succ_eq_append_getElem hk, memS, List.any_append]
  rw [memS] at h
  simp [h, hq]
theorem memS_found {l : List ByteArray} {s : ByteArray} {k : Nat} (hk : k < l.length) (hq : ((l[k]).toList == s.toList) = true) : memS l s = true := by
  rw [memS, List.any_eq_true]
  exact ⟨l[k], List.getElem_mem hk, hq⟩
theorem memS_all {l : List ByteArray} {s : ByteArray} {k : Nat} (hk : ¬ k < l.length) (h : memS (l.take k) s = false) : memS l s = false := by
  rwa [List.take_of_length_le (by omega)] at h
theorem shareB_take {a b : List ByteArray} {k : Nat} (hk : k < a.length) (h : shareB (a.take k) b = false) (hq : memS b a[k] = false) : shareB (a.take (k + 1)) b = false := by
  rw [List.take_succ_eq_append_getElem hk, shareB, List.any_append]
  rw [shareB] at h
  simp [h, hq]
theorem shareB_found {a b : List ByteArray} {k : Nat} (hk : k < a.length) (hq : memS b a[k] = true) : shareB a b = true := by
  rw [shareB, List.any_eq_true]
  exact ⟨a[k], List.getElem_mem hk, hq⟩
theorem shareB_all {a b : List ByteArray} {k : Nat} (hk : ¬ k < a.length) (h : shareB (a.take k) b = false) : shareB a b = false := by
  rwa [List.take_of_length_le (by omega)] at h

/-- Ascending up to place k; names up to place k; of a list up to place k. -/
def AscTo (l : List ByteArray) (k : Nat) : Prop := ∀ (i : Nat) (a b : ByteArray), i + 1 < k → l[i]? = some a → l[i + 1]? = some b → ltS a b = true
def NamesTo (l : List ByteArray) (k : Nat) : Prop := ∀ (i : Nat) (a : ByteArray), i < k → l[i]? = some a → nameB a = true
def PartTo (l all : List ByteArray) (k : Nat) : Prop := ∀ (i : Nat) (a : ByteArray), i < k → l[i]? = some a → memS all a = true
def Asc (l : List ByteArray) : Prop := AscTo l l.length
def Names (l : List ByteArray) : Prop := NamesTo l l.length
def Part (l all : List ByteArray) : Prop := PartTo l all l.length
def PartOk (l all : List ByteArray) : Prop := Part l all ∧ Asc l
def ThingsOk (l : List ByteArray) : Prop := l.length ≤ 8 ∧ Names l ∧ Asc l
theorem AscTo.zero (l : List ByteArray) : AscTo l 0 := fun i _ _ h => by omega
theorem AscTo.one (l : List ByteArray) : AscTo l 1 := fun i _ _ h => by omega
theorem NamesTo.zero (l : List ByteArray) : NamesTo l 0 := fun i _ h => by omega
theorem PartTo.zero (l all : List ByteArray) : PartTo l all 0 := fun i _ h => by omega
theorem AscTo.step {l : List ByteArray} {k : Nat} (h : AscTo l (k + 1)) (hk : k + 1 < l.length) (hl : ltS l[k] l[k + 1] = true) : AscTo l (k + 2) := fun i a b hi ha hb => by
  by_cases e : i = k
  · subst e
    rw [List.getElem?_eq_getElem (by omega)] at ha hb
    obtain rfl := Option.some.inj ha
    obtain rfl := Option.some.inj hb
    exact hl
  · exact h i a b (by omega) ha hb
theorem NamesTo.step {l : List ByteArray} {k : Nat} (h : NamesTo l k) (hk : k < l.length) (hl : nameB l[k] = true) : NamesTo l (k + 1) := fun i a hi ha => by
  by_cases e : i = k
  · subst e
    rw [List.getElem?_eq_getElem hk] at ha
    obtain rfl := Option.some.inj ha
    exact hl
  · exact h i a (by omega) ha
theorem PartTo.step {l all : List ByteArray} {k : Nat} (h : PartTo l all k) (hk : k < l.length) (hl : memS all l[k] = true) : PartTo l all (k + 1) := fun i a hi ha => by
  by_cases e : i = k
  · subst e
    rw [List.getElem?_eq_getElem hk] at ha
    obtain rfl := Option.some.inj ha
    exact hl
  · exact h i a (by omega) ha
theorem asc_end {l : List ByteArray} {k : Nat} (h : AscTo l k) (hk : ¬ k < l.length) : Asc l := fun i a b hi ha hb => h i a b (by omega) ha hb
theorem names_end {l : List ByteArray} {k : Nat} (h : NamesTo l k) (hk : ¬ k < l.length) : Names l := fun i a hi ha => h i a (by omega) ha
theorem part_end {l all : List ByteArray} {k : Nat} (h : PartTo l all k) (hk : ¬ k < l.length) : Part l all := fun i a hi ha => h i a (by omega) ha
theorem asc_at {l : List ByteArray} (h : Asc l) {k : Nat} (hk : k + 1 < l.length) : ltS l[k] l[k + 1] = true := h k _ _ hk (by rw [List.getElem?_eq_getElem]) (by rw [List.getElem?_eq_getElem])
theorem names_at {l : List ByteArray} (h : Names l) {k : Nat} (hk : k < l.length) : nameB l[k] = true := h k _ hk (by rw [List.getElem?_eq_getElem])
theorem part_at {l all : List ByteArray} (h : Part l all) {k : Nat} (hk : k < l.length) : memS all l[k] = true := h k _ hk (by rw [List.getElem?_eq_getElem])
theorem names_mem {l : List ByteArray} (h : Names l) {s : ByteArray} (hs : s ∈ l) : nameB s = true := by
  obtain ⟨i, hi, rfl⟩ := List.getElem_of_mem hs
  exact names_at h hi
theorem part_mem {l all : List ByteArray} (h : Part l all) {s : ByteArray} (hs : s ∈ l) : s ∈ all := by
  obtain ⟨i, hi, rfl⟩ := List.getElem_of_mem hs
  exact (memS_iff _ _).1 (part_at h hi)

/-- What a batch at place i of a book is asked; none of the batches up to place k shares what it has with one ahead of it. -/
def BaOk (things : List ByteArray) (x : Ba) : Prop := PartOk x.needs things ∧ PartOk x.has x.needs
def BasTo (things : List ByteArray) (bs : List Ba) (k : Nat) : Prop := ∀ (i : Nat) (x : Ba), i < k → bs[i]? = some x → BaOk things x
/-- No batch up to place n has what one ahead of it has; of batch n itself those ahead of place m. -/
def ApartTo (bs : List Ba) (n m : Nat) : Prop := ∀ (i j : Nat) (x y : Ba), j < i → (i < n ∨ i = n ∧ j < m) → bs[i]? = some x → bs[j]? = some y → shareB x.has y.has = false
def nms (bs : List Ba) : List ByteArray := bs.map (·.nm)
def Apart (bs : List Ba) : Prop := ApartTo bs bs.length 0
def BookOk (b : Bk) : Prop := ThingsOk b.things ∧ b.bs.length ≤ 5 ∧ Names (nms b.bs) ∧ Asc (nms b.bs) ∧ BasTo b.things b.bs b.bs.length ∧ Apart b.bs
noncomputable def bookB (b : Bk) : Bool := pB (BookOk b)
theorem nms_length (bs : List Ba) : (nms bs).length = bs.length := by simp [nms]
theorem nms_get (bs : List Ba) (k : Nat) (hk : k < bs.length) : (nms bs)[k]'(by rw [nms_length]; exact hk) = (bs[k]).nm := by simp [nms]
theorem nms_take (bs : List Ba) (k : Nat) : nms (bs.take k) = (nms bs).take k := by simp [nms]
theorem BasTo.zero (things : List ByteArray) (bs : List Ba) : BasTo things bs 0 := fun i _ h => by omega
theorem BasTo.step {things : List ByteArray} {bs : List Ba} {k : Nat} (h : BasTo things bs k) (hk : k < bs.length) (hl : BaOk things bs[k]) : BasTo things bs (k + 1) := fun i a hi ha => by
  by_cases e : i = k
  · subst e
    rw [List.getElem?_eq_getElem hk] at ha
    obtain rfl := Option.some.inj ha
    exact hl
  · exact h i a (by omega) ha
theorem BasTo.at {things : List ByteArray} {bs : List Ba} {n k : Nat} (h : BasTo things bs n) (hn : k < n) (hk : k < bs.length) : BaOk things bs[k] := h k _ hn (by rw [List.getElem?_eq_getElem])
theorem bas_end {things : List ByteArray} {bs : List Ba} {k : Nat} (h : BasTo things bs k) (hk : ¬ k < bs.length) : BasTo things bs bs.length := fun i a hi ha => h i a (by omega) ha
theorem ApartTo.zero (bs : List Ba) : ApartTo bs 0 0 := fun i j _ _ _ h => by omega
theorem ApartTo.step {bs : List Ba} {n m : Nat} (h : ApartTo bs n m) (hn : n < bs.length) (hm : m < n) (hq : shareB (bs[n]).has (bs[m]).has = false) : ApartTo bs n (m + 1) := fun i j x y hji hi hx hy => by
  by_cases e : i = n ∧ j = m
  · obtain ⟨rfl, rfl⟩ := e
    rw [List.getElem?_eq_getElem (by omega)] at hx hy
    obtain rfl := Option.some.inj hx
    obtain rfl := Option.some.inj hy
    exact hq
  · exact h i j x y hji (by omega) hx hy
theorem ApartTo.next {bs : List Ba} {n m : Nat} (h : ApartTo bs n m) (hm : ¬ m < n) : ApartTo bs (n + 1) 0 := fun i j x y hji hi hx hy => h i j x y hji (by omega) hx hy
theorem apart_end {bs : List Ba} {n : Nat} (h : ApartTo bs n 0) (hn : ¬ n < bs.length) : Apart bs := fun i j x y hji hi hx hy => h i j x y hji (by
  have := (List.getElem?_eq_some_iff.1 hx).1
  omega) hx hy
theorem Apart.at {bs : List Ba} (h : Apart bs) {n m : Nat} (hn : n < bs.length) (hm : m < n) : shareB (bs[n]).has (bs[m]).has = false := h n m _ _ hm (by omega) (by rw [List.getElem?_eq_getElem]) (by rw [List.getElem?_eq_getElem])
/-- The place of the first batch that has a thing, and its name. -/
def whoB (bs : List Ba) (s : ByteArray) : ByteArray := ((bs.find? fun x => memS x.has s).map (·.nm)).getD ⟨#[]⟩
noncomputable def whoS (b : Bk) (s : ByteArray) : ByteArray := if bookB b = true then whoB b.bs s else ⟨#[]⟩
/-- No batch up to place k has a thing. -/
def FreeTo (bs : List Ba) (s : ByteArray) (k : Nat) : Prop := ∀ (i : Nat) (x : Ba), i < k → bs[i]? = some x → memS x.has s = false
theorem FreeTo.zero (bs : List Ba) (s : ByteArray) : FreeTo bs s 0 := fun i _ h => by omega
theorem FreeTo.step {bs : List Ba} {s : ByteArray} {k : Nat} (h : FreeTo bs s k) (hk : k < bs.length) (hl : memS (bs[k]).has s = false) : FreeTo bs s (k + 1) := fun i a hi ha => by
  by_cases e : i = k
  · subst e
    rw [List.getElem?_eq_getElem hk] at ha
    obtain rfl := Option.some.inj ha
    exact hl
  · exact h i a (by omega) ha
theorem whoB_at {bs : List Ba} {s : ByteArray} {k : Nat} (hk : k < bs.length) (h : FreeTo bs s k) (hl : memS (bs[k]).has s = true) : whoB bs s = (bs[k]).nm := by
  have : bs.find? (fun x => memS x.has s) = some bs[k] := by
    rw [List.find?_eq_some_iff_getElem]
    exact ⟨hl, k, hk, rfl, fun j hj => by rw [h j _ hj (by rw [List.getElem?_eq_getElem (by omega)])]; rfl⟩
  rw [whoB, this]; rfl
theorem whoB_none {bs : List Ba} {s : ByteArray} {k : Nat} (hk : ¬ k < bs.length) (h : FreeTo bs s k) : whoB bs s = ⟨#[]⟩ := by
  have : bs.find? (fun x => memS x.has s) = none := by
    rw [List.find?_eq_none]
    intro x hx
    obtain ⟨i, hi, rfl⟩ := List.getElem_of_mem hx
    rw [h i _ (by omega) (by rw [List.getElem?_eq_getElem])]; simp
  rw [whoB, this]; rfl
/-- The place of a text in a list, -1 if it is not there. -/
def idxI (l : List ByteArray) (s : ByteArray) : Int := if memS l s = true then (l.findIdx fun x => x.toList == s.toList : Nat) else -1
theorem idxI_found {l : List ByteArray} {s : ByteArray} {k : Nat} (hk : k < l.length) (h : memS (l.take k) s = false) (hq : ((l[k]).toList == s.toList) = true) : idxI l s = (k : Int) := by
  have hf : l.findIdx (fun x => x.toList == s.toList) = k := by
    rw [List.findIdx_eq hk]
    refine ⟨hq, fun j hj => ?_⟩
    rw [memS, List.any_eq_false] at h
    have := h (l[j]) (by rw [List.mem_take_iff_getElem]; exact ⟨j, by omega, rfl⟩)
    simpa using this
  rw [idxI, if_pos (memS_found hk hq), hf]
theorem idxI_none {l : List ByteArray} {s : ByteArray} (h : memS l s = false) : idxI l s = -1 := by rw [idxI, h]; simp
theorem idxI_mem (l : List ByteArray) (s : ByteArray) : decide (0 ≤ idxI l s) = memS l s := by
  cases h : memS l s
  · rw [idxI_none h]; rfl
  · rw [idxI, if_pos h]; simp
theorem beq_flip (a b : List UInt8) : (a == b) = (b == a) := by
  rw [Bool.eq_iff_iff, beq_iff_eq, beq_iff_eq]; exact eq_comm
end Go.Proofs.YtnojjmkmkelbgaaGreat

/- Books in memory: lists of texts, batches, a book. -/
namespace Go.Proofs.YtnojjmkmkelbgaaGreat
open Go.RowKit

/-- A list of texts that a slice leads to. -/
def Ls (w : World) (v : Value) (ss : List ByteArray) : Prop :=
  ∃ a c, v = .slice a ss.length c ∧ ss.length ≤ maxLen ∧ (∀ s ∈ ss, s.size ≤ maxLen) ∧ (0 < ss.length → ∃ b o, a = some ⟨b, o, none⟩ ∧ StrsAt w b o ss ∧ b < w.heap.size)
theorem StrsAt.up {w w' : World} {g o : Nat} {ss : List ByteArray} (h : StrsAt w g o ss) (hb : Below w.heap.size w w') (hg : g < w.heap.size) : StrsAt w' g o ss :=
  fun i s hs => (hb.cell (p := ⟨g, o + i, none⟩) hg).trans (h i s hs)
theorem StrsAt.cell {w : World} {g o : Nat} {ss : List ByteArray} (h : StrsAt w g o ss) {k : Nat} (hk : k < ss.length) : w.cell? ⟨g, o + k, none⟩ = some (.string ss[k]) := h k _ (by rw [List.getElem?_eq_getElem])
theorem Ls.up {w w' : World} {v : Value} {ss : List ByteArray} (h : Ls w v ss) (hb : Below w.heap.size w w') : Ls w' v ss := by
  obtain ⟨a, c, rfl, h1, h2, h3⟩ := h
  refine ⟨a, c, rfl, h1, h2, fun hp => ?_⟩
  obtain ⟨b, o, rfl, hS, hlt⟩ := h3 hp
  exact ⟨b, o, rfl, hS.up hb hlt, Nat.lt_of_lt_of_le hlt hb.size⟩
theorem Ls.inv {w : World} {a : Option Addr} {n c : Nat} {ss : List ByteArray} (h : Ls w (.slice a n c) ss) : ss.length ≤ maxLen ∧ (∀ s ∈ ss, s.size ≤ maxLen) ∧ (0 < ss.length → ∃ b o, a = some ⟨b, o, none⟩ ∧ StrsAt w b o ss ∧ b < w.heap.size) := by
  obtain ⟨a', c', e, h1⟩ := h
  obtain ⟨rfl, -, rfl⟩ := Value.slice.inj e
  exact h1
theorem Ls.drew {w : World} {v : Value} {ss : List ByteArray} (h : Ls w v ss) : Ls w.drew v ss := h
theorem Ls.drewN {w : World} {v : Value} {ss : List ByteArray} (h : Ls w v ss) {n : Nat} : Ls (w.drewN n) v ss := h
theorem Ls.take {w : World} {a : Option Addr} {c : Nat} {ss : List ByteArray} (h : Ls w (.slice a ss.length c) ss) {k : Nat} (hk : k ≤ ss.length) (c' : Nat) : Ls w (.slice a k c') (ss.take k) := by
  obtain ⟨a', c', e, h1, h2, h3⟩ := h
  obtain ⟨rfl, -, rfl⟩ := Value.slice.inj e
  have hl : (ss.take k).length = k := by rw [List.length_take]; omega
  refine ⟨a, _, by rw [hl], by rw [hl]; omega, fun s hs => h2 s (List.mem_of_mem_take hs), fun hp => ?_⟩
  obtain ⟨b, o, rfl, hS, hlt⟩ := h3 (by omega)
  exact ⟨b, o, rfl, hS.take k, hlt⟩
theorem Ls.nil (w : World) (a : Option Addr) (c : Nat) : Ls w (.slice a 0 c) [] := ⟨a, c, rfl, by simp, fun s hs => by simp at hs, fun h => by simp at h⟩
theorem Lst.ls {w : World} {v : Value} {ss : List ByteArray} (h : Lst w v ss) (hz : ∀ s ∈ ss, s.size ≤ maxLen) : Ls w v ss := by
  rcases h with ⟨rfl, rfl⟩ | ⟨g, c, rfl, hS, hg, h1, h2⟩
  · exact Ls.nil _ _ _
  · exact ⟨_, c, rfl, by omega, hz, fun _ => ⟨g, 0, rfl, hS, hg⟩⟩
/-- A batch's three cells. -/
def BaAt (w : World) (b o : Nat) (x : Ba) : Prop := ∃ hv nv, w.rangeAt b o [.string x.nm, hv, nv] ∧ Ls w hv x.has ∧ Ls w nv x.needs ∧ x.nm.size ≤ maxLen
theorem BaAt.up {w w' : World} {b o : Nat} {x : Ba} (h : BaAt w b o x) (hb : Below w.heap.size w w') (hlt : b < w.heap.size) : BaAt w' b o x := by
  obtain ⟨hv, nv, hr, h1, h2, h3⟩ := h
  exact ⟨hv, nv, fun j v hv => (hb.cell (p := ⟨b, o + j, none⟩) hlt).trans (hr j v hv), h1.up hb, h2.up hb, h3⟩
def BsAt (w : World) (b o : Nat) (bs : List Ba) : Prop := ∀ (i : Nat) (x : Ba), bs[i]? = some x → BaAt w b (o + i * 3) x
theorem BsAt.up {w w' : World} {b o : Nat} {bs : List Ba} (h : BsAt w b o bs) (hb : Below w.heap.size w w') (hlt : b < w.heap.size) : BsAt w' b o bs := fun i x hx => (h i x hx).up hb hlt
theorem BsAt.at {w : World} {b o : Nat} {bs : List Ba} (h : BsAt w b o bs) {k : Nat} (hk : k < bs.length) : BaAt w b (o + k * 3) bs[k] := h k _ (by rw [List.getElem?_eq_getElem])
/-- The cells of a batch, its lists with their shapes. -/
theorem BaAt.cells {w : World} {b o : Nat} {x : Ba} (h : BaAt w b o x) : ∃ a1 c1 a2 c2, w.cell? ⟨b, o, none⟩ = some (.string x.nm) ∧ w.cell? ⟨b, o + 1, none⟩ = some (.slice a1 x.has.length c1) ∧ w.cell? ⟨b, o + 2, none⟩ = some (.slice a2 x.needs.length c2) ∧
    Ls w (.slice a1 x.has.length c1) x.has ∧ Ls w (.slice a2 x.needs.length c2) x.needs ∧ x.nm.size ≤ maxLen := by
  obtain ⟨hv, nv, hr, h1, h2, h3⟩ := h
  obtain ⟨a1, c1, rfl, -⟩ := id h1
  obtain ⟨a2, c2, rfl, -⟩ := id h2
  exact ⟨a1, c1, a2, c2, hr 0 _ rfl, hr 1 _ rfl, hr 2 _ rfl, h1, h2, h3⟩
/-- The batches that a slice leads to. -/
def Bs (w : World) (v : Value) (bs : List Ba) : Prop := ∃ a c, v = .slice a bs.length c ∧ bs.length ≤ maxLen ∧ (0 < bs.length → ∃ b o, a = some ⟨b, o, none⟩ ∧ BsAt w b o bs ∧ b < w.heap.size)
theorem Bs.up {w w' : World} {v : Value} {bs : List Ba} (h : Bs w v bs) (hb : Below w.heap.size w w') : Bs w' v bs := by
  obtain ⟨a, c, rfl, h1, h3⟩ := h
  refine ⟨a, c, rfl, h1, fun hp => ?_⟩
  obtain ⟨b, o, rfl, hS, hlt⟩ := h3 hp
  exact ⟨b, o, rfl, hS.up hb hlt, Nat.lt_of_lt_of_le hlt hb.size⟩
theorem Bs.drew {w : World} {v : Value} {bs : List Ba} (h : Bs w v bs) : Bs w.drew v bs := h
/-- A book, as a value. -/
def BkV (w : World) (v : Value) (b : Bk) : Prop := ∃ tv bv, v = .agg #[tv, bv] ∧ Ls w tv b.things ∧ Bs w bv b.bs
theorem BkV.up {w w' : World} {v : Value} {b : Bk} (h : BkV w v b) (hb : Below w.heap.size w w') : BkV w' v b := by
  obtain ⟨tv, bv, rfl, h1, h2⟩ := h
  exact ⟨tv, bv, rfl, h1.up hb, h2.up hb⟩
theorem BkV.drew {w : World} {v : Value} {b : Bk} (h : BkV w v b) : BkV w.drew v b := h
theorem BkV.parts {w : World} {v : Value} {b : Bk} (h : BkV w v b) : ∃ a1 c1 a2 c2, v = .agg #[.slice a1 b.things.length c1, .slice a2 b.bs.length c2] ∧ Ls w (.slice a1 b.things.length c1) b.things ∧ Bs w (.slice a2 b.bs.length c2) b.bs := by
  obtain ⟨tv, bv, rfl, h1, h2⟩ := h
  obtain ⟨a1, c1, rfl, -⟩ := id h1
  obtain ⟨a2, c2, rfl, -⟩ := id h2
  exact ⟨a1, c1, a2, c2, rfl, h1, h2⟩
theorem CB.c2' {w : World} {b : Nat} {x0 x1 : Value} (h : CB w b [x0, x1]) : w.cell? ⟨b, 0, none⟩ = some x0 ∧ w.cell? ⟨b, 1, none⟩ = some x1 := h.c2.1
theorem Bs.at {w : World} {a : Option Addr} {n c : Nat} {bs : List Ba} (h : Bs w (.slice a n c) bs) : bs.length ≤ maxLen ∧ (0 < bs.length → ∃ b o, a = some ⟨b, o, none⟩ ∧ BsAt w b o bs ∧ b < w.heap.size) := by
  obtain ⟨a', c', e, h1⟩ := h
  obtain ⟨rfl, -, rfl⟩ := Value.slice.inj e
  exact h1
end Go.Proofs.YtnojjmkmkelbgaaGreat

/- The specification's walks over names and lists of texts (chapter 11). -/
namespace Go.Proofs.YtnojjmkmkelbgaaGreat
open Go.RowKit

theorem in11_any (n lo hi : Int) (w : World) :
    Calls Tryz.prog 43 #[.int .i64 n, .int .i64 lo, .int .i64 hi] w fun e w' => e = .returned (.bool (inB n lo hi)) ∧ w' = w := by
  by_cases h1 : lo ≤ n <;> by_cases h2 : n ≤ hi
  all_goals
    go_enter Tryz.func43, Tryz.ntmps43
    go_wp2
    go_ret
    exact ⟨ret_bool (by simp [inB, h1, h2]), rfl⟩

theorem name11_any (s : ByteArray) (w : World) (hs : s.size ≤ maxLen) :
    Calls Tryz.prog 25 #[.string s] w fun e w' => e = .returned (.bool (nameB s)) ∧ w' = w := by
  unfold maxLen at hs
  by_cases h1 : 1 ≤ s.size ∧ s.size ≤ 8
  case neg =>
    have h2 : inB s.size 1 8 = false := (inB_no _ _ _).2 (by omega)
    go_enter Tryz.func25, Tryz.ntmps25
    go_wp2_with (go_at_call 43; refine (in11_any _ _ _ _).mono ?_; rintro e w' ⟨rfl, hw⟩; obtain rfl := hw.symm; clear hw)
    go_ret
    exact ⟨ret_bool (by simp only [nameB]; simp; omega), rfl⟩
  have hn : Hid (nameB s = allB s.data.toList) := by show nameB s = _; simp [nameB, h1]
  have h2 : inB s.size 1 8 = true := (inB_iff _ _ _).2 (by omega)
  go_enter Tryz.func25, Tryz.ntmps25
  go_wp2_with (go_at_call 43; refine (in11_any _ _ _ _).mono ?_; rintro e w' ⟨rfl, hw⟩; obtain rfl := hw.symm; clear hw)
  go_loop [3] (fun i => ∃ k : Nat, k ≤ s.size ∧ i = .int .i64 k ∧ allB (s.data.toList.take k) = true) (fun i => s.size - (intOf i).toNat)
  case atStart => exact ⟨0, by omega, rfl, rfl⟩
  case round =>
    obtain ⟨k, hk, rfl, hal⟩ := hrel
    have Hal : Hid (allB (s.data.toList.take k) = true) := hal
    clear hal
    by_cases hp : k < s.size
    · have HS : Hid (nbB (s[k]'hp).toNat = true → allB (s.data.toList.take (k + 1)) = true) := by show _ → _; intro hb; rw [allB_take s k hp, Hal.out, hb]; rfl
      have HN : Hid (nbB (s[k]'hp).toNat = false → allB s.data.toList = false) := allB_no s k hp
      go_wp2
      all_goals first
        | (go_ret; exact ⟨ret_bool (by rw [hn.out]; exact (HN.out (by rw [← Bool.not_eq_true, nbB_iff]; go_light; simp at *; omega)).symm), rfl⟩)
        | (go_round
           case rel => exact ⟨k + 1, by omega, by go_num, HS.out (by rw [nbB_iff]; go_light; simp at *; omega)⟩
           case measure => simp [intOf]; omega)
    · go_wp2
      go_ret
      exact ⟨ret_bool (by rw [hn.out, allB_yes s k hp Hal.out]), rfl⟩

theorem has11_any (ss : List ByteArray) (v : Value) (s : ByteArray) (w : World) (h : Ls w v ss) :
    Calls Tryz.prog 41 #[v, .string s] w fun e w' => e = .returned (.bool (memS ss s)) ∧ w' = w := by
  obtain ⟨a, c, rfl, hn, -, hpos⟩ := h
  unfold maxLen at hn
  go_enter Tryz.func41, Tryz.ntmps41
  go_wp2
  go_loop [5] (fun i => ∃ k : Nat, k ≤ ss.length ∧ i = .int .i64 k ∧ memS (ss.take k) s = false) (fun i => ss.length - (intOf i).toNat)
  case atStart => exact ⟨0, by omega, rfl, rfl⟩
  case round =>
    obtain ⟨k, hk, rfl, hal⟩ := hrel
    have Hal : Hid (memS (ss.take k) s = false) := hal
    clear hal
    by_cases hp : k < ss.length
    · obtain ⟨b, o, rfl, hS, hb⟩ := hpos (by omega)
      have c0 := hS.cell hp
      cases hq : ((ss[k]).toList == s.toList)
      · have Hq : Hid (((ss[k]).toList == s.toList) = false) := hq
        go_wp2
        go_round
        case rel => exact ⟨k + 1, by omega, by go_num, memS_take hp Hal.out Hq.out⟩
        case measure => simp [intOf]; omega
      · have Hq : Hid (((ss[k]).toList == s.toList) = true) := hq
        go_wp2
        go_ret
        exact ⟨ret_bool (memS_found hp Hq.out).symm, rfl⟩
    · go_wp2
      go_ret
      exact ⟨ret_bool (memS_all hp Hal.out).symm, rfl⟩

theorem share11_any (xs ys : List ByteArray) (u v : Value) (w : World) (h : Ls w u xs) (h2 : Ls w v ys) :
    Calls Tryz.prog 27 #[u, v] w fun e w' => e = .returned (.bool (shareB xs ys)) ∧ w' = w := by
  obtain ⟨a, c, rfl, hn, -, hpos⟩ := h
  obtain ⟨a2, c2, rfl, -⟩ := id h2
  unfold maxLen at hn
  go_enter Tryz.func27, Tryz.ntmps27
  go_wp2
  go_loop [5] (fun i => ∃ k : Nat, k ≤ xs.length ∧ i = .int .i64 k ∧ shareB (xs.take k) ys = false) (fun i => xs.length - (intOf i).toNat)
  case atStart => exact ⟨0, by omega, rfl, rfl⟩
  case round =>
    obtain ⟨k, hk, rfl, hal⟩ := hrel
    have Hal : Hid (shareB (xs.take k) ys = false) := hal
    clear hal
    by_cases hp : k < xs.length
    · obtain ⟨b, o, rfl, hS, hb⟩ := hpos (by omega)
      have c0 := hS.cell hp
      cases hq : memS ys xs[k]
      · have Hq : Hid (memS ys xs[k] = false) := hq
        go_wp2_with (go_at_call 41; refine (has11_any ys _ _ _ h2).mono ?_; rintro e w' ⟨rfl, hw⟩; obtain rfl := hw.symm; clear hw)
        go_round
        case rel => exact ⟨k + 1, by omega, by go_num, shareB_take hp Hal.out Hq.out⟩
        case measure => simp [intOf]; omega
      · have Hq : Hid (memS ys xs[k] = true) := hq
        go_wp2_with (go_at_call 41; refine (has11_any ys _ _ _ h2).mono ?_; rintro e w' ⟨rfl, hw⟩; obtain rfl := hw.symm; clear hw)
        go_ret
        exact ⟨ret_bool (shareB_found hp Hq.out).symm, rfl⟩
    · go_wp2
      go_ret
      exact ⟨ret_bool (shareB_all hp Hal.out).symm, rfl⟩
theorem drew_more {w w' : World} {m n : Nat} (h : w' = w.drewN m) : ∃ k, w'.drewN n = w.drewN k := ⟨_, by rw [h, World.drewN_drewN]⟩

set_option maxHeartbeats 1000000 in
theorem namesOk11_any (ss all : List ByteArray) (u v : Value) (w : World) (h : Ls w u ss) (h2 : Ls w v all) :
    Calls Tryz.prog 26 #[u, v] w fun e w' => e = .returned (.bool (pB (PartOk ss all))) ∧ ∃ m, w' = w.drewN m := by
  obtain ⟨a, c, rfl, hn, -, hpos⟩ := h
  obtain ⟨a2, c2, rfl, -⟩ := id h2
  unfold maxLen at hn
  go_enter Tryz.func26, Tryz.ntmps26
  go_wp2
  go_loopw [5] (fun i w' => ∃ k m : Nat, k ≤ ss.length ∧ i = .int .i64 k ∧ PartTo ss all k ∧ AscTo ss k ∧ w' = w.drewN m) (fun i _ => ss.length - (intOf i).toNat)
  case atStart => exact ⟨0, 0, by omega, rfl, PartTo.zero _ _, AscTo.zero _, rfl⟩
  case round =>
    obtain ⟨k, m, hk, rfl, hal, hasc, hw⟩ := hrel
    have Hw : Hid (wr = w.drewN m) := hw
    clear hw
    have Hal : Hid (PartTo ss all k) := hal
    have Hasc : Hid (AscTo ss k) := hasc
    clear hal hasc
    by_cases hp : k < ss.length
    · obtain ⟨b, o, rfl, hS, hb⟩ := hpos (by omega)
      have c0 : wr.cell? ⟨b, o + k, none⟩ = some (.string ss[k]) := by rw [Hw.out]; exact hS.cell hp
      cases hq : memS all ss[k]
      · have Hq : Hid (¬ PartOk ss all) := fun h => by rw [part_at h.1 hp] at hq; cases hq
        go_wp2_with fail
        go_quiet ((go_at_call 41; exact Calls.quiet_of_same (has11_any all _ _ _ (by have e := Hw.out; subst e; exact h2))))
        go_wp2
        go_ret
        exact ⟨ret_bool (pB_no Hq.out).symm, drew_more Hw.out⟩
      have Hq : Hid (PartTo ss all (k + 1)) := Hal.out.step hp hq
      cases k with
      | zero =>
        simp only [Nat.add_zero] at c0
        go_wp2_with fail
        go_quiet ((go_at_call 41; exact Calls.quiet_of_same (has11_any all _ _ _ (by have e := Hw.out; subst e; exact h2))))
        go_wp2
        go_roundw
        case rel => obtain ⟨m', hm'⟩ := drew_more (n := nq) Hw.out; exact ⟨1, m', by omega, by go_num, Hq.out, AscTo.one _, hm'⟩
        case measure => simp [intOf]; omega
      | succ k =>
        have c1 : wr.cell? ⟨b, o + k, none⟩ = some (.string ss[k]) := by rw [Hw.out]; exact hS.cell (k := k) (by omega)
        cases hl : ltS ss[k] ss[k + 1]
        · have Hl : Hid (¬ PartOk ss all) := fun h => by rw [asc_at h.2 hp] at hl; cases hl
          unfold ltS at hl
          go_wp2_with fail
          go_quiet ((go_at_call 41; exact Calls.quiet_of_same (has11_any all _ _ _ (by have e := Hw.out; subst e; exact h2))))
          go_wp2
          go_ret
          exact ⟨ret_bool (pB_no Hl.out).symm, drew_more Hw.out⟩
        · have Hl : Hid (AscTo ss (k + 2)) := Hasc.out.step hp hl
          unfold ltS at hl
          go_wp2_with fail
          go_quiet ((go_at_call 41; exact Calls.quiet_of_same (has11_any all _ _ _ (by have e := Hw.out; subst e; exact h2))))
          go_wp2
          go_roundw
          case rel => obtain ⟨m', hm'⟩ := drew_more (n := nq) Hw.out; exact ⟨k + 1 + 1, m', by omega, by go_num, Hq.out, Hl.out, hm'⟩
          case measure => simp [intOf]; omega
    · go_wp2
      go_ret
      exact ⟨ret_bool (pB_yes ⟨part_end Hal.out hp, asc_end Hasc.out hp⟩).symm, _, Hw.out⟩

set_option maxHeartbeats 1000000 in
theorem thingsOk11_any (ss : List ByteArray) (u : Value) (w : World) (h : Ls w u ss) :
    Calls Tryz.prog 24 #[u] w fun e w' => e = .returned (.bool (pB (ThingsOk ss))) ∧ ∃ m, w' = w.drewN m := by
  obtain ⟨a, c, rfl, hn, hz, hpos⟩ := h
  unfold maxLen at hn
  by_cases h8 : 8 < ss.length
  · go_enter Tryz.func24, Tryz.ntmps24
    go_wp2
    go_ret
    exact ⟨ret_bool (pB_no fun h => by have := h.1; omega).symm, 0, rfl⟩
  have H8 : Hid (ss.length ≤ 8) := by show _ ≤ _; omega
  go_enter Tryz.func24, Tryz.ntmps24
  go_wp2
  go_loopw [3] (fun i w' => ∃ k m : Nat, k ≤ ss.length ∧ i = .int .i64 k ∧ NamesTo ss k ∧ AscTo ss k ∧ w' = w.drewN m) (fun i _ => ss.length - (intOf i).toNat)
  case atStart => exact ⟨0, 0, by omega, rfl, NamesTo.zero _, AscTo.zero _, rfl⟩
  case round =>
    obtain ⟨k, m, hk, rfl, hal, hasc, hw⟩ := hrel
    have Hw : Hid (wr = w.drewN m) := hw
    clear hw
    have Hal : Hid (NamesTo ss k) := hal
    have Hasc : Hid (AscTo ss k) := hasc
    clear hal hasc
    by_cases hp : k < ss.length
    · obtain ⟨b, o, rfl, hS, hb⟩ := hpos (by omega)
      have c0 : wr.cell? ⟨b, o + k, none⟩ = some (.string ss[k]) := by rw [Hw.out]; exact hS.cell hp
      have z0 := hz ss[k] (by simp)
      cases hq : nameB ss[k]
      · have Hq : Hid (¬ ThingsOk ss) := fun h => by rw [names_at h.2.1 hp] at hq; cases hq
        go_wp2_with fail
        go_quiet ((go_at_call 25; exact Calls.quiet_of_same (name11_any _ _ z0)))
        go_wp2
        go_ret
        exact ⟨ret_bool (pB_no Hq.out).symm, drew_more Hw.out⟩
      have Hq : Hid (NamesTo ss (k + 1)) := Hal.out.step hp hq
      cases k with
      | zero =>
        simp only [Nat.add_zero] at c0
        go_wp2_with fail
        go_quiet ((go_at_call 25; exact Calls.quiet_of_same (name11_any _ _ z0)))
        go_wp2
        go_roundw
        case rel => obtain ⟨m', hm'⟩ := drew_more (n := nq) Hw.out; exact ⟨1, m', by omega, by go_num, Hq.out, AscTo.one _, hm'⟩
        case measure => simp [intOf]; omega
      | succ k =>
        have c1 : wr.cell? ⟨b, o + k, none⟩ = some (.string ss[k]) := by rw [Hw.out]; exact hS.cell (k := k) (by omega)
        cases hl : ltS ss[k] ss[k + 1]
        · have Hl : Hid (¬ ThingsOk ss) := fun h => by rw [asc_at h.2.2 hp] at hl; cases hl
          unfold ltS at hl
          go_wp2_with fail
          go_quiet ((go_at_call 25; exact Calls.quiet_of_same (name11_any _ _ z0)))
          go_wp2
          go_ret
          exact ⟨ret_bool (pB_no Hl.out).symm, drew_more Hw.out⟩
        · have Hl : Hid (AscTo ss (k + 2)) := Hasc.out.step hp hl
          unfold ltS at hl
          go_wp2_with fail
          go_quiet ((go_at_call 25; exact Calls.quiet_of_same (name11_any _ _ z0)))
          go_wp2
          go_roundw
          case rel => obtain ⟨m', hm'⟩ := drew_more (n := nq) Hw.out; exact ⟨k + 1 + 1, m', by omega, by go_num, Hq.out, Hl.out, hm'⟩
          case measure => simp [intOf]; omega
    · go_wp2
      go_ret
      exact ⟨ret_bool (pB_yes ⟨H8.out, names_end Hal.out hp, asc_end Hasc.out hp⟩).symm, _, Hw.out⟩
end Go.Proofs.YtnojjmkmkelbgaaGreat
