/- The reader of a code; what grows; lists of texts: plain facts. -/
import Derived.Test.YtlkpgiifdclijaaGreatDoorJ0
import Derived.Laws.Bits64
import Derived.Deep.QuietTactic
import Derived.BigQuiet
import Derived.Test.YtlkpgiifdclijaaGreatDoorJ4
import Derived.Deep.DeepCutAuto
import Derived.Deep.RegionLaw
import Derived.Test.YtlkpgiifdclijaaGreatDoorPt
import Derived.Deep.RegionHeld
namespace Go.Proofs.YtlkpgiifdclijaaGreatDoor
open Go.RowKit

theorem xor_i64 (a b : Nat) (ha : a < 4611686018427387904) (hb : b < 4611686018427387904) : 0 ≤ bits .xor .i64 (a : Int) (b : Int) ∧ bits .xor .i64 (a : Int) (b : Int) < 4611686018427387904 := by
  have hx : a ^^^ b < 2 ^ 62 := Nat.xor_lt_two_pow (by omega) (by omega)
  have h1 : (BitVec.ofInt 64 (a : Int)).toNat = a := by
    rw [BitVec.ofInt_natCast, BitVec.toNat_ofNat]; exact Nat.mod_eq_of_lt (by omega)
  have h2 : (BitVec.ofInt 64 (b : Int)).toNat = b := by
    rw [BitVec.ofInt_natCast, BitVec.toNat_ofNat]; exact Nat.mod_eq_of_lt (by omega)
  have e : bits .xor .i64 (a : Int) (b : Int) = IntKind.i64.wrap ((a ^^^ b : Nat) : Int) := by
    show IntKind.i64.wrap ((BitVec.ofInt 64 (a : Int) ^^^ BitVec.ofInt 64 (b : Int)).toNat : Int) = _
    rw [BitVec.toNat_xor, h1, h2]
  rw [e, IntKind.wrap_i64]
  omega

/-- The bytes of a code, apart from block rb. -/
def BytesAt (w : World) (rb : Nat) (v : Value) (len : Nat) : Prop := ∃ (a : Option Addr) (cap : Nat), v = .slice a len cap ∧ (len = 0 ∨ ∃ (b o : Nat) (z : Nat → Int), a = some ⟨b, o, none⟩ ∧ b < rb ∧ ∀ i, i < len → w.cell? ⟨b, o + i, none⟩ = some (.int .u8 (z i)) ∧ 0 ≤ z i ∧ z i ≤ 255)
/-- The reader: at most N have been picked. -/
def Rd (w : World) (rb : Nat) (v : Value) (len N : Nat) : Prop := ∃ p : Nat, p ≤ N ∧ w.cell? ⟨rb, 0, none⟩ = some v ∧ w.cell? ⟨rb, 1, none⟩ = some (.int .i64 p) ∧ w.frozen? ⟨rb, 1, none⟩ = false ∧ BytesAt w rb v len ∧ len ≤ 2000
theorem BytesAt.kept {w w' : World} {rb len : Nat} {v : Value} (h : BytesAt w rb v len) (hg : w.grownBy w' (some rb)) : BytesAt w' rb v len := by
  obtain ⟨a, cap, hv, h⟩ := h
  refine ⟨a, cap, hv, ?_⟩
  rcases h with h | ⟨b, o, z, ha, hb, hz⟩
  · exact .inl h
  · exact .inr ⟨b, o, z, ha, hb, fun i hi => ⟨hg.cell (hz i hi).1 (by simp; omega), (hz i hi).2⟩⟩

theorem Rd.drewN {w : World} {rb len N : Nat} {v : Value} (h : Rd w rb v len N) (n : Nat) : Rd (w.drewN n) rb v len N := h

theorem Rd.mono {w : World} {rb len N M : Nat} {v : Value} (h : Rd w rb v len N) (hM : N ≤ M) : Rd w rb v len M := by
  obtain ⟨p, hp, r⟩ := h
  exact ⟨p, by omega, r⟩
theorem Rd.lt {w : World} {rb len N : Nat} {v : Value} (h : Rd w rb v len N) : rb < w.heap.size := by
  obtain ⟨p, hp, c0, _⟩ := h
  exact World.block_lt_of_cell? w _ c0
theorem Rd.kept {w w' : World} {rb len N : Nat} {v : Value} (h : Rd w rb v len N) (hb : Below w.heap.size w w') : Rd w' rb v len N := by
  have hlt := h.lt
  obtain ⟨p, hp, c0, c1, f1, by1, hl⟩ := h
  exact ⟨p, hp, (hb.cell (p := ⟨rb, 0, none⟩) hlt).trans c0, (hb.cell (p := ⟨rb, 1, none⟩) hlt).trans c1, (hb.frozen (p := ⟨rb, 1, none⟩) hlt).trans f1, by1.kept (grown_below hb), hl⟩
theorem Rd.alloc {w : World} {rb len N : Nat} {v : Value} (h : Rd w rb v len N) (o : Obj) : Rd (w.alloc o) rb v len N := h.kept ((Below.refl _ _).alloc (Nat.le_refl _) _)
theorem Rd.setCell {w : World} {rb len N pb off : Nat} {v u : Value} (h : Rd w rb v len N) (hlt : rb < pb) : Rd (w.setCell ⟨pb, off, none⟩ u) rb v len N := by
  obtain ⟨p, hp, c0, c1, f1, ⟨a, cap, hv, hb⟩, hl⟩ := h
  refine ⟨p, hp, ?_, ?_, ?_, ⟨a, cap, hv, ?_⟩, hl⟩
  · rw [World.cell?_setCell_other _ _ _ _ (by simp <;> omega)]; exact c0
  · rw [World.cell?_setCell_other _ _ _ _ (by simp <;> omega)]; exact c1
  · rw [World.frozen?_setCell]; exact f1
  · rcases hb with hb | ⟨b, o, z, rfl, h1, hz⟩
    · exact .inl hb
    · refine .inr ⟨b, o, z, rfl, h1, fun i hi => ⟨?_, (hz i hi).2⟩⟩
      rw [World.cell?_setCell_other _ _ _ _ (by simp <;> omega)]; exact (hz i hi).1
/-- The texts of a list all have sizes. -/
def SzS (ss : List ByteArray) : Prop := ∀ s ∈ ss, s.size ≤ maxLen
theorem sz_lit {ss : List ByteArray} (h : (ss.all fun s => decide (s.size ≤ 100)) = true) : SzS ss := fun s hs => by
  have := List.all_eq_true.1 h s hs
  simp only [decide_eq_true_eq] at this
  unfold maxLen; omega
theorem strsAt_alloc (w : World) (ss : List ByteArray) (t : TypeId) : StrsAt (w.alloc (.cells (ss.map Value.string).toArray t)) w.heap.size 0 ss := fun i s hs => by
  have : ((ss.map Value.string).toArray)[i]? = some (.string s) := by simp [hs]
  simp [go_sem, World.cell?_alloc_at, this]
theorem Rd.row {w w' : World} {rb len N k : Nat} {v : Value} (h : Rd w rb v len N) (hg : w.grownBy w' (some k)) (hk : rb < k) : Rd w' rb v len N := by
  have hlt := h.lt
  obtain ⟨p, hp, c0, c1, f1, ⟨a, cap, hv, hb⟩, hl⟩ := h
  have hbl := hg.block rb hlt (by simp; omega)
  refine ⟨p, hp, (World.cell?_of_block (w := w) (a := ⟨rb, 0, none⟩) hbl).trans c0, (World.cell?_of_block (w := w) (a := ⟨rb, 1, none⟩) hbl).trans c1, (World.frozen?_of_block (w := w) (a := ⟨rb, 1, none⟩) hbl).trans f1, ⟨a, cap, hv, ?_⟩, hl⟩
  rcases hb with hb | ⟨b, o, z, ha, h1, hz⟩
  · exact .inl hb
  · exact .inr ⟨b, o, z, ha, h1, fun i hi => ⟨hg.cell (hz i hi).1 (by simp; omega), (hz i hi).2⟩⟩
theorem Rd.own {w w' : World} {rb len N base e size n : Nat} {v u : Value} {xs : List Value} (h : Rd w rb v len N) (hown : w.ownsRow base e size u n xs) (hg : w.grownBy w' u.ownBlock) (hk : rb < base) : Rd w' rb v len N := by
  have hlt := h.lt
  obtain ⟨p, hp, c0, c1, f1, ⟨a, cap, hv, hb⟩, hl⟩ := h
  have hbl := hg.block rb hlt (own_ne hown hk)
  refine ⟨p, hp, (World.cell?_of_block (w := w) (a := ⟨rb, 0, none⟩) hbl).trans c0, (World.cell?_of_block (w := w) (a := ⟨rb, 1, none⟩) hbl).trans c1, (World.frozen?_of_block (w := w) (a := ⟨rb, 1, none⟩) hbl).trans f1, ⟨a, cap, hv, ?_⟩, hl⟩
  rcases hb with hb | ⟨b, o, z, ha, h1, hz⟩
  · exact .inl hb
  · exact .inr ⟨b, o, z, ha, h1, fun i hi => ⟨hg.cell (hz i hi).1 (own_ne hown (b := b) (by omega)), (hz i hi).2⟩⟩
theorem Rd.drew {w : World} {rb len N : Nat} {v : Value} (h : Rd w rb v len N) : Rd w.drew rb v len N := h
theorem BytesAt.cut {w : World} {rb n m : Nat} {a : Option Addr} {cap : Nat} (h : BytesAt w rb (.slice a n cap) n) (hm : m ≤ n) : BytesAt w rb (.slice a m cap) m := by
  obtain ⟨a', cap', hv, h⟩ := h
  cases hv
  refine ⟨a, cap, rfl, ?_⟩
  rcases h with h | ⟨b, o, z, ha, hb, hz⟩
  · exact .inl (by omega)
  · exact .inr ⟨b, o, z, ha, hb, fun i hi => hz i (by omega)⟩
theorem BytesAt.up {w w' : World} {B rb len : Nat} {v : Value} (h : BytesAt w B v len) (hg : Below B w w') (hB : B ≤ rb) : BytesAt w' rb v len := by
  obtain ⟨a, cap, hv, h⟩ := h
  refine ⟨a, cap, hv, ?_⟩
  rcases h with h | ⟨b, o, z, ha, hb, hz⟩
  · exact .inl h
  · exact .inr ⟨b, o, z, ha, by omega, fun i hi => ⟨(hg.cell (p := ⟨b, o + i, none⟩) hb).trans (hz i hi).1, (hz i hi).2⟩⟩
theorem rd_alloc (w : World) (v : Value) (n : Nat) (t : TypeId) (h : BytesAt w w.heap.size v n) (hn : n ≤ 2000) : Rd (w.alloc (.cells #[v, .int .i64 0] t)) w.heap.size v n 0 :=
  ⟨0, Nat.le_refl _, by simp [go_sem], by simp [go_sem], by simp [go_sem], h.up ((Below.refl _ _).alloc (Nat.le_refl _) _) (Nat.le_refl _), hn⟩
theorem below_of_grown' {a b : World} {rb : Nat} (h : a.grownBy b (some rb)) (hrb : a.heap.size ≤ rb) : Below a.heap.size a b :=
  { os := h.os, tape := h.tape, output := h.output, size := h.size, block := fun i hi => h.block i hi (by simp; omega) }
end Go.Proofs.YtlkpgiifdclijaaGreatDoor

/- Drawing: the reader is opened; slots; a phase. -/
namespace Go.Proofs.YtlkpgiifdclijaaGreatDoor
open Go.RowKit

/-- A phase in a block of its own. -/
def Box (w : World) (pb : Nat) (p : Ph) : Prop := w.rangeAt pb 0 p.cells ∧ w.there pb 0 8
theorem Box.lt {w : World} {pb : Nat} {p : Ph} (h : Box w pb p) : pb < w.heap.size := World.block_lt_of_cell? w _ (h.1 0 _ rfl)
theorem Box.cells {w : World} {pb : Nat} {p : Ph} (h : Box w pb p) :
    w.cell? ⟨pb, 0, none⟩ = some (.string p.nm) ∧ w.cell? ⟨pb, 1, none⟩ = some (.int .i64 p.k) ∧ w.cell? ⟨pb, 2, none⟩ = some (.string p.a) ∧ w.cell? ⟨pb, 3, none⟩ = some (.string p.b) ∧
    w.cell? ⟨pb, 4, none⟩ = some (.int .i64 p.n) ∧ w.cell? ⟨pb, 5, none⟩ = some (.int .i64 p.wi) ∧ w.cell? ⟨pb, 6, none⟩ = some (.string p.t) ∧ w.cell? ⟨pb, 7, none⟩ = some (.string p.e) :=
  ⟨h.1 0 _ rfl, h.1 1 _ rfl, h.1 2 _ rfl, h.1 3 _ rfl, h.1 4 _ rfl, h.1 5 _ rfl, h.1 6 _ rfl, h.1 7 _ rfl⟩
theorem Box.frozen {w : World} {pb : Nat} {p : Ph} (h : Box w pb p) :
    w.frozen? ⟨pb, 0, none⟩ = false ∧ w.frozen? ⟨pb, 1, none⟩ = false ∧ w.frozen? ⟨pb, 2, none⟩ = false ∧ w.frozen? ⟨pb, 3, none⟩ = false ∧ w.frozen? ⟨pb, 4, none⟩ = false ∧ w.frozen? ⟨pb, 5, none⟩ = false ∧ w.frozen? ⟨pb, 6, none⟩ = false ∧ w.frozen? ⟨pb, 7, none⟩ = false :=
  ⟨(h.2 0 (by omega)).2, (h.2 1 (by omega)).2, (h.2 2 (by omega)).2, (h.2 3 (by omega)).2, (h.2 4 (by omega)).2, (h.2 5 (by omega)).2, (h.2 6 (by omega)).2, (h.2 7 (by omega)).2⟩
theorem Box.kept {w w' : World} {pb : Nat} {p : Ph} {r : Option Nat} (h : Box w pb p) (hg : w.grownBy w' r) (hne : some pb ≠ r) : Box w' pb p := by
  have hb := hg.block pb h.lt hne
  refine ⟨fun j v hv => ?_, fun j hj => ?_⟩
  · rw [World.cell?_of_block (w := w) (a := ⟨pb, 0 + j, none⟩) hb]; exact h.1 j v hv
  · rw [World.cell?_of_block (w := w) (a := ⟨pb, 0 + j, none⟩) hb, World.frozen?_of_block (w := w) (a := ⟨pb, 0 + j, none⟩) hb]; exact h.2 j hj
theorem box_alloc (w : World) (p : Ph) (t : TypeId) : Box (w.alloc (.cells #[.string p.nm, .int .i64 p.k, .string p.a, .string p.b, .int .i64 p.n, .int .i64 p.wi, .string p.t, .string p.e] t)) w.heap.size p := by
  have hr : (w.alloc (.cells #[.string p.nm, .int .i64 p.k, .string p.a, .string p.b, .int .i64 p.n, .int .i64 p.wi, .string p.t, .string p.e] t)).rangeAt w.heap.size 0 p.cells := by
    intro j v hv
    rw [Nat.zero_add, World.cell?_alloc_at]
    · simpa [Ph.cells] using hv
    · rfl
  refine ⟨hr, fun j hj => ⟨hr.isSome j hj, ?_⟩⟩
  simp [go_sem]
theorem range_set {w : World} {pb : Nat} {cs : List Value} {j : Nat} {u : Value} (h : w.rangeAt pb 0 cs) (hj : j < cs.length) : (w.setCell ⟨pb, j, none⟩ u).rangeAt pb 0 (cs.set j u) := by
  intro i x hx
  rw [List.getElem?_set] at hx
  by_cases e : j = i
  · subst e
    rw [if_pos rfl, if_pos hj] at hx
    obtain rfl := Option.some.inj hx
    have hc := h j cs[j] (by simp)
    rw [Nat.zero_add] at hc ⊢
    exact World.cell?_setCell_same _ _ _ hc
  · rw [if_neg e] at hx
    rw [World.cell?_setCell_other _ _ _ _ (by simp <;> omega)]
    exact h i x hx
theorem there_set {w : World} {pb n j : Nat} {u : Value} (h : w.there pb 0 n) : (w.setCell ⟨pb, j, none⟩ u).there pb 0 n := fun i hi => by
  have := World.there_setCells h pb j [u] i hi
  simpa [World.setCells] using this
theorem Box.set0 {w : World} {pb : Nat} {p : Ph} (h : Box w pb p) (s : ByteArray) : Box (w.setCell ⟨pb, 0, none⟩ (.string s)) pb { p with nm := s } := ⟨range_set h.1 (by simp [Ph.cells]), there_set h.2⟩
theorem Box.set1 {w : World} {pb : Nat} {p : Ph} (h : Box w pb p) (x : Int) : Box (w.setCell ⟨pb, 1, none⟩ (.int .i64 x)) pb { p with k := x } := ⟨range_set h.1 (by simp [Ph.cells]), there_set h.2⟩
theorem Box.set2 {w : World} {pb : Nat} {p : Ph} (h : Box w pb p) (s : ByteArray) : Box (w.setCell ⟨pb, 2, none⟩ (.string s)) pb { p with a := s } := ⟨range_set h.1 (by simp [Ph.cells]), there_set h.2⟩
theorem Box.set5 {w : World} {pb : Nat} {p : Ph} (h : Box w pb p) (x : Int) : Box (w.setCell ⟨pb, 5, none⟩ (.int .i64 x)) pb { p with wi := x } := ⟨range_set h.1 (by simp [Ph.cells]), there_set h.2⟩
theorem Box.set3 {w : World} {pb : Nat} {p : Ph} (h : Box w pb p) (s : ByteArray) : Box (w.setCell ⟨pb, 3, none⟩ (.string s)) pb { p with b := s } := ⟨range_set h.1 (by simp [Ph.cells]), there_set h.2⟩
theorem Box.set4 {w : World} {pb : Nat} {p : Ph} (h : Box w pb p) (x : Int) : Box (w.setCell ⟨pb, 4, none⟩ (.int .i64 x)) pb { p with n := x } := ⟨range_set h.1 (by simp [Ph.cells]), there_set h.2⟩
theorem Box.set6 {w : World} {pb : Nat} {p : Ph} (h : Box w pb p) (s : ByteArray) : Box (w.setCell ⟨pb, 6, none⟩ (.string s)) pb { p with t := s } := ⟨range_set h.1 (by simp [Ph.cells]), there_set h.2⟩
theorem Box.set7 {w : World} {pb : Nat} {p : Ph} (h : Box w pb p) (s : ByteArray) : Box (w.setCell ⟨pb, 7, none⟩ (.string s)) pb { p with e := s } := ⟨range_set h.1 (by simp [Ph.cells]), there_set h.2⟩
theorem Box.other {w : World} {pb qb j : Nat} {p : Ph} {u : Value} (h : Box w pb p) (hne : pb ≠ qb) : Box (w.setCell ⟨qb, j, none⟩ u) pb p :=
  h.kept (r := some qb) ⟨rfl, rfl, rfl, by simp, fun i _ hr => Below.heap_setCell _ _ _ _ (fun e => hr (by rw [e]))⟩ (by simpa using hne)

/-- A phase copied whole into its block. -/
theorem Box.copy {w : World} {pb : Nat} {p : Ph} (h : Box w pb p) (q : Ph) : Box ((((((((w.setCell ⟨pb, 0, none⟩ (.string q.nm)).setCell ⟨pb, 1, none⟩ (.int .i64 q.k)).setCell ⟨pb, 2, none⟩ (.string q.a)).setCell ⟨pb, 3, none⟩ (.string q.b)).setCell ⟨pb, 4, none⟩ (.int .i64 q.n)).setCell ⟨pb, 5, none⟩ (.int .i64 q.wi)).setCell ⟨pb, 6, none⟩ (.string q.t)).setCell ⟨pb, 7, none⟩ (.string q.e)) pb q :=
  (((((((h.set0 q.nm).set1 q.k).set2 q.a).set3 q.b).set4 q.n).set5 q.wi).set6 q.t).set7 q.e
theorem sizeRecPhase : (Tryz.prog.info? 82).map (·.size) = some 8 := by kernel_rfl
/-- What a function hands back that lies in its result's block. -/
theorem ret_box {fn : Func} {q : Tmp} (h : fn.results = #[.cell q 82]) {tmps : Array Value} {Z : World} {rk : Nat} {p : Ph} (ht : tmps.getD q undef = .pointer (some ⟨rk, 0, none⟩)) (hZ : Box Z rk p) :
    (results fn tmps).run Tryz.prog Z = .ok (.agg #[.string p.nm, .int .i64 p.k, .string p.a, .string p.b, .int .i64 p.n, .int .i64 p.wi, .string p.t, .string p.e]) Z := by
  have hl := run_loadVar_mid (P := Tryz.prog) Z rk 0 82 p.cells _ hZ.1 Tryz.underlying82 rfl sizeRecPhase
  have ha : (asAddr (.pointer (some ⟨rk, 0, none⟩))).run Tryz.prog Z = .ok ⟨rk, 0, none⟩ Z := by simp [go_sem]
  have ht' : tmps[q]?.getD undef = .pointer (some ⟨rk, 0, none⟩) := by simpa using ht
  simp only [results, h]
  simp [Sem.run_bind, Result.andThen, ht', ha, hl, Ph.cells]

def slotsL : List ByteArray := [⟨#[115, 49]⟩, ⟨#[115, 49]⟩, ⟨#[115, 50]⟩, ⟨#[115, 51]⟩, ⟨#[107, 101, 103]⟩]
end Go.Proofs.YtlkpgiifdclijaaGreatDoor

/- Drawing a phase: what is at hand. -/
namespace Go.Proofs.YtlkpgiifdclijaaGreatDoor
open Go.RowKit

def Ph.sz (p : Ph) : Prop := p.nm.size ≤ maxLen ∧ p.a.size ≤ maxLen ∧ p.b.size ≤ maxLen ∧ p.t.size ≤ maxLen ∧ p.e.size ≤ maxLen ∧ -5000 ≤ p.wi ∧ p.wi ≤ 5000
theorem sz0 : (⟨#[]⟩ : ByteArray).size ≤ maxLen := by unfold maxLen; decide

def stuffL : List ByteArray := [⟨#[97, 108, 101]⟩, ⟨#[109, 97, 108, 116]⟩]
def endsL : List ByteArray := [⟨#[103, 111, 111, 100]⟩, ⟨#[115, 97, 118, 101, 100]⟩, ⟨#[115, 99, 114, 97, 112, 112, 101, 100]⟩]
theorem sz_app {later : List ByteArray} (h : SzS later) : ∀ s ∈ endsL ++ later, s.size ≤ maxLen := fun s hs => by
  rcases List.mem_append.1 hs with hs | hs
  · exact sz_lit (ss := endsL) (by decide) s hs
  · exact h s hs

end Go.Proofs.YtlkpgiifdclijaaGreatDoor

/- A region that draws its order and holds an append to a row of the call's own; rows kept. -/
namespace Go.Proofs.YtlkpgiifdclijaaGreatDoor
open Go.RowKit

theorem new8 (w : World) (p : Ph) (ty : TypeId) {j : Nat} {u : Value} (h : p.cells[j]? = some u) : (w.alloc (.cells #[.string p.nm, .int .i64 p.k, .string p.a, .string p.b, .int .i64 p.n, .int .i64 p.wi, .string p.t, .string p.e] ty)).cell? ((⟨w.heap.size, 0, none⟩ : Addr).add j) = some u := by
  have := (box_alloc w p ty).1 j u h
  rw [Addr.add_mid]; exact this
theorem one8 (p : Ph) : ∀ u ∈ p.cells, u.oneCell' = true := fun u hu => by
  simp only [Ph.cells, List.mem_cons, List.not_mem_nil, or_false] at hu
  rcases hu with rfl | rfl | rfl | rfl | rfl | rfl | rfl | rfl <;> rfl
end Go.Proofs.YtlkpgiifdclijaaGreatDoor

/- Small facts for the walks that fill a table. -/
namespace Go.Proofs.YtlkpgiifdclijaaGreatDoor
open Go.RowKit

theorem endN_good : endN good = 1 := by unfold good endN; rw [toList_lit [103, 111, 111, 100]]; decide
theorem endN_saved : endN saved = 2 := by unfold saved endN; rw [toList_lit [115, 97, 118, 101, 100]]; decide
theorem endN_scrapped : endN scrapped = 3 := by unfold scrapped endN; rw [toList_lit [115, 99, 114, 97, 112, 112, 101, 100]]; decide

theorem held_up {W1 w0 w1 : World} {B : Nat} {x0 x1 x2 x3 x4 x5 x6 x7 : Value} (hB : B < W1.heap.size) (h : Below W1.heap.size W1 w0 ∧ w0.cell? ⟨B, 0, none⟩ = some x0 ∧ w0.cell? ⟨B, 1, none⟩ = some x1 ∧ w0.cell? ⟨B, 2, none⟩ = some x2 ∧ w0.cell? ⟨B, 3, none⟩ = some x3 ∧ w0.cell? ⟨B, 4, none⟩ = some x4 ∧ w0.cell? ⟨B, 5, none⟩ = some x5 ∧ w0.cell? ⟨B, 6, none⟩ = some x6 ∧ w0.cell? ⟨B, 7, none⟩ = some x7) (hb : Below w0.heap.size w0 w1) : Below W1.heap.size W1 w1 ∧ w1.cell? ⟨B, 0, none⟩ = some x0 ∧ w1.cell? ⟨B, 1, none⟩ = some x1 ∧ w1.cell? ⟨B, 2, none⟩ = some x2 ∧ w1.cell? ⟨B, 3, none⟩ = some x3 ∧ w1.cell? ⟨B, 4, none⟩ = some x4 ∧ w1.cell? ⟨B, 5, none⟩ = some x5 ∧ w1.cell? ⟨B, 6, none⟩ = some x6 ∧ w1.cell? ⟨B, 7, none⟩ = some x7 := by
  obtain ⟨h1, a0, a1, a2, a3, a4, a5, a6, a7⟩ := h
  have hl : B < w0.heap.size := Nat.lt_of_lt_of_le hB h1.size
  exact ⟨up_trans h1 hb, (hb.cell (p := ⟨B, 0, none⟩) hl).trans a0, (hb.cell (p := ⟨B, 1, none⟩) hl).trans a1, (hb.cell (p := ⟨B, 2, none⟩) hl).trans a2, (hb.cell (p := ⟨B, 3, none⟩) hl).trans a3, (hb.cell (p := ⟨B, 4, none⟩) hl).trans a4, (hb.cell (p := ⟨B, 5, none⟩) hl).trans a5, (hb.cell (p := ⟨B, 6, none⟩) hl).trans a6, (hb.cell (p := ⟨B, 7, none⟩) hl).trans a7⟩
theorem held_drew {W1 w0 : World} {B : Nat} {x0 x1 x2 x3 x4 x5 x6 x7 : Value} (h : Below W1.heap.size W1 w0 ∧ w0.cell? ⟨B, 0, none⟩ = some x0 ∧ w0.cell? ⟨B, 1, none⟩ = some x1 ∧ w0.cell? ⟨B, 2, none⟩ = some x2 ∧ w0.cell? ⟨B, 3, none⟩ = some x3 ∧ w0.cell? ⟨B, 4, none⟩ = some x4 ∧ w0.cell? ⟨B, 5, none⟩ = some x5 ∧ w0.cell? ⟨B, 6, none⟩ = some x6 ∧ w0.cell? ⟨B, 7, none⟩ = some x7) : Below W1.heap.size W1 w0.drew ∧ w0.drew.cell? ⟨B, 0, none⟩ = some x0 ∧ w0.drew.cell? ⟨B, 1, none⟩ = some x1 ∧ w0.drew.cell? ⟨B, 2, none⟩ = some x2 ∧ w0.drew.cell? ⟨B, 3, none⟩ = some x3 ∧ w0.drew.cell? ⟨B, 4, none⟩ = some x4 ∧ w0.drew.cell? ⟨B, 5, none⟩ = some x5 ∧ w0.drew.cell? ⟨B, 6, none⟩ = some x6 ∧ w0.drew.cell? ⟨B, 7, none⟩ = some x7 := by
  obtain ⟨h1, a0, a1, a2, a3, a4, a5, a6, a7⟩ := h
  exact ⟨h1.drew, a0, a1, a2, a3, a4, a5, a6, a7⟩
end Go.Proofs.YtlkpgiifdclijaaGreatDoor

/- Lists of texts: handed about, of one's own. -/
namespace Go.Proofs.YtlkpgiifdclijaaGreatDoor
open Go.RowKit

end Go.Proofs.YtlkpgiifdclijaaGreatDoor
