/- A code that can be read, opened. -/
import Derived.Test.YtcofjoacehacjaaGreatDoorJ3
import Derived.OpenShut
import Derived.Deep.MidRow
import Derived.Test.YtcofjoacehacjaaGreatDoorJ0
import Derived.Test.YtcofjoacehacjaaGreatDoorWa
import Derived.Deep.DeepCutAuto
namespace Go.Proofs.YtcofjoacehacjaaGreatDoor
open Go.ChangeShapes Go.WideShapes Go.ChangeAt Go.RowKit

theorem cellsByte : Tryz.prog.cellsOf 5 = 1 := by kernel_rfl
theorem bytes_of_trod {H : Type} {enc : TypeId × Value → H} {W : World} {base : Nat} {sp : Nat → Bool} {held : Bool} {v : Value} {d : DataW H} {p : List MemPlace} (hv : ∃ a l c, v = .slice a l c)
    (h : DataW.Trod enc Tryz.prog W base sp held 22 v d p) : ∃ (a : Option Addr) (l c : Nat), v = .slice a l c ∧ BytesAt W W.heap.size (.slice a l c) l ∧ l ≤ c ∧ c ≤ maxLen := by
  obtain ⟨a0, l0, k0, rfl⟩ := hv
  obtain ⟨fuel, hf⟩ := h
  rcases open_ints Tryz.underlying22 Tryz.underlying5 cellsByte hf with ⟨hcs, _⟩ | ⟨a, len, cap, zs, hcs, _, hl, hm, hz, _, hcell, hwf⟩
  · have : Value.slice a0 l0 k0 = .slice none 0 0 := by simpa [Value.cells] using hcs
    rw [this]
    exact ⟨none, 0, 0, rfl, ⟨none, 0, rfl, .inl rfl⟩, Nat.le_refl _, Nat.zero_le _⟩
  · have : Value.slice a0 l0 k0 = .slice (some a) len cap := by simpa [Value.cells] using hcs
    rw [this]
    refine ⟨some a, len, cap, rfl, ⟨some a, cap, rfl, ?_⟩, hl, hm⟩
    rcases Nat.eq_zero_or_pos len with h0 | h0
    · exact .inl h0
    · have hlz : len ≤ zs.length := by rw [hz]; split <;> omega
      obtain ⟨b, o, spot⟩ := a
      have c0 := hcell 0 (by omega)
      have hs : spot = none := by simpa [Addr.add] using World.cell?_spot c0
      subst hs
      refine .inr ⟨b, o, fun i => zs.getD i 0, rfl, World.block_lt_of_cell? W _ c0, fun i hi => ⟨?_, ?_⟩⟩
      · have := hcell i (by omega)
        rwa [Addr.add_mid] at this
      · have := range_u8 hwf i
        simpa [List.getD_eq_getElem?_getD] using this
end Go.Proofs.YtcofjoacehacjaaGreatDoor

/- Recipes: plain facts. -/
namespace Go.Proofs.YtcofjoacehacjaaGreatDoor
open Go.RowKit
structure Ph where
  nm : ByteArray
  k : Int
  a : ByteArray
  b : ByteArray
  n : Int
  wi : Int
  t : ByteArray
  e : ByteArray
def Ph.cells (p : Ph) : List Value := [.string p.nm, .int .i64 p.k, .string p.a, .string p.b, .int .i64 p.n, .int .i64 p.wi, .string p.t, .string p.e]
def Ph.okB (p : Ph) : Bool := phaseB p.nm p.k p.a p.b p.n p.wi p.t p.e
/-- The recipe lies in block b from cell o on. -/
def RecAt (w : World) (b o : Nat) (ps : List Ph) : Prop := ∀ (i : Nat) (p : Ph), ps[i]? = some p → w.rangeAt b (o + i * 8) p.cells
/-- Its texts have sizes. -/
def Sized (ps : List Ph) : Prop := ∀ p ∈ ps, p.nm.size ≤ maxLen ∧ p.a.size ≤ maxLen ∧ p.b.size ≤ maxLen ∧ p.t.size ≤ maxLen ∧ p.e.size ≤ maxLen
def hasB (ps : List Ph) (nm : ByteArray) : Bool := ps.any fun p => p.nm.toList == nm.toList
def atI (ps : List Ph) (nm : ByteArray) : Int := match ps.findIdx? fun p => p.nm.toList == nm.toList with
  | some i => i
  | none => -1
theorem RecAt.cells {w : World} {b o : Nat} {ps : List Ph} (h : RecAt w b o ps) (i : Nat) (hi : i < ps.length) :
    w.cell? ⟨b, o + i * 8, none⟩ = some (.string (ps[i]).nm) ∧ w.cell? ⟨b, o + i * 8 + 1, none⟩ = some (.int .i64 (ps[i]).k) ∧ w.cell? ⟨b, o + i * 8 + 2, none⟩ = some (.string (ps[i]).a) ∧ w.cell? ⟨b, o + i * 8 + 3, none⟩ = some (.string (ps[i]).b) ∧
    w.cell? ⟨b, o + i * 8 + 4, none⟩ = some (.int .i64 (ps[i]).n) ∧ w.cell? ⟨b, o + i * 8 + 5, none⟩ = some (.int .i64 (ps[i]).wi) ∧ w.cell? ⟨b, o + i * 8 + 6, none⟩ = some (.string (ps[i]).t) ∧ w.cell? ⟨b, o + i * 8 + 7, none⟩ = some (.string (ps[i]).e) := by
  have hr := h i ps[i] (by simp [hi])
  exact ⟨hr 0 _ rfl, hr 1 _ rfl, hr 2 _ rfl, hr 3 _ rfl, hr 4 _ rfl, hr 5 _ rfl, hr 6 _ rfl, hr 7 _ rfl⟩
theorem RecAt.drop {w : World} {b o : Nat} {ps : List Ph} (h : RecAt w b o ps) (i : Nat) : RecAt w b (o + i * 8) (ps.drop i) := fun j p hp => by
  have := h (i + j) p (by simpa [List.getElem?_drop] using hp)
  rwa [show o + i * 8 + j * 8 = o + (i + j) * 8 by omega]
theorem RecAt.up {w w' : World} {b o B : Nat} {ps : List Ph} (h : RecAt w b o ps) (hb : Below B w w') (hB : b < B) : RecAt w' b o ps := fun i p hp j v hv => by
  rw [hb.cell (p := ⟨b, o + i * 8 + j, none⟩) hB]; exact h i p hp j v hv
theorem hasB_take (ps : List Ph) (nm : ByteArray) (k : Nat) (h : k < ps.length) : hasB (ps.take (k + 1)) nm = (hasB (ps.take k) nm || ((ps[k]).nm.toList == nm.toList)) := by
  unfold hasB; rw [List.take_succ_eq_append_getElem h, List.any_append]; simp
theorem hasB_all (ps : List Ph) (nm : ByteArray) (k : Nat) (h : ¬ k < ps.length) (hn : hasB (ps.take k) nm = false) : hasB ps nm = false := by
  rwa [List.take_of_length_le (by omega)] at hn
theorem hasB_yes (ps : List Ph) (nm : ByteArray) (k : Nat) (h : k < ps.length) (he : ((ps[k]).nm.toList == nm.toList) = true) : hasB ps nm = true := by
  unfold hasB; rw [List.any_eq_true]; exact ⟨ps[k], by simp, he⟩
theorem hasB_iff (ps : List Ph) (nm : ByteArray) : hasB ps nm = true ↔ ∃ (j : Nat) (q : Ph), ps[j]? = some q ∧ (q.nm.toList == nm.toList) = true := by
  unfold hasB; rw [List.any_eq_true]
  constructor
  · rintro ⟨q, hq, he⟩
    obtain ⟨j, hj, rfl⟩ := List.getElem_of_mem hq
    exact ⟨j, ps[j], by simp [hj], he⟩
  · rintro ⟨j, q, hq, he⟩
    exact ⟨q, List.mem_of_getElem? hq, he⟩
theorem atI_none (ps : List Ph) (nm : ByteArray) (h : hasB ps nm = false) : atI ps nm = -1 := by
  have : (ps.findIdx? fun p => p.nm.toList == nm.toList) = none := by
    rw [List.findIdx?_eq_none_iff]; simpa [hasB] using h
  simp only [atI, this]
theorem atI_found (ps : List Ph) (nm : ByteArray) (k : Nat) (h : k < ps.length) (hn : hasB (ps.take k) nm = false) (he : ((ps[k]).nm.toList == nm.toList) = true) : atI ps nm = k := by
  have : (ps.findIdx? fun p => p.nm.toList == nm.toList) = some k := by
    rw [List.findIdx?_eq_some_iff_getElem]
    refine ⟨h, he, fun j hj => ?_⟩
    intro hc
    have : hasB (ps.take k) nm = true := by
      rw [hasB_iff]
      exact ⟨j, ps[j], by simp [hj, Nat.lt_trans hj h], hc⟩
    rw [hn] at this; cases this
  simp only [atI, this]
def goesB (later : List Ph) (nm : ByteArray) : Bool := endN nm != 0 || hasB later nm
end Go.Proofs.YtcofjoacehacjaaGreatDoor

/- Drawing: the reader is opened; slots; a phase. -/
namespace Go.Proofs.YtcofjoacehacjaaGreatDoor
open Go.RowKit

/-- A phase in a block of its own. -/
def Box (w : World) (pb : Nat) (p : Ph) : Prop := w.rangeAt pb 0 p.cells ∧ w.there pb 0 8
theorem Box.lt {w : World} {pb : Nat} {p : Ph} (h : Box w pb p) : pb < w.heap.size := World.block_lt_of_cell? w _ (h.1 0 _ rfl)
theorem Box.cells {w : World} {pb : Nat} {p : Ph} (h : Box w pb p) :
    w.cell? ⟨pb, 0, none⟩ = some (.string p.nm) ∧ w.cell? ⟨pb, 1, none⟩ = some (.int .i64 p.k) ∧ w.cell? ⟨pb, 2, none⟩ = some (.string p.a) ∧ w.cell? ⟨pb, 3, none⟩ = some (.string p.b) ∧
    w.cell? ⟨pb, 4, none⟩ = some (.int .i64 p.n) ∧ w.cell? ⟨pb, 5, none⟩ = some (.int .i64 p.wi) ∧ w.cell? ⟨pb, 6, none⟩ = some (.string p.t) ∧ w.cell? ⟨pb, 7, none⟩ = some (.string p.e) :=
  ⟨h.1 0 _ rfl, h.1 1 _ rfl, h.1 2 _ rfl, h.1 3 _ rfl, h.1 4 _ rfl, h.1 5 _ rfl, h.1 6 _ rfl, h.1 7 _ rfl⟩
theorem Box.frozen {w : World} {pb : Nat} {p : Ph} (h : Box w pb p) :
    w.frozen? ⟨pb, 0, none⟩ = false ∧ w.frozen? ⟨pb, 1, none⟩ = false ∧ w.frozen? ⟨pb, 2, none⟩ = false ∧ w.frozen? ⟨pb, 3, none⟩ = false ∧ w.frozen? ⟨pb, 4, none⟩ = false ∧ w.frozen? ⟨pb, 5, none⟩ = false ∧ w.frozen? ⟨pb, 6, none⟩ = false ∧ w.frozen? ⟨pb, 7, none⟩ = false :=
  ⟨(h.2 0 (by omega)).2, (h.2 1 (by omega)).2, (h.2 2 (by omega)).2, (h.2 3 (by omega)).2, (h.2 4 (by omega)).2, (h.2 5 (by omega)).2, (h.2 6 (by omega)).2, (h.2 7 (by omega)).2⟩
theorem Box.kept {w w' : World} {pb : Nat} {p : Ph} {r : Option Nat} (h : Box w pb p) (hg : w.grownBy w' r) (hne : some pb ≠ r) : Box w' pb p := by
  have hb := hg.block pb h.lt hne
  refine ⟨fun j v hv => ?_, fun j hj => ?_⟩
  · rw [World.cell?_of_block (w := w) (a := ⟨pb, 0 + j, none⟩) hb]; exact h.1 j v hv
  · rw [World.cell?_of_block (w := w) (a := ⟨pb, 0 + j, none⟩) hb, World.frozen?_of_block (w := w) (a := ⟨pb, 0 + j, none⟩) hb]; exact h.2 j hj
theorem box_alloc (w : World) (p : Ph) (t : TypeId) : Box (w.alloc (.cells #[.string p.nm, .int .i64 p.k, .string p.a, .string p.b, .int .i64 p.n, .int .i64 p.wi, .string p.t, .string p.e] t)) w.heap.size p := by
  have hr : (w.alloc (.cells #[.string p.nm, .int .i64 p.k, .string p.a, .string p.b, .int .i64 p.n, .int .i64 p.wi, .string p.t, .string p.e] t)).rangeAt w.heap.size 0 p.cells := by
    intro j v hv
    rw [Nat.zero_add, World.cell?_alloc_at]
    · simpa [Ph.cells] using hv
    · rfl
  refine ⟨hr, fun j hj => ⟨hr.isSome j hj, ?_⟩⟩
  simp [go_sem]
theorem range_set {w : World} {pb : Nat} {cs : List Value} {j : Nat} {u : Value} (h : w.rangeAt pb 0 cs) (hj : j < cs.length) : (w.setCell ⟨pb, j, none⟩ u).rangeAt pb 0 (cs.set j u) := by
  intro i x hx
  rw [List.getElem?_set] at hx
  by_cases e : j = i
  · subst e
    rw [if_pos rfl, if_pos hj] at hx
    obtain rfl := Option.some.inj hx
    have hc := h j cs[j] (by simp)
    rw [Nat.zero_add] at hc ⊢
    exact World.cell?_setCell_same _ _ _ hc
  · rw [if_neg e] at hx
    rw [World.cell?_setCell_other _ _ _ _ (by simp <;> omega)]
    exact h i x hx
theorem there_set {w : World} {pb n j : Nat} {u : Value} (h : w.there pb 0 n) : (w.setCell ⟨pb, j, none⟩ u).there pb 0 n := fun i hi => by
  have := World.there_setCells h pb j [u] i hi
  simpa [World.setCells] using this
theorem Box.set0 {w : World} {pb : Nat} {p : Ph} (h : Box w pb p) (s : ByteArray) : Box (w.setCell ⟨pb, 0, none⟩ (.string s)) pb { p with nm := s } := ⟨range_set h.1 (by simp [Ph.cells]), there_set h.2⟩
theorem Box.set1 {w : World} {pb : Nat} {p : Ph} (h : Box w pb p) (x : Int) : Box (w.setCell ⟨pb, 1, none⟩ (.int .i64 x)) pb { p with k := x } := ⟨range_set h.1 (by simp [Ph.cells]), there_set h.2⟩
theorem Box.set2 {w : World} {pb : Nat} {p : Ph} (h : Box w pb p) (s : ByteArray) : Box (w.setCell ⟨pb, 2, none⟩ (.string s)) pb { p with a := s } := ⟨range_set h.1 (by simp [Ph.cells]), there_set h.2⟩
theorem Box.set5 {w : World} {pb : Nat} {p : Ph} (h : Box w pb p) (x : Int) : Box (w.setCell ⟨pb, 5, none⟩ (.int .i64 x)) pb { p with wi := x } := ⟨range_set h.1 (by simp [Ph.cells]), there_set h.2⟩
theorem Box.set3 {w : World} {pb : Nat} {p : Ph} (h : Box w pb p) (s : ByteArray) : Box (w.setCell ⟨pb, 3, none⟩ (.string s)) pb { p with b := s } := ⟨range_set h.1 (by simp [Ph.cells]), there_set h.2⟩
theorem Box.set4 {w : World} {pb : Nat} {p : Ph} (h : Box w pb p) (x : Int) : Box (w.setCell ⟨pb, 4, none⟩ (.int .i64 x)) pb { p with n := x } := ⟨range_set h.1 (by simp [Ph.cells]), there_set h.2⟩
theorem Box.set6 {w : World} {pb : Nat} {p : Ph} (h : Box w pb p) (s : ByteArray) : Box (w.setCell ⟨pb, 6, none⟩ (.string s)) pb { p with t := s } := ⟨range_set h.1 (by simp [Ph.cells]), there_set h.2⟩
theorem Box.set7 {w : World} {pb : Nat} {p : Ph} (h : Box w pb p) (s : ByteArray) : Box (w.setCell ⟨pb, 7, none⟩ (.string s)) pb { p with e := s } := ⟨range_set h.1 (by simp [Ph.cells]), there_set h.2⟩
theorem Box.other {w : World} {pb qb j : Nat} {p : Ph} {u : Value} (h : Box w pb p) (hne : pb ≠ qb) : Box (w.setCell ⟨qb, j, none⟩ u) pb p :=
  h.kept (r := some qb) ⟨rfl, rfl, rfl, by simp, fun i _ hr => Below.heap_setCell _ _ _ _ (fun e => hr (by rw [e]))⟩ (by simpa using hne)

/-- A phase copied whole into its block. -/
theorem Box.copy {w : World} {pb : Nat} {p : Ph} (h : Box w pb p) (q : Ph) : Box ((((((((w.setCell ⟨pb, 0, none⟩ (.string q.nm)).setCell ⟨pb, 1, none⟩ (.int .i64 q.k)).setCell ⟨pb, 2, none⟩ (.string q.a)).setCell ⟨pb, 3, none⟩ (.string q.b)).setCell ⟨pb, 4, none⟩ (.int .i64 q.n)).setCell ⟨pb, 5, none⟩ (.int .i64 q.wi)).setCell ⟨pb, 6, none⟩ (.string q.t)).setCell ⟨pb, 7, none⟩ (.string q.e)) pb q :=
  (((((((h.set0 q.nm).set1 q.k).set2 q.a).set3 q.b).set4 q.n).set5 q.wi).set6 q.t).set7 q.e
theorem sizeRecPhase : (Tryz.prog.info? 37).map (·.size) = some 8 := by kernel_rfl
/-- What a function hands back that lies in its result's block. -/
theorem ret_box {fn : Func} {q : Tmp} (h : fn.results = #[.cell q 37]) {tmps : Array Value} {Z : World} {rk : Nat} {p : Ph} (ht : tmps.getD q undef = .pointer (some ⟨rk, 0, none⟩)) (hZ : Box Z rk p) :
    (results fn tmps).run Tryz.prog Z = .ok (.agg #[.string p.nm, .int .i64 p.k, .string p.a, .string p.b, .int .i64 p.n, .int .i64 p.wi, .string p.t, .string p.e]) Z := by
  have hl := run_loadVar_mid (P := Tryz.prog) Z rk 0 37 p.cells _ hZ.1 Tryz.underlying37 rfl sizeRecPhase
  have ha : (asAddr (.pointer (some ⟨rk, 0, none⟩))).run Tryz.prog Z = .ok ⟨rk, 0, none⟩ Z := by simp [go_sem]
  have ht' : tmps[q]?.getD undef = .pointer (some ⟨rk, 0, none⟩) := by simpa using ht
  simp only [results, h]
  simp [Sem.run_bind, Result.andThen, ht', ha, hl, Ph.cells]

def slotsL : List ByteArray := [⟨#[115, 49]⟩, ⟨#[115, 49]⟩, ⟨#[115, 50]⟩, ⟨#[115, 51]⟩, ⟨#[107, 101, 103]⟩]
end Go.Proofs.YtcofjoacehacjaaGreatDoor

/- Drawing a phase: what is at hand. -/
namespace Go.Proofs.YtcofjoacehacjaaGreatDoor
open Go.RowKit

def Ph.sz (p : Ph) : Prop := p.nm.size ≤ maxLen ∧ p.a.size ≤ maxLen ∧ p.b.size ≤ maxLen ∧ p.t.size ≤ maxLen ∧ p.e.size ≤ maxLen ∧ -5000 ≤ p.wi ∧ p.wi ≤ 5000
theorem sz0 : (⟨#[]⟩ : ByteArray).size ≤ maxLen := by unfold maxLen; decide

def stuffL : List ByteArray := [⟨#[97, 108, 101]⟩, ⟨#[109, 97, 108, 116]⟩]
def endsL : List ByteArray := [⟨#[103, 111, 111, 100]⟩, ⟨#[115, 97, 118, 101, 100]⟩, ⟨#[115, 99, 114, 97, 112, 112, 101, 100]⟩]
theorem sz_app {later : List ByteArray} (h : SzS later) : ∀ s ∈ endsL ++ later, s.size ≤ maxLen := fun s hs => by
  rcases List.mem_append.1 hs with hs | hs
  · exact sz_lit (ss := endsL) (by decide) s hs
  · exact h s hs

end Go.Proofs.YtcofjoacehacjaaGreatDoor
