/- What opening an argument leans on: lists, cells, texts and numbers that can be read. -/
import Derived.Test.YtmccabenfdigdaaGreatDoorRows
import Derived.Test.YtmccabenfdigdaaGreatDoorA1
import Derived.ProofKit
import Derived.OpenShut
import Derived.OpenVars
import Derived.LaidLaws
import Derived.Lib.LaidTab
import Derived.ChangeBears2
import Derived.Deep.DeepHandedRow
import Derived.Test.YtmccabenfdigdaaGreatDoorWa
import Derived.Test.YtmccabenfdigdaaGreatDoorB1
import Derived.Deep.MidRow
namespace Go.Proofs.YtmccabenfdigdaaGreatDoor
open Go.ChangeShapes Go.WideShapes Go.ChangeAt Go.RowKit

theorem own : ownKnob Tryz.prog.godebug = none := by kernel_rfl
theorem laidOut : laidOutB Tryz.prog = true := by kernel_rfl
theorem cellsString : Tryz.prog.cellsOf 9 = 1 := by kernel_rfl
theorem cellsInt : Tryz.prog.cellsOf 3 = 1 := by kernel_rfl
theorem str_of_trod {H : Type} {enc : TypeId × Value → H} {w : World} {base : Nat} {sp : Nat → Bool} {held : Bool} {fuel : Nat} {c : Value} {y : DataW H × List MemPlace}
    (h : DataW.trod enc Tryz.prog w base sp held fuel 9 [c] = some y) : ∃ s : ByteArray, c = .string s ∧ y = (.lit (.string s.data.toList), []) ∧ s.size ≤ maxLen := by
  obtain ⟨s, hc, hy, hs⟩ := DataW.trod_string Tryz.underlying9 h
  simp only [List.cons.injEq, and_true] at hc
  exact ⟨s, hc, hy, hs⟩
theorem int_of_trod {H : Type} {enc : TypeId × Value → H} {w : World} {base : Nat} {sp : Nat → Bool} {held : Bool} {fuel : Nat} {c : Value} {y : DataW H × List MemPlace}
    (h : DataW.trod enc Tryz.prog w base sp held fuel 3 [c] = some y) : ∃ n : Int, c = .int .i64 n ∧ y = (.lit (.int .i64 n), []) ∧ (Lit.int .i64 n).wf = true := by
  obtain ⟨s, hc, hy, hs⟩ := DataW.trod_int Tryz.underlying3 h
  simp only [List.cons.injEq, and_true] at hc
  exact ⟨s, hc, hy, hs⟩
theorem ba_of_list {s : ByteArray} {l : List UInt8} (h : s.data.toList = l) : s = ⟨l.toArray⟩ := by cases s; simp_all [← h]
theorem one_var {H : Type} {enc : TypeId × Value → H} {W : World} {sp : Nat → Bool} {n : String} {gs : List (DataW H)} {q : List MemPlace} (h : DataW.TrodVars enc Tryz.prog W sp [n] gs q) : ∃ g, gs = [g] := by
  match gs, h with
  | [], h => exact h.elim
  | [g], _ => exact ⟨g, rfl⟩
  | _ :: _ :: _, ⟨_, _, _, _, _, _, _, _, _, _, h, _⟩ => exact h.elim
theorem list_of {α : Type} (n : Nat) (Q : Nat → α → Prop) (h : ∀ i, i < n → ∃ p, Q i p) : ∃ ps : List α, ps.length = n ∧ ∀ (i : Nat) (p : α), ps[i]? = some p → Q i p := by
  induction n with
  | zero => exact ⟨[], rfl, fun i p hp => by simp at hp⟩
  | succ n ih =>
    obtain ⟨ps, hl, hq⟩ := ih fun i hi => h i (by omega)
    obtain ⟨p, hp⟩ := h n (by omega)
    refine ⟨ps ++ [p], by simp [hl], fun i q hq' => ?_⟩
    rw [List.getElem?_append] at hq'
    split at hq'
    · exact hq i q hq'
    · rename_i hi
      have : i = n := by
        rcases Nat.lt_or_ge (i - ps.length) 1 with h1 | h1
        · omega
        · rw [List.getElem?_eq_none (by simpa using h1)] at hq'; cases hq'
      subst this
      rw [hl, Nat.sub_self] at hq'
      obtain rfl : p = q := by simpa using hq'
      exact hp
theorem rangeAt_of_cells {w : World} {base b o n : Nat} {cs : List Value} (h : w.cells? base ⟨b, o, none⟩ n = some cs) : w.rangeAt b o cs := by
  unfold World.cells? at h
  split at h
  · intro j v hv
    have hl : cs.length = n := by simpa using Lib.mapM_length h
    have hj : j < n := by rw [← hl]; exact (List.getElem?_eq_some_iff.1 hv).1
    obtain ⟨x, hx, hc⟩ := Lib.mapM_at h j j (by simp [hj])
    rw [hv] at hx
    obtain rfl := Option.some.inj hx
    rwa [Addr.add_mid] at hc
  · cases h
theorem cellsBool : Tryz.prog.cellsOf 4 = 1 := by kernel_rfl
theorem list3 {α : Type} {l : List α} (h : l.length = 3) : ∃ c0 c1 c2, l = [c0, c1, c2] := by
  match l, h with
  | [c0, c1, c2], _ => exact ⟨c0, c1, c2, rfl⟩
theorem list2 {α : Type} {l : List α} (h : l.length = 2) : ∃ c0 c1, l = [c0, c1] := by
  match l, h with
  | [c0, c1], _ => exact ⟨c0, c1, rfl⟩
theorem bool_of_trod {H : Type} {enc : TypeId × Value → H} {w : World} {base : Nat} {sp : Nat → Bool} {held : Bool} {fuel : Nat} {c : Value} {y : DataW H × List MemPlace}
    (h : DataW.trod enc Tryz.prog w base sp held fuel 4 [c] = some y) : ∃ b : Bool, c = .bool b ∧ y = (.lit (.bool b), []) := by
  obtain ⟨s, hc, hy⟩ := DataW.trod_bool Tryz.underlying4 h
  simp only [List.cons.injEq, and_true] at hc
  exact ⟨s, hc, hy⟩
theorem list8 {α : Type} {l : List α} (h : l.length = 8) : ∃ c0 c1 c2 c3 c4 c5 c6 c7, l = [c0, c1, c2, c3, c4, c5, c6, c7] := by
  match l, h with
  | [c0, c1, c2, c3, c4, c5, c6, c7], _ => exact ⟨c0, c1, c2, c3, c4, c5, c6, c7, rfl⟩
end Go.Proofs.YtmccabenfdigdaaGreatDoor

/- What the row's list gives: the table of the ends' names; a world for the witness. -/
namespace Go.Proofs.YtmccabenfdigdaaGreatDoor
open Go.ChangeShapes Go.WideShapes Go.ChangeAt Go.RowKit

theorem gN : Tryz.prog.globalNamed "loop.example/maltrun/impl.recEndNames" = some 0 := by kernel_rfl
theorem gNType : (Tryz.prog.globals[0]?).map (·.type) = some 56 := by kernel_rfl
theorem cellsEnds : Tryz.prog.cellsOf 56 = 3 := by kernel_rfl
def cells3 : Array Value := #[.string ⟨#[103, 111, 111, 100]⟩, .string ⟨#[115, 97, 118, 101, 100]⟩, .string ⟨#[115, 99, 114, 97, 112, 112, 101, 100]⟩]

theorem ends_of_laid {W : World} (h : laidMet Tryz.prog [("loop.example/maltrun/impl.recEndNames", Rows.laid_loop_example_maltrun_impl_recEndNames)] W) : W.var? Tryz.prog "loop.example/maltrun/impl.recEndNames" = some cells3 := by
  obtain ⟨ps, ⟨g, t, cs, fuel, p, q, hg, ht, hvar, hd, _, _⟩, _⟩ := h
  obtain rfl := Option.some.inj (gN.symm.trans hg)
  obtain rfl := Option.some.inj (gNType.symm.trans ht)
  rw [hvar]
  congr 1
  obtain ⟨l⟩ := cs
  cases fuel with
  | zero => simp [DataW.trod] at hd
  | succ fuel =>
    simp only [DataW.trod, Tryz.underlying56, cellsEnds, cellsString] at hd
    split at hd
    · rename_i hl
      obtain ⟨c0, c1, c2, rfl⟩ : ∃ c0 c1 c2, l = [c0, c1, c2] := by
        match l, hl with
        | [a, b, c], _ => exact ⟨a, b, c, rfl⟩
      have e : List.range 3 = [0, 1, 2] := rfl
      rw [e] at hd
      simp only [Option.map_eq_some_iff, List.mapM_cons, List.mapM_nil, Option.bind_eq_bind, Option.bind_eq_some_iff, Option.pure_def, Option.some.injEq] at hd
      obtain ⟨xs, ⟨y0, h0, _, ⟨y1, h1, _, ⟨y2, h2, _, rfl, rfl⟩, rfl⟩, rfl⟩, hx⟩ := hd
      obtain ⟨n0, rfl, rfl, _⟩ := str_of_trod h0
      obtain ⟨n1, rfl, rfl, _⟩ := str_of_trod h1
      obtain ⟨n2, rfl, rfl, _⟩ := str_of_trod h2
      simp [Rows.laid_loop_example_maltrun_impl_recEndNames] at hx
      obtain ⟨⟨e0, e1, e2⟩, _⟩ := hx
      rw [ba_of_list e0, ba_of_list e1, ba_of_list e2]
      rfl
    · cases hd

theorem Ends.of_laid {W : World} (h : laidMet Tryz.prog [("loop.example/maltrun/impl.recEndNames", Rows.laid_loop_example_maltrun_impl_recEndNames)] W) : Ends W := by
  have hv := ends_of_laid h
  have hc := fun i => World.var?_cell gN hv i
  refine ⟨hc 0, hc 1, hc 2, ?_⟩
  rcases Nat.lt_or_ge 0 W.heap.size with h' | h'
  · exact h'
  · unfold World.var? at hv
    rw [gN] at hv
    simp only [Option.bind_some] at hv
    rw [Array.getElem?_eq_none h'] at hv; cases hv

noncomputable def laidWorld (os : Os) : World :=
  { World.holding Tryz.prog os ⟨#[], #[], []⟩ with heap := (World.holding Tryz.prog os ⟨#[], #[], []⟩).heap.modify 0 fun
      | .cells _ t frozen => .cells cells3 t frozen
      | o => o }
theorem laid_met (os : Os) (args : Array Value) : laidMet Tryz.prog [("loop.example/maltrun/impl.recEndNames", Rows.laid_loop_example_maltrun_impl_recEndNames)] ((laidWorld os).forCall (fun _ _ => 0) ⟨#[], args, []⟩).memory :=
  laidMet_of_run (ps := [.cell 0 0, .cell 0 1, .cell 0 2]) 8 (by kernel_rfl) (by kernel_rfl) (by kernel_rfl)
end Go.Proofs.YtmccabenfdigdaaGreatDoor

/- A code that can be read, opened. -/
namespace Go.Proofs.YtmccabenfdigdaaGreatDoor
open Go.ChangeShapes Go.WideShapes Go.ChangeAt Go.RowKit

theorem cellsByte : Tryz.prog.cellsOf 5 = 1 := by kernel_rfl
theorem bytes_of_trod {H : Type} {enc : TypeId × Value → H} {W : World} {base : Nat} {sp : Nat → Bool} {held : Bool} {v : Value} {d : DataW H} {p : List MemPlace} (hv : ∃ a l c, v = .slice a l c)
    (h : DataW.Trod enc Tryz.prog W base sp held 22 v d p) : ∃ (a : Option Addr) (l c : Nat), v = .slice a l c ∧ BytesAt W W.heap.size (.slice a l c) l ∧ l ≤ c ∧ c ≤ maxLen := by
  obtain ⟨a0, l0, k0, rfl⟩ := hv
  obtain ⟨fuel, hf⟩ := h
  rcases open_ints Tryz.underlying22 Tryz.underlying5 cellsByte hf with ⟨hcs, _⟩ | ⟨a, len, cap, zs, hcs, _, hl, hm, hz, _, hcell, hwf⟩
  · have : Value.slice a0 l0 k0 = .slice none 0 0 := by simpa [Value.cells] using hcs
    rw [this]
    exact ⟨none, 0, 0, rfl, ⟨none, 0, rfl, .inl rfl⟩, Nat.le_refl _, Nat.zero_le _⟩
  · have : Value.slice a0 l0 k0 = .slice (some a) len cap := by simpa [Value.cells] using hcs
    rw [this]
    refine ⟨some a, len, cap, rfl, ⟨some a, cap, rfl, ?_⟩, hl, hm⟩
    rcases Nat.eq_zero_or_pos len with h0 | h0
    · exact .inl h0
    · have hlz : len ≤ zs.length := by rw [hz]; split <;> omega
      obtain ⟨b, o, spot⟩ := a
      have c0 := hcell 0 (by omega)
      have hs : spot = none := by simpa [Addr.add] using World.cell?_spot c0
      subst hs
      refine .inr ⟨b, o, fun i => zs.getD i 0, rfl, World.block_lt_of_cell? W _ c0, fun i hi => ⟨?_, ?_⟩⟩
      · have := hcell i (by omega)
        rwa [Addr.add_mid] at this
      · have := range_u8 hwf i
        simpa [List.getD_eq_getElem?_getD] using this
end Go.Proofs.YtmccabenfdigdaaGreatDoor
