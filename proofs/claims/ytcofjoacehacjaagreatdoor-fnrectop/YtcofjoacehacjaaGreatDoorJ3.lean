/- What the row's list gives: the table of the ends' names; a world for the witness. -/
import Derived.Test.YtcofjoacehacjaaGreatDoorJ0
import Derived.Test.YtcofjoacehacjaaGreatDoorRows
import Derived.Test.YtcofjoacehacjaaGreatDoorWa
import Derived.ProofKit
import Derived.OpenShut
import Derived.OpenVars
import Derived.LaidLaws
import Derived.Lib.LaidTab
import Derived.ChangeBears2
import Derived.Deep.DeepHandedRow
import Derived.Laws.Bits64
import Derived.Deep.QuietTactic
import Derived.BigQuiet
namespace Go.Proofs.YtcofjoacehacjaaGreatDoor
open Go.ChangeShapes Go.WideShapes Go.ChangeAt Go.RowKit

theorem gN : Tryz.prog.globalNamed "loop.example/maltrun/impl.recEndNames" = some 0 := by kernel_rfl
theorem gNType : (Tryz.prog.globals[0]?).map (·.type) = some 56 := by kernel_rfl
theorem cellsEnds : Tryz.prog.cellsOf 56 = 3 := by kernel_rfl
def cells3 : Array Value := #[.string ⟨#[103, 111, 111, 100]⟩, .string ⟨#[115, 97, 118, 101, 100]⟩, .string ⟨#[115, 99, 114, 97, 112, 112, 101, 100]⟩]

theorem ends_of_laid {W : World} (h : laidMet Tryz.prog [("loop.example/maltrun/impl.recEndNames", Rows.laid_loop_example_maltrun_impl_recEndNames)] W) : W.var? Tryz.prog "loop.example/maltrun/impl.recEndNames" = some cells3 := by
  obtain ⟨ps, ⟨g, t, cs, fuel, p, q, hg, ht, hvar, hd, _, _⟩, _⟩ := h
  obtain rfl := Option.some.inj (gN.symm.trans hg)
  obtain rfl := Option.some.inj (gNType.symm.trans ht)
  rw [hvar]
  congr 1
  obtain ⟨l⟩ := cs
  cases fuel with
  | zero => simp [DataW.trod] at hd
  | succ fuel =>
    simp only [DataW.trod, Tryz.underlying56, cellsEnds, cellsString] at hd
    split at hd
    · rename_i hl
      obtain ⟨c0, c1, c2, rfl⟩ : ∃ c0 c1 c2, l = [c0, c1, c2] := by
        match l, hl with
        | [a, b, c], _ => exact ⟨a, b, c, rfl⟩
      have e : List.range 3 = [0, 1, 2] := rfl
      rw [e] at hd
      simp only [Option.map_eq_some_iff, List.mapM_cons, List.mapM_nil, Option.bind_eq_bind, Option.bind_eq_some_iff, Option.pure_def, Option.some.injEq] at hd
      obtain ⟨xs, ⟨y0, h0, _, ⟨y1, h1, _, ⟨y2, h2, _, rfl, rfl⟩, rfl⟩, rfl⟩, hx⟩ := hd
      obtain ⟨n0, rfl, rfl, _⟩ := str_of_trod h0
      obtain ⟨n1, rfl, rfl, _⟩ := str_of_trod h1
      obtain ⟨n2, rfl, rfl, _⟩ := str_of_trod h2
      simp [Rows.laid_loop_example_maltrun_impl_recEndNames] at hx
      obtain ⟨⟨e0, e1, e2⟩, _⟩ := hx
      rw [ba_of_list e0, ba_of_list e1, ba_of_list e2]
      rfl
    · cases hd

theorem Ends.of_laid {W : World} (h : laidMet Tryz.prog [("loop.example/maltrun/impl.recEndNames", Rows.laid_loop_example_maltrun_impl_recEndNames)] W) : Ends W := by
  have hv := ends_of_laid h
  have hc := fun i => World.var?_cell gN hv i
  refine ⟨hc 0, hc 1, hc 2, ?_⟩
  rcases Nat.lt_or_ge 0 W.heap.size with h' | h'
  · exact h'
  · unfold World.var? at hv
    rw [gN] at hv
    simp only [Option.bind_some] at hv
    rw [Array.getElem?_eq_none h'] at hv; cases hv

noncomputable def laidWorld (os : Os) : World :=
  { World.holding Tryz.prog os ⟨#[], #[], []⟩ with heap := (World.holding Tryz.prog os ⟨#[], #[], []⟩).heap.modify 0 fun
      | .cells _ t frozen => .cells cells3 t frozen
      | o => o }
theorem laid_met (os : Os) (args : Array Value) : laidMet Tryz.prog [("loop.example/maltrun/impl.recEndNames", Rows.laid_loop_example_maltrun_impl_recEndNames)] ((laidWorld os).forCall (fun _ _ => 0) ⟨#[], args, []⟩).memory :=
  laidMet_of_run (ps := [.cell 0 0, .cell 0 1, .cell 0 2]) 8 (by kernel_rfl) (by kernel_rfl) (by kernel_rfl)
end Go.Proofs.YtcofjoacehacjaaGreatDoor

/- The reader of a code; what grows; lists of texts: plain facts. -/
namespace Go.Proofs.YtcofjoacehacjaaGreatDoor
open Go.RowKit

theorem xor_i64 (a b : Nat) (ha : a < 4611686018427387904) (hb : b < 4611686018427387904) : 0 ≤ bits .xor .i64 (a : Int) (b : Int) ∧ bits .xor .i64 (a : Int) (b : Int) < 4611686018427387904 := by
  have hx : a ^^^ b < 2 ^ 62 := Nat.xor_lt_two_pow (by omega) (by omega)
  have h1 : (BitVec.ofInt 64 (a : Int)).toNat = a := by
    rw [BitVec.ofInt_natCast, BitVec.toNat_ofNat]; exact Nat.mod_eq_of_lt (by omega)
  have h2 : (BitVec.ofInt 64 (b : Int)).toNat = b := by
    rw [BitVec.ofInt_natCast, BitVec.toNat_ofNat]; exact Nat.mod_eq_of_lt (by omega)
  have e : bits .xor .i64 (a : Int) (b : Int) = IntKind.i64.wrap ((a ^^^ b : Nat) : Int) := by
    show IntKind.i64.wrap ((BitVec.ofInt 64 (a : Int) ^^^ BitVec.ofInt 64 (b : Int)).toNat : Int) = _
    rw [BitVec.toNat_xor, h1, h2]
  rw [e, IntKind.wrap_i64]
  omega

/-- The bytes of a code, apart from block rb. -/
def BytesAt (w : World) (rb : Nat) (v : Value) (len : Nat) : Prop := ∃ (a : Option Addr) (cap : Nat), v = .slice a len cap ∧ (len = 0 ∨ ∃ (b o : Nat) (z : Nat → Int), a = some ⟨b, o, none⟩ ∧ b < rb ∧ ∀ i, i < len → w.cell? ⟨b, o + i, none⟩ = some (.int .u8 (z i)) ∧ 0 ≤ z i ∧ z i ≤ 255)
/-- The reader: at most N have been picked. -/
def Rd (w : World) (rb : Nat) (v : Value) (len N : Nat) : Prop := ∃ p : Nat, p ≤ N ∧ w.cell? ⟨rb, 0, none⟩ = some v ∧ w.cell? ⟨rb, 1, none⟩ = some (.int .i64 p) ∧ w.frozen? ⟨rb, 1, none⟩ = false ∧ BytesAt w rb v len ∧ len ≤ 2000
theorem BytesAt.kept {w w' : World} {rb len : Nat} {v : Value} (h : BytesAt w rb v len) (hg : w.grownBy w' (some rb)) : BytesAt w' rb v len := by
  obtain ⟨a, cap, hv, h⟩ := h
  refine ⟨a, cap, hv, ?_⟩
  rcases h with h | ⟨b, o, z, ha, hb, hz⟩
  · exact .inl h
  · exact .inr ⟨b, o, z, ha, hb, fun i hi => ⟨hg.cell (hz i hi).1 (by simp; omega), (hz i hi).2⟩⟩

theorem Rd.drewN {w : World} {rb len N : Nat} {v : Value} (h : Rd w rb v len N) (n : Nat) : Rd (w.drewN n) rb v len N := h

theorem Rd.mono {w : World} {rb len N M : Nat} {v : Value} (h : Rd w rb v len N) (hM : N ≤ M) : Rd w rb v len M := by
  obtain ⟨p, hp, r⟩ := h
  exact ⟨p, by omega, r⟩
theorem Rd.lt {w : World} {rb len N : Nat} {v : Value} (h : Rd w rb v len N) : rb < w.heap.size := by
  obtain ⟨p, hp, c0, _⟩ := h
  exact World.block_lt_of_cell? w _ c0
theorem Rd.kept {w w' : World} {rb len N : Nat} {v : Value} (h : Rd w rb v len N) (hb : Below w.heap.size w w') : Rd w' rb v len N := by
  have hlt := h.lt
  obtain ⟨p, hp, c0, c1, f1, by1, hl⟩ := h
  exact ⟨p, hp, (hb.cell (p := ⟨rb, 0, none⟩) hlt).trans c0, (hb.cell (p := ⟨rb, 1, none⟩) hlt).trans c1, (hb.frozen (p := ⟨rb, 1, none⟩) hlt).trans f1, by1.kept (grown_below hb), hl⟩
theorem Rd.alloc {w : World} {rb len N : Nat} {v : Value} (h : Rd w rb v len N) (o : Obj) : Rd (w.alloc o) rb v len N := h.kept ((Below.refl _ _).alloc (Nat.le_refl _) _)
theorem Rd.setCell {w : World} {rb len N pb off : Nat} {v u : Value} (h : Rd w rb v len N) (hlt : rb < pb) : Rd (w.setCell ⟨pb, off, none⟩ u) rb v len N := by
  obtain ⟨p, hp, c0, c1, f1, ⟨a, cap, hv, hb⟩, hl⟩ := h
  refine ⟨p, hp, ?_, ?_, ?_, ⟨a, cap, hv, ?_⟩, hl⟩
  · rw [World.cell?_setCell_other _ _ _ _ (by simp <;> omega)]; exact c0
  · rw [World.cell?_setCell_other _ _ _ _ (by simp <;> omega)]; exact c1
  · rw [World.frozen?_setCell]; exact f1
  · rcases hb with hb | ⟨b, o, z, rfl, h1, hz⟩
    · exact .inl hb
    · refine .inr ⟨b, o, z, rfl, h1, fun i hi => ⟨?_, (hz i hi).2⟩⟩
      rw [World.cell?_setCell_other _ _ _ _ (by simp <;> omega)]; exact (hz i hi).1
/-- The texts of a list all have sizes. -/
def SzS (ss : List ByteArray) : Prop := ∀ s ∈ ss, s.size ≤ maxLen
theorem sz_lit {ss : List ByteArray} (h : (ss.all fun s => decide (s.size ≤ 100)) = true) : SzS ss := fun s hs => by
  have := List.all_eq_true.1 h s hs
  simp only [decide_eq_true_eq] at this
  unfold maxLen; omega
theorem strsAt_alloc (w : World) (ss : List ByteArray) (t : TypeId) : StrsAt (w.alloc (.cells (ss.map Value.string).toArray t)) w.heap.size 0 ss := fun i s hs => by
  have : ((ss.map Value.string).toArray)[i]? = some (.string s) := by simp [hs]
  simp [go_sem, World.cell?_alloc_at, this]
theorem Rd.row {w w' : World} {rb len N k : Nat} {v : Value} (h : Rd w rb v len N) (hg : w.grownBy w' (some k)) (hk : rb < k) : Rd w' rb v len N := by
  have hlt := h.lt
  obtain ⟨p, hp, c0, c1, f1, ⟨a, cap, hv, hb⟩, hl⟩ := h
  have hbl := hg.block rb hlt (by simp; omega)
  refine ⟨p, hp, (World.cell?_of_block (w := w) (a := ⟨rb, 0, none⟩) hbl).trans c0, (World.cell?_of_block (w := w) (a := ⟨rb, 1, none⟩) hbl).trans c1, (World.frozen?_of_block (w := w) (a := ⟨rb, 1, none⟩) hbl).trans f1, ⟨a, cap, hv, ?_⟩, hl⟩
  rcases hb with hb | ⟨b, o, z, ha, h1, hz⟩
  · exact .inl hb
  · exact .inr ⟨b, o, z, ha, h1, fun i hi => ⟨hg.cell (hz i hi).1 (by simp; omega), (hz i hi).2⟩⟩
theorem Rd.own {w w' : World} {rb len N base e size n : Nat} {v u : Value} {xs : List Value} (h : Rd w rb v len N) (hown : w.ownsRow base e size u n xs) (hg : w.grownBy w' u.ownBlock) (hk : rb < base) : Rd w' rb v len N := by
  have hlt := h.lt
  obtain ⟨p, hp, c0, c1, f1, ⟨a, cap, hv, hb⟩, hl⟩ := h
  have hbl := hg.block rb hlt (own_ne hown hk)
  refine ⟨p, hp, (World.cell?_of_block (w := w) (a := ⟨rb, 0, none⟩) hbl).trans c0, (World.cell?_of_block (w := w) (a := ⟨rb, 1, none⟩) hbl).trans c1, (World.frozen?_of_block (w := w) (a := ⟨rb, 1, none⟩) hbl).trans f1, ⟨a, cap, hv, ?_⟩, hl⟩
  rcases hb with hb | ⟨b, o, z, ha, h1, hz⟩
  · exact .inl hb
  · exact .inr ⟨b, o, z, ha, h1, fun i hi => ⟨hg.cell (hz i hi).1 (own_ne hown (b := b) (by omega)), (hz i hi).2⟩⟩
theorem Rd.drew {w : World} {rb len N : Nat} {v : Value} (h : Rd w rb v len N) : Rd w.drew rb v len N := h
theorem BytesAt.cut {w : World} {rb n m : Nat} {a : Option Addr} {cap : Nat} (h : BytesAt w rb (.slice a n cap) n) (hm : m ≤ n) : BytesAt w rb (.slice a m cap) m := by
  obtain ⟨a', cap', hv, h⟩ := h
  cases hv
  refine ⟨a, cap, rfl, ?_⟩
  rcases h with h | ⟨b, o, z, ha, hb, hz⟩
  · exact .inl (by omega)
  · exact .inr ⟨b, o, z, ha, hb, fun i hi => hz i (by omega)⟩
theorem BytesAt.up {w w' : World} {B rb len : Nat} {v : Value} (h : BytesAt w B v len) (hg : Below B w w') (hB : B ≤ rb) : BytesAt w' rb v len := by
  obtain ⟨a, cap, hv, h⟩ := h
  refine ⟨a, cap, hv, ?_⟩
  rcases h with h | ⟨b, o, z, ha, hb, hz⟩
  · exact .inl h
  · exact .inr ⟨b, o, z, ha, by omega, fun i hi => ⟨(hg.cell (p := ⟨b, o + i, none⟩) hb).trans (hz i hi).1, (hz i hi).2⟩⟩
theorem rd_alloc (w : World) (v : Value) (n : Nat) (t : TypeId) (h : BytesAt w w.heap.size v n) (hn : n ≤ 2000) : Rd (w.alloc (.cells #[v, .int .i64 0] t)) w.heap.size v n 0 :=
  ⟨0, Nat.le_refl _, by simp [go_sem], by simp [go_sem], by simp [go_sem], h.up ((Below.refl _ _).alloc (Nat.le_refl _) _) (Nat.le_refl _), hn⟩
theorem below_of_grown' {a b : World} {rb : Nat} (h : a.grownBy b (some rb)) (hrb : a.heap.size ≤ rb) : Below a.heap.size a b :=
  { os := h.os, tape := h.tape, output := h.output, size := h.size, block := fun i hi => h.block i hi (by simp; omega) }
end Go.Proofs.YtcofjoacehacjaaGreatDoor
