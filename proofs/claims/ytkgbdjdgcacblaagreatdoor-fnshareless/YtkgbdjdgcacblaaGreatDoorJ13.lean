/- What the row's list gives: the errors package's handle of the type error; a world for the witness. -/
import Derived.Test.YtkgbdjdgcacblaaGreatDoorRows
import Derived.Test.YtkgbdjdgcacblaaGreatDoorJ0
import Derived.Test.YtkgbdjdgcacblaaGreatDoorJ12
import Derived.LaidHandle
import Derived.Laws.Bits64
import Derived.Deep.QuietTactic
import Derived.BigQuiet
namespace Go.Proofs.YtkgbdjdgcacblaaGreatDoor
open Go.ChangeShapes Go.WideShapes Go.ChangeAt Go.RowKit

theorem etN : Tryz.prog.globalNamed "errors.errorType" = some 0 := by kernel_rfl
theorem rtN : (Tryz.prog.cutTypes.find? (·.1 == "internal/reflectlite.rtype")).map (·.2) = some 127 := by kernel_rfl
theorem oneRow : ((List.range Tryz.prog.types.size).filter fun t => Tryz.prog.rowNamed t [101, 114, 114, 111, 114]) = [66] := by kernel_rfl
theorem ErrT.of_laid {W : World} (h : laidMetH Tryz.prog [("errors.errorType", Rows.laid_errors_errorType)] W) : ErrT W := by
  have h' : laidMet Tryz.prog [] W ∧ handlesMet Tryz.prog [("errors.errorType", Rows.laid_errors_errorType)] W := h
  obtain ⟨name, u, ty, e1, e2, e3, e4, e5⟩ := h'.2 _ (List.mem_singleton.2 rfl)
  have en : name = [101, 114, 114, 111, 114] := (Option.some.inj e1).symm
  subst en
  obtain rfl := Option.some.inj (rtN.symm.trans e2)
  have hm : ty ∈ (List.range Tryz.prog.types.size).filter fun t => Tryz.prog.rowNamed t [101, 114, 114, 111, 114] := List.mem_filter.2 ⟨List.mem_range.2 e3, e4⟩
  rw [oneRow] at hm
  obtain rfl := List.mem_singleton.1 hm
  have hh : typeHandle Tryz.prog 66 = (Value.pointer (some ⟨1, 66, none⟩)) := by kernel_rfl
  rw [hh] at e5
  unfold ErrT
  simpa using World.var?_cell etN e5 0
noncomputable def laidWorldE (os : Os) : World :=
  { World.holding Tryz.prog os ⟨#[], #[], []⟩ with heap := (World.holding Tryz.prog os ⟨#[], #[], []⟩).heap.modify 0 fun
      | .cells _ t frozen => .cells #[(Value.iface 127 (.agg #[(Value.pointer (some ⟨1, 66, none⟩))]))] t frozen
      | o => o }
theorem laidE_met (os : Os) (args : Array Value) : laidMetH Tryz.prog [("errors.errorType", Rows.laid_errors_errorType)] ((laidWorldE os).forCall (fun _ _ => 0) ⟨#[], args, []⟩).memory :=
  laidMetH_of_parts (laidMet_nil _ _) (by kernel_rfl)
end Go.Proofs.YtkgbdjdgcacblaaGreatDoor

/- The reader of a code; what grows; lists of texts: plain facts. -/
namespace Go.Proofs.YtkgbdjdgcacblaaGreatDoor
open Go.RowKit

theorem xor_i64 (a b : Nat) (ha : a < 4611686018427387904) (hb : b < 4611686018427387904) : 0 ≤ bits .xor .i64 (a : Int) (b : Int) ∧ bits .xor .i64 (a : Int) (b : Int) < 4611686018427387904 := by
  have hx : a ^^^ b < 2 ^ 62 := Nat.xor_lt_two_pow (by omega) (by omega)
  have h1 : (BitVec.ofInt 64 (a : Int)).toNat = a := by
    rw [BitVec.ofInt_natCast, BitVec.toNat_ofNat]; exact Nat.mod_eq_of_lt (by omega)
  have h2 : (BitVec.ofInt 64 (b : Int)).toNat = b := by
    rw [BitVec.ofInt_natCast, BitVec.toNat_ofNat]; exact Nat.mod_eq_of_lt (by omega)
  have e : bits .xor .i64 (a : Int) (b : Int) = IntKind.i64.wrap ((a ^^^ b : Nat) : Int) := by
    show IntKind.i64.wrap ((BitVec.ofInt 64 (a : Int) ^^^ BitVec.ofInt 64 (b : Int)).toNat : Int) = _
    rw [BitVec.toNat_xor, h1, h2]
  rw [e, IntKind.wrap_i64]
  omega

/-- The bytes of a code, apart from block rb. -/
def BytesAt (w : World) (rb : Nat) (v : Value) (len : Nat) : Prop := ∃ (a : Option Addr) (cap : Nat), v = .slice a len cap ∧ (len = 0 ∨ ∃ (b o : Nat) (z : Nat → Int), a = some ⟨b, o, none⟩ ∧ b < rb ∧ ∀ i, i < len → w.cell? ⟨b, o + i, none⟩ = some (.int .u8 (z i)) ∧ 0 ≤ z i ∧ z i ≤ 255)
/-- The reader: at most N have been picked. -/
def Rd (w : World) (rb : Nat) (v : Value) (len N : Nat) : Prop := ∃ p : Nat, p ≤ N ∧ w.cell? ⟨rb, 0, none⟩ = some v ∧ w.cell? ⟨rb, 1, none⟩ = some (.int .i64 p) ∧ w.frozen? ⟨rb, 1, none⟩ = false ∧ BytesAt w rb v len ∧ len ≤ 2000
theorem BytesAt.kept {w w' : World} {rb len : Nat} {v : Value} (h : BytesAt w rb v len) (hg : w.grownBy w' (some rb)) : BytesAt w' rb v len := by
  obtain ⟨a, cap, hv, h⟩ := h
  refine ⟨a, cap, hv, ?_⟩
  rcases h with h | ⟨b, o, z, ha, hb, hz⟩
  · exact .inl h
  · exact .inr ⟨b, o, z, ha, hb, fun i hi => ⟨hg.cell (hz i hi).1 (by simp; omega), (hz i hi).2⟩⟩

theorem Rd.drewN {w : World} {rb len N : Nat} {v : Value} (h : Rd w rb v len N) (n : Nat) : Rd (w.drewN n) rb v len N := h

theorem Rd.mono {w : World} {rb len N M : Nat} {v : Value} (h : Rd w rb v len N) (hM : N ≤ M) : Rd w rb v len M := by
  obtain ⟨p, hp, r⟩ := h
  exact ⟨p, by omega, r⟩
theorem Rd.lt {w : World} {rb len N : Nat} {v : Value} (h : Rd w rb v len N) : rb < w.heap.size := by
  obtain ⟨p, hp, c0, _⟩ := h
  exact World.block_lt_of_cell? w _ c0
theorem Rd.kept {w w' : World} {rb len N : Nat} {v : Value} (h : Rd w rb v len N) (hb : Below w.heap.size w w') : Rd w' rb v len N := by
  have hlt := h.lt
  obtain ⟨p, hp, c0, c1, f1, by1, hl⟩ := h
  exact ⟨p, hp, (hb.cell (p := ⟨rb, 0, none⟩) hlt).trans c0, (hb.cell (p := ⟨rb, 1, none⟩) hlt).trans c1, (hb.frozen (p := ⟨rb, 1, none⟩) hlt).trans f1, by1.kept (grown_below hb), hl⟩
theorem Rd.alloc {w : World} {rb len N : Nat} {v : Value} (h : Rd w rb v len N) (o : Obj) : Rd (w.alloc o) rb v len N := h.kept ((Below.refl _ _).alloc (Nat.le_refl _) _)
theorem Rd.setCell {w : World} {rb len N pb off : Nat} {v u : Value} (h : Rd w rb v len N) (hlt : rb < pb) : Rd (w.setCell ⟨pb, off, none⟩ u) rb v len N := by
  obtain ⟨p, hp, c0, c1, f1, ⟨a, cap, hv, hb⟩, hl⟩ := h
  refine ⟨p, hp, ?_, ?_, ?_, ⟨a, cap, hv, ?_⟩, hl⟩
  · rw [World.cell?_setCell_other _ _ _ _ (by simp <;> omega)]; exact c0
  · rw [World.cell?_setCell_other _ _ _ _ (by simp <;> omega)]; exact c1
  · rw [World.frozen?_setCell]; exact f1
  · rcases hb with hb | ⟨b, o, z, rfl, h1, hz⟩
    · exact .inl hb
    · refine .inr ⟨b, o, z, rfl, h1, fun i hi => ⟨?_, (hz i hi).2⟩⟩
      rw [World.cell?_setCell_other _ _ _ _ (by simp <;> omega)]; exact (hz i hi).1
/-- The texts of a list all have sizes. -/
def SzS (ss : List ByteArray) : Prop := ∀ s ∈ ss, s.size ≤ maxLen
theorem sz_lit {ss : List ByteArray} (h : (ss.all fun s => decide (s.size ≤ 100)) = true) : SzS ss := fun s hs => by
  have := List.all_eq_true.1 h s hs
  simp only [decide_eq_true_eq] at this
  unfold maxLen; omega
theorem strsAt_alloc (w : World) (ss : List ByteArray) (t : TypeId) : StrsAt (w.alloc (.cells (ss.map Value.string).toArray t)) w.heap.size 0 ss := fun i s hs => by
  have : ((ss.map Value.string).toArray)[i]? = some (.string s) := by simp [hs]
  simp [go_sem, World.cell?_alloc_at, this]
theorem Rd.row {w w' : World} {rb len N k : Nat} {v : Value} (h : Rd w rb v len N) (hg : w.grownBy w' (some k)) (hk : rb < k) : Rd w' rb v len N := by
  have hlt := h.lt
  obtain ⟨p, hp, c0, c1, f1, ⟨a, cap, hv, hb⟩, hl⟩ := h
  have hbl := hg.block rb hlt (by simp; omega)
  refine ⟨p, hp, (World.cell?_of_block (w := w) (a := ⟨rb, 0, none⟩) hbl).trans c0, (World.cell?_of_block (w := w) (a := ⟨rb, 1, none⟩) hbl).trans c1, (World.frozen?_of_block (w := w) (a := ⟨rb, 1, none⟩) hbl).trans f1, ⟨a, cap, hv, ?_⟩, hl⟩
  rcases hb with hb | ⟨b, o, z, ha, h1, hz⟩
  · exact .inl hb
  · exact .inr ⟨b, o, z, ha, h1, fun i hi => ⟨hg.cell (hz i hi).1 (by simp; omega), (hz i hi).2⟩⟩
theorem Rd.own {w w' : World} {rb len N base e size n : Nat} {v u : Value} {xs : List Value} (h : Rd w rb v len N) (hown : w.ownsRow base e size u n xs) (hg : w.grownBy w' u.ownBlock) (hk : rb < base) : Rd w' rb v len N := by
  have hlt := h.lt
  obtain ⟨p, hp, c0, c1, f1, ⟨a, cap, hv, hb⟩, hl⟩ := h
  have hbl := hg.block rb hlt (own_ne hown hk)
  refine ⟨p, hp, (World.cell?_of_block (w := w) (a := ⟨rb, 0, none⟩) hbl).trans c0, (World.cell?_of_block (w := w) (a := ⟨rb, 1, none⟩) hbl).trans c1, (World.frozen?_of_block (w := w) (a := ⟨rb, 1, none⟩) hbl).trans f1, ⟨a, cap, hv, ?_⟩, hl⟩
  rcases hb with hb | ⟨b, o, z, ha, h1, hz⟩
  · exact .inl hb
  · exact .inr ⟨b, o, z, ha, h1, fun i hi => ⟨hg.cell (hz i hi).1 (own_ne hown (b := b) (by omega)), (hz i hi).2⟩⟩
theorem Rd.drew {w : World} {rb len N : Nat} {v : Value} (h : Rd w rb v len N) : Rd w.drew rb v len N := h
theorem BytesAt.cut {w : World} {rb n m : Nat} {a : Option Addr} {cap : Nat} (h : BytesAt w rb (.slice a n cap) n) (hm : m ≤ n) : BytesAt w rb (.slice a m cap) m := by
  obtain ⟨a', cap', hv, h⟩ := h
  cases hv
  refine ⟨a, cap, rfl, ?_⟩
  rcases h with h | ⟨b, o, z, ha, hb, hz⟩
  · exact .inl (by omega)
  · exact .inr ⟨b, o, z, ha, hb, fun i hi => hz i (by omega)⟩
theorem BytesAt.up {w w' : World} {B rb len : Nat} {v : Value} (h : BytesAt w B v len) (hg : Below B w w') (hB : B ≤ rb) : BytesAt w' rb v len := by
  obtain ⟨a, cap, hv, h⟩ := h
  refine ⟨a, cap, hv, ?_⟩
  rcases h with h | ⟨b, o, z, ha, hb, hz⟩
  · exact .inl h
  · exact .inr ⟨b, o, z, ha, by omega, fun i hi => ⟨(hg.cell (p := ⟨b, o + i, none⟩) hb).trans (hz i hi).1, (hz i hi).2⟩⟩
theorem rd_alloc (w : World) (v : Value) (n : Nat) (t : TypeId) (h : BytesAt w w.heap.size v n) (hn : n ≤ 2000) : Rd (w.alloc (.cells #[v, .int .i64 0] t)) w.heap.size v n 0 :=
  ⟨0, Nat.le_refl _, by simp [go_sem], by simp [go_sem], by simp [go_sem], h.up ((Below.refl _ _).alloc (Nat.le_refl _) _) (Nat.le_refl _), hn⟩
theorem below_of_grown' {a b : World} {rb : Nat} (h : a.grownBy b (some rb)) (hrb : a.heap.size ≤ rb) : Below a.heap.size a b :=
  { os := h.os, tape := h.tape, output := h.output, size := h.size, block := fun i hi => h.block i hi (by simp; omega) }
end Go.Proofs.YtkgbdjdgcacblaaGreatDoor

/- The reader of a code, for the share: its walks. -/
namespace Go.Proofs.YtkgbdjdgcacblaaGreatDoor
open Go.RowKit

set_option maxHeartbeats 2000000 in
theorem pick_any (rb len N : Nat) (v : Value) (n : Int) (w : World) (hR : Rd w rb v len N) (hN : N ≤ 1000000) :
    Calls Tryz.prog 27 #[.pointer (some ⟨rb, 0, none⟩), .int .i64 n] w
      fun e w' => (∃ x : Int, e = .returned (.int .i64 x) ∧ 0 ≤ x ∧ (1 ≤ n → x < n)) ∧ Rd w' rb v len (N + 1) ∧ w.grownBy w' (some rb) := by
  obtain ⟨p, hp, c0, c1, f1, hby, hl⟩ := hR
  have d0 : (w.setCell ⟨rb, 1, none⟩ (.int .i64 ((p : Int) + 1))).cell? ⟨rb, 0, none⟩ = some v := by rw [World.cell?_setCell_other _ _ _ _ (by simp)]; exact c0
  have d1 : (w.setCell ⟨rb, 1, none⟩ (.int .i64 ((p : Int) + 1))).cell? ⟨rb, 1, none⟩ = some (.int .i64 ((p : Int) + 1)) := World.cell?_setCell_same _ _ _ c1
  have d2 : (w.setCell ⟨rb, 1, none⟩ (.int .i64 ((p : Int) + 1))).frozen? ⟨rb, 1, none⟩ = false := by rw [World.frozen?_setCell]; exact f1
  have hg : w.grownBy (w.setCell ⟨rb, 1, none⟩ (.int .i64 ((p : Int) + 1))) (some rb) := grown_setCell (grown_refl _ _) _
  have HR : Hid (Rd (w.setCell ⟨rb, 1, none⟩ (.int .i64 ((p : Int) + 1))) rb v len (N + 1)) := ⟨p + 1, by omega, d0, by simpa using d1, d2, hby.kept hg, hl⟩
  obtain ⟨a, cap, rfl, hby⟩ := hby
  by_cases hn : n < 1
  · go_enter Tryz.func27, Tryz.ntmps27
    go_wp2
    go_ret
    exact ⟨⟨0, rfl, by omega, by omega⟩, HR.out, hg⟩
  by_cases h0 : len = 0
  · subst h0
    go_enter Tryz.func27, Tryz.ntmps27
    go_wp2
    go_ret
    exact ⟨⟨0, rfl, by omega, by omega⟩, HR.out, hg⟩
  rcases hby with h | ⟨b, o, z, rfl, hb, hz⟩
  · exact absurd h h0
  have e0 : ((len : Int) == 0) = false := by simp; omega
  by_cases hpl : p < len
  · obtain ⟨hz1, hz2, hz3⟩ := hz p hpl
    have hz1' := hg.cell hz1 (by simp; omega)
    go_enter Tryz.func27, Tryz.ntmps27
    go_wp2
    go_ret
    exact ⟨⟨_, rfl, Int.emod_nonneg _ (by omega), Int.emod_lt_of_pos _ (by omega)⟩, HR.out, hg⟩
  · obtain ⟨y1, y2, y3⟩ := hz (p % len) (Nat.mod_lt _ (by omega))
    obtain ⟨q1, q2, q3⟩ := hz ((p * 7 + 3) % len) (Nat.mod_lt _ (by omega))
    have y1' := hg.cell y1 (by simp; omega)
    have q1' := hg.cell q1 (by simp; omega)
    have hm1 : p % len < len := Nat.mod_lt _ (by omega)
    have hm2 : (p * 7 + 3) % len < len := Nat.mod_lt _ (by omega)
    have hlen : 0 < len := by omega
    have i1 : (0 : Int) ≤ (p : Int) % (len : Int) := Int.emod_nonneg _ (by omega)
    have i2 : (p : Int) % (len : Int) < (len : Int) := Int.emod_lt_of_pos _ (by omega)
    have i3 : (0 : Int) ≤ ((p : Int) * 7 + 3) % (len : Int) := Int.emod_nonneg _ (by omega)
    have i4 : ((p : Int) * 7 + 3) % (len : Int) < (len : Int) := Int.emod_lt_of_pos _ (by omega)
    have t1 : ((p : Int) % (len : Int)).toNat = p % len := by rw [← Int.natCast_emod]; rfl
    have t2 : (((p : Int) * 7 + 3) % (len : Int)).toNat = (p * 7 + 3) % len := by rw [show ((p : Int) * 7 + 3) = ((p * 7 + 3 : Nat) : Int) by omega, ← Int.natCast_emod]; rfl
    have j1 : (0 : Int) ≤ (p : Int) / (len : Int) := Int.ediv_nonneg (by omega) (by omega)
    have j2 : (p : Int) / (len : Int) ≤ (p : Int) := by rw [← Int.natCast_ediv]; have := Nat.div_le_self p len; omega
    clear hz y1 q1
    go_enter Tryz.func27, Tryz.ntmps27
    go_wp2
    go_quiet (fail)
    obtain ⟨X, hX, hX9⟩ : ∃ X : Nat, z (p % len) * 131 + z ((p * 7 + 3) % len) * 1117 + (p : Int) * 29 + (p : Int) / (len : Int) * 53 = (X : Int) ∧ X ≤ 1000000000 := ⟨(z (p % len) * 131 + z ((p * 7 + 3) % len) * 1117 + (p : Int) * 29 + (p : Int) / (len : Int) * 53).toNat, by omega, by omega⟩
    rw [hX]
    clear hX y1' q1' y2 y3 q2 q3 i1 i2 i3 i4 t1 t2 j1 j2 hm1 hm2
    obtain ⟨x1, x2⟩ := xor_i64 X (X / 64) (by omega) (by omega)
    rw [show ((X / 64 : Nat) : Int) = (X : Int) / 64 by omega] at x1 x2
    go_wp2
    go_ret
    exact ⟨⟨_, rfl, Int.emod_nonneg _ (by omega), fun _ => Int.emod_lt_of_pos _ (by omega)⟩, Rd.drewN HR.out nq, grown_drewN hg nq⟩

theorem of_any (rb len N : Nat) (v : Value) (ss : List ByteArray) (n g o c : Nat) (w : World) (hl : ss.length = n) (hR : Rd w rb v len N) (hN : N ≤ 1000000) (hS : StrsAt w g o ss) (hne : g ≠ rb) (hpos : 0 < n) (hbig : n ≤ 1000) :
    Calls Tryz.prog 28 #[.pointer (some ⟨rb, 0, none⟩), .slice (some ⟨g, o, none⟩) n c] w
      fun e w' => (∃ s ∈ ss, e = .returned (.string s)) ∧ Rd w' rb v len (N + 1) ∧ w.grownBy w' (some rb) := by
  go_enter Tryz.func28, Tryz.ntmps28
  go_wp2_with fail
  refine (pick_any rb len N v _ w hR hN).mono ?_
  rintro e w1 ⟨⟨x, rfl, hx0, hx1⟩, hR1, hg1⟩
  have hx2 := hx1 (by omega)
  obtain ⟨k, rfl⟩ : ∃ k : Nat, x = (k : Int) := ⟨x.toNat, by omega⟩
  have hk : k < n := by omega
  have hcell := (hS.kept hg1 hne) k (ss[k]'(by omega)) (by simp)
  have Hm : Hid (ss[k]'(by omega) ∈ ss) := by show _ ∈ _; simp
  generalize ss[k]'(by omega) = s at *
  clear hx1 hS
  go_wp2_with fail
  go_ret
  exact ⟨⟨s, Hm.out, rfl⟩, hR1, hg1⟩
theorem open_any (a : Option Addr) (n cap : Nat) (w : World) (h : BytesAt w w.heap.size (.slice a n cap) n) (hcap : n ≤ cap) (_hbig : cap ≤ maxLen) :
    Calls Tryz.prog 24 #[.slice a n cap] w
      fun e w' => (∃ (rb len : Nat) (v : Value), e = .returned (.pointer (some ⟨rb, 0, none⟩)) ∧ Rd w' rb v len 0 ∧ w.heap.size ≤ rb) ∧ Below w.heap.size w w' := by
  by_cases hn : 2000 < n
  · go_enter Tryz.func24, Tryz.ntmps24
    go_wp2_with fail
    go_ret
    exact ⟨⟨w.heap.size, 2000, _, rfl, rd_alloc w _ 2000 _ (h.cut (by omega)) (by omega), Nat.le_refl _⟩, (Below.refl _ _).alloc (Nat.le_refl _) _⟩
  · go_enter Tryz.func24, Tryz.ntmps24
    go_wp2_with fail
    go_ret
    exact ⟨⟨w.heap.size, n, _, rfl, rd_alloc w _ n _ h (by omega), Nat.le_refl _⟩, (Below.refl _ _).alloc (Nat.le_refl _) _⟩
end Go.Proofs.YtkgbdjdgcacblaaGreatDoor
