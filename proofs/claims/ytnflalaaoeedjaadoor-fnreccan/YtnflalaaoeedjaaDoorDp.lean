/- The reader of a code: its walks. -/
import Derived.Test.YtnflalaaoeedjaaDoorWa
import Derived.Laws.Bits64
import Derived.Deep.QuietTactic
import Derived.BigQuiet
namespace Go.Proofs.YtnflalaaoeedjaaDoor
open Go.RowKit

theorem xor_i64 (a b : Nat) (ha : a < 4611686018427387904) (hb : b < 4611686018427387904) : 0 ≤ bits .xor .i64 (a : Int) (b : Int) ∧ bits .xor .i64 (a : Int) (b : Int) < 4611686018427387904 := by
  have hx : a ^^^ b < 2 ^ 62 := Nat.xor_lt_two_pow (by omega) (by omega)
  have h1 : (BitVec.ofInt 64 (a : Int)).toNat = a := by
    rw [BitVec.ofInt_natCast, BitVec.toNat_ofNat]; exact Nat.mod_eq_of_lt (by omega)
  have h2 : (BitVec.ofInt 64 (b : Int)).toNat = b := by
    rw [BitVec.ofInt_natCast, BitVec.toNat_ofNat]; exact Nat.mod_eq_of_lt (by omega)
  have e : bits .xor .i64 (a : Int) (b : Int) = IntKind.i64.wrap ((a ^^^ b : Nat) : Int) := by
    show IntKind.i64.wrap ((BitVec.ofInt 64 (a : Int) ^^^ BitVec.ofInt 64 (b : Int)).toNat : Int) = _
    rw [BitVec.toNat_xor, h1, h2]
  rw [e, IntKind.wrap_i64]
  omega

/-- The bytes of a code, apart from block rb. -/
def BytesAt (w : World) (rb : Nat) (v : Value) (len : Nat) : Prop := ∃ (a : Option Addr) (cap : Nat), v = .slice a len cap ∧ (len = 0 ∨ ∃ (b o : Nat) (z : Nat → Int), a = some ⟨b, o, none⟩ ∧ b < rb ∧ ∀ i, i < len → w.cell? ⟨b, o + i, none⟩ = some (.int .u8 (z i)) ∧ 0 ≤ z i ∧ z i ≤ 255)
/-- The reader: at most N have been picked. -/
def Rd (w : World) (rb : Nat) (v : Value) (len N : Nat) : Prop := ∃ p : Nat, p ≤ N ∧ w.cell? ⟨rb, 0, none⟩ = some v ∧ w.cell? ⟨rb, 1, none⟩ = some (.int .i64 p) ∧ w.frozen? ⟨rb, 1, none⟩ = false ∧ BytesAt w rb v len ∧ len ≤ 2000
theorem grown_trans {a b c : World} {r : Option Nat} (h : a.grownBy b r) (k : b.grownBy c r) : a.grownBy c r :=
  ⟨k.os.trans h.os, k.tape.trans h.tape, k.output.trans h.output, Nat.le_trans h.size k.size, fun i hi hr => (k.block i (Nat.lt_of_lt_of_le hi h.size) hr).trans (h.block i hi hr)⟩
theorem grown_refl (a : World) (r : Option Nat) : a.grownBy a r := ⟨rfl, rfl, rfl, Nat.le_refl _, fun _ _ _ => rfl⟩
theorem grown_drew {a b : World} {r : Option Nat} (h : a.grownBy b r) : a.grownBy b.drew r := ⟨h.os, h.tape, h.output, h.size, h.block⟩
theorem grown_below {a b : World} {r : Option Nat} (h : Below a.heap.size a b) : a.grownBy b r := ⟨h.os, h.tape, h.output, h.size, fun i hi _ => h.block i hi⟩
theorem grown_alloc {a b : World} {r : Option Nat} (h : a.grownBy b r) (o : Obj) : a.grownBy (b.alloc o) r := grown_trans h (grown_below ((Below.refl _ _).alloc (Nat.le_refl _) _))
theorem grown_setCell {a b : World} {rb off : Nat} (h : a.grownBy b (some rb)) (u : Value) : a.grownBy (b.setCell ⟨rb, off, none⟩ u) (some rb) :=
  grown_trans h ⟨rfl, rfl, rfl, by simp, fun i _ hr => Below.heap_setCell _ _ _ _ (fun e => hr (by rw [e]))⟩
theorem BytesAt.kept {w w' : World} {rb len : Nat} {v : Value} (h : BytesAt w rb v len) (hg : w.grownBy w' (some rb)) : BytesAt w' rb v len := by
  obtain ⟨a, cap, hv, h⟩ := h
  refine ⟨a, cap, hv, ?_⟩
  rcases h with h | ⟨b, o, z, ha, hb, hz⟩
  · exact .inl h
  · exact .inr ⟨b, o, z, ha, hb, fun i hi => ⟨hg.cell (hz i hi).1 (by simp; omega), (hz i hi).2⟩⟩

theorem grown_drewN {a b : World} {r : Option Nat} (h : a.grownBy b r) (n : Nat) : a.grownBy (b.drewN n) r := ⟨h.os, h.tape, h.output, h.size, h.block⟩
theorem Rd.drewN {w : World} {rb len N : Nat} {v : Value} (h : Rd w rb v len N) (n : Nat) : Rd (w.drewN n) rb v len N := h

set_option maxHeartbeats 2000000 in
theorem pick_any (rb len N : Nat) (v : Value) (n : Int) (w : World) (hR : Rd w rb v len N) (hN : N ≤ 1000000) :
    Calls Tryd.prog 41 #[.pointer (some ⟨rb, 0, none⟩), .int .i64 n] w
      fun e w' => (∃ x : Int, e = .returned (.int .i64 x) ∧ 0 ≤ x ∧ (1 ≤ n → x < n)) ∧ Rd w' rb v len (N + 1) ∧ w.grownBy w' (some rb) := by
  obtain ⟨p, hp, c0, c1, f1, hby, hl⟩ := hR
  have d0 : (w.setCell ⟨rb, 1, none⟩ (.int .i64 ((p : Int) + 1))).cell? ⟨rb, 0, none⟩ = some v := by rw [World.cell?_setCell_other _ _ _ _ (by simp)]; exact c0
  have d1 : (w.setCell ⟨rb, 1, none⟩ (.int .i64 ((p : Int) + 1))).cell? ⟨rb, 1, none⟩ = some (.int .i64 ((p : Int) + 1)) := World.cell?_setCell_same _ _ _ c1
  have d2 : (w.setCell ⟨rb, 1, none⟩ (.int .i64 ((p : Int) + 1))).frozen? ⟨rb, 1, none⟩ = false := by rw [World.frozen?_setCell]; exact f1
  have hg : w.grownBy (w.setCell ⟨rb, 1, none⟩ (.int .i64 ((p : Int) + 1))) (some rb) := grown_setCell (grown_refl _ _) _
  have HR : Hid (Rd (w.setCell ⟨rb, 1, none⟩ (.int .i64 ((p : Int) + 1))) rb v len (N + 1)) := ⟨p + 1, by omega, d0, by simpa using d1, d2, hby.kept hg, hl⟩
  obtain ⟨a, cap, rfl, hby⟩ := hby
  by_cases hn : n < 1
  · go_enter Tryd.func41, Tryd.ntmps41
    go_wp2
    go_ret
    exact ⟨⟨0, rfl, by omega, by omega⟩, HR.out, hg⟩
  by_cases h0 : len = 0
  · subst h0
    go_enter Tryd.func41, Tryd.ntmps41
    go_wp2
    go_ret
    exact ⟨⟨0, rfl, by omega, by omega⟩, HR.out, hg⟩
  rcases hby with h | ⟨b, o, z, rfl, hb, hz⟩
  · exact absurd h h0
  have e0 : ((len : Int) == 0) = false := by simp; omega
  by_cases hpl : p < len
  · obtain ⟨hz1, hz2, hz3⟩ := hz p hpl
    have hz1' := hg.cell hz1 (by simp; omega)
    go_enter Tryd.func41, Tryd.ntmps41
    go_wp2
    go_ret
    exact ⟨⟨_, rfl, Int.emod_nonneg _ (by omega), Int.emod_lt_of_pos _ (by omega)⟩, HR.out, hg⟩
  · obtain ⟨y1, y2, y3⟩ := hz (p % len) (Nat.mod_lt _ (by omega))
    obtain ⟨q1, q2, q3⟩ := hz ((p * 7 + 3) % len) (Nat.mod_lt _ (by omega))
    have y1' := hg.cell y1 (by simp; omega)
    have q1' := hg.cell q1 (by simp; omega)
    have hm1 : p % len < len := Nat.mod_lt _ (by omega)
    have hm2 : (p * 7 + 3) % len < len := Nat.mod_lt _ (by omega)
    have hlen : 0 < len := by omega
    have i1 : (0 : Int) ≤ (p : Int) % (len : Int) := Int.emod_nonneg _ (by omega)
    have i2 : (p : Int) % (len : Int) < (len : Int) := Int.emod_lt_of_pos _ (by omega)
    have i3 : (0 : Int) ≤ ((p : Int) * 7 + 3) % (len : Int) := Int.emod_nonneg _ (by omega)
    have i4 : ((p : Int) * 7 + 3) % (len : Int) < (len : Int) := Int.emod_lt_of_pos _ (by omega)
    have t1 : ((p : Int) % (len : Int)).toNat = p % len := by rw [← Int.natCast_emod]; rfl
    have t2 : (((p : Int) * 7 + 3) % (len : Int)).toNat = (p * 7 + 3) % len := by rw [show ((p : Int) * 7 + 3) = ((p * 7 + 3 : Nat) : Int) by omega, ← Int.natCast_emod]; rfl
    have j1 : (0 : Int) ≤ (p : Int) / (len : Int) := Int.ediv_nonneg (by omega) (by omega)
    have j2 : (p : Int) / (len : Int) ≤ (p : Int) := by rw [← Int.natCast_ediv]; have := Nat.div_le_self p len; omega
    clear hz y1 q1
    go_enter Tryd.func41, Tryd.ntmps41
    go_wp2
    go_quiet (fail)
    obtain ⟨X, hX, hX9⟩ : ∃ X : Nat, z (p % len) * 131 + z ((p * 7 + 3) % len) * 1117 + (p : Int) * 29 + (p : Int) / (len : Int) * 53 = (X : Int) ∧ X ≤ 1000000000 := ⟨(z (p % len) * 131 + z ((p * 7 + 3) % len) * 1117 + (p : Int) * 29 + (p : Int) / (len : Int) * 53).toNat, by omega, by omega⟩
    rw [hX]
    clear hX y1' q1' y2 y3 q2 q3 i1 i2 i3 i4 t1 t2 j1 j2 hm1 hm2
    obtain ⟨x1, x2⟩ := xor_i64 X (X / 64) (by omega) (by omega)
    rw [show ((X / 64 : Nat) : Int) = (X : Int) / 64 by omega] at x1 x2
    go_wp2
    go_ret
    exact ⟨⟨_, rfl, Int.emod_nonneg _ (by omega), fun _ => Int.emod_lt_of_pos _ (by omega)⟩, Rd.drewN HR.out nq, grown_drewN hg nq⟩

/-- A list of texts in block g from cell o on. -/
def StrsAt (w : World) (g o : Nat) (ss : List ByteArray) : Prop := ∀ (i : Nat) (s : ByteArray), ss[i]? = some s → w.cell? ⟨g, o + i, none⟩ = some (.string s)
theorem StrsAt.kept {w w' : World} {g o rb : Nat} {ss : List ByteArray} (h : StrsAt w g o ss) (hg : w.grownBy w' (some rb)) (hne : g ≠ rb) : StrsAt w' g o ss :=
  fun i s hs => hg.cell (h i s hs) (by simpa using hne)

theorem of_any (rb len N : Nat) (v : Value) (ss : List ByteArray) (n g o c : Nat) (w : World) (hl : ss.length = n) (hR : Rd w rb v len N) (hN : N ≤ 1000000) (hS : StrsAt w g o ss) (hne : g ≠ rb) (hpos : 0 < n) (hbig : n ≤ 1000) :
    Calls Tryd.prog 48 #[.pointer (some ⟨rb, 0, none⟩), .slice (some ⟨g, o, none⟩) n c] w
      fun e w' => (∃ s ∈ ss, e = .returned (.string s)) ∧ Rd w' rb v len (N + 1) ∧ w.grownBy w' (some rb) := by
  go_enter Tryd.func48, Tryd.ntmps48
  go_wp2_with fail
  refine (pick_any rb len N v _ w hR hN).mono ?_
  rintro e w1 ⟨⟨x, rfl, hx0, hx1⟩, hR1, hg1⟩
  have hx2 := hx1 (by omega)
  obtain ⟨k, rfl⟩ : ∃ k : Nat, x = (k : Int) := ⟨x.toNat, by omega⟩
  have hk : k < n := by omega
  have hcell := (hS.kept hg1 hne) k (ss[k]'(by omega)) (by simp)
  have Hm : Hid (ss[k]'(by omega) ∈ ss) := by show _ ∈ _; simp
  generalize ss[k]'(by omega) = s at *
  clear hx1 hS
  go_wp2_with fail
  go_ret
  exact ⟨⟨s, Hm.out, rfl⟩, hR1, hg1⟩
end Go.Proofs.YtnflalaaoeedjaaDoor
