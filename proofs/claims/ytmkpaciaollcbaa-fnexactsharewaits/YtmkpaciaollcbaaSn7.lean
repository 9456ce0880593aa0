/- The share's goroutines, 7: on whom one waits, asked of each. -/
import Derived.Test.YtmkpaciaollcbaaSn3
import Derived.Test.YtmkpaciaollcbaaSn6
namespace Go.Proofs.Ytmkpaciaollcbaa
open Go.Conc Go.ConcN Go.RowKit Go.Conc.Lib Go.ConcR.Gen Go.ConcN.Gen
open Go.ConcR (KK wgBlock WgAt stA smA rd wr mk Payload DC0)

section
variable {X : Nat → Prop} {Shun : Loc → Prop} {W : World} {fv : Value}
theorem low_a (hX : ∀ l, Shun l → ∃ a, l = .cell a ∧ X a.block) {p : Ph} (hL : p.Low = W.heap.size + 3) (hWg : p.Wg = W.heap.size + 2) (hS : p.S = W.heap.size + 1) (hSh : p.Shun = Shun) {a : Addr} (hlt : a.block < W.heap.size + 1) (hx : ¬ X a.block) : LowA p a := by
  refine ⟨by omega, fun h => ?_⟩
  rcases h with h | ⟨b, e, hb⟩ | ⟨b, e, hb⟩
  · rw [hSh] at h
    obtain ⟨b, e, hb⟩ := hX _ h
    cases e; exact hx hb
  · cases e; omega
  · cases e; omega
theorem vc_cell {a : Addr} {v : Value} (hc : W.cell? a = some v) : (VC W fv).cell? a = some v := by
  have hlt := World.block_lt_of_cell? W a hc
  unfold VC VB VA
  rw [World.cell?_alloc_lt _ _ _ (by rw [World.size_alloc, World.size_alloc]; omega), World.cell?_alloc_lt _ _ _ (by rw [World.size_alloc]; omega), World.cell?_alloc_lt _ _ _ hlt, hc]
theorem vc_fv : (VC W fv).cell? ⟨W.heap.size, 0, none⟩ = some fv := by
  unfold VC VB
  rw [World.cell?_alloc_lt _ _ _ (show W.heap.size < _ by rw [World.size_alloc, va_size]; omega), World.cell?_alloc_lt _ _ _ (show W.heap.size < _ by rw [va_size]; omega)]
  unfold VA
  have := heap_alloc_new W (.cells #[fv] 49)
  unfold World.cell?
  simp only []
  rw [this]
  rfl

set_option maxRecDepth 100000 in
theorem asked_waits (hX : ∀ l, Shun l → ∃ a, l = .cell a ∧ X a.block) (hbW : Base X W) {own n oB tB tb g cap nb : Nat} {ha : Nat → Nat} (hon : own < n) (hn : n ≤ 5)
    (c0 : W.cell? ⟨oB, 0, none⟩ = some (.int .i64 own)) (x0 : ¬ X oB) (c1 : W.cell? ⟨tB, 0, none⟩ = some (.pointer (some ⟨tb, 0, none⟩))) (x1 : ¬ X tB) (c2 : W.cell? ⟨tb, 0, none⟩ = some (.slice (some ⟨g, 0, none⟩) n cap)) (x2 : ¬ X tb) (x3 : ¬ X g)
    (c3 : ∀ i, i < n → W.cell? ⟨g, i * 4 + 1, none⟩ = some (.int .u64 (ha i))) (c4 : W.cell? ⟨g, own * 4 + 2, none⟩ = some (.int .u64 nb)) :
    Asked Shun W n (fun j => j != own && (bits .and .u64 (ha j : Int) (nb : Int) != 0)) (.func (.func 32) #[] #[.pointer (some ⟨oB, 0, none⟩), .pointer (some ⟨tB, 0, none⟩)]) := by
  intro p hp hty htS o hL hWg hS hSh hbit j hj C w hCL hW
  have lt : ∀ {a : Addr} {v : Value}, W.cell? a = some v → a.block < W.heap.size + 1 := fun {a v} hc => by have := World.block_lt_of_cell? W a hc; omega
  have L : ∀ {a : Addr} {v : Value}, W.cell? a = some v → ¬ X a.block → LowA p a := fun hc hx => low_a hX hL hWg hS hSh (lt hc) hx
  have hhB : LowA p ⟨W.heap.size, 0, none⟩ := low_a hX hL hWg hS hSh (Nat.lt_succ_self _) (fun h => Nat.lt_irrefl _ (hbW.old _ h))
  by_cases hio : j = own
  · obtain ⟨nf, hcal⟩ := waitsNo (p := p) (W := VC W (.func (.func 32) #[] #[.pointer (some ⟨oB, 0, none⟩), .pointer (some ⟨tB, 0, none⟩)])) (M := One C) (C := C) (tB := tB) rfl hio (L c0 x0) (vc_cell c0)
    refine ⟨0, 28 + nf + 3 + 9, by omega, fun _ => by rw [hbit, hio]; simp, ?_⟩
    unfold Wk
    rw [hp]
    refine askW hp o (M := One C) rfl hCL hhB vc_fv Try.func32 (by kernel_rfl) rfl (r := false) hcal (fun w' hw' => ?_) w hW
    have := tailNo (p := p) (M := One C) (C := C) (i := j) (hB := W.heap.size) hp hty rfl (.func (.func 32) #[] #[.pointer (some ⟨oB, 0, none⟩), .pointer (some ⟨tB, 0, none⟩)]) w' hw'.tk
    unfold Wk at this
    rw [hp] at this
    exact this
  · obtain ⟨nf, hcal⟩ := waitsYes (p := p) (W := VC W (.func (.func 32) #[] #[.pointer (some ⟨oB, 0, none⟩), .pointer (some ⟨tB, 0, none⟩)])) (M := One C) (C := C) rfl hio hj hon (L c0 x0) (vc_cell c0) (L c1 x1) (vc_cell c1) (L c2 x2) (vc_cell c2) (L (c3 j hj) x3) (vc_cell (c3 j hj)) (L c4 x3) (vc_cell c4)
    have hjo : (j != own) = true := by simpa using hio
    by_cases hr : (bits .and .u64 (ha j : Int) (nb : Int) != 0) = true
    · refine ⟨1, 40 + nf + 3 + 9, by omega, fun h => by omega, ?_⟩
      have hb1 : p.bit j = 2 ^ j := by rw [hbit]; simp [hjo, hr]
      rw [hr] at hcal
      unfold Wk
      rw [hp]
      refine askW hp o (M := One C) rfl hCL hhB vc_fv Try.func32 (by kernel_rfl) rfl (r := true) hcal (fun w' hw' => ?_) w hW
      have := tailYes (p := p) (M := One C) (C := C) (i := j) (hB := W.heap.size) hp hty htS o rfl hCL (by omega) hb1 (.func (.func 32) #[] #[.pointer (some ⟨oB, 0, none⟩), .pointer (some ⟨tB, 0, none⟩)]) w' hw'.tk
      unfold Wk at this
      rw [hp] at this
      exact this
    · refine ⟨0, 28 + nf + 3 + 9, by omega, fun _ => by rw [hbit]; simp only [hjo, Bool.true_and]; rw [if_neg hr], ?_⟩
      rw [Bool.not_eq_true] at hr
      rw [hr] at hcal
      unfold Wk
      rw [hp]
      refine askW hp o (M := One C) rfl hCL hhB vc_fv Try.func32 (by kernel_rfl) rfl (r := false) hcal (fun w' hw' => ?_) w hW
      have := tailNo (p := p) (M := One C) (C := C) (i := j) (hB := W.heap.size) hp hty rfl (.func (.func 32) #[] #[.pointer (some ⟨oB, 0, none⟩), .pointer (some ⟨tB, 0, none⟩)]) w' hw'.tk
      unfold Wk at this
      rw [hp] at this
      exact this
end
end Go.Proofs.Ytmkpaciaollcbaa
