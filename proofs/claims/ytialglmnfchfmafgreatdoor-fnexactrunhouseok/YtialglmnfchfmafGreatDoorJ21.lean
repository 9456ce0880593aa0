/- RunOwn, by the specification and by the program (chapter 21). -/
import Derived.Test.YtialglmnfchfmafGreatDoorU7
import Derived.Test.YtialglmnfchfmafGreatDoorJ2
import Derived.Test.YtialglmnfchfmafGreatDoorJ0
namespace Go.Proofs.YtialglmnfchfmafGreatDoor
open Go.RowKit

theorem okB_kind {p : Ph} (h : p.okB = true) : 1 ≤ p.k ∧ p.k ≤ 5 := by
  unfold Ph.okB phaseB at h
  simp only [Bool.and_eq_true] at h
  have h1 := h.1.1.2
  unfold argsB at h1
  by_cases e1 : p.k = 1
  · omega
  by_cases e2 : p.k = 2
  · omega
  by_cases e3 : p.k = 3
  · omega
  by_cases e4 : p.k = 4 ∨ p.k = 5
  · omega
  rw [if_neg e1, if_neg e2, if_neg e3, if_neg e4] at h1
  cases h1
theorem ofL_len (p : Ph) : (ofL p).length ≤ 2 := by
  unfold ofL; split
  · have := insL_len [p.a] p.b; simpa using this
  · simp
set_option maxRecDepth 20000 in
set_option maxHeartbeats 4000000 in
theorem ownS_any (x : Rb) (rv sv : Value) (w : World) (h : RbV w x rv sv) :
    Calls Tryz.prog 7 #[.agg #[.string x.nm, rv, sv, .string x.ad, .int .i64 x.si, .int .i64 x.st]] w fun e w' => (∃ u, e = .returned u ∧ Txt w' u (rbOwn x)) ∧ Below w.heap.size w w' := by
  have hok := fun W (hB : Below w.heap.size w W) => batchOkS_any x rv sv W (h.up hB)
  obtain ⟨b, o, c, rfl, hr, hb, hcap, hc9⟩ := h.r
  obtain ⟨g, q, d, rfl, hl, hg⟩ := h.s
  have ns := h.ns
  have np := h.np
  clear h
  have hC : CB (w.alloc (.cells #[.string x.nm, .slice (some ⟨b, o, none⟩) x.ps.length c, .slice (some ⟨g, q, none⟩) x.sl.length d, .string x.ad, .int .i64 x.si, .int .i64 x.st] 32)) w.heap.size [.string x.nm, .slice (some ⟨b, o, none⟩) x.ps.length c, .slice (some ⟨g, q, none⟩) x.sl.length d, .string x.ad, .int .i64 x.si, .int .i64 x.st] := cb_alloc w _ _
  have hB0 := (Below.refl w.heap.size w).alloc (Nat.le_refl _) (.cells #[.string x.nm, .slice (some ⟨b, o, none⟩) x.ps.length c, .slice (some ⟨g, q, none⟩) x.sl.length d, .string x.ad, .int .i64 x.si, .int .i64 x.st] 32)
  have HO : Hid (∀ W, Below w.heap.size w W → Calls Tryz.prog 24 #[.agg #[.string x.nm, .slice (some ⟨b, o, none⟩) x.ps.length c, .slice (some ⟨g, q, none⟩) x.sl.length d, .string x.ad, .int .i64 x.si, .int .i64 x.st]] W fun e w' => e = .returned (.bool (pB (RbOk x))) ∧ Below W.heap.size W w') := hok
  clear hok
  go_enter Tryz.func7, Tryz.ntmps7
  go_upto_region 1 with fail
  generalize w.alloc (.cells #[.string x.nm, .slice (some ⟨b, o, none⟩) x.ps.length c, .slice (some ⟨g, q, none⟩) x.sl.length d, .string x.ad, .int .i64 x.si, .int .i64 x.st] 32) = W1 at *
  obtain ⟨d0, d1, d2, d3, d4, d5⟩ := hC.c6
  have hlt := hC.2.2
  by_cases hk : RbOk x
  case neg =>
    have HN : Hid (rbOwn x = []) := rbOwn_no hk
    have hp := pB_no hk
    go_wp2_with fail
    refine (HO.out _ hB0).mono ?_
    rw [hp]
    rintro e w1 ⟨rfl, hB1⟩
    go_wp2_with fail
    go_ret
    exact ⟨⟨_, rfl, by rw [HN.out]; exact txt_nil w1⟩, up_trans (up_trans hB0 hB1) ((Below.refl _ _).alloc (Nat.le_refl _) _)⟩
  obtain ⟨k, hkl, hka⟩ := hasB_at hk.2.2.2.2.1
  have HY : Hid (rbOwn x = thE x.sl (ofL x.ps[k])) := by show _ = _; rw [rbOwn_ok hk, phOf_at hkl hka]
  have hat := fun W (hW : RecAt W b o x.ps) => at_any x.ps b o c x.ad W hW np
  rw [hka] at hat
  have Hat : Hid (∀ W, RecAt W b o x.ps → Calls Tryz.prog 27 #[.slice (some ⟨b, o, none⟩) x.ps.length c, .string x.ad] W fun e w' => e = .returned (.int .i64 (k : Int)) ∧ w' = W) := hat
  have hp := pB_yes hk
  clear hk hat hka
  go_wp2_with fail
  refine (HO.out _ hB0).mono ?_
  rw [hp]
  rintro e w1 ⟨rfl, hB1⟩
  go_upto_region 3 with fail
  have hB01 := up_trans hB0 hB1
  obtain ⟨f0, f1, f2, f3, f4, f5⟩ := (hC.up hB1 hlt).c6
  obtain ⟨r0, r1, r2, r3, r4, r5, r6, r7⟩ := (hr.up hB01 hb).cells k hkl
  have hof := ofL_len x.ps[k]
  generalize x.ps[k] = p at *
  have hq4 : w.heap.size < w1.heap.size := Nat.lt_of_lt_of_le hlt hB1.size
  have hr4 : b < w1.heap.size := Nat.lt_of_lt_of_le hb hB01.size
  have hS0 : Below w1.heap.size w1 w1 ∧ w1.cell? ⟨w.heap.size, 0, none⟩ = some (.string x.nm) ∧ w1.cell? ⟨w.heap.size, 1, none⟩ = some (.slice (some ⟨b, o, none⟩) x.ps.length c) ∧ w1.cell? ⟨w.heap.size, 2, none⟩ = some (.slice (some ⟨g, q, none⟩) x.sl.length d) ∧ w1.cell? ⟨w.heap.size, 3, none⟩ = some (.string x.ad) ∧ w1.cell? ⟨w.heap.size, 4, none⟩ = some (.int .i64 x.si) ∧ w1.cell? ⟨w.heap.size, 5, none⟩ = some (.int .i64 x.st) ∧ w1.cell? ⟨b, o + k * 8, none⟩ = some (.string p.nm) ∧ w1.cell? ⟨b, o + k * 8 + 1, none⟩ = some (.int .i64 p.k) ∧ w1.cell? ⟨b, o + k * 8 + 2, none⟩ = some (.string p.a) ∧ w1.cell? ⟨b, o + k * 8 + 3, none⟩ = some (.string p.b) ∧ w1.cell? ⟨b, o + k * 8 + 4, none⟩ = some (.int .i64 p.n) ∧ w1.cell? ⟨b, o + k * 8 + 5, none⟩ = some (.int .i64 p.wi) ∧ w1.cell? ⟨b, o + k * 8 + 6, none⟩ = some (.string p.t) ∧ w1.cell? ⟨b, o + k * 8 + 7, none⟩ = some (.string p.e) := ⟨Below.refl _ _, f0, f1, f2, f3, f4, f5, r0, r1, r2, r3, r4, r5, r6, r7⟩
  clear d0 d1 d2 d3 d4 d5 f0 f1 f2 f3 f4 f5 r0 r1 r2 r3 r4 r5 r6 r7 hp
  have Hr : Hid (RecAt w1 b o x.ps) := hr.up hB01 hb
  clear hr
  go_wp2_with fail
  go_region_held (fun w' => Below w1.heap.size w1 w' ∧ w'.cell? ⟨w.heap.size, 0, none⟩ = some (.string x.nm) ∧ w'.cell? ⟨w.heap.size, 1, none⟩ = some (.slice (some ⟨b, o, none⟩) x.ps.length c) ∧ w'.cell? ⟨w.heap.size, 2, none⟩ = some (.slice (some ⟨g, q, none⟩) x.sl.length d) ∧ w'.cell? ⟨w.heap.size, 3, none⟩ = some (.string x.ad) ∧ w'.cell? ⟨w.heap.size, 4, none⟩ = some (.int .i64 x.si) ∧ w'.cell? ⟨w.heap.size, 5, none⟩ = some (.int .i64 x.st) ∧ w'.cell? ⟨b, o + k * 8, none⟩ = some (.string p.nm) ∧ w'.cell? ⟨b, o + k * 8 + 1, none⟩ = some (.int .i64 p.k) ∧ w'.cell? ⟨b, o + k * 8 + 2, none⟩ = some (.string p.a) ∧ w'.cell? ⟨b, o + k * 8 + 3, none⟩ = some (.string p.b) ∧ w'.cell? ⟨b, o + k * 8 + 4, none⟩ = some (.int .i64 p.n) ∧ w'.cell? ⟨b, o + k * 8 + 5, none⟩ = some (.int .i64 p.wi) ∧ w'.cell? ⟨b, o + k * 8 + 6, none⟩ = some (.string p.t) ∧ w'.cell? ⟨b, o + k * 8 + 7, none⟩ = some (.string p.e)) (first | exact k14_drew hS0 | exact k14_up hq4 hr4 (by assumption) (by assumption))
    (first
      | (go_at_call 27; refine (Hat.out _ (Hr.out.up (And.left (by assumption)) hr4)).mono ?_; rintro e w2 ⟨rfl, hw⟩; obtain rfl := hw.symm; clear hw)
      | (go_at_call 26; refine (of_any2 p _).mono ?_; rintro e w3 ⟨⟨u3, rfl, hT3⟩, hb3⟩; have hB3 := up_trans hB01.drew hb3)
      | (go_at_call 25; refine (things_any x b o c g q d _ _ _ (hl.up hB3 hg) (Nat.lt_of_lt_of_le hg hB3.size) ns hT3 (by omega)).mono ?_; rintro e w4 ⟨⟨u4, rfl, hT4⟩, hb4⟩))
  rename_i hHeld
  have hB5 := up_trans hB01 hHeld.1
  clear hHeld hS0 hT3 hb3 hb4 hB3
  go_wp2_with fail
  go_ret
  exact ⟨⟨_, rfl, by rw [HY.out]; exact hT4⟩, hB5⟩

set_option maxRecDepth 20000 in
set_option maxHeartbeats 4000000 in
theorem ownP_any (x : Rb) (rv sv : Value) (w : World) (hE : Ends w) (h : RbV w x rv sv) :
    Calls Tryz.prog 9 #[.agg #[.string x.nm, rv, sv, .string x.ad, .int .i64 x.si, .int .i64 x.st]] w fun e w' => (∃ u, e = .returned u ∧ OwnT w' w.heap.size u (rbOwn x)) ∧ Below w.heap.size w w' := by
  have hok := fun W (hB : Below w.heap.size w W) => batchOkP_any x rv sv W (hE.up hB) (h.up hB)
  obtain ⟨b, o, c, rfl, hr, hb, hcap, hc9⟩ := h.r
  obtain ⟨g, q, d, rfl, hl, hg⟩ := h.s
  have ns := h.ns
  have np := h.np
  have zs := h.zs
  have zp := h.zp
  clear h
  have hC : CB (w.alloc (.cells #[.string x.nm, .slice (some ⟨b, o, none⟩) x.ps.length c, .slice (some ⟨g, q, none⟩) x.sl.length d, .string x.ad, .int .i64 x.si, .int .i64 x.st] 32)) w.heap.size [.string x.nm, .slice (some ⟨b, o, none⟩) x.ps.length c, .slice (some ⟨g, q, none⟩) x.sl.length d, .string x.ad, .int .i64 x.si, .int .i64 x.st] := cb_alloc w _ _
  have hB0 := (Below.refl w.heap.size w).alloc (Nat.le_refl _) (.cells #[.string x.nm, .slice (some ⟨b, o, none⟩) x.ps.length c, .slice (some ⟨g, q, none⟩) x.sl.length d, .string x.ad, .int .i64 x.si, .int .i64 x.st] 32)
  have HO : Hid (∀ W, Below w.heap.size w W → Calls Tryz.prog 30 #[.agg #[.string x.nm, .slice (some ⟨b, o, none⟩) x.ps.length c, .slice (some ⟨g, q, none⟩) x.sl.length d, .string x.ad, .int .i64 x.si, .int .i64 x.st]] W fun e w' => e = .returned (.bool (pB (RbOk x))) ∧ Below W.heap.size W w') := hok
  clear hok hE
  go_enter Tryz.func9, Tryz.ntmps9
  go_upto_region 1 with fail
  generalize w.alloc (.cells #[.string x.nm, .slice (some ⟨b, o, none⟩) x.ps.length c, .slice (some ⟨g, q, none⟩) x.sl.length d, .string x.ad, .int .i64 x.si, .int .i64 x.st] 32) = W1 at *
  obtain ⟨d0, d1, d2, d3, d4, d5⟩ := hC.c6
  have hlt := hC.2.2
  by_cases hk : RbOk x
  case neg =>
    have HN : Hid (rbOwn x = []) := rbOwn_no hk
    have hp := pB_no hk
    go_wp2_with fail
    refine (HO.out _ hB0).mono ?_
    rw [hp]
    rintro e w1 ⟨rfl, hB1⟩
    go_wp2_with fail
    go_ret
    exact ⟨⟨_, rfl, by rw [HN.out]; exact World.ownsRow_nil _ _ _ _⟩, up_trans hB0 hB1⟩
  have hhas := hk.2.2.2.2.1
  have HY : Hid (∀ p, p = phOf x.ps x.ad → namesOf (thI x.sl (ownB p)) = rbOwn x ∧ (1 ≤ p.k ∧ p.k ≤ 5) ∧ ∀ s ∈ ownB p, s.size ≤ maxLen) := by
    show _
    rintro p rfl
    have hm := phOf_mem hhas
    refine ⟨?_, okB_kind (recB_ok hk.2.1 hm), fun s hs => ?_⟩
    · rw [rbOwn_ok hk]
      exact names_th (own_same x.sl _ hk.2.2.1.nodup (own_keys _))
    · obtain ⟨_, z1, z2, _⟩ := zp _ hm
      unfold ownB at hs
      split at hs
      · simp only [List.mem_cons, List.not_mem_nil, or_false] at hs
        rcases hs with rfl | rfl
        · exact z1
        · exact z2
      · simp only [List.mem_cons, List.not_mem_nil, or_false] at hs
        rw [hs]; exact z1
  have hp := pB_yes hk
  clear hk
  go_wp2_with fail
  refine (HO.out _ hB0).mono ?_
  rw [hp]
  rintro e w1 ⟨rfl, hB1⟩
  go_upto_region 3 with fail
  have hB01 := up_trans hB0 hB1
  obtain ⟨hc, hf⟩ := bcell hB1
  go_wp2_with fail
  refine (phaseOf_any x.ps b o c x.ad _ (hr.up hB01 hb) (Nat.lt_of_lt_of_le hb hB01.size) np).mono ?_
  rintro e w3 ⟨⟨p, rfl, hpk⟩, hb3⟩
  obtain ⟨HT, hpk5, hps⟩ := HY.out p (by
    obtain ⟨k, hkl, hka⟩ := hasB_at hhas
    rw [hpk k hkl hka, phOf_at hkl hka])
  have HT' : Hid (namesOf (thI x.sl (ownB p)) = rbOwn x) := HT
  clear HT hpk HY hc hf
  have hB13 := up_trans hB1 hb3
  have hB14 := hB13.alloc hB13.size (.cells #[.string (p).nm, .int .i64 (p).k, .string (p).a, .string (p).b, .int .i64 (p).n, .int .i64 (p).wi, .string (p).t, .string (p).e] 65)
  have hCp : CB (w3.alloc (.cells #[.string (p).nm, .int .i64 (p).k, .string (p).a, .string (p).b, .int .i64 (p).n, .int .i64 (p).wi, .string (p).t, .string (p).e] 65)) w3.heap.size [.string p.nm, .int .i64 p.k, .string p.a, .string p.b, .int .i64 p.n, .int .i64 p.wi, .string p.t, .string p.e] := cb_alloc w3 _ _
  go_upto_region 4 with fail
  generalize w3.alloc (.cells #[.string (p).nm, .int .i64 (p).k, .string (p).a, .string (p).b, .int .i64 (p).n, .int .i64 (p).wi, .string (p).t, .string (p).e] 65) = W4 at *
  have e2 := (hB14.cell (p := ⟨w.heap.size, 2, none⟩) hlt).trans d2
  obtain ⟨⟨f0, f1, f2, f3, f4, f5, f6, f7⟩, -⟩ := hCp.c8
  have hB04 := up_trans hB0 hB14
  have hq4 : w.heap.size < W4.heap.size := Nat.lt_of_lt_of_le hlt hB14.size
  have hr4 : w3.heap.size < W4.heap.size := hCp.2.2
  have hS0 : Below W4.heap.size W4 W4 ∧ W4.cell? ⟨w.heap.size, 2, none⟩ = some (.slice (some ⟨g, q, none⟩) x.sl.length d) ∧ W4.cell? ⟨w3.heap.size, 0, none⟩ = some (.string p.nm) ∧ W4.cell? ⟨w3.heap.size, 1, none⟩ = some (.int .i64 p.k) ∧ W4.cell? ⟨w3.heap.size, 2, none⟩ = some (.string p.a) ∧ W4.cell? ⟨w3.heap.size, 3, none⟩ = some (.string p.b) ∧ W4.cell? ⟨w3.heap.size, 4, none⟩ = some (.int .i64 p.n) ∧ W4.cell? ⟨w3.heap.size, 5, none⟩ = some (.int .i64 p.wi) ∧ W4.cell? ⟨w3.heap.size, 6, none⟩ = some (.string p.t) ∧ W4.cell? ⟨w3.heap.size, 7, none⟩ = some (.string p.e) := ⟨Below.refl _ _, e2, f0, f1, f2, f3, f4, f5, f6, f7⟩
  have hob : (ownB p).length ≤ 2 := by unfold ownB; split <;> simp
  clear d0 d1 d2 d3 d4 d5 f0 f1 f2 f3 f4 f5 f6 f7 e2 hp hb3 hB13 hB14 hCp hC
  go_wp2_with fail
  go_region_held (fun w' => Below W4.heap.size W4 w' ∧ w'.cell? ⟨w.heap.size, 2, none⟩ = some (.slice (some ⟨g, q, none⟩) x.sl.length d) ∧ w'.cell? ⟨w3.heap.size, 0, none⟩ = some (.string p.nm) ∧ w'.cell? ⟨w3.heap.size, 1, none⟩ = some (.int .i64 p.k) ∧ w'.cell? ⟨w3.heap.size, 2, none⟩ = some (.string p.a) ∧ w'.cell? ⟨w3.heap.size, 3, none⟩ = some (.string p.b) ∧ w'.cell? ⟨w3.heap.size, 4, none⟩ = some (.int .i64 p.n) ∧ w'.cell? ⟨w3.heap.size, 5, none⟩ = some (.int .i64 p.wi) ∧ w'.cell? ⟨w3.heap.size, 6, none⟩ = some (.string p.t) ∧ w'.cell? ⟨w3.heap.size, 7, none⟩ = some (.string p.e)) (first | exact k9_drew hS0 | exact k9_up hq4 hr4 (by assumption) (by assumption))
    (first
      | (go_at_call 32; refine (slotMap_any x.sl g q d _ (hl.up hB04.drew hg) (Nat.lt_of_lt_of_le hg hB04.drew.size) ns (fun y hy => (zs y hy).1)).mono ?_; rintro e w5 ⟨⟨M, D, rfl, hM, hD, -⟩, hb5⟩; have hB5 := up_trans hB04.drew hb5)
      | (go_at_call 34; refine (phSlots_any p _ hpk5).mono ?_; rintro e w6 ⟨⟨u6, rfl, hT6⟩, hb6⟩; have hM6 := hM.up hb6; have hB6 := up_trans hB5 hb6)
      | (go_at_call 33; refine (thingsM_any x.sl (ownB p) M _ D _ _ hM6 hD (.inr hT6) hps (by omega)).mono ?_; rintro e w7 ⟨⟨u7, rfl, hO7⟩, hb7⟩))
  rename_i hHeld
  have hB8 := up_trans hB04 hHeld.1
  have hO8 := own_low hO7 hB6.size
  clear hHeld hS0 hT6 hO7 hb5 hb6 hb7 hM hD hM6 hB5 hB6
  go_wp2_with fail
  go_ret
  exact ⟨⟨_, rfl, by rw [← HT'.out]; exact hO8⟩, hB8⟩
end Go.Proofs.YtialglmnfchfmafGreatDoor

/- Books in memory: lists of texts, batches, a book. -/
namespace Go.Proofs.YtialglmnfchfmafGreatDoor
open Go.RowKit

/-- A list of texts that a slice leads to. -/
def Ls (w : World) (v : Value) (ss : List ByteArray) : Prop :=
  ∃ a c, v = .slice a ss.length c ∧ ss.length ≤ maxLen ∧ (∀ s ∈ ss, s.size ≤ maxLen) ∧ (0 < ss.length → ∃ b o, a = some ⟨b, o, none⟩ ∧ StrsAt w b o ss ∧ b < w.heap.size)
theorem StrsAt.up {w w' : World} {g o : Nat} {ss : List ByteArray} (h : StrsAt w g o ss) (hb : Below w.heap.size w w') (hg : g < w.heap.size) : StrsAt w' g o ss :=
  fun i s hs => (hb.cell (p := ⟨g, o + i, none⟩) hg).trans (h i s hs)
theorem StrsAt.cell {w : World} {g o : Nat} {ss : List ByteArray} (h : StrsAt w g o ss) {k : Nat} (hk : k < ss.length) : w.cell? ⟨g, o + k, none⟩ = some (.string ss[k]) := h k _ (by rw [List.getElem?_eq_getElem])
theorem Ls.up {w w' : World} {v : Value} {ss : List ByteArray} (h : Ls w v ss) (hb : Below w.heap.size w w') : Ls w' v ss := by
  obtain ⟨a, c, rfl, h1, h2, h3⟩ := h
  refine ⟨a, c, rfl, h1, h2, fun hp => ?_⟩
  obtain ⟨b, o, rfl, hS, hlt⟩ := h3 hp
  exact ⟨b, o, rfl, hS.up hb hlt, Nat.lt_of_lt_of_le hlt hb.size⟩
theorem Ls.inv {w : World} {a : Option Addr} {n c : Nat} {ss : List ByteArray} (h : Ls w (.slice a n c) ss) : ss.length ≤ maxLen ∧ (∀ s ∈ ss, s.size ≤ maxLen) ∧ (0 < ss.length → ∃ b o, a = some ⟨b, o, none⟩ ∧ StrsAt w b o ss ∧ b < w.heap.size) := by
  obtain ⟨a', c', e, h1⟩ := h
  obtain ⟨rfl, -, rfl⟩ := Value.slice.inj e
  exact h1
theorem Ls.drew {w : World} {v : Value} {ss : List ByteArray} (h : Ls w v ss) : Ls w.drew v ss := h
theorem Ls.drewN {w : World} {v : Value} {ss : List ByteArray} (h : Ls w v ss) {n : Nat} : Ls (w.drewN n) v ss := h
theorem Ls.take {w : World} {a : Option Addr} {c : Nat} {ss : List ByteArray} (h : Ls w (.slice a ss.length c) ss) {k : Nat} (hk : k ≤ ss.length) (c' : Nat) : Ls w (.slice a k c') (ss.take k) := by
  obtain ⟨a', c', e, h1, h2, h3⟩ := h
  obtain ⟨rfl, -, rfl⟩ := Value.slice.inj e
  have hl : (ss.take k).length = k := by rw [List.length_take]; omega
  refine ⟨a, _, by rw [hl], by rw [hl]; omega, fun s hs => h2 s (List.mem_of_mem_take hs), fun hp => ?_⟩
  obtain ⟨b, o, rfl, hS, hlt⟩ := h3 (by omega)
  exact ⟨b, o, rfl, hS.take k, hlt⟩
theorem Ls.nil (w : World) (a : Option Addr) (c : Nat) : Ls w (.slice a 0 c) [] := ⟨a, c, rfl, by simp, fun s hs => by simp at hs, fun h => by simp at h⟩
theorem Lst.ls {w : World} {v : Value} {ss : List ByteArray} (h : Lst w v ss) (hz : ∀ s ∈ ss, s.size ≤ maxLen) : Ls w v ss := by
  rcases h with ⟨rfl, rfl⟩ | ⟨g, c, rfl, hS, hg, h1, h2⟩
  · exact Ls.nil _ _ _
  · exact ⟨_, c, rfl, by omega, hz, fun _ => ⟨g, 0, rfl, hS, hg⟩⟩
/-- A batch's three cells. -/
def BaAt (w : World) (b o : Nat) (x : Ba) : Prop := ∃ hv nv, w.rangeAt b o [.string x.nm, hv, nv] ∧ Ls w hv x.has ∧ Ls w nv x.needs ∧ x.nm.size ≤ maxLen
theorem BaAt.up {w w' : World} {b o : Nat} {x : Ba} (h : BaAt w b o x) (hb : Below w.heap.size w w') (hlt : b < w.heap.size) : BaAt w' b o x := by
  obtain ⟨hv, nv, hr, h1, h2, h3⟩ := h
  exact ⟨hv, nv, fun j v hv => (hb.cell (p := ⟨b, o + j, none⟩) hlt).trans (hr j v hv), h1.up hb, h2.up hb, h3⟩
def BsAt (w : World) (b o : Nat) (bs : List Ba) : Prop := ∀ (i : Nat) (x : Ba), bs[i]? = some x → BaAt w b (o + i * 3) x
theorem BsAt.up {w w' : World} {b o : Nat} {bs : List Ba} (h : BsAt w b o bs) (hb : Below w.heap.size w w') (hlt : b < w.heap.size) : BsAt w' b o bs := fun i x hx => (h i x hx).up hb hlt
theorem BsAt.at {w : World} {b o : Nat} {bs : List Ba} (h : BsAt w b o bs) {k : Nat} (hk : k < bs.length) : BaAt w b (o + k * 3) bs[k] := h k _ (by rw [List.getElem?_eq_getElem])
/-- The cells of a batch, its lists with their shapes. -/
theorem BaAt.cells {w : World} {b o : Nat} {x : Ba} (h : BaAt w b o x) : ∃ a1 c1 a2 c2, w.cell? ⟨b, o, none⟩ = some (.string x.nm) ∧ w.cell? ⟨b, o + 1, none⟩ = some (.slice a1 x.has.length c1) ∧ w.cell? ⟨b, o + 2, none⟩ = some (.slice a2 x.needs.length c2) ∧
    Ls w (.slice a1 x.has.length c1) x.has ∧ Ls w (.slice a2 x.needs.length c2) x.needs ∧ x.nm.size ≤ maxLen := by
  obtain ⟨hv, nv, hr, h1, h2, h3⟩ := h
  obtain ⟨a1, c1, rfl, -⟩ := id h1
  obtain ⟨a2, c2, rfl, -⟩ := id h2
  exact ⟨a1, c1, a2, c2, hr 0 _ rfl, hr 1 _ rfl, hr 2 _ rfl, h1, h2, h3⟩
/-- The batches that a slice leads to. -/
def Bs (w : World) (v : Value) (bs : List Ba) : Prop := ∃ a c, v = .slice a bs.length c ∧ bs.length ≤ maxLen ∧ (0 < bs.length → ∃ b o, a = some ⟨b, o, none⟩ ∧ BsAt w b o bs ∧ b < w.heap.size)
theorem Bs.up {w w' : World} {v : Value} {bs : List Ba} (h : Bs w v bs) (hb : Below w.heap.size w w') : Bs w' v bs := by
  obtain ⟨a, c, rfl, h1, h3⟩ := h
  refine ⟨a, c, rfl, h1, fun hp => ?_⟩
  obtain ⟨b, o, rfl, hS, hlt⟩ := h3 hp
  exact ⟨b, o, rfl, hS.up hb hlt, Nat.lt_of_lt_of_le hlt hb.size⟩
theorem Bs.drew {w : World} {v : Value} {bs : List Ba} (h : Bs w v bs) : Bs w.drew v bs := h
/-- A book, as a value. -/
def BkV (w : World) (v : Value) (b : Bk) : Prop := ∃ tv bv, v = .agg #[tv, bv] ∧ Ls w tv b.things ∧ Bs w bv b.bs
theorem BkV.up {w w' : World} {v : Value} {b : Bk} (h : BkV w v b) (hb : Below w.heap.size w w') : BkV w' v b := by
  obtain ⟨tv, bv, rfl, h1, h2⟩ := h
  exact ⟨tv, bv, rfl, h1.up hb, h2.up hb⟩
theorem BkV.drew {w : World} {v : Value} {b : Bk} (h : BkV w v b) : BkV w.drew v b := h
theorem BkV.parts {w : World} {v : Value} {b : Bk} (h : BkV w v b) : ∃ a1 c1 a2 c2, v = .agg #[.slice a1 b.things.length c1, .slice a2 b.bs.length c2] ∧ Ls w (.slice a1 b.things.length c1) b.things ∧ Bs w (.slice a2 b.bs.length c2) b.bs := by
  obtain ⟨tv, bv, rfl, h1, h2⟩ := h
  obtain ⟨a1, c1, rfl, -⟩ := id h1
  obtain ⟨a2, c2, rfl, -⟩ := id h2
  exact ⟨a1, c1, a2, c2, rfl, h1, h2⟩
theorem CB.c2' {w : World} {b : Nat} {x0 x1 : Value} (h : CB w b [x0, x1]) : w.cell? ⟨b, 0, none⟩ = some x0 ∧ w.cell? ⟨b, 1, none⟩ = some x1 := h.c2.1
theorem Bs.at {w : World} {a : Option Addr} {n c : Nat} {bs : List Ba} (h : Bs w (.slice a n c) bs) : bs.length ≤ maxLen ∧ (0 < bs.length → ∃ b o, a = some ⟨b, o, none⟩ ∧ BsAt w b o bs ∧ b < w.heap.size) := by
  obtain ⟨a', c', e, h1⟩ := h
  obtain ⟨rfl, -, rfl⟩ := Value.slice.inj e
  exact h1
end Go.Proofs.YtialglmnfchfmafGreatDoor
