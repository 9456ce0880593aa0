/- The program's walk of ShareOrder (chapter 12). -/
import Derived.Test.YtialglmnfchfmadGreatDoorKq1
namespace Go.Proofs.YtialglmnfchfmadGreatDoor
open Go Go.RowKit Go.Shelf
attribute [local go_sem] Oper.semAt_some

theorem orders_any (b : Bk) (a1 a2 : Option Addr) (c1 c2 : Nat) (w : World) :
    Calls Tryz.prog 108 #[.agg #[.slice a1 b.things.length c1, .slice a2 b.bs.length c2]] w fun e w' => e = .returned (.func (.func 109) #[] #[.pointer (some ⟨w.heap.size, 0, none⟩)]) ∧ w' = w.alloc (.cells #[.slice a1 (b).things.length c1, .slice a2 (b).bs.length c2] 30) := by
  go_enter Tryz.func108, Tryz.ntmps108
  go_wp2
  go_ret
  exact ⟨rfl, rfl⟩
theorem CB.c1' {w : World} {b : Nat} {x0 : Value} (h : CB w b [x0]) : w.cell? ⟨b, 0, none⟩ = some x0 ∧ w.frozen? ⟨b, 0, none⟩ = false := ⟨h.1 0 _ rfl, (h.2.1 0 (by simp)).2⟩
theorem loadStrs {Z : World} {r : Nat} {x : Value} (h : Z.cell? ⟨r, 0, none⟩ = some x) : (loadVar 22 ⟨r, 0, none⟩).run Tryz.prog Z = .ok x Z := by
  simp [loadVar, isAgg, h, go_sem]
theorem loadBool {Z : World} {r : Nat} {x : Value} (h : Z.cell? ⟨r, 0, none⟩ = some x) : (loadVar 4 ⟨r, 0, none⟩).run Tryz.prog Z = .ok x Z := by
  simp [loadVar, isAgg, h, go_sem]
/-- Two results that lie in cells of their own. -/
theorem ret_cells2 {P : Program} {fn : Func} {q q2 : Tmp} {T T2 : TypeId} (h : fn.results = #[.cell q T, .cell q2 T2]) {tmps : Array Value} {Z : World} {r r2 : Nat} {x y : Value}
    (ht : tmps.getD q undef = .pointer (some ⟨r, 0, none⟩)) (ht2 : tmps.getD q2 undef = .pointer (some ⟨r2, 0, none⟩)) (hZ : (loadVar T ⟨r, 0, none⟩).run P Z = .ok x Z) (hZ2 : (loadVar T2 ⟨r2, 0, none⟩).run P Z = .ok y Z) : (results fn tmps).run P Z = .ok (.tuple #[x, y]) Z := by
  have ha : (asAddr (.pointer (some ⟨r, 0, none⟩))).run P Z = .ok ⟨r, 0, none⟩ Z := by simp [go_sem]
  have ha2 : (asAddr (.pointer (some ⟨r2, 0, none⟩))).run P Z = .ok ⟨r2, 0, none⟩ Z := by simp [go_sem]
  have ht' : tmps[q]?.getD undef = .pointer (some ⟨r, 0, none⟩) := by simpa using ht
  have ht2' : tmps[q2]?.getD undef = .pointer (some ⟨r2, 0, none⟩) := by simpa using ht2
  simp only [results, h]
  simp [Sem.run_bind, Result.andThen, ht', ht2', ha, ha2, hZ, hZ2]

set_option maxRecDepth 100000 in
set_option maxHeartbeats 4000000 in
theorem order_any (b : Bk) (v : Value) (w : World) (h : BkV w v b) :
    Calls Tryz.prog 107 #[v] w fun e w' => (∃ u ss ok, e = .returned (.tuple #[u, .bool ok]) ∧ OrderIs b ss ok ∧ OwnT w' w.heap.size u ss ∧ ∀ s ∈ ss, s.size ≤ maxLen) ∧ Below w.heap.size w w' := by
  obtain ⟨a1, c1, a2, c2, rfl, -, -⟩ := h.parts
  refine (callsIn_wide (n := 3)).1 ?_
  refine callsIn_of_wp_marks Tryz.func107 rfl trivial ?_ rfl
  simp only [Tryz.ntmps107, List.size_toArray, List.length_cons, List.length_nil, Nat.reduceAdd, Nat.reduceSub, Array.replicate_succ, Array.replicate_zero, List.push_toArray, List.append_toArray, List.nil_append, List.cons_append]
  obtain ⟨W1, hW1, kA, k2, k3, hB1, hs1⟩ : ∃ W1, ((w.alloc (.cells #[.slice a1 (b).things.length c1, .slice a2 (b).bs.length c2] 30)).alloc (.cells #[.slice none 0 0] 22)).alloc (.cells #[.bool false] 4) = W1 ∧ CB W1 w.heap.size [.slice a1 b.things.length c1, .slice a2 b.bs.length c2] ∧ CB W1 (w.heap.size + 1) [.slice none 0 0] ∧ CB W1 (w.heap.size + 2) [.bool false] ∧ Below w.heap.size w W1 ∧ W1.heap.size = w.heap.size + 3 := ⟨_, rfl, cb3 w _ _ _ _ _ _⟩
  obtain ⟨p0, p1⟩ := kA.c2'
  gi_wp2_with fail
  try rw [hW1]
  clear hW1
  refine ⟨trivial, (callsIn_wide.2 (bookOk_any b _ _ (h.up hB1))).mono ?_⟩
  rintro e w2 ⟨rfl, hb2⟩
  clear p0 p1
  have hz2 := hb2.size
  have hB2 := up_trans hB1 hb2
  have kA := kA.up hb2 kA.2.2
  have k2 := k2.up hb2 k2.2.2
  have k3 := k3.up hb2 k3.2.2
  clear hb2 hB1
  cases hq : bookB b
  · have Hq : Hid (OrderIs b [] false) := .inr ⟨rfl, rfl, .inl (pB_not.1 hq)⟩
    obtain ⟨x2, f2⟩ := k2.c1'
    obtain ⟨x3, f3⟩ := k3.c1'
    have hne : ¬ w.heap.size + 2 = w.heap.size + 1 := by omega
    gi_wp2_with fail
    refine ⟨_, ret_cells2 (r := w.heap.size + 1) (r2 := w.heap.size + 2) (x := .slice none 0 0) (y := .bool false) Tryz.results107 rfl rfl (loadStrs ?_) (loadBool ?_), ?_⟩
    · exact (((k2.set (j := 0) (u := .slice none 0 0) (by simp)).other (by omega)).c1').1
    · exact (((k3.other (q := w.heap.size + 1) (j := 0) (u := .slice none 0 0) (by omega)).set (j := 0) (u := .bool false) (by simp)).c1').1
    exact ⟨⟨_, [], false, rfl, Hq.out, ⟨by simp, .inl ⟨rfl, rfl⟩⟩, fun s hs => by simp at hs⟩, (hB2.setCell (p := ⟨w.heap.size + 1, 0, none⟩) (by simp) _).setCell (p := ⟨w.heap.size + 2, 0, none⟩) (by simp) _⟩
  · have hok : BookOk b := pB_iff.1 hq
    clear hq
    obtain ⟨p0, p1⟩ := kA.c2'
    gi_wp2_with fail
    refine ⟨trivial, (callsIn_wide.2 (orders_any b _ _ _ _ _)).mono ?_⟩
    rintro e W3 ⟨rfl, hW3⟩
    obtain ⟨kQ, hb3, hs3⟩ : CB W3 w2.heap.size [.slice a1 b.things.length c1, .slice a2 b.bs.length c2] ∧ Below w2.heap.size w2 W3 ∧ W3.heap.size = w2.heap.size + 1 := by rw [hW3]; exact cb1 w2 [.slice a1 b.things.length c1, .slice a2 b.bs.length c2] _
    clear hW3 p0 p1
    have hB3 := up_trans hB2 hb3
    have kA := kA.up hb3 kA.2.2
    have k2 := k2.up hb3 k2.2.2
    have k3 := k3.up hb3 k3.2.2
    clear hb3 hB2
    gi_wp2_with fail
    refine range_walkR rfl (by omega) (gf := 109) (lb := #[.pointer (some ⟨w2.heap.size, 0, none⟩)]) rfl trivial (enters_of Tryz.func109 (by kernel_rfl) rfl) ?_
    intro fn lp _ hlp
    obtain ⟨W4, hW4⟩ : ∃ W4, (W3.alloc (.deferred (some []))).alloc (.loop lp) = W4 := ⟨_, rfl⟩
    rw [hW4]
    have hL : W4.heap[W3.heap.size + 1]? = some (.loop lp) := by
      rw [← hW4]; have := World.alloc_heap_new (W3.alloc (.deferred (some []))) (.loop lp); rwa [World.size_alloc] at this
    have hD : W4.heap[W3.heap.size]? = some (.deferred (some [])) := by
      rw [← hW4]; exact (Below.heap_alloc _ _ _ (by simp)).trans (World.alloc_heap_new W3 _)
    have hb4 : Below W3.heap.size W3 W4 := by rw [← hW4]; exact ((Below.refl _ W3).alloc (Nat.le_refl _) _).alloc (by simp) _
    have hs4 : W4.heap.size = W3.heap.size + 2 := by rw [← hW4]; simp
    clear hW4
    have hB4 := up_trans hB3 hb4
    have kA := kA.up hb4 kA.2.2
    have k2 := k2.up hb4 k2.2.2
    have k3 := k3.up hb4 k3.2.2
    have kQ := kQ.up hb4 kQ.2.2
    have hbk4 := h.up hB4
    have hz4 := hB4.size
    clear hb4 hB3
    refine CallsIn.mono (ordersRun_any 1 W4 w2.heap.size (W3.heap.size + 1) b _ _ lp (fun W' gone u => CB W' (w.heap.size + 1) [u] ∧ CB W' (w.heap.size + 2) [.bool true] ∧ W'.heap[W3.heap.size]? = some (.deferred (some [])) ∧ W'.heap[W3.heap.size + 1]? = some (.loop { lp with state := .done, pending := some .ret }) ∧ OwnT W' (W3.heap.size + 2) u gone ∧ Below w.heap.size w W') kQ hbk4 (fun X hX => h.up (hB4.trans (hX.mono (by omega)))) hok hL ?hY) ?_
    case hY =>
      intro gone u W hB hgo hown hsz
      have hlW := (hB.block (W3.heap.size + 1) (by omega)).trans hL
      have hdW := (hB.block W3.heap.size (by omega)).trans hD
      have kA := kA.up hB (by omega)
      have k2 := k2.up hB (by omega)
      have k3 := k3.up hB (by omega)
      have hBW := hB4.trans (hB.mono (by omega))
      have hback : ({ lp with state := .ready, pending := none } : Loop) = lp := by rw [hlp]; rfl
      have Hback : Hid (({ lp with state := .ready, pending := none } : Loop) = lp) := hback
      obtain ⟨au, cu, rfl⟩ := hown.lst.shape
      clear kQ hbk4 hL hD hB hB4 hback hz4
      refine yield_walkR hlW (congrArg Loop.state hlp) (congrArg Loop.assign hlp) (congrArg Loop.body hlp) (congrArg Loop.params hlp) (congrArg Loop.tmps hlp) rfl trivial ?_
      dsimp only [recOf]
      clear hlp
      have hlt : W3.heap.size + 1 < W.heap.size := (Array.getElem?_eq_some_iff.1 hlW).1
      gi_wp2_with fail
      refine ⟨hlW, ?_⟩
      have hg2 := grownBy_putObj' W (W3.heap.size + 1) (.loop { lp with state := .busy })
      have hl2 : (W.putObj (W3.heap.size + 1) (.loop { lp with state := .busy })).heap[W3.heap.size + 1]? = some (.loop { lp with state := .busy }) := World.putObj_heap_same hlt
      have kA := kA.kept hg2 (by simp; omega)
      have k2 := k2.kept hg2 (by simp; omega)
      have k3 := k3.kept hg2 (by simp; omega)
      have hown := own_grown hown hg2 (by omega)
      have hdW := (hg2.block W3.heap.size (by omega) (by simp)).trans hdW
      have hBW := below_gr hBW hg2 (by omega)
      have Hg2 : Hid (W.grownBy (W.putObj (W3.heap.size + 1) (.loop { lp with state := .busy })) (some (W3.heap.size + 1))) := hg2
      have hz2' := hg2.size
      clear hg2 hlW
      generalize W.putObj (W3.heap.size + 1) (.loop { lp with state := .busy }) = X2 at *
      obtain ⟨p0, p1⟩ := kA.c2'
      by_cases h0 : gone.length = b.bs.length
      · have hlb : ((gone.length : Int) == (b.bs.length : Int)) = true := by rw [beq_iff_eq]; omega
        obtain ⟨x2, f2⟩ := k2.c1'
        obtain ⟨x3, f3⟩ := k3.c1'
        have hne : ¬ w.heap.size + 2 = w.heap.size + 1 := by omega
        have hne2 : ¬ w.heap.size + 1 = w.heap.size + 2 := by omega
        have hn0 : ¬ w.heap.size = w.heap.size + 1 := by omega
        have hn1 : ¬ w.heap.size = w.heap.size + 2 := by omega
        have Hh0 : Hid (gone.length = b.bs.length) := h0
        clear h0
        gi_wp2_with fail
        obtain ⟨X3, hX3, hgX, y2, y3⟩ : ∃ X3, (X2.setCell ⟨w.heap.size + 1, 0, none⟩ (.slice au gone.length cu)).setCell ⟨w.heap.size + 2, 0, none⟩ (.bool true) = X3 ∧ (∀ i, i ≠ w.heap.size + 1 → i ≠ w.heap.size + 2 → X3.heap[i]? = X2.heap[i]?) ∧ CB X3 (w.heap.size + 1) [.slice au gone.length cu] ∧ CB X3 (w.heap.size + 2) [.bool true] :=
          ⟨_, rfl, fun i q1 q2 => (Below.heap_setCell _ _ _ _ q2).trans (Below.heap_setCell _ _ _ _ q1), (k2.set (j := 0) (by simp)).other (by omega), (k3.other (by omega)).set (j := 0) (by simp)⟩
        have hBX : Below w.heap.size w X3 := by rw [← hX3]; exact (hBW.setCell (p := ⟨w.heap.size + 1, 0, none⟩) (by simp) _).setCell (p := ⟨w.heap.size + 2, 0, none⟩) (by simp) _
        have hoX : OwnT X3 (W3.heap.size + 2) (.slice au gone.length cu) gone := by
          rw [← hX3]
          exact own_grown (own_grown hown (grown_setCell (off := 0) (grown_refl _ (some (w.heap.size + 1))) _) (by omega)) (grown_setCell (off := 0) (grown_refl _ (some (w.heap.size + 2))) _) (by omega)
        have hlX := (hgX (W3.heap.size + 1) (by omega) (by omega)).trans hl2
        have hdX := (hgX W3.heap.size (by omega) (by omega)).trans hdW
        try rw [hX3]
        clear hX3 x2 x3 f2 f3 p0 p1
        refine ⟨hlX, .inr ⟨Hh0.out, rfl, ?_⟩⟩
        have hlt3 : W3.heap.size + 1 < X3.heap.size := (Array.getElem?_eq_some_iff.1 hlX).1
        have hg4 := grownBy_putObj' X3 (W3.heap.size + 1) (.loop { lp with state := .done, pending := some .ret })
        exact ⟨y2.kept hg4 (by simp; omega), y3.kept hg4 (by simp; omega), (hg4.block W3.heap.size (by omega) (by simp)).trans hdX, World.putObj_heap_same hlt3, own_grown hoX hg4 (by omega), below_gr hBX hg4 (by omega)⟩
      · have hlb : ((gone.length : Int) == (b.bs.length : Int)) = false := by rw [beq_eq_false_iff_ne]; omega
        gi_wp2_with fail
        have hlt3 : W3.heap.size + 1 < X2.heap.size := (Array.getElem?_eq_some_iff.1 hl2).1
        refine ⟨hl2, .inl ⟨h0, rfl, ?_⟩⟩
        rw [Hback.out]
        exact ⟨grown_trans Hg2.out (grownBy_putObj' _ _ _), World.putObj_heap_same hlt3⟩
    rintro e W ⟨⟨v, rfl⟩, ⟨gone, u, hgo, hsz, y2, y3, hdW, hlW, hown, hBW⟩ | ⟨hB, n, gone, hn, hgo, hnx⟩⟩
    · refine ⟨⟨_, rfl⟩, .inl ⟨hlW, ?_⟩⟩
      have HR : Hid (OrderIs b gone true) := .inl ⟨rfl, hok, hgo⟩
      have hg4 := grownBy_putObj' W (W3.heap.size + 1) (.loop { lp with state := .exhausted, pending := some .ret })
      have hlt3 : W3.heap.size + 1 < W.heap.size := (Array.getElem?_eq_some_iff.1 hlW).1
      have y2 := y2.kept hg4 (by simp; omega)
      have y3 := y3.kept hg4 (by simp; omega)
      have hdW := (hg4.block W3.heap.size (by omega) (by simp)).trans hdW
      have hown := own_grown hown hg4 (by omega)
      have hBW := below_gr hBW hg4 (by omega)
      clear hg4 hlW
      generalize W.putObj (W3.heap.size + 1) (.loop { lp with state := .exhausted, pending := some .ret }) = V at *
      have hgZ := grownBy_putObj' V W3.heap.size (.deferred none)
      dsimp only
      gi_wp2_with fail
      refine ⟨by simp, .inl ⟨_, _, rfl, run_takeDeferred hdW, ?_⟩⟩
      refine ⟨_, ret_cells2 (r := w.heap.size + 1) (r2 := w.heap.size + 2) (x := u) (y := .bool true) Tryz.results107 rfl rfl (loadStrs (y2.kept hgZ (by simp; omega)).c1'.1) (loadBool (y3.kept hgZ (by simp; omega)).c1'.1), ?_⟩
      exact ⟨⟨u, gone, true, rfl, HR.out, own_low (own_grown hown hgZ (by omega)) (by omega), hsz⟩, below_gr hBW hgZ (by omega)⟩
    · have hlW := (hB.block (W3.heap.size + 1) (by omega)).trans hL
      have hdW := (hB.block W3.heap.size (by omega)).trans hD
      refine ⟨⟨_, rfl⟩, .inr ⟨hlW, ?_⟩⟩
      have HR : Hid (OrderIs b [] false) := .inr ⟨rfl, rfl, .inr ⟨n, gone, hn, hgo, hnx⟩⟩
      have k2 := k2.up hB (by omega)
      have k3 := k3.up hB (by omega)
      have hBW := hB4.trans (hB.mono (by omega))
      have hlt3 : W3.heap.size + 1 < W.heap.size := (Array.getElem?_eq_some_iff.1 hlW).1
      have hg4 := grownBy_putObj' W (W3.heap.size + 1) (.loop { lp with state := .exhausted, pending := none })
      have k2 := k2.kept hg4 (by simp; omega)
      have k3 := k3.kept hg4 (by simp; omega)
      have hdW := (hg4.block W3.heap.size (by omega) (by simp)).trans hdW
      have hBW := below_gr hBW hg4 (by omega)
      have hzV := hg4.size
      clear hg4 hlW kA kQ hbk4 hL hD hB hgo hnx hn
      generalize W.putObj (W3.heap.size + 1) (.loop { lp with state := .exhausted, pending := none }) = V at *
      obtain ⟨x2, f2⟩ := k2.c1'
      obtain ⟨x3, f3⟩ := k3.c1'
      have hne : ¬ w.heap.size + 2 = w.heap.size + 1 := by omega
      dsimp only
      gi_wp2_with fail
      have y2 : CB ((V.setCell ⟨w.heap.size + 1, 0, none⟩ (.slice none 0 0)).setCell ⟨w.heap.size + 2, 0, none⟩ (.bool false)) (w.heap.size + 1) [.slice none 0 0] := (k2.set (j := 0) (by simp)).other (by omega)
      have y3 : CB ((V.setCell ⟨w.heap.size + 1, 0, none⟩ (.slice none 0 0)).setCell ⟨w.heap.size + 2, 0, none⟩ (.bool false)) (w.heap.size + 2) [.bool false] := (k3.other (by omega)).set (j := 0) (by simp)
      have hdZ : ((V.setCell ⟨w.heap.size + 1, 0, none⟩ (.slice none 0 0)).setCell ⟨w.heap.size + 2, 0, none⟩ (.bool false)).heap[W3.heap.size]? = some (.deferred (some [])) := (Below.heap_setCell _ _ _ _ (by simp; omega)).trans ((Below.heap_setCell _ _ _ _ (by simp; omega)).trans hdW)
      have hBZ := (hBW.setCell (p := ⟨w.heap.size + 1, 0, none⟩) (by simp) (.slice none 0 0)).setCell (p := ⟨w.heap.size + 2, 0, none⟩) (by simp) (.bool false)
      have hgZ := grownBy_putObj' ((V.setCell ⟨w.heap.size + 1, 0, none⟩ (.slice none 0 0)).setCell ⟨w.heap.size + 2, 0, none⟩ (.bool false)) W3.heap.size (.deferred none)
      refine ⟨by simp, .inl ⟨_, _, rfl, run_takeDeferred hdZ, ?_⟩⟩
      refine ⟨_, ret_cells2 (r := w.heap.size + 1) (r2 := w.heap.size + 2) (x := .slice none 0 0) (y := .bool false) Tryz.results107 rfl rfl (loadStrs (y2.kept hgZ (by simp; omega)).c1'.1) (loadBool (y3.kept hgZ (by simp; omega)).c1'.1), ?_⟩
      exact ⟨⟨_, [], false, rfl, HR.out, ⟨by simp, .inl ⟨rfl, rfl⟩⟩, fun s hs => by simp at hs⟩, below_gr hBZ hgZ (by omega)⟩
end Go.Proofs.YtialglmnfchfmadGreatDoor

/- Safe by the program. -/
namespace Go.Proofs.YtialglmnfchfmadGreatDoor
open Go.RowKit

theorem safe_any (b : Bk) (v : Value) (w : World) (h : BkV w v b) :
    Calls Tryz.prog 106 #[v] w fun e w' => (∃ ss ok, e = .returned (.bool ok) ∧ OrderIs b ss ok) ∧ Below w.heap.size w w' := by
  obtain ⟨a1, c1, a2, c2, rfl, -, -⟩ := h.parts
  obtain ⟨W1, hW1, kA, hB1, hs1⟩ : ∃ W1, w.alloc (.cells #[.slice a1 b.things.length c1, .slice a2 b.bs.length c2] 30) = W1 ∧ CB W1 w.heap.size [.slice a1 b.things.length c1, .slice a2 b.bs.length c2] ∧ Below w.heap.size w W1 ∧ W1.heap.size = w.heap.size + 1 := ⟨_, rfl, cb1 w _ _⟩
  go_enter Tryz.func106, Tryz.ntmps106
  go_upto_region 1 with fail
  try rw [hW1]
  clear hW1
  have hk := h.up hB1
  obtain ⟨e0, e1⟩ := kA.c2'
  go_wp2_with fail
  refine (order_any b _ _ hk).mono ?_
  rintro e w2 ⟨⟨u, ss, ok, rfl, ho, -, -⟩, hb2⟩
  have hB2 := up_trans hB1 hb2
  clear e0 e1
  go_wp2_with fail
  go_ret
  exact ⟨⟨ss, ok, rfl, ho⟩, hB2⟩
end Go.Proofs.YtialglmnfchfmadGreatDoor
