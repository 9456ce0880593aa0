/- Runs by the program: RecRun. -/
import Derived.Test.YtcofjoacehacjaaGreatDoorWh4
import Derived.Test.YtcofjoacehacjaaGreatDoorWh3b
namespace Go.Proofs.YtcofjoacehacjaaGreatDoor
open Go Go.RowKit Go.Shelf
attribute [local go_sem] Oper.semAt_some

theorem yield_walk2 {F : Fence} {m : Nat} {P : Program} {l : Nat} {r : Loop} {args : Array Value} {W : World} {R : Ending → World → Prop} {ag bd : Code} {ps : Array Tmp} {tm : Array Value} (hl : W.heap[l]? = some (.loop r)) (hr : r.state = .ready)
    (ha : r.assign = ag) (hb : r.body = bd) (hp : r.params = ps) (ht : r.tmps = tm) (hs : args.size = ps.size) (hF : F.fn r.fn)
    (h : ag.wpIn (F.inRound l) m P (Exit.then (fun a₁ W₁ => W₁.heap[l]? = some (.loop r) ∧ bd.wpIn (F.inRound l) m P (roundEnd l r R) a₁ (W₁.putObj l (.loop { r with state := .busy }))) (fun _ _ _ => False))
      { tmps := (ps.zip args).foldl (fun t (p, v) => t.setIfInBounds p v) tm, defers := [] } W) :
    YieldAt F m P l args W R := by
  subst ha hb hp ht
  exact yield_walk hl hr hs hF h

set_option maxRecDepth 100000 in
set_option maxHeartbeats 4000000 in
theorem recRun_big (ps : List Ph) (ys : List Sy) (b o c b2 o2 c2 : Nat) (w : World) (hE : Ends w) (hr : RecAt w b o ps) (hb : b < w.heap.size) (hy : SayAt w b2 o2 ys) (hb2 : b2 < w.heap.size) (hs : Sized ps) (hcap : ps.length ≤ c) (hc9 : c ≤ 9223372036854775807) (hyc : ys.length ≤ c2) (hyc9 : c2 ≤ 9223372036854775807) :
    Calls Tryz.prog 5 #[.slice (some ⟨b, o, none⟩) ps.length c, .slice (some ⟨b2, o2, none⟩) ys.length c2] w
      fun e w' => (∃ (s : St) (u : Value) (path : List ByteArray), e = .returned (.tuple #[.agg #[.string (s).nm, .int .i64 (s).now, .int .i64 (s).left], u]) ∧ RunEnd ps ys s path ∧ OwnT w' w.heap.size u path) ∧ Below w.heap.size w w' := by
  have HE : Hid (Ends w) := hE
  clear hE
  obtain ⟨ii, hi, iz0, iz1, iz2⟩ := info_parts infoStr
  refine (callsIn_wide (n := 3)).1 ?_
  refine callsIn_of_wp_marks Tryz.func5 rfl trivial ?_ rfl
  simp only [Tryz.ntmps5, List.size_toArray, List.length_cons, List.length_nil, Nat.reduceAdd, Nat.reduceSub, Array.replicate_succ, Array.replicate_zero, List.push_toArray, List.append_toArray, List.nil_append, List.cons_append]
  gi_wp2_with fail
  obtain ⟨W1, hW1, kA, hB1, hs1⟩ : ∃ W1, w.alloc (.cells #[.string ⟨#[]⟩, .int .i64 0, .int .i64 0] 28) = W1 ∧ CB W1 w.heap.size St.none.cells ∧ Below w.heap.size w W1 ∧ W1.heap.size = w.heap.size + 1 := ⟨_, rfl, cb1 w St.none.cells _⟩
  rw [hW1]
  clear hW1
  refine ⟨trivial, (callsIn_wide.2 (recOk_big ps _ _ _ _ (HE.out.up hB1) (hr.up hB1 hb) (by omega) hs hcap hc9)).mono ?_⟩
  rintro e w2 ⟨rfl, hb2'⟩
  have hB := hB1.trans (hb2'.mono (by omega))
  have kA := kA.up hb2' kA.2.2
  have hz2 := hb2'.size
  rw [hs1] at hz2
  clear hB1 hb2' hs1
  cases hok : recB ps
  · obtain ⟨⟨d0, d1, d2⟩, f0, f1, f2⟩ := kA.c3
    gi_wp2_with fail
    refine ⟨_, ret_cb2 (v := .slice none 0 0) (rk := w.heap.size) (cs := St.none.cells) Tryz.results5 Tryz.underlying28 rfl sizeStI rfl rfl (kA.copy3 _ _ _), ?_⟩
    exact ⟨⟨St.none, _, [], rfl, .inl ⟨hok, rfl, rfl⟩, ⟨by simp, .inl ⟨rfl, rfl⟩⟩⟩, below_set3 hB (Nat.le_refl _) _ _ _⟩
  · gi_wp2_with fail
    obtain ⟨X, hX, kS, kP, hbX, hsX⟩ : ∃ X, (w2.alloc (.cells #[.string ⟨#[]⟩, .int .i64 0, .int .i64 0] 28)).alloc (.cells #[.slice none 0 0] 29) = X ∧ CB X w2.heap.size St.none.cells ∧ CB X (w2.heap.size + 1) [.slice none 0 0] ∧ Below w2.heap.size w2 X ∧ X.heap.size = w2.heap.size + 2 := ⟨_, rfl, cb2 w2 St.none.cells [.slice none 0 0] _ _⟩
    rw [hX]
    clear hX
    have hB := up_trans hB hbX
    have kA := kA.up hbX kA.2.2
    refine ⟨trivial, (callsIn_wide.2 (recStates_any _ _ _ _ _ _ _)).mono ?_⟩
    rintro e W3 ⟨rfl, hW3⟩
    obtain ⟨kR, kQ, hb3, hs3⟩ : CB W3 X.heap.size [.slice (some ⟨b, o, none⟩) ps.length c] ∧ CB W3 (X.heap.size + 1) [.slice (some ⟨b2, o2, none⟩) ys.length c2] ∧ Below X.heap.size X W3 ∧ W3.heap.size = X.heap.size + 2 := by
      rw [hW3]; exact cb2 X [.slice (some ⟨b, o, none⟩) ps.length c] [.slice (some ⟨b2, o2, none⟩) ys.length c2] _ _
    have hB := up_trans hB hb3
    have kA := kA.up hb3 kA.2.2
    have kS := kS.up hb3 kS.2.2
    have kP := kP.up hb3 kP.2.2
    have hr3 := hr.up hB hb
    have hy3 := hy.up hB hb2
    clear hW3 hb3 hbX
    rw [hsX] at kR kQ hs3
    gi_wp2_with fail
    refine range_walk2 rfl (by omega) (gf := 50) (lb := #[.pointer (some ⟨w2.heap.size + 2 + 1, 0, none⟩), .pointer (some ⟨w2.heap.size + 2, 0, none⟩)]) rfl trivial (enters_of Tryz.func50 (by kernel_rfl) rfl) ?_
    intro fn lp _ hlp
    obtain ⟨W4, hW4⟩ : ∃ W4, (W3.alloc (.deferred (some []))).alloc (.loop lp) = W4 := ⟨_, rfl⟩
    rw [hW4]
    have hL : W4.heap[W3.heap.size + 1]? = some (.loop lp) := by
      rw [← hW4]; have := World.alloc_heap_new (W3.alloc (.deferred (some []))) (.loop lp); rwa [World.size_alloc] at this
    have hD : W4.heap[W3.heap.size]? = some (.deferred (some [])) := by
      rw [← hW4]; exact (Below.heap_alloc _ _ _ (by simp)).trans (World.alloc_heap_new W3 _)
    have hb4 : Below W3.heap.size W3 W4 := by rw [← hW4]; exact ((Below.refl _ W3).alloc (Nat.le_refl _) _).alloc (by simp) _
    have hs4 : W4.heap.size = W3.heap.size + 2 := by rw [← hW4]; simp
    clear hW4
    have hB := up_trans hB hb4
    have kA := kA.up hb4 kA.2.2
    have kS := kS.up hb4 kS.2.2
    have kP := kP.up hb4 kP.2.2
    have kR := kR.up hb4 kR.2.2
    have kQ := kQ.up hb4 kQ.2.2
    have hzw := hB.size
    have hr4 := hr3.up hb4 (by omega)
    have hy4 := hy3.up hb4 (by omega)
    refine CallsIn.mono (statesRun_any 1 w W4 w.heap.size w2.heap.size (w2.heap.size + 1) (w2.heap.size + 2) (w2.heap.size + 2 + 1) W3.heap.size (W3.heap.size + 1) b o c b2 o2 c2 ps ys lp HE.out hok hs hcap hc9 hb hb2 hyc hyc9 (by omega) kA kS kP kR kQ hD hL hr4 hy4 hB ?hY) ?_
    case hY =>
      intro n t z i W y hLn hnt htz hJ hw
      clear kA kS kP kR kQ hD hL hr4 hy4 hB hr3 hy3
      have hk : (Bk.mk w.heap.size w2.heap.size (w2.heap.size + 1) (w2.heap.size + 2) W3.heap.size (W3.heap.size + 1) n t z).ok w.heap.size := by show w.heap.size ≤ w.heap.size ∧ w.heap.size < w2.heap.size ∧ w2.heap.size < w2.heap.size + 1 ∧ w2.heap.size + 1 < w2.heap.size + 2 ∧ w2.heap.size + 2 < W3.heap.size ∧ W3.heap.size < W3.heap.size + 1 ∧ W3.heap.size + 1 < n ∧ n < t ∧ t < z; omega
      have hq3 : w2.heap.size + 4 ≤ W3.heap.size := by omega
      have Hs3 : Hid (W3.heap.size = w2.heap.size + 2 + 2) := hs3
      clear hs3 hs4
      refine yield_walk2 hJ.l (congrArg Loop.state hlp) (congrArg Loop.assign hlp) (congrArg Loop.body hlp) (congrArg Loop.params hlp) (congrArg Loop.tmps hlp) rfl trivial ?_
      obtain ⟨s, hsk⟩ : ∃ s, stN ps ys i = s := ⟨_, rfl⟩
      rw [hsk]
      have Hs : Hid (stN ps ys i = s) := hsk
      have hback : ({ lp with state := .ready, pending := none } : Loop) = lp := by rw [hlp]; rfl
      have Hback : Hid (({ lp with state := .ready, pending := none } : Loop) = lp) := hback
      dsimp only [recOf]
      clear hsk hback hlp
      obtain ⟨⟨d0, d1, d2⟩, f0, f1, f2⟩ := hJ.s.c3
      have Hw : Hid (Went ps ys i) := hw
      clear hw
      gi_wp2_with fail
      have hg1 : W.grownBy (((W.setCell ⟨w2.heap.size, 0, none⟩ (.string s.nm)).setCell ⟨w2.heap.size, 1, none⟩ (.int .i64 s.now)).setCell ⟨w2.heap.size, 2, none⟩ (.int .i64 s.left)) (some w2.heap.size) := grown_copies w2.heap.size [.string s.nm, .int .i64 s.now, .int .i64 s.left] 0 W W (some w2.heap.size) (World.grownBy.refl' W) rfl
      have kS1 : CB (((W.setCell ⟨w2.heap.size, 0, none⟩ (.string s.nm)).setCell ⟨w2.heap.size, 1, none⟩ (.int .i64 s.now)).setCell ⟨w2.heap.size, 2, none⟩ (.int .i64 s.left)) w2.heap.size s.cells := hJ.s.copy3 _ _ _
      have hlL : W3.heap.size + 1 < W.heap.size := (Array.getElem?_eq_some_iff.1 hJ.l).1
      have hl1 := (hg1.block _ hlL (by simp; omega)).trans hJ.l
      have hJ1 := hJ.gr hk hb hb2 (.inl rfl) hg1 kS1 (hJ.t.kept hg1 (by show some t ≠ some w2.heap.size; simp; omega)) (hJ.n.kept hg1 (by show n ≠ w2.heap.size; omega) (by show b2 ≠ w2.heap.size; omega)) hl1
      refine ⟨hl1, ?_⟩
      clear d0 d1 d2 f0 f1 f2 hJ hl1 hg1 kS1
      generalize ((W.setCell ⟨w2.heap.size, 0, none⟩ (.string s.nm)).setCell ⟨w2.heap.size, 1, none⟩ (.int .i64 s.now)).setCell ⟨w2.heap.size, 2, none⟩ (.int .i64 s.left) = X1 at *
      have hg2 := grownBy_putObj' X1 (W3.heap.size + 1) (.loop { lp with state := .busy })
      have hlX : W3.heap.size + 1 < X1.heap.size := (Array.getElem?_eq_some_iff.1 hJ1.l).1
      have hl2 : (X1.putObj (W3.heap.size + 1) (.loop { lp with state := .busy })).heap[W3.heap.size + 1]? = some (.loop { lp with state := .busy }) := World.putObj_heap_same hlX
      have hJ2 := hJ1.gr hk hb hb2 (.inr (.inr (.inl rfl))) hg2 (hJ1.s.kept hg2 (by show some w2.heap.size ≠ some (W3.heap.size + 1); simp; omega)) (hJ1.t.kept hg2 (by show some t ≠ some (W3.heap.size + 1); simp; omega)) (hJ1.n.kept hg2 (by show n ≠ W3.heap.size + 1; omega) (by show b2 ≠ W3.heap.size + 1; omega)) hl2
      clear hJ1 hg2 hl2 hlX
      generalize X1.putObj (W3.heap.size + 1) (.loop { lp with state := .busy }) = X2 at *
      obtain ⟨⟨a0, a1, a2⟩, -⟩ := hJ2.s.c3
      have hE2 := HE.out.up hJ2.bel
      have HE2 : Hid (Ends X2) := hE2
      clear hE2
      gi_wp2_with fail
      refine ⟨trivial, (CallsIn.inRound _ (callsIn_wide.2 (recEnd_any s.nm _ HE2.out))).mono ?_⟩
      rintro e w' ⟨rfl, hw⟩; obtain rfl := hw.symm; clear hw
      have hl2 := hJ2.l
      have hlX : W3.heap.size + 1 < X2.heap.size := (Array.getElem?_eq_some_iff.1 hl2).1
      by_cases h0 : endN s.nm = 0
      · obtain ⟨u, hu, ho⟩ := hJ2.p
        obtain ⟨p0, -⟩ := hu.c1
        have h12 : ps.length ≤ 12 := ((recB_iff ps).1 hok).2.1
        have hi12 := went_le hok ys Hw.out
        have hownA := (ownT_path ho).alloc (.cells #[.string s.nm] 9)
        have hzX := hJ2.sz
        have hb3 : Below X2.heap.size X2 (X2.alloc (.cells #[.string s.nm] 9)) := (Below.refl _ _).alloc (Nat.le_refl _) _
        gi_wp2_with (gi_at_builtin; refine wpListIn_append_own _ rfl _ _ 29 rfl z 9 ii _ 1 16 Tryz.underlying29 hi iz0 iz1 iz2 rfl (by decide) _ _ _ rfl hownA ⟨X2.heap.size, 0, none⟩ 1 1 [.string s.nm] rfl rfl (one_new _ _ _) (oneV _) (by unfold maxLen; omega) (by omega) (by simp; omega) ?_)
        intro v' X3 hO3 hg3 _
        have hP3 := ((hu.up hb3 hu.2.2).own hownA hg3 (by show w2.heap.size + 1 < z; omega))
        rw [← Hs.out] at hO3
        have hO := ownT_snoc hO3
        clear hO3
        have hJ3 := hJ2.app hk hb hb2 hu ho hg3 hO
        obtain ⟨a9, c9, hv9⟩ := hO.lst.shape
        rw [pathN_length] at hv9
        subst hv9
        obtain ⟨p3, f3⟩ := hP3.c1
        clear hownA hb3 hg3 hO ho hu a0 a1 a2 p0 hl2
        gi_wp2_with fail
        have hl3 := hJ3.l
        have hlX3 : W3.heap.size + 1 < (X3.setCell ⟨w2.heap.size + 1, 0, none⟩ (.slice a9 (i + 1) c9)).heap.size := (Array.getElem?_eq_some_iff.1 hl3).1
        refine ⟨hl3, rfl, ?_⟩
        rw [Hback.out]
        have hg4 := grownBy_putObj' (X3.setCell ⟨w2.heap.size + 1, 0, none⟩ (.slice a9 (i + 1) c9)) (W3.heap.size + 1) (.loop lp)
        exact hJ3.gr hk hb hb2 (.inr (.inr (.inl rfl))) hg4 (hJ3.s.kept hg4 (by show some w2.heap.size ≠ some (W3.heap.size + 1); simp; omega)) (hJ3.t.kept hg4 (by show some t ≠ some (W3.heap.size + 1); simp; omega)) (hJ3.n.kept hg4 (by show n ≠ W3.heap.size + 1; omega) (by show b2 ≠ W3.heap.size + 1; omega)) (World.putObj_heap_same hlX3)
      · gi_wp2_with fail
        refine ⟨hl2, .inr ⟨h0, rfl, ?_⟩⟩
        have hg4 := grownBy_putObj' X2 (W3.heap.size + 1) (.loop { lp with state := .done, pending := some (.exit 0) })
        exact hJ2.gr hk hb hb2 (.inr (.inr (.inl rfl))) hg4 (hJ2.s.kept hg4 (by show some w2.heap.size ≠ some (W3.heap.size + 1); simp; omega)) (hJ2.t.kept hg4 (by show some t ≠ some (W3.heap.size + 1); simp; omega)) (hJ2.n.kept hg4 (by show n ≠ W3.heap.size + 1; omega) (by show b2 ≠ W3.heap.size + 1; omega)) (World.putObj_heap_same hlX)
    rintro e W ⟨⟨v, rfl⟩, n, t, z, i, hLn, hnt, htz, hw, hend, hJ⟩
    refine ⟨⟨_, rfl⟩, 0, hJ.l, ?_⟩
    have HR : Hid (RunEnd ps ys (stN ps ys i) (pathN ps ys i)) := .inr ⟨hok, i, hw, at_end hok hend, rfl, rfl⟩
    obtain ⟨V, hV⟩ : ∃ V, W.putObj (W3.heap.size + 1) (.loop { lp with state := .exhausted, pending := some (.exit 0) }) = V := ⟨_, rfl⟩
    rw [hV]
    have hgV : W.grownBy V (some (W3.heap.size + 1)) := by rw [← hV]; exact grownBy_putObj' _ _ _
    have hDV : V.heap[W3.heap.size]? = some (.deferred (some [])) := by rw [← hV]; exact (World.putObj_heap_other (by omega)).trans hJ.d
    have kA : CB V w.heap.size St.none.cells := hJ.a.kept hgV (by simp; omega)
    have kS : CB V w2.heap.size (stN ps ys i).cells := hJ.s.kept hgV (by simp; omega)
    obtain ⟨u, hu, ho⟩ := hJ.p
    have kP : CB V (w2.heap.size + 1) [u] := hu.kept hgV (by simp; omega)
    have ho : OwnT V z u (pathN ps ys i) := own_grown ho hgV (by show W3.heap.size + 1 < z; omega)
    have hB : Below w.heap.size w V := below_gr hJ.bel hgV (by omega)
    clear hV hgV hu hJ hend hw
    generalize stN ps ys i = s at *
    generalize pathN ps ys i = path at *
    obtain ⟨⟨d0, d1, d2⟩, f0, f1, f2⟩ := kA.c3
    obtain ⟨⟨a0, a1, a2⟩, -⟩ := kS.c3
    obtain ⟨p0, -⟩ := kP.c1
    have hn1 : ¬ w2.heap.size + 1 = w.heap.size := by omega
    have hn2 : ¬ w2.heap.size = w.heap.size := by omega
    dsimp only
    gi_wp2_with fail
    refine wpIn_wide.2 ?_
    go_region
    have hg3 : V.grownBy ((((V.setCell ⟨w.heap.size, 0, none⟩ (.string s.nm)).setCell ⟨w.heap.size, 1, none⟩ (.int .i64 s.now)).setCell ⟨w.heap.size, 2, none⟩ (.int .i64 s.left)).drew) (some w.heap.size) := grown_drew (grown_copies w.heap.size [.string s.nm, .int .i64 s.now, .int .i64 s.left] 0 V V (some w.heap.size) (World.grownBy.refl' V) rfl)
    have hlD : W3.heap.size < V.heap.size := (Array.getElem?_eq_some_iff.1 hDV).1
    have hD3 : ((((V.setCell ⟨w.heap.size, 0, none⟩ (.string s.nm)).setCell ⟨w.heap.size, 1, none⟩ (.int .i64 s.now)).setCell ⟨w.heap.size, 2, none⟩ (.int .i64 s.left)).drew).heap[w2.heap.size + 2 + 2]? = some (.deferred (some [])) := by rw [← hs3]; exact (hg3.block _ hlD (by simp; omega)).trans hDV
    have hgZ := grownBy_putObj' ((((V.setCell ⟨w.heap.size, 0, none⟩ (.string s.nm)).setCell ⟨w.heap.size, 1, none⟩ (.int .i64 s.now)).setCell ⟨w.heap.size, 2, none⟩ (.int .i64 s.left)).drew) (w2.heap.size + 2 + 2) (.deferred none)
    have kZ : CB ((((V.setCell ⟨w.heap.size, 0, none⟩ (.string s.nm)).setCell ⟨w.heap.size, 1, none⟩ (.int .i64 s.now)).setCell ⟨w.heap.size, 2, none⟩ (.int .i64 s.left)).drew) w.heap.size s.cells := kA.copy3 _ _ _
    have kZ := kZ.kept hgZ (by simp; omega)
    have hoZ : OwnT ((((V.setCell ⟨w.heap.size, 0, none⟩ (.string s.nm)).setCell ⟨w.heap.size, 1, none⟩ (.int .i64 s.now)).setCell ⟨w.heap.size, 2, none⟩ (.int .i64 s.left)).drew) z u path := ho.set hg3 (by omega)
    have hoZ := hoZ.set hgZ (by omega)
    have hBZ : Below w.heap.size w ((((V.setCell ⟨w.heap.size, 0, none⟩ (.string s.nm)).setCell ⟨w.heap.size, 1, none⟩ (.int .i64 s.now)).setCell ⟨w.heap.size, 2, none⟩ (.int .i64 s.left)).drew) := below_gr hB hg3 (Nat.le_refl _)
    have hBZ := below_gr hBZ hgZ (by omega)
    gi_wp2_with fail
    refine ⟨by simp, .inl ⟨_, _, rfl, run_takeDeferred hD3, ?_⟩⟩
    refine ⟨_, ret_cb2 (v := u) (rk := w.heap.size) (cs := s.cells) Tryz.results5 Tryz.underlying28 rfl sizeStI rfl rfl kZ, ?_⟩
    exact ⟨⟨s, u, path, rfl, HR.out, hoZ.low (by omega)⟩, hBZ⟩
end Go.Proofs.YtcofjoacehacjaaGreatDoor
