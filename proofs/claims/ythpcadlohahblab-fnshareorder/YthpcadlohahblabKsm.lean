/- All orders: the law's walk; texts that are the same; safe by the program. -/
import Derived.Test.YthpcadlohahblabLawSw
import Derived.Test.YthpcadlohahblabK1
import Derived.Test.YthpcadlohahblabQ1
import Derived.Test.YthpcadlohahblabP3
namespace Go.Proofs.Ythpcadlohahblab
open Go.RowKit


theorem lsOne (w : World) (s : ByteArray) (t : TypeId) (hs : s.size ≤ maxLen) : Ls (w.alloc (.cells #[.string s] t)) (.slice (some ⟨w.heap.size, 0, none⟩) 1 1) [s] := by
  refine ⟨_, 1, rfl, by unfold maxLen; simp, fun x hx => ?_, fun _ => ⟨_, 0, rfl, strsAt_alloc w [s] t, by simp⟩⟩
  obtain rfl : x = s := by simpa using hx
  exact hs
theorem Ls.gr1 {w w' : World} {g n c : Nat} {r : Option Nat} {ss : List ByteArray} (h : Ls w (.slice (some ⟨g, 0, none⟩) n c) ss) (hg : w.grownBy w' r) (hne : some g ≠ r) : Ls w' (.slice (some ⟨g, 0, none⟩) n c) ss := by
  obtain ⟨a, c', e, h1, h2, h3⟩ := h
  obtain ⟨rfl, rfl, rfl⟩ := Value.slice.inj e
  refine ⟨_, _, rfl, h1, h2, fun hp => ?_⟩
  obtain ⟨b, o, hb, hS, hlt⟩ := h3 hp
  simp at hb
  obtain ⟨rfl, rfl⟩ := hb
  exact ⟨g, 0, rfl, fun i s hs => hg.cell (hS i s hs) hne, Nat.lt_of_lt_of_le hlt hg.size⟩
/-- A list appended to one of one's own. -/
theorem step_append_ls {ops : Array Oper} {op : Oper} {a : Act} {w : World} {K : Act → World → Prop} {Q : Exit → Act → World → Prop} {E : Prop}
    (hw : Region.wanted op (yielded ops a.tmps) = true) (s x : Operand) (hop : op.op = Op.call { callee := Callee.builtin Builtin.append, args := #[s, x], argTypes := #[23, 23] })
    (base : Nat) (v xv : Value) (ys ss : List ByteArray) (hs : a.eval s = v) (hown : OwnT w base v ys) (hx : a.eval x = xv) (hL : Ls w xv ss) (hlen : ys.length + ss.length ≤ 1000000) (hbase : base ≤ w.heap.size)
    (hK : ∀ v' w', OwnT w' base v' (ys ++ ss) → w.grownBy w' v.ownBlock → K (a.put op.dst v') w') :
    if Region.wanted op (yielded ops a.tmps) = true then Oper.wp Try.prog op a w K Q else E := by
  rw [if_pos hw]
  obtain ⟨ii, hi, iz0, iz1, iz2⟩ := info_parts infoStr
  obtain ⟨ax, cx, rfl, -, -, hpos⟩ := hL
  rcases Nat.eq_zero_or_pos ss.length with h0 | h0
  · obtain rfl := List.length_eq_zero_iff.1 h0
    have hr := run_append_zero (P := Try.prog) (w := w) base 23 op.type 9 ii 1 Try.underlying23 hi v ys.length _ hown ax cx
    unfold Oper.wp
    simp only [List.length_nil] at hx
    simp [execOp, hop, resolve, invoke, builtin, hs, hx, hr, Result.andThen]
    exact hK v w (by simpa using hown) (grown_refl _ _)
  · obtain ⟨g, o, rfl, hS, -⟩ := hpos h0
    obtain ⟨v', w', hr, h2, h3, _⟩ := run_append_own (P := Try.prog) w base 23 op.type 9 ii _ 1 16 Try.underlying23 hi iz0 iz1 iz2 rfl (by decide) v ys.length _ hown ⟨g, o, none⟩ ss.length cx (ss.map Value.string) (by simp) (news_of hS) (oneS ss) (by unfold maxLen; omega) (by omega) hbase
    unfold Oper.wp
    simp [execOp, hop, resolve, invoke, builtin, hs, hx, hr, Result.andThen]
    exact hK v' w' (by unfold OwnT; simpa using h2) h3

theorem safe_any (b : Bk) (v : Value) (w : World) (h : BkV w v b) :
    Calls Try.prog 9 #[v] w fun e w' => (∃ ss ok, e = .returned (.bool ok) ∧ OrderIs b ss ok) ∧ Below w.heap.size w w' := by
  obtain ⟨a1, c1, a2, c2, rfl, -, -⟩ := h.parts
  obtain ⟨W1, hW1, kA, hB1, hs1⟩ : ∃ W1, w.alloc (.cells #[.slice a1 b.things.length c1, .slice a2 b.bs.length c2] 26) = W1 ∧ CB W1 w.heap.size [.slice a1 b.things.length c1, .slice a2 b.bs.length c2] ∧ Below w.heap.size w W1 ∧ W1.heap.size = w.heap.size + 1 := ⟨_, rfl, cb1 w _ _⟩
  go_enter Try.func9, Try.ntmps9
  go_upto_region 1 with fail
  try rw [hW1]
  clear hW1
  have hk := h.up hB1
  obtain ⟨e0, e1⟩ := kA.c2'
  go_wp2_with fail
  refine (order_any b _ _ hk).mono ?_
  rintro e w2 ⟨⟨u, ss, ok, rfl, ho, -, -⟩, hb2⟩
  have hB2 := up_trans hB1 hb2
  clear e0 e1
  go_wp2_with fail
  go_ret
  exact ⟨⟨ss, ok, rfl, ho⟩, hB2⟩
/-- Texts that are the same. -/
theorem whTexts_any (ss : List ByteArray) (u v : Value) (w : World) (h : Ls w u ss) (h2 : Ls w v ss) :
    Calls Try.prog 8 #[u, v] w fun e w' => e = .returned (.bool true) ∧ Below w.heap.size w w' := by
  obtain ⟨a, c, rfl, hn, -, hpos⟩ := h
  obtain ⟨a2, c2, rfl, -, -, hpos2⟩ := h2
  unfold maxLen at hn
  go_enter Try.func8, Try.ntmps8
  go_wp2_with fail
  go_loopw [5] (fun i w' => ∃ k : Nat, k ≤ ss.length ∧ i = .int .i64 k ∧ Below w.heap.size w w') (fun i _ => ss.length - (intOf i).toNat)
  case atStart => exact ⟨0, by omega, rfl, Below.refl _ _⟩
  case round =>
    obtain ⟨k, hk, rfl, hB⟩ := hrel
    by_cases hp : k < ss.length
    · obtain ⟨b, o, rfl, hS, hb⟩ := hpos (by omega)
      obtain ⟨b2, o2, rfl, hS2, hb2⟩ := hpos2 (by omega)
      have c0 := (hB.cell (p := ⟨b, o + k, none⟩) hb).trans (hS.cell hp)
      have c1 := (hB.cell (p := ⟨b2, o2 + k, none⟩) hb2).trans (hS2.cell hp)
      generalize ss[k] = s0 at *
      go_wp2_with fail
      go_quiet (fail)
      go_wp2_with fail
      go_roundw
      case rel => exact ⟨k + 1, by omega, by go_num, below_drewN hB _⟩
      case measure => simp [intOf]; omega
    · go_wp2_with fail
      go_ret
      exact ⟨rfl, hB⟩
set_option maxRecDepth 20000 in
set_option maxHeartbeats 4000000 in
theorem whSome_any (b : Bk) (hok : BookOk b) : ∀ (d : Nat) (gone : List ByteArray) (v gv : Value) (w : World), gone.length + d = b.bs.length → BkV w v b → Ls w gv gone →
    Calls Try.prog 12 #[v, gv] w fun e w' => e = .returned (.bool (pB (SomeFit b gone))) ∧ Below w.heap.size w w' := by
  intro d
  induction d with
  | zero =>
    intro gone v gv w hl h hg
    obtain ⟨a1, c1, a2, c2, rfl, -, -⟩ := h.parts
    obtain ⟨a3, c3, rfl, -⟩ := id hg
    have HE : Hid (pB (SomeFit b gone) = pB (Fits b gone)) := by
      show _ = _
      rw [Bool.eq_iff_iff, pB_iff, pB_iff]; exact some_full (by omega)
    have hle : ((gone.length : Int) == (b.bs.length : Int)) = true := by rw [beq_iff_eq]; omega
    obtain ⟨W1, hW1, kA, hB1, hs1⟩ : ∃ W1, w.alloc (.cells #[.slice a1 b.things.length c1, .slice a2 b.bs.length c2] 26) = W1 ∧ CB W1 w.heap.size [.slice a1 b.things.length c1, .slice a2 b.bs.length c2] ∧ Below w.heap.size w W1 ∧ W1.heap.size = w.heap.size + 1 := ⟨_, rfl, cb1 w _ _⟩
    clear hl
    go_enter Try.func12, Try.ntmps12
    go_upto_region 1 with fail
    try rw [hW1]
    clear hW1
    have hk := h.up hB1
    have hg1 := hg.up hB1
    obtain ⟨e0, e1⟩ := kA.c2'
    go_wp2_with fail
    refine (fits_any b _ gone _ _ hk hg1).mono ?_
    rintro e w2 ⟨rfl, hb2⟩
    have hB2 := up_trans hB1 hb2
    clear e0 e1
    go_wp2_with fail
    go_ret
    exact ⟨ret_bool HE.out.symm, hB2⟩
  | succ d ih =>
    intro gone v gv w hl h hg
    obtain ⟨a1, c1, a2, c2, rfl, -, -⟩ := h.parts
    obtain ⟨a3, c3, rfl, -, hgz, -⟩ := id hg
    have hle : ((gone.length : Int) == (b.bs.length : Int)) = false := by rw [beq_eq_false_iff_ne]; omega
    have hg5 : gone.length ≤ 5 := by have := hok.2.1; omega
    obtain ⟨W1, hW1, kA, hB1, hs1⟩ : ∃ W1, w.alloc (.cells #[.slice a1 b.things.length c1, .slice a2 b.bs.length c2] 26) = W1 ∧ CB W1 w.heap.size [.slice a1 b.things.length c1, .slice a2 b.bs.length c2] ∧ Below w.heap.size w W1 ∧ W1.heap.size = w.heap.size + 1 := ⟨_, rfl, cb1 w _ _⟩
    have HI : Hid (∀ (nm : ByteArray) (v gv : Value) (w : World), BkV w v b → Ls w gv (gone ++ [nm]) → Calls Try.prog 12 #[v, gv] w fun e w' => e = .returned (.bool (pB (SomeFit b (gone ++ [nm])))) ∧ Below w.heap.size w w') := fun nm v gv w hv hgv => ih (gone ++ [nm]) v gv w (by simp; omega) hv hgv
    have HF : Hid (SomeFit b gone → ∃ (k : Nat) (x : Ba), b.bs[k]? = some x ∧ memS gone x.nm = false ∧ SomeFit b (gone ++ [x.nm])) := some_step (by omega)
    have Hgz : Hid (∀ s ∈ gone, s.size ≤ maxLen) := hgz
    clear ih hl hgz
    go_enter Try.func12, Try.ntmps12
    go_upto_region 1 with fail
    try rw [hW1]
    clear hW1
    have hk := h.up hB1
    have hg1 := hg.up hB1
    have hn5 : b.bs.length ≤ 5 := hok.2.1
    obtain ⟨e0, e1⟩ := kA.c2'
    obtain ⟨-, hpos⟩ := hk.bsOf.at
    go_wp2_with fail
    go_loopw [5] (fun i w' => ∃ k : Nat, k ≤ b.bs.length ∧ i = .int .i64 k ∧ (∀ (j : Nat) (x : Ba), j < k → b.bs[j]? = some x → memS gone x.nm = false → ¬ SomeFit b (gone ++ [x.nm])) ∧ Below W1.heap.size W1 w') (fun i _ => b.bs.length - (intOf i).toNat)
    case atStart => exact ⟨0, by omega, rfl, fun j x hj => by omega, Below.refl _ _⟩
    case round =>
      obtain ⟨k, hk', rfl, hal, hB⟩ := hrel
      have Hal : Hid (∀ (j : Nat) (x : Ba), j < k → b.bs[j]? = some x → memS gone x.nm = false → ¬ SomeFit b (gone ++ [x.nm])) := hal
      clear hal
      have z0 := (hB.cell (p := ⟨w.heap.size, 0, none⟩) kA.2.2).trans e0
      have z1 := (hB.cell (p := ⟨w.heap.size, 1, none⟩) kA.2.2).trans e1
      by_cases hp : k < b.bs.length
      · obtain ⟨bb, o, rfl, hS, hb⟩ := hpos (by omega)
        obtain ⟨_, _, _, _, c3', -, -, -, -, hnz⟩ := ((hS.at hp).up hB hb).cells
        have Hstep : Hid ((memS gone (b.bs[k]).nm = false → ¬ SomeFit b (gone ++ [(b.bs[k]).nm])) → ∀ (j : Nat) (x : Ba), j < k + 1 → b.bs[j]? = some x → memS gone x.nm = false → ¬ SomeFit b (gone ++ [x.nm])) := fun hno j x hj hx hm => by
          by_cases e : j = k
          · subst e
            rw [List.getElem?_eq_getElem hp] at hx
            obtain rfl := Option.some.inj hx
            exact hno hm
          · exact Hal.out j x (by omega) hx hm
        generalize (b.bs[k]).nm = nm at *
        have hbk := hk.up hB
        have hgr := hg1.up hB
        have hAl : w.heap.size < wr.heap.size := Nat.lt_of_lt_of_le kA.2.2 hB.size
        have hbl : bb < wr.heap.size := Nat.lt_of_lt_of_le hb hB.size
        have mk : ∀ X, Below wr.heap.size wr X → (World.cell? X ⟨w.heap.size, 0, none⟩ = some (.slice a1 b.things.length c1) ∧ World.cell? X ⟨w.heap.size, 1, none⟩ = some (.slice (some ⟨bb, o, none⟩) b.bs.length c2) ∧ World.cell? X ⟨bb, o + k * 3, none⟩ = some (.string nm)) := fun X hX => ⟨(hX.cell (p := ⟨w.heap.size, 0, none⟩) hAl).trans z0, (hX.cell (p := ⟨w.heap.size, 1, none⟩) hAl).trans z1, (hX.cell (p := ⟨bb, o + k * 3, none⟩) hbl).trans c3'⟩
        have Mk : Hid (∀ X, Below wr.heap.size wr X → (World.cell? X ⟨w.heap.size, 0, none⟩ = some (.slice a1 b.things.length c1) ∧ World.cell? X ⟨w.heap.size, 1, none⟩ = some (.slice (some ⟨bb, o, none⟩) b.bs.length c2) ∧ World.cell? X ⟨bb, o + k * 3, none⟩ = some (.string nm))) := mk
        have hS1 := Mk.out wr.drew (Below.refl _ _).drew
        have Hnz : Hid (nm.size ≤ maxLen) := hnz
        clear mk c3' hS hnz
        go_upto_region 6 with fail
        clear z0 z1
        go_cut [45] (fun v45 wc => ∃ c : Bool, v45 = .bool c ∧ (c = true → SomeFit b (gone ++ [nm])) ∧ (c = false → memS gone nm = false → ¬ SomeFit b (gone ++ [nm])) ∧ Below wr.heap.size wr wc)
        case first =>
          refine wp_region_x 99 (fun w' => (World.cell? w' ⟨w.heap.size, 0, none⟩ = some (.slice a1 b.things.length c1) ∧ World.cell? w' ⟨w.heap.size, 1, none⟩ = some (.slice (some ⟨bb, o, none⟩) b.bs.length c2) ∧ World.cell? w' ⟨bb, o + k * 3, none⟩ = some (.string nm))) (by kernel_rfl) ?_
          refine anyX_take (i := 0) (v := ?_) rfl (by kernel_rfl) (by kernel_rfl) (by kernel_rfl) (by kernel_rfl) (fun _ _ _ h => h) (by kernel_rfl) hS1 ?_ ?_; rotate_left; focus (intro w hSw; (try dsimp only at hSw); go_simp; try with_reducible rfl); (try simp only [Act.put, List.setIfInBounds_toArray, List.set_cons_zero, List.set_cons_succ])
          refine anyX_take (i := 1) (v := ?_) rfl (by kernel_rfl) (by kernel_rfl) (by kernel_rfl) (by kernel_rfl) (fun _ _ _ h => h) (by kernel_rfl) hS1 ?_ ?_; rotate_left; focus (intro w hSw; (try dsimp only at hSw); go_simp; try with_reducible rfl); (try simp only [Act.put, List.setIfInBounds_toArray, List.set_cons_zero, List.set_cons_succ])
          refine anyX_take (i := 2) (v := ?_) rfl (by kernel_rfl) (by kernel_rfl) (by kernel_rfl) (by kernel_rfl) (fun _ _ _ h => h) (by kernel_rfl) hS1 ?_ ?_; rotate_left; focus (intro w hSw; (try dsimp only at hSw); go_simp; try with_reducible rfl); (try simp only [Act.put, List.setIfInBounds_toArray, List.set_cons_zero, List.set_cons_succ])
          refine anyX_take (i := 3) (v := ?_) rfl (by kernel_rfl) (by kernel_rfl) (by kernel_rfl) (by kernel_rfl) (fun _ _ _ h => h) (by kernel_rfl) hS1 ?_ ?_; rotate_left; focus (intro w hSw; (try dsimp only at hSw); go_simp; try with_reducible rfl); (try simp only [Act.put, List.setIfInBounds_toArray, List.set_cons_zero, List.set_cons_succ])
          refine anyX_take (i := 4) (v := ?_) rfl (by kernel_rfl) (by kernel_rfl) (by kernel_rfl) (by kernel_rfl) (fun _ _ _ h => h) (by kernel_rfl) hS1 ?_ ?_; rotate_left; focus (intro w hSw; (try dsimp only at hSw); go_simp; try with_reducible rfl); (try simp only [Act.put, List.setIfInBounds_toArray, List.set_cons_zero, List.set_cons_succ])
          refine anyX_take (i := 5) (v := ?_) rfl (by kernel_rfl) (by kernel_rfl) (by kernel_rfl) (by kernel_rfl) (fun _ _ _ h => h) (by kernel_rfl) hS1 ?_ ?_; rotate_left; focus (intro w hSw; (try dsimp only at hSw); go_simp; try with_reducible rfl); (try simp only [Act.put, List.setIfInBounds_toArray, List.set_cons_zero, List.set_cons_succ])
          refine anyX_take (i := 6) (v := ?_) rfl (by kernel_rfl) (by kernel_rfl) (by kernel_rfl) (by kernel_rfl) (fun _ _ _ h => h) (by kernel_rfl) hS1 ?_ ?_; rotate_left; focus (intro w hSw; (try dsimp only at hSw); go_simp; try with_reducible rfl); (try simp only [Act.put, List.setIfInBounds_toArray, List.set_cons_zero, List.set_cons_succ])
          refine anyX_one (i := 7) (by kernel_rfl) rfl (fun K hK => ?_)
          go_simp
          go_wp2_with (go_at_call 19; refine (whHas_any gone _ nm _ hgr.drew).mono ?_; rintro e w' ⟨rfl, hw'⟩; obtain rfl := hw'.symm; clear hw')
          cases hm : memS gone nm
          · refine hK.out _ _ (fun _ => hS1) ?_; clear hK K; (try simp only [Act.put, List.setIfInBounds_toArray, List.set_cons_zero, List.set_cons_succ])
            refine anyX_take (i := 8) (v := ?_) rfl (by kernel_rfl) (by kernel_rfl) (by kernel_rfl) (by kernel_rfl) (fun _ _ _ h => h) (by kernel_rfl) hS1 ?_ ?_; rotate_left; focus (intro w hSw; (try dsimp only at hSw); go_simp; try with_reducible rfl); (try simp only [Act.put, List.setIfInBounds_toArray, List.set_cons_zero, List.set_cons_succ])
            refine anyX_take (i := 9) (v := ?_) rfl (by kernel_rfl) (by kernel_rfl) (by kernel_rfl) (by kernel_rfl) (fun _ _ _ h => h) (by kernel_rfl) hS1 ?_ ?_; rotate_left; focus (intro w hSw; (try dsimp only at hSw); go_simp; try with_reducible rfl); (try simp only [Act.put, List.setIfInBounds_toArray, List.set_cons_zero, List.set_cons_succ])
            refine anyX_take (i := 10) (v := ?_) rfl (by kernel_rfl) (by kernel_rfl) (by kernel_rfl) (by kernel_rfl) (fun _ _ _ h => h) (by kernel_rfl) hS1 ?_ ?_; rotate_left; focus (intro w hSw; (try dsimp only at hSw); go_simp; try with_reducible rfl); (try simp only [Act.put, List.setIfInBounds_toArray, List.set_cons_zero, List.set_cons_succ])
            refine anyX_take (i := 12) (v := ?_) rfl (by kernel_rfl) (by kernel_rfl) (by kernel_rfl) (by kernel_rfl) (fun _ _ _ h => h) (by kernel_rfl) hS1 ?_ ?_; rotate_left; focus (intro w hSw; (try dsimp only at hSw); go_simp; try with_reducible rfl); (try simp only [Act.put, List.setIfInBounds_toArray, List.set_cons_zero, List.set_cons_succ])
            refine anyX_take (i := 14) (v := ?_) rfl (by kernel_rfl) (by kernel_rfl) (by kernel_rfl) (by kernel_rfl) (fun _ _ _ h => h) (by kernel_rfl) hS1 ?_ ?_; rotate_left; focus (intro w hSw; (try dsimp only at hSw); go_simp; try with_reducible rfl); (try simp only [Act.put, List.setIfInBounds_toArray, List.set_cons_zero, List.set_cons_succ])
            refine anyX_take (i := 15) (v := ?_) rfl (by kernel_rfl) (by kernel_rfl) (by kernel_rfl) (by kernel_rfl) (fun _ _ _ h => h) (by kernel_rfl) hS1 ?_ ?_; rotate_left; focus (intro w hSw; (try dsimp only at hSw); go_simp; try with_reducible rfl); (try simp only [Act.put, List.setIfInBounds_toArray, List.set_cons_zero, List.set_cons_succ])
            refine anyX_take (i := 16) (v := ?_) rfl (by kernel_rfl) (by kernel_rfl) (by kernel_rfl) (by kernel_rfl) (fun _ _ _ h => h) (by kernel_rfl) hS1 ?_ ?_; rotate_left; focus (intro w hSw; (try dsimp only at hSw); go_simp; try with_reducible rfl); (try simp only [Act.put, List.setIfInBounds_toArray, List.set_cons_zero, List.set_cons_succ])
            refine anyX_take (i := 17) (v := ?_) rfl (by kernel_rfl) (by kernel_rfl) (by kernel_rfl) (by kernel_rfl) (fun _ _ _ h => h) (by kernel_rfl) hS1 ?_ ?_; rotate_left; focus (intro w hSw; (try dsimp only at hSw); go_simp; try with_reducible rfl); (try simp only [Act.put, List.setIfInBounds_toArray, List.set_cons_zero, List.set_cons_succ])
            refine anyX_take (i := 18) (v := ?_) rfl (by kernel_rfl) (by kernel_rfl) (by kernel_rfl) (by kernel_rfl) (fun _ _ _ h => h) (by kernel_rfl) hS1 ?_ ?_; rotate_left; focus (intro w hSw; (try dsimp only at hSw); go_simp; try with_reducible rfl); (try simp only [Act.put, List.setIfInBounds_toArray, List.set_cons_zero, List.set_cons_succ])
            refine anyX_take (i := 19) (v := ?_) rfl (by kernel_rfl) (by kernel_rfl) (by kernel_rfl) (by kernel_rfl) (fun _ _ _ h => h) (by kernel_rfl) hS1 ?_ ?_; rotate_left; focus (intro w hSw; (try dsimp only at hSw); go_simp; try with_reducible rfl); (try simp only [Act.put, List.setIfInBounds_toArray, List.set_cons_zero, List.set_cons_succ])
            have hbA : Below wr.heap.size wr (wr.drew.alloc (.cells #[] 9)) := (Below.refl _ _).drew.alloc (Nat.le_refl _) _
            have hOA : OwnT (wr.drew.alloc (.cells #[] 9)) wr.heap.size (.slice (some ⟨wr.heap.size, 0, none⟩) 0 0) [] := ownT_lit0 wr.drew
            have hzA : (wr.drew.alloc (.cells #[] 9)).heap.size = wr.heap.size + 1 := by simp
            have hSA := Mk.out _ hbA
            have hbN : Below wr.heap.size wr (wr.drew.alloc (.cells #[.string nm] 9)) := (Below.refl _ _).drew.alloc (Nat.le_refl _) _
            have hLN : Ls (wr.drew.alloc (.cells #[.string nm] 9)) (.slice (some ⟨wr.heap.size, 0, none⟩) 1 1) [nm] := lsOne wr.drew nm 9 Hnz.out
            have hzN : (wr.drew.alloc (.cells #[.string nm] 9)).heap.size = wr.heap.size + 1 := by simp
            have hSN := Mk.out _ hbN
            refine anyX_two (i := 11) (j := 20) (by kernel_rfl) rfl rfl (fun K hK => ?_) (fun K hK => ?_)
            · go_simp
              refine hK.out _ _ (fun _ => hSA) ?_; clear hK K; (try simp only [Act.put, List.setIfInBounds_toArray, List.set_cons_zero, List.set_cons_succ])
              refine anyX_two (i := 13) (j := 20) (by kernel_rfl) rfl rfl (fun K hK => ?_) (fun K hK => ?_)
              · refine step_append_ls (by kernel_rfl) _ _ rfl wr.heap.size _ _ [] gone rfl hOA rfl (hgr.up hbA) (by simp; omega) hbA.size ?_
                intro v3 w3 hO3 hg3
                rw [List.nil_append] at hO3
                have hb3 := below_own hbA hOA hg3 (Nat.le_refl _)
                have hS3 := Mk.out _ hb3
                obtain ⟨a3', c3', rfl⟩ := hO3.lst.shape
                clear hOA hbA hzA hSA hbN hLN hzN hSN hg3
                refine hK.out _ _ (fun _ => hS3) ?_; clear hK K; (try simp only [Act.put, List.setIfInBounds_toArray])
                have hL4 := lsOne w3 nm 9 Hnz.out
                have hb4 : Below wr.heap.size wr (w3.alloc (.cells #[.string nm] 9)) := hb3.alloc hb3.size _
                have hO4 := World.ownsRow.alloc hO3 (.cells #[.string nm] 9)
                have hS4 := Mk.out _ hb4
                refine anyX_one (i := 20) (by kernel_rfl) rfl (fun K hK => ?_)
                go_simp
                refine hK.out _ _ (fun _ => hS4) ?_; clear hK K; (try simp only [Act.put, List.setIfInBounds_toArray, List.set_cons_zero, List.set_cons_succ])
                refine anyX_one (i := 21) (by kernel_rfl) rfl (fun K hK => ?_)
                refine step_append_ls (by kernel_rfl) _ _ rfl wr.heap.size _ _ gone [nm] rfl hO4 rfl hL4 (by simp; omega) hb4.size ?_
                intro v5 w5 hO5 hg5
                have hb5 := below_own hb4 hO4 hg5 (Nat.le_refl _)
                have hS5 := Mk.out _ hb5
                clear hO4 hL4 hb4 hS4 hS3 hb3 hO3 hg5
                obtain ⟨a5, c5, rfl⟩ := hO5.lst.shape
                have hL5 := hO5.lst.ls (sz_snoc Hgz.out Hnz.out)
                have HI9 : Hid (∀ (v gv : Value) (w : World), BkV w v b → Ls w gv (gone ++ [nm]) → Calls Try.prog 12 #[v, gv] w fun e w' => e = .returned (.bool (pB (SomeFit b (gone ++ [nm])))) ∧ Below w.heap.size w w') := HI.out nm
                clear HI
                generalize gone ++ [nm] = g9 at *
                refine hK.out _ _ (fun _ => hS5) ?_; clear hK K; (try simp only [Act.put, List.setIfInBounds_toArray])
                refine anyX_one (i := 22) (by kernel_rfl) rfl (fun K hK => ?_)
                go_simp
                go_wp2_with (go_at_call 12; refine (HI9.out _ _ _ (hbk.up hb5) hL5).mono ?_; rintro e w6 ⟨rfl, hb6⟩)
                have hb6 := up_trans hb5 hb6
                have hS6 := Mk.out _ hb6
                refine hK.out _ _ (fun _ => hS6) ?_; clear hK K; (try simp only [Act.put, List.setIfInBounds_toArray, List.set_cons_zero, List.set_cons_succ])
                refine anyX_one (i := 23) (by kernel_rfl) rfl (fun K hK => ?_)
                go_simp
                refine hK.out _ _ (fun _ => hS6) ?_
                clear hK K
                refine anyX_done (by kernel_rfl) ?_ _
                clear hS1 hS5 hS6 hb5 hO5 hL5
                go_wp2_with fail
                go_meet
                case rel => exact ⟨_, rfl, fun h => pB_iff.1 h, fun h _ => pB_not.1 h, hb6⟩
              · have hb3 : Below wr.heap.size wr ((wr.drew.alloc (.cells #[] 9)).alloc (.cells #[.string nm] 9)) := hbA.alloc hbA.size _
                have hS3 := Mk.out _ hb3
                have hO3 := World.ownsRow.alloc hOA (.cells #[.string nm] 9)
                have hL3 := lsOne (wr.drew.alloc (.cells #[] 9)) nm 9 Hnz.out
                rw [hzA] at hL3
                go_simp
                refine hK.out _ _ (fun _ => hS3) ?_; clear hK K; (try simp only [Act.put, List.setIfInBounds_toArray, List.set_cons_zero, List.set_cons_succ])
                refine anyX_one (i := 13) (by kernel_rfl) rfl (fun K hK => ?_)
                refine step_append_ls (by kernel_rfl) _ _ rfl wr.heap.size (.slice (some ⟨wr.heap.size, 0, none⟩) 0 0) _ [] gone rfl hO3 rfl (hgr.up hb3) (by simp; omega) hb3.size ?_
                intro v4 w4 hO4 hg4
                rw [List.nil_append] at hO4
                have hb4 := below_own hb3 hO3 hg4 (Nat.le_refl _)
                have hL4 : Ls w4 (.slice (some ⟨wr.heap.size + 1, 0, none⟩) 1 1) [nm] := hL3.gr1 hg4 (by simp [Value.ownBlock])
                have hS4 := Mk.out _ hb4
                obtain ⟨a3', c3', rfl⟩ := hO4.lst.shape
                clear hOA hbA hzA hSA hbN hLN hzN hSN hg4 hO3 hL3 hb3 hS3
                refine hK.out _ _ (fun _ => hS4) ?_; clear hK K; (try simp only [Act.put, List.setIfInBounds_toArray])
                refine anyX_one (i := 21) (by kernel_rfl) rfl (fun K hK => ?_)
                refine step_append_ls (by kernel_rfl) _ _ rfl wr.heap.size _ _ gone [nm] rfl hO4 rfl hL4 (by simp; omega) hb4.size ?_
                intro v5 w5 hO5 hg5
                have hb5 := below_own hb4 hO4 hg5 (Nat.le_refl _)
                have hS5 := Mk.out _ hb5
                clear hO4 hL4 hb4 hS4 hg5
                obtain ⟨a5, c5, rfl⟩ := hO5.lst.shape
                have hL5 := hO5.lst.ls (sz_snoc Hgz.out Hnz.out)
                have HI9 : Hid (∀ (v gv : Value) (w : World), BkV w v b → Ls w gv (gone ++ [nm]) → Calls Try.prog 12 #[v, gv] w fun e w' => e = .returned (.bool (pB (SomeFit b (gone ++ [nm])))) ∧ Below w.heap.size w w') := HI.out nm
                clear HI
                generalize gone ++ [nm] = g9 at *
                refine hK.out _ _ (fun _ => hS5) ?_; clear hK K; (try simp only [Act.put])
                refine anyX_one (i := 22) (by kernel_rfl) rfl (fun K hK => ?_)
                go_simp
                go_wp2_with (go_at_call 12; refine (HI9.out _ _ _ (hbk.up hb5) hL5).mono ?_; rintro e w6 ⟨rfl, hb6⟩)
                have hb6 := up_trans hb5 hb6
                have hS6 := Mk.out _ hb6
                refine hK.out _ _ (fun _ => hS6) ?_; clear hK K; (try simp only [Act.put, List.setIfInBounds_toArray, List.set_cons_zero, List.set_cons_succ])
                refine anyX_one (i := 23) (by kernel_rfl) rfl (fun K hK => ?_)
                go_simp
                refine hK.out _ _ (fun _ => hS6) ?_
                clear hK K
                refine anyX_done (by kernel_rfl) ?_ _
                clear hS1 hS5 hS6 hb5 hO5 hL5
                go_wp2_with fail
                go_meet
                case rel => exact ⟨_, rfl, fun h => pB_iff.1 h, fun h _ => pB_not.1 h, hb6⟩
            · go_simp
              refine hK.out _ _ (fun _ => hSN) ?_; clear hK K; (try simp only [Act.put, List.setIfInBounds_toArray, List.set_cons_zero, List.set_cons_succ])
              have hb3 : Below wr.heap.size wr ((wr.drew.alloc (.cells #[.string nm] 9)).alloc (.cells #[] 9)) := hbN.alloc hbN.size _
              have hS3 := Mk.out _ hb3
              have hO3 : OwnT ((wr.drew.alloc (.cells #[.string nm] 9)).alloc (.cells #[] 9)) (wr.heap.size + 1) (.slice (some ⟨wr.heap.size + 1, 0, none⟩) 0 0) [] := by
                have := ownT_lit0 (wr.drew.alloc (.cells #[.string nm] 9))
                rw [hzN] at this
                exact this
              have hL3 := hLN.up ((Below.refl _ _).alloc (Nat.le_refl _) (.cells #[] 9))
              refine anyX_one (i := 11) (by kernel_rfl) rfl (fun K hK => ?_)
              go_simp
              refine hK.out _ _ (fun _ => hS3) ?_; clear hK K; (try simp only [Act.put, List.setIfInBounds_toArray, List.set_cons_zero, List.set_cons_succ])
              refine anyX_one (i := 13) (by kernel_rfl) rfl (fun K hK => ?_)
              refine step_append_ls (by kernel_rfl) _ _ rfl (wr.heap.size + 1) (.slice (some ⟨wr.heap.size + 1, 0, none⟩) 0 0) _ [] gone rfl hO3 rfl (hgr.up hb3) (by simp; omega) (by simp) ?_
              intro v4 w4 hO4 hg4
              rw [List.nil_append] at hO4
              have hb4 := below_own hb3 hO3 hg4 (Nat.le_succ _)
              have hL4 : Ls w4 (.slice (some ⟨wr.heap.size, 0, none⟩) 1 1) [nm] := hL3.gr1 hg4 (by simp [Value.ownBlock])
              have hO4 := own_low hO4 (Nat.le_succ wr.heap.size)
              have hO4 : OwnT w4 wr.heap.size v4 gone := hO4
              have hS4 := Mk.out _ hb4
              obtain ⟨a3', c3', rfl⟩ := hO4.lst.shape
              clear hOA hbA hzA hSA hbN hLN hzN hSN hg4 hO3 hL3 hb3 hS3
              refine hK.out _ _ (fun _ => hS4) ?_; clear hK K; (try simp only [Act.put, List.setIfInBounds_toArray])
              refine anyX_one (i := 21) (by kernel_rfl) rfl (fun K hK => ?_)
              refine step_append_ls (by kernel_rfl) _ _ rfl wr.heap.size _ _ gone [nm] rfl hO4 rfl hL4 (by simp; omega) hb4.size ?_
              intro v5 w5 hO5 hg5
              have hb5 := below_own hb4 hO4 hg5 (Nat.le_refl _)
              have hS5 := Mk.out _ hb5
              clear hO4 hL4 hb4 hS4 hg5
              obtain ⟨a5, c5, rfl⟩ := hO5.lst.shape
              have hL5 := hO5.lst.ls (sz_snoc Hgz.out Hnz.out)
              have HI9 : Hid (∀ (v gv : Value) (w : World), BkV w v b → Ls w gv (gone ++ [nm]) → Calls Try.prog 12 #[v, gv] w fun e w' => e = .returned (.bool (pB (SomeFit b (gone ++ [nm])))) ∧ Below w.heap.size w w') := HI.out nm
              clear HI
              generalize gone ++ [nm] = g9 at *
              refine hK.out _ _ (fun _ => hS5) ?_; clear hK K; (try simp only [Act.put])
              refine anyX_one (i := 22) (by kernel_rfl) rfl (fun K hK => ?_)
              go_simp
              go_wp2_with (go_at_call 12; refine (HI9.out _ _ _ (hbk.up hb5) hL5).mono ?_; rintro e w6 ⟨rfl, hb6⟩)
              have hb6 := up_trans hb5 hb6
              have hS6 := Mk.out _ hb6
              refine hK.out _ _ (fun _ => hS6) ?_; clear hK K; (try simp only [Act.put, List.setIfInBounds_toArray, List.set_cons_zero, List.set_cons_succ])
              refine anyX_one (i := 23) (by kernel_rfl) rfl (fun K hK => ?_)
              go_simp
              refine hK.out _ _ (fun _ => hS6) ?_
              clear hK K
              refine anyX_done (by kernel_rfl) ?_ _
              clear hS1 hS5 hS6 hb5 hO5 hL5
              go_wp2_with fail
              go_meet
              case rel => exact ⟨_, rfl, fun h => pB_iff.1 h, fun h _ => pB_not.1 h, hb6⟩
          · refine hK.out _ _ (fun _ => hS1) ?_; clear hK K; (try simp only [Act.put, List.setIfInBounds_toArray, List.set_cons_zero, List.set_cons_succ])
            refine anyX_take (i := 8) (v := ?_) rfl (by kernel_rfl) (by kernel_rfl) (by kernel_rfl) (by kernel_rfl) (fun _ _ _ h => h) (by kernel_rfl) hS1 ?_ ?_; rotate_left; focus (intro w hSw; (try dsimp only at hSw); go_simp; try with_reducible rfl); (try simp only [Act.put, List.setIfInBounds_toArray, List.set_cons_zero, List.set_cons_succ])
            refine anyX_take (i := 9) (v := ?_) rfl (by kernel_rfl) (by kernel_rfl) (by kernel_rfl) (by kernel_rfl) (fun _ _ _ h => h) (by kernel_rfl) hS1 ?_ ?_; rotate_left; focus (intro w hSw; (try dsimp only at hSw); go_simp; try with_reducible rfl); (try simp only [Act.put, List.setIfInBounds_toArray, List.set_cons_zero, List.set_cons_succ])
            refine anyX_skip (i := 10) rfl (by kernel_rfl) (by kernel_rfl) (by kernel_rfl) (by kernel_rfl) (fun _ _ _ h => h) (by kernel_rfl) hS1 ?_; (try simp only [Act.put, List.setIfInBounds_toArray])
            refine anyX_skip (i := 11) rfl (by kernel_rfl) (by kernel_rfl) (by kernel_rfl) (by kernel_rfl) (fun _ _ _ h => h) (by kernel_rfl) hS1 ?_; (try simp only [Act.put])
            refine anyX_skip (i := 12) rfl (by kernel_rfl) (by kernel_rfl) (by kernel_rfl) (by kernel_rfl) (fun _ _ _ h => h) (by kernel_rfl) hS1 ?_; (try simp only [Act.put])
            refine anyX_skip (i := 13) rfl (by kernel_rfl) (by kernel_rfl) (by kernel_rfl) (by kernel_rfl) (fun _ _ _ h => h) (by kernel_rfl) hS1 ?_; (try simp only [Act.put])
            refine anyX_skip (i := 14) rfl (by kernel_rfl) (by kernel_rfl) (by kernel_rfl) (by kernel_rfl) (fun _ _ _ h => h) (by kernel_rfl) hS1 ?_; (try simp only [Act.put])
            refine anyX_skip (i := 15) rfl (by kernel_rfl) (by kernel_rfl) (by kernel_rfl) (by kernel_rfl) (fun _ _ _ h => h) (by kernel_rfl) hS1 ?_; (try simp only [Act.put])
            refine anyX_skip (i := 16) rfl (by kernel_rfl) (by kernel_rfl) (by kernel_rfl) (by kernel_rfl) (fun _ _ _ h => h) (by kernel_rfl) hS1 ?_; (try simp only [Act.put])
            refine anyX_skip (i := 17) rfl (by kernel_rfl) (by kernel_rfl) (by kernel_rfl) (by kernel_rfl) (fun _ _ _ h => h) (by kernel_rfl) hS1 ?_; (try simp only [Act.put])
            refine anyX_skip (i := 18) rfl (by kernel_rfl) (by kernel_rfl) (by kernel_rfl) (by kernel_rfl) (fun _ _ _ h => h) (by kernel_rfl) hS1 ?_; (try simp only [Act.put])
            refine anyX_skip (i := 19) rfl (by kernel_rfl) (by kernel_rfl) (by kernel_rfl) (by kernel_rfl) (fun _ _ _ h => h) (by kernel_rfl) hS1 ?_; (try simp only [Act.put])
            refine anyX_skip (i := 20) rfl (by kernel_rfl) (by kernel_rfl) (by kernel_rfl) (by kernel_rfl) (fun _ _ _ h => h) (by kernel_rfl) hS1 ?_; (try simp only [Act.put])
            refine anyX_skip (i := 21) rfl (by kernel_rfl) (by kernel_rfl) (by kernel_rfl) (by kernel_rfl) (fun _ _ _ h => h) (by kernel_rfl) hS1 ?_; (try simp only [Act.put])
            refine anyX_skip (i := 22) rfl (by kernel_rfl) (by kernel_rfl) (by kernel_rfl) (by kernel_rfl) (fun _ _ _ h => h) (by kernel_rfl) hS1 ?_; (try simp only [Act.put])
            refine anyX_one (i := 23) (by kernel_rfl) rfl (fun K hK => ?_)
            go_simp
            refine hK.out _ _ (fun _ => hS1) ?_
            clear hK K
            refine anyX_done (by kernel_rfl) ?_ _
            have Hm : Hid (memS gone nm = true) := hm
            clear hS1 hm
            go_wp2_with fail
            go_meet
            case rel => exact ⟨_, rfl, fun h => (by cases h), fun _ h => (by rw [Hm.out] at h; cases h), (Below.refl _ _).drew⟩
        case rest =>
          obtain ⟨c, rfl, hc1, hc0, hBc⟩ := hcut
          have hB3 := up_trans hB hBc
          cases c
          · have Hno := Hstep.out (hc0 rfl)
            have Hn : Hid (∀ (j : Nat) (x : Ba), j < k + 1 → b.bs[j]? = some x → memS gone x.nm = false → ¬ SomeFit b (gone ++ [x.nm])) := Hno
            clear Hno hc0 hc1 hS1
            go_wp2_with fail
            go_roundw
            case rel => exact ⟨k + 1, by omega, by go_num, Hn.out, hB3⟩
            case measure => simp [intOf]; omega
          · have HY : Hid (pB (SomeFit b gone) = true) := pB_yes (some_of (hc1 rfl))
            clear hc0 hc1 hS1
            go_wp2_with fail
            go_ret
            exact ⟨ret_bool HY.out.symm, up_trans hB1 hB3⟩
      · have HN : Hid (pB (SomeFit b gone) = false) := pB_no fun hs => by
          obtain ⟨j, x, hx, hm, hf⟩ := HF.out hs
          exact Hal.out j x (by have := (List.getElem?_eq_some_iff.1 hx).1; omega) hx hm hf
        go_wp2_with fail
        go_ret
        exact ⟨ret_bool HN.out.symm, up_trans hB1 hB⟩
end Go.Proofs.Ythpcadlohahblab
