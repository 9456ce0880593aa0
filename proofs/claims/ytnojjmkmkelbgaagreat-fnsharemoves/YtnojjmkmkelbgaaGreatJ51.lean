/- The law of promises 14 and 15, 9: its last two pieces. -/
import Derived.Test.YtnojjmkmkelbgaaGreatLs8
import Derived.Test.YtnojjmkmkelbgaaGreatLsa
namespace Go.Proofs.YtnojjmkmkelbgaaGreat
open Go.RowKit

theorem ne_text {x nm : ByteArray} (h : x ≠ nm) : (x.toList == nm.toList) = false := by
  have : memS [x] nm = false := by
    cases hq : memS [x] nm with
    | false => rfl
    | true => have := (memS_iff [x] nm).1 hq; simp at this; exact absurd this.symm h
  simpa [memS] using this
theorem tL8 : tL 8 = .seq (pL 8) (.seq (pL 9) .ret) := rfl
def QE (W0 : World) (a : Act) (u : World) : Prop := ∃ T, a = ⟨T, []⟩ ∧ T[4]? = some (.bool true) ∧ OldW W0 u
set_option maxRecDepth 20000 in
set_option maxHeartbeats 8000000 in
theorem nestE {W0 : World} {T : Array Value} {d : Bk} {dx lw : Nat} {a3 a4 : Option Addr} {c3 c4 : Nat} {nm : ByteArray} {u : Value} (w : World) (hT : Has 96 T [(11, u), (9, .pointer (some ⟨dx, 0, none⟩)), (10, .string nm)]) (kD : CB w dx [.slice a3 d.things.length c3, .slice a4 d.bs.length c4]) (hk : BkV w (.agg #[.slice a3 d.things.length c3, .slice a4 d.bs.length c4]) d) (ho : OwnT w lw u (waitsS d nm)) (hO : OldW W0 w) (hsz : ∀ s ∈ waitsS d nm, s.size ≤ maxLen) :
    Nest Tryz.prog [pL 8, pL 9] (fun e a u => e = .normal ∧ QE W0 a u) ⟨T, []⟩ w := by
  have e11 := hT.get 11 u (by simp)
  have e9 := hT.get 9 (.pointer (some ⟨dx, 0, none⟩)) (by simp)
  have e10 := hT.get 10 (.string nm) (by simp)
  obtain ⟨v0, v1, v2, v3, v4, v5, v6, v7, v8, v9, v10, v11, v12, v13, v14, v15, v16, v17, v18, v19, v20, v21, v22, v23, v24, v25, v26, v27, v28, v29, v30, v31, v32, v33, v34, v35, v36, v37, v38, v39, v40, v41, v42, v43, v44, v45, v46, v47, v48, v49, v50, v51, v52, v53, v54, v55, v56, v57, v58, v59, v60, v61, v62, v63, v64, v65, v66, v67, v68, v69, v70, v71, v72, v73, v74, v75, v76, v77, v78, v79, v80, v81, v82, v83, v84, v85, v86, v87, v88, v89, v90, v91, v92, v93, v94, v95, rfl⟩ := array96 T hT.1
  simp only [List.getElem?_toArray, List.getElem?_cons_succ, List.getElem?_cons_zero, Option.some.injEq] at e9 e10 e11
  subst e9 e10 e11
  clear hT
  have hl := ho.lst.ls hsz
  have Hne : Hid (∀ s ∈ waitsS d nm, s ≠ nm) := waits_own
  have Hsz : Hid (∀ s ∈ waitsS d nm, s.size ≤ maxLen) := hsz
  obtain ⟨au, cu, rfl, hlen, -, hpos⟩ := id hl
  unfold maxLen at hlen
  simp only [pL, nthC, bodyLS, Tryz.f3, Option.getD_some]
  apply nest_k
  intro K hK
  go_wp2_with fail
  go_loop [12] (fun i => ∃ k : Nat, k ≤ (waitsS d nm).length ∧ i = .int .i64 k) (fun i => (waitsS d nm).length - (intOf i).toNat)
  case atStart => exact ⟨0, by omega, rfl⟩
  case round =>
    obtain ⟨k, hk2, rfl⟩ := hrel
    by_cases hp : k < (waitsS d nm).length
    · obtain ⟨bb, o, rfl, hS, hb⟩ := hpos (by omega)
      have c0 := hS.cell hp
      have hq : (((waitsS d nm)[k]).toList == nm.toList) = false := ne_text (Hne.out _ (List.getElem_mem hp))
      go_wp2
      go_round
      case rel => exact ⟨k + 1, by omega, by go_num⟩
      case measure => simp [intOf]; omega
    · go_wp2_with fail
      apply nest_k
      intro K2 hK2
      obtain ⟨e0, e1⟩ := kD.c2'
      go_wp2_with fail
      refine (specWaits_any d _ nm _ hk).mono ?_
      rintro e w2 ⟨⟨u2, rfl, ho2⟩, hb2⟩
      go_wp2_with fail
      refine (whTexts_any (waitsS d nm) _ _ _ (hl.up hb2) (ho2.lst.ls Hsz.out)).mono ?_
      rintro e w3 ⟨rfl, hb3⟩
      go_wp2_with fail
      exact ⟨rfl, _, rfl, rfl, (hO.up hb2).up hb3⟩
end Go.Proofs.YtnojjmkmkelbgaaGreat

/- The law of promises 14 and 15, from its entry to its return, on every tape. -/
namespace Go.Proofs.YtnojjmkmkelbgaaGreat
open Go.Conc Go.ConcN Go.RowKit Go.Conc.Lib Go.ConcR.Gen Go.ConcN.Gen
open Go.ConcR (KK wgBlock WgAt stA smA rd wr mk Payload DC0)

theorem tl3 : ∃ o0 o1 o2, tL 3 = .seq (.region 4 #[o0, o1, o2] false) (tL 4) ∧ (o0.op = .load 26 (.tmp 5) ∧ o0.dst = some 23 ∧ o0.guard = none) ∧ ((∃ ats, o1.op = .call { callee := .value (.func 5), args := #[.tmp 23], argTypes := ats }) ∧ o1.dst = some 24 ∧ o1.guard = none) ∧ (o2.op = .assign (.tmp 24) ∧ o2.dst = some 6 ∧ o2.guard = none) := ⟨_, _, _, rfl, ⟨rfl, rfl, rfl⟩, ⟨⟨_, rfl⟩, rfl, rfl⟩, ⟨rfl, rfl, rfl⟩⟩
theorem tl7 : ∃ o0 o1 o2 o3, tL 7 = .seq (.region 14 #[o0, o1, o2, o3] false) (tL 8) ∧ (o0.op = .load 26 (.tmp 9) ∧ o0.dst = some 76 ∧ o0.guard = none) ∧ (o1.op = .move (.tmp 10) ∧ o1.dst = some 77 ∧ o1.guard = none) ∧ ((∃ ats, o2.op = .call { callee := .value (.func 13), args := #[.tmp 76, .tmp 77], argTypes := ats }) ∧ o2.dst = some 78 ∧ o2.guard = none) ∧ (o3.op = .assign (.tmp 78) ∧ o3.dst = some 11 ∧ o3.guard = none) := ⟨_, _, _, _, rfl, ⟨rfl, rfl, rfl⟩, ⟨rfl, rfl, rfl⟩, ⟨⟨_, rfl⟩, rfl, rfl⟩, ⟨rfl, rfl, rfl⟩⟩
theorem it0 : tL 0 = joinC [pL 0, pL 1, pL 2] (tL 3) := rfl
theorem it8 : tL 8 = joinC [pL 8, pL 9] .ret := rfl
theorem okL : ∀ r ∈ [pL 0, pL 1, pL 2, pL 8, pL 9], codeOk Tryz.prog (fun g => fsW.contains g) r = true := by
  intro r hr
  simp only [List.mem_cons, List.not_mem_nil, or_false] at hr
  rcases hr with rfl | rfl | rfl | rfl | rfl <;> kernel_rfl
theorem ok13 : codeOk Tryz.prog (fun g => fsW.contains g) r13L = true := by kernel_rfl

section
variable {W0 : World} {X : Nat → Prop} {Shun : Loc → Prop} {gs : Array Goroutine} {sl : Option (Nat × Nat)} {t : Trace} {V : World} {T : Array Value}
/-- A book in its box is looked at. -/
theorem h_look {Post : Value → World → Prop} {bx n : Nat} {x1 x2 : Value} {l : List (Nat × Value)} {ops : Array Oper} {i : Nat} {rest : List Nat} {k : List Item} {cs : List Frame} {f : Frame} {o : Oper} {x : Operand} {d : Nat} (hX : ShIn Shun X) (hC : CB (pzT X V t0 0) bx [x1, x2]) (hh : Here Tryz.prog Shun gs (G (f.at ⟨T, []⟩ (.inRegion ops (i :: rest) :: k)) cs) t) (hT : Has n T l) (ho : ops[i]? = some o) (hw : Region.wanted o (yielded ops T) = true) (hk : f.kind = .normal) (hdst : o.dst = some d) (hop : o.op = .load 26 x) (hx : (⟨T, []⟩ : Act).eval x = .pointer (some ⟨bx, 0, none⟩)) (hd : d < n) (hn : ∀ p ∈ l, p.1 ≠ d)
    (kk : ∀ gs' sl' t' x T', Here Tryz.prog Shun gs' (G (f.at ⟨T', []⟩ (.inRegion ops rest :: k)) cs) t' → Has n T' ((d, .agg #[x1, x2]) :: l) → EndsG Tryz.prog Post (crowd gs' (V.at x) sl') t') : EndsG Tryz.prog Post (crowd gs V sl) t := by
  obtain ⟨c0, n0⟩ := pz_cell (hC.1 0 _ rfl)
  have c1 := (pz_cell (hC.1 1 _ rfl)).1
  have hl : bx < V.heap.size := World.block_lt_of_cell? V ⟨bx, 0, none⟩ c0
  have ns : ∀ o, ¬ Shun (.cell ⟨bx, o, none⟩) := fun o hs => by
    obtain ⟨a, e, ha⟩ := hX _ hs
    cases e
    exact n0 ha
  refine h_val V.heap.size hh hT ho hw hk hdst hd hn (fun d => ?_) (fun d e he => ?_) kk
  · have c0 : (V.at d).cell? ⟨bx, 0, none⟩ = some x1 := c0
    have c1 : (V.at d).cell? ⟨bx, 1, none⟩ = some x2 := c1
    unfold execOp
    rw [hop]
    simp only [hx]
    simp [go_sem, c0, c1]
  · have c0 : (V.at d).cell? ⟨bx, 0, none⟩ = some x1 := c0
    have c1 : (V.at d).cell? ⟨bx, 1, none⟩ = some x2 := c1
    unfold execOp at he
    rw [hop] at he
    simp only [hx] at he
    simp [go_sem, c0, c1] at he
    rcases he with rfl | rfl <;> exact evL_low hl (ns _)
def QD' (W0 : World) (a : Act) (u : World) : Prop := ∃ T d dx a3 c3 a4 c4 nm, a = ⟨T, []⟩ ∧ Has 96 T [(9, .pointer (some ⟨dx, 0, none⟩)), (10, .string nm)] ∧ CB u dx [.slice a3 d.things.length c3, .slice a4 d.bs.length c4] ∧ BkV u (.agg #[.slice a3 d.things.length c3, .slice a4 d.bs.length c4]) d ∧ OldW W0 u
theorem tlD (a : Act) : Tapeless (QD' W0 a) := fun _ _ _ ⟨T, d, dx, a3, c3, a4, c4, nm, h1, h2, h3, h4, h5⟩ => ⟨T, d, dx, a3, c3, a4, c4, nm, h1, h2, h3, h4, OldW.tl _ _ _ _ h5⟩
theorem tlA {v1 : Value} (a : Act) : Tapeless (QA W0 v1 a) := fun _ _ _ ⟨T, bx, b, a1, c1, a2, c2, h1, h2, h3, h4, h5, h6, h7⟩ => ⟨T, bx, b, a1, c1, a2, c2, h1, h2, h3, h4, h5, h6, OldW.tl _ _ _ _ h7⟩
theorem tlE (a : Act) : Tapeless (QE W0 a) := fun _ _ _ ⟨T, h1, h2, h3⟩ => ⟨T, h1, h2, OldW.tl _ _ _ _ h3⟩
theorem old_size {u : World} (h : OldW W0 (pzT X u t0 0)) : W0.heap.size ≤ u.heap.size := by
  obtain ⟨w0, ⟨τ, rfl⟩, hb⟩ := h
  have := hb.size
  rwa [pz_size] at this

theorem end_ends {x1 : Option Addr} {n1 k1 : Nat} (hX : ShIn Shun X) (hb : Base X V) (hO : OldW W0 (pzT X V t0 0)) (hF : ∀ k, X k → W0.heap.size ≤ k) (hT : Has 96 T [(1, .slice x1 n1 k1)]) (h1 : BytesAt W0 W0.heap.size (.slice x1 n1 k1) n1) (hcap : n1 ≤ k1) (hbig : k1 ≤ maxLen) (hh : Here Tryz.prog Shun gs (G (bL.at ⟨T, []⟩ [.code (tL 6)]) []) t) : EndsG Tryz.prog (fun v w => v = .bool true ∧ BelR W0 w) (crowd gs V sl) t := by
  rw [tL6] at hh
  refine e_ctl hh rfl (fun w => stepG_seq) fun gs sl t dd hh => ?_
  refine ends_run (X := X) hX hh (piece_run setW ok13 frL rfl (hb.at dd) (Q := QD' W0) (fun τ d => held_of (hb.at dd) (fun τ d => wp_mono (wp13 (pzT X V τ d) hT (old_bytes (old_all hO τ d) h1) hcap hbig) fun e a u' ⟨e1, T', d', dx, a3, c3, a4, c4, nm, q1, q2, q3, q4, q5⟩ => ⟨e1, T', d', dx, a3, c3, a4, c4, nm, q1, q2, q3, q4, (old_all hO τ d).up q5⟩) τ d) [.code (tL 7)] []) fun gs g w1 sl t hh hst => ?_
  obtain ⟨a, rfl, hd, hb1, hQ⟩ := hst
  obtain ⟨T, d, dx, a3, c3, a4, c4, nm, rfl, hT, kD, hk, hO1⟩ := Held.out (tlD a) (hQ t0 0)
  obtain ⟨o0, o1, o2, o3, e, ⟨p0, d0, g0⟩, ⟨p1, d1, g1⟩, ⟨⟨ats, p2⟩, d2, g2⟩, ⟨p3, d3, g3⟩⟩ := tl7
  rw [e] at hh
  refine e_ctl hh rfl (fun w => stepG_seq) fun gs sl t dd hh => ?_
  refine e_ctl hh rfl (fun w => stepG_region) fun gs sl t dd hh => ?_
  refine h_look (V := w1.at _) hX kD hh hT (o := o0) rfl (want0 g0 _) rfl d0 p0 (hT.ev 9 (.pointer (some ⟨dx, 0, none⟩)) (by simp)) (by omega) (by simp) fun gs sl t dd T hh hT => ?_
  refine h_move (v := .string nm) hh hT (o := o1) rfl (want0 g1 _) rfl d1 (.inl p1) (hT.ev 10 (.string nm) (by simp)) (by omega) (by simp) fun gs sl t dd T hh hT => ?_
  refine h_go (X := X) #[.agg #[.slice a3 d.things.length c3, .slice a4 d.bs.length c4], .string nm] hh hT (o := o2) rfl (want0 g2 _) rfl d2 p2 Tryz.func13 (by kernel_rfl) rfl (by simp [hT.ev 76 (.agg #[.slice a3 d.things.length c3, .slice a4 d.bs.length c4]) (by simp), hT.ev 77 (.string nm) (by simp)]) (by omega) (by simp) (R := fun v u => OwnT u w1.heap.size v (waitsL d nm)) (fun x => waits_g (b := d) (nm := nm) hX (hb1.at x) (fun τ x => hk)) fun X' Shun' gs V' sl t v T hX' hW' hh hT hb' hR => ?_
  rw [waits_eq] at hR
  have hB : ∀ τ x, Below (pzT X w1 τ x).heap.size (pzT X w1 τ x) (pzT X' V' τ x) := fun τ x => by rw [pz_size]; exact (hR τ x).2
  refine h_move (v := v) hh hT (o := o3) rfl (want0 g3 _) rfl d3 (.inr p3) (hT.ev 78 v (by simp)) (by omega) (by simp) fun gs sl t dd T hh hT => ?_
  refine e_ctl hh rfl (fun w => stepG_region_end) fun gs sl t dd hh => ?_
  rw [it8] at hh
  refine ends_run (X := X') hX' hh (nest_run setW frL (Q := QE W0) .ret [] [] [pL 8, pL 9] (fun r hr => okL r (by simp at hr; rcases hr with rfl | rfl <;> simp)) rfl (hb'.at _)
    (fun τ x => held_of (hb'.at _) (fun τ x => nestE (d := d) (dx := dx) (lw := w1.heap.size) (nm := nm) (pzT X' V' τ x) (hT.sub (by simp)) (CB.up (w := pzT X w1 τ x) kD (hB τ x) kD.2.2) (BkV.up (w := pzT X w1 τ x) hk (hB τ x)) (hR τ x).1 ((old_all hO1 τ x).up (hB τ x)) (waits_small hk nm)) τ x)) fun gs g w2 sl t hh hst => ?_
  obtain ⟨a, rfl, hd, hb2, hQ2⟩ := hst
  obtain ⟨T, rfl, hT4, hO2⟩ := Held.out (tlE a) (hQ2 t0 0)
  exact fin_ret hh hT4 (old_real hO2 fun k hk => (hW' k hk).elim (hF k) fun h => Nat.le_trans (old_size hO1) h)

theorem law_ends {x0 x1 : Option Addr} {n0 k0 n1 k1 : Nat} (h0 : BytesAt W0 W0.heap.size (.slice x0 n0 k0) n0) (hcap0 : n0 ≤ k0) (hbig0 : k0 ≤ maxLen) (h1 : BytesAt W0 W0.heap.size (.slice x1 n1 k1) n1) (hcap1 : n1 ≤ k1) (hbig1 : k1 ≤ maxLen) (hp : ∀ (b : Nat) (c : Array Value) (t : TypeId), W0.heap[b]? = some (Obj.pending c t) → gN ≤ b) :
    EndsG Tryz.prog (fun v w => v = .bool true ∧ BelR W0 w) (crowd #[G (Frame.enter Tryz.prog 3 #[.slice x0 n0 k0, .slice x1 n1 k1] .normal) []] W0 none) #[] := by
  have hb0 : Base (fun _ => False) W0 := ⟨fun _ h => h.elim, fun _ h => h.elim, hp⟩
  have hX0 : ShIn (fun _ => False) (fun _ => False) := fun _ h => h.elim
  have hh : Here Tryz.prog (fun _ => False) #[G (Frame.enter Tryz.prog 3 #[.slice x0 n0 k0, .slice x1 n1 k1] .normal) []] (G (Frame.enter Tryz.prog 3 #[.slice x0 n0 k0, .slice x1 n1 k1] .normal) []) #[] := ⟨rfl, ⟨_, leavers_one _ _⟩, ⟨0, fr_nil⟩⟩
  obtain ⟨gs0, hgs0⟩ : ∃ gs0, #[G (Frame.enter Tryz.prog 3 #[.slice x0 n0 k0, .slice x1 n1 k1] .normal) []] = gs0 := ⟨_, rfl⟩
  rw [hgs0] at hh ⊢
  clear hgs0
  rw [enterL] at hh
  by_cases hbig : 1048576 < n0 ∨ 1048576 < n1
  · exact early hbig ⟨rfl, rfl, Nat.le_refl _, fun _ _ => rfl⟩ hh
  have hn0 : ¬ 1048576 < n0 := fun h => hbig (.inl h)
  have hn1 : ¬ 1048576 < n1 := fun h => hbig (.inr h)
  rw [it0] at hh
  refine ends_run (X := fun _ => False) hX0 hh (nest_run setW frL (Q := QA W0 (.slice x1 n1 k1)) (tL 3) [] [] [pL 0, pL 1, pL 2] (fun r hr => okL r (by simp at hr; rcases hr with rfl | rfl | rfl <;> simp)) rfl hb0 (fun τ d => held_of hb0 (fun τ d => nestL0 W0 (.slice x1 n1 k1) x0 n0 k0 x1 n1 k1 _ rfl (old_bytes (old_first W0 τ d) h0) hcap0 hbig0 hn0 hn1 (old_first W0 τ d)) τ d)) fun gs g w1 sl t hh hst => ?_
  obtain ⟨a, rfl, hd, hb1, hQ⟩ := hst
  obtain ⟨T, bx, b, a1, c1, a2, c2, rfl, hsz, s1, s5, kA, hk, hO⟩ := Held.out (tlA a) (hQ t0 0)
  have hT : Has 96 T [(1, .slice x1 n1 k1), (5, .pointer (some ⟨bx, 0, none⟩))] := ⟨hsz, fun p hp => by
    simp only [List.mem_cons, List.not_mem_nil, or_false] at hp
    rcases hp with rfl | rfl <;> assumption⟩
  clear s1 s5
  obtain ⟨o0, o1, o2, e, ⟨p0, d0, g0⟩, ⟨⟨ats, p1⟩, d1, g1⟩, ⟨p2, d2, g2⟩⟩ := tl3
  rw [e] at hh
  refine e_ctl hh rfl (fun w => stepG_seq) fun gs sl t dd hh => ?_
  refine e_ctl hh rfl (fun w => stepG_region) fun gs sl t dd hh => ?_
  refine h_look (V := w1.at _) hX0 kA hh hT (o := o0) rfl (want0 g0 _) rfl d0 p0 (hT.ev 5 (.pointer (some ⟨bx, 0, none⟩)) (by simp)) (by omega) (by simp) fun gs sl t dd T hh hT => ?_
  refine h_go (X := fun _ => False) #[.agg #[.slice a1 b.things.length c1, .slice a2 b.bs.length c2]] hh hT (o := o1) rfl (want0 g1 _) rfl d1 p1 Tryz.func5 (by kernel_rfl) rfl (by simp [hT.ev 23 (.agg #[.slice a1 b.things.length c1, .slice a2 b.bs.length c2]) (by simp)]) (by omega) (by simp) (R := fun v u => OwnT u w1.heap.size v (movesL b)) (fun x => moves_g (b := b) hX0 (hb1.at x) (fun τ x => hk)) fun X' Shun' gs V' sl t lv T hX' hW' hh hT hb' hR => ?_
  rw [moves_eq] at hR
  have hB : Below (pzT (fun _ => False) w1 t0 0).heap.size (pzT (fun _ => False) w1 t0 0) (pzT X' V' t0 0) := by rw [pz_size]; exact (hR t0 0).2
  have hI : InvT W0 b bx a1 c1 a2 c2 w1.heap.size lv X' Shun' V' := ⟨hX', hb', kA.up hB kA.2.2, hk.up hB, (hR t0 0).1, hO.up hB, fun k hk => (hW' k hk).elim (fun h => h.elim) fun h => Nat.le_trans (old_size hO) h⟩
  clear hB hR hW' hb' hX' kA hk hO hQ hb1 hd
  refine h_move (v := lv) hh hT (o := o2) rfl (want0 g2 _) rfl d2 (.inr p2) (hT.ev 24 lv (by simp)) (by omega) (by simp) fun gs sl t dd T hh hT => ?_
  refine e_ctl hh rfl (fun w => stepG_region_end) fun gs sl t dd hh => ?_
  refine r5 (v1 := .slice x1 n1 k1) ((hI.at _).at _) (hT.sub (by simp)) hh fun X Shun gs V sl t T hI hh hT => ?_
  refine p5_ends hI hT hh fun X Shun gs V sl t T hI hh hT => ?_
  exact end_ends hI.hX hI.base hI.old hI.far (hT.sub (by simp)) h1 hcap1 hbig1 hh
end
end Go.Proofs.YtnojjmkmkelbgaaGreat
