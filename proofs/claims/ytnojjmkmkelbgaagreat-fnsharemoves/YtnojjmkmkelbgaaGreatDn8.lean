/- Drawing for the share: a book in which all just have something: its walk. -/
import Derived.Test.YtnojjmkmkelbgaaGreatDn7
namespace Go.Proofs.YtnojjmkmkelbgaaGreat
open Go.RowKit


set_option maxRecDepth 20000 in
set_option maxHeartbeats 4000000 in
theorem wild15_any (rb len N B : Nat) (v : Value) (a1 : Option Addr) (c1 : Nat) (ts : List ByteArray) (w : World) (hR : Rd w rb v len N) (hN : N ≤ 800000) (hT : OwnT w B (Value.slice a1 ts.length c1) ts) (htz : ∀ s ∈ ts, s.size ≤ maxLen) (htl : ts.length ≤ 40) (hB : rb < B) (hBw : B ≤ w.heap.size) :
    Calls Tryz.prog 47 #[.pointer (some ⟨rb, 0, none⟩), .agg #[(Value.slice a1 ts.length c1), .slice none 0 0]] w
      fun e w' => (∃ (u : Value) (b : Bk), e = .returned u ∧ Dk w' B u b) ∧ Rd w' rb v len (N + 1000) ∧ w.grownBy w' (some rb) := by
  have hrl := hR.lt
  obtain ⟨is, his, js0, js1, js2⟩ := info_parts infoStr
  obtain ⟨ib, hib, jb0, jb1, jb2⟩ := info_parts infoBat1
  go_enter Tryz.func47, Tryz.ntmps47
  go_upto_region 1 with fail
  obtain ⟨W1, hW1, kA, kR, hB1, hs1⟩ : ∃ W1, (w.alloc (.cells #[(Value.slice a1 ts.length c1), .slice none 0 0] 26)).alloc (.cells #[.slice none 0 0, .slice none 0 0] 26) = W1 ∧ CB W1 w.heap.size [(Value.slice a1 ts.length c1), .slice none 0 0] ∧ CB W1 (w.heap.size + 1) [.slice none 0 0, .slice none 0 0] ∧ Below w.heap.size w W1 ∧ W1.heap.size = w.heap.size + 2 := ⟨_, rfl, cb2 w _ _ _ _⟩
  rw [hW1]
  clear hW1
  have hR1 := hR.kept hB1
  have hnz : w.heap.size + 2 ≤ W1.heap.size := by omega
  clear hR hs1
  go_wp2_with fail
  refine (names15_any W1).mono ?_
  rintro e w' ⟨rfl, rfl⟩
  go_upto_region 3 with fail
  have hb2 : Below W1.heap.size W1 (W1.alloc (.cells (names15.map Value.string).toArray 9)) := (Below.refl _ _).alloc (Nat.le_refl _) _
  have hS2 : StrsAt (W1.alloc (.cells (names15.map Value.string).toArray 9)) W1.heap.size 0 names15 := strsAt_alloc W1 names15 9
  have hz2 : (W1.alloc (.cells (names15.map Value.string).toArray 9)).heap.size = W1.heap.size + 1 := by simp
  have kA := kA.up hb2 kA.2.2
  have kR := kR.up hb2 kR.2.2
  have hR2 := hR1.kept hb2
  have hG2 := grown_trans (grown_below (r := some rb) hB1) (grown_below hb2)
  clear hR1 hB1 hb2
  generalize W1.alloc (.cells (names15.map Value.string).toArray 9) = W2 at *
  generalize W1.heap.size = nb at *
  have hb3 : Below W2.heap.size W2 (W2.alloc (.cells #[] 9)) := (Below.refl _ _).alloc (Nat.le_refl _) _
  have Q0 : WQ w (W2.alloc (.cells #[] 9)) rb len N nb v (Value.slice a1 ts.length c1) (.slice none 0 0) none [(.slice (some ⟨nb + 1, 0, none⟩) 0 0, [])] [] :=
    ⟨kA.up hb3 kA.2.2, kR.up hb3 kR.2.2, hS2.up hb3 (by omega), hR2.kept hb3, grown_trans hG2 (grown_below hb3), World.ownsRow_nil _ _ _ _, (fam_nil _ _ none).mk1 (by rw [← hz2]; exact ownT_lit0 W2), fun g hg => by simp, fun g hg => by simp at hg, hnz, by simp; omega⟩
  clear kA kR hR2 hG2 hS2 hb3
  generalize W2.alloc (.cells #[] 9) = W3 at *
  clear hz2
  go_wp2_with fail
  go_loopw [6, 7, 8, 9] (fun tk i _ _ w' => ∃ (k : Nat) (xv : Value) (aT : Option Addr) (cT : Nat) (tks : List ByteArray) (ps : List Bv), k ≤ 5 ∧ i = .int .i64 k ∧ tk = .slice aT tks.length cT ∧ WQ w w' rb len (N + 110 * k) nb v (Value.slice a1 ts.length c1) xv none [(.slice aT tks.length cT, tks)] ps ∧ ps.length ≤ k ∧ tks.length ≤ 50 * k ∧ Psz ps ∧ (∀ s ∈ tks, s.size ≤ maxLen)) (fun _ i _ _ _ => 5 - (intOf i).toNat)
  case atStart => exact ⟨0, _, _, _, [], [], by omega, rfl, rfl, Q0, by simp, by simp, psz_nil, fun s hs => by simp at hs⟩
  case round =>
    clear Q0
    obtain ⟨k, xv, aT, cT, tks, ps, hk, rfl, rfl, Q1, hpl, htkl, hps, htkz⟩ := hrel
    have Hps : Hid (Psz ps) := hps
    have Htk : Hid (∀ s ∈ tks, s.size ≤ maxLen) := htkz
    clear hps htkz
    by_cases hp : k < 5
    · go_wp2_with fail
      refine (pick15_any rb len _ v 4 _ Q1.rd (by omega)).mono ?_
      rintro e w2 ⟨⟨x, rfl, -, -⟩, hR2, hg2⟩
      have Q2 := Q1.gr hrl hg2 hR2
      clear Q1 hR2 hg2
      by_cases hx : x = 0
      · subst hx
        go_wp2_with fail
        go_roundw
        case rel => exact ⟨k + 1, _, _, _, tks, ps, by omega, by go_num, rfl, Q2.mono (by omega), by omega, by omega, Hps.out, Htk.out⟩
        case measure => simp [intOf]; omega
      have hx' : (x == 0) = false := by simpa using hx
      have hk5 : k < names15.length := by simp [names15]; omega
      have c0 := Q2.nm k names15[k] (by simp [hk5])
      rw [Nat.zero_add] at c0
      have hs0 : (names15[k]).size ≤ maxLen := sz_lit (ss := names15) (by decide) _ (by simp)
      generalize names15[k] = s0 at *
      go_upto_region 7 with fail
      go_cut [8] (fun v8 wc => ∃ (q M : Nat) (an : Option Addr) (cn : Nat) (ns : List ByteArray), v8 = .pointer (some ⟨q, 0, none⟩) ∧ M ≤ N + 110 * k + 60 ∧ WQ w wc rb len M nb v (Value.slice a1 ts.length c1) xv (some q) [(.slice none 0 0, []), (.slice an ns.length cn, ns), (.slice aT tks.length cT, tks)] ps ∧ CB wc q [.string s0, .slice none 0 0, .slice an ns.length cn] ∧ ns.length ≤ 40 ∧ ∀ s ∈ ns, s.size ≤ maxLen)
      case first =>
        have hS1 : World.cell? w2.drew ⟨nb, k, none⟩ = some (.string s0) ∧ World.cell? w2.drew ⟨w.heap.size, 0, none⟩ = some (Value.slice a1 ts.length c1) := ⟨c0, Q2.a.c2'.1⟩
        have hT2 : OwnT w2 B (Value.slice a1 ts.length c1) ts := own_grown hT Q2.g hB
        have hL2 := hT2.lst.ls htz
        have hTne : ∀ a m c, (Value.slice a1 ts.length c1) = .slice (some a) m c → a.block ≠ rb := fun a m c e => by
          have hb := hT2.lt a.block (by rw [e]; rfl)
          omega
        have hnbl : nb < w2.heap.size := Q2.z
        have hal : w.heap.size < w2.heap.size := Q2.a.2.2
        have hnr : nb ≠ rb := by have := Q2.nz; omega
        have mk : ∀ X, w2.grownBy X (some rb) → World.cell? X ⟨nb, k, none⟩ = some (.string s0) ∧ World.cell? X ⟨w.heap.size, 0, none⟩ = some (Value.slice a1 ts.length c1) := fun X hg => ⟨hg.cell c0 (by simp; omega), hg.cell Q2.a.c2'.1 (by simp; omega)⟩
        have Mk : Hid (∀ X, w2.grownBy X (some rb) → World.cell? X ⟨nb, k, none⟩ = some (.string s0) ∧ World.cell? X ⟨w.heap.size, 0, none⟩ = some (Value.slice a1 ts.length c1)) := mk
        clear mk c0
        go_wp2_with fail
        refine wp_region_x 10 (fun w' => World.cell? w' ⟨nb, k, none⟩ = some (.string s0) ∧ World.cell? w' ⟨w.heap.size, 0, none⟩ = some (Value.slice a1 ts.length c1)) (by kernel_rfl) ?_
        refine anyX_take (i := 0) (v := ?_) rfl (by kernel_rfl) (by kernel_rfl) (by kernel_rfl) (by kernel_rfl) (fun _ _ _ h => h) (by rfl) hS1 ?_ ?_; rotate_left; focus (intro w hSw; (try dsimp only at hSw); go_simp; try with_reducible rfl); (try simp only [Act.put, List.setIfInBounds_toArray, List.set_cons_zero, List.set_cons_succ])
        refine anyX_take (i := 1) (v := ?_) rfl (by kernel_rfl) (by kernel_rfl) (by kernel_rfl) (by kernel_rfl) (fun _ _ _ h => h) (by rfl) hS1 ?_ ?_; rotate_left; focus (intro w hSw; (try dsimp only at hSw); go_simp; try with_reducible rfl); (try simp only [Act.put, List.setIfInBounds_toArray, List.set_cons_zero, List.set_cons_succ])
        refine anyX_take (i := 2) (v := ?_) rfl (by kernel_rfl) (by kernel_rfl) (by kernel_rfl) (by kernel_rfl) (fun _ _ _ h => h) (by rfl) hS1 ?_ ?_; rotate_left; focus (intro w hSw; (try dsimp only at hSw); go_simp; try with_reducible rfl); (try simp only [Act.put, List.setIfInBounds_toArray, List.set_cons_zero, List.set_cons_succ])
        refine anyX_take (i := 3) (v := ?_) rfl (by kernel_rfl) (by kernel_rfl) (by kernel_rfl) (by kernel_rfl) (fun _ _ _ h => h) (by rfl) hS1 ?_ ?_; rotate_left; focus (intro w hSw; (try dsimp only at hSw); go_simp; try with_reducible rfl); (try simp only [Act.put, List.setIfInBounds_toArray, List.set_cons_zero, List.set_cons_succ])
        refine anyX_take (i := 4) (v := ?_) rfl (by kernel_rfl) (by kernel_rfl) (by kernel_rfl) (by kernel_rfl) (fun _ _ _ h => h) (by rfl) hS1 ?_ ?_; rotate_left; focus (intro w hSw; (try dsimp only at hSw); go_simp; try with_reducible rfl); (try simp only [Act.put, List.setIfInBounds_toArray, List.set_cons_zero, List.set_cons_succ])
        refine anyX_take (i := 5) (v := ?_) rfl (by kernel_rfl) (by kernel_rfl) (by kernel_rfl) (by kernel_rfl) (fun _ _ _ h => h) (by rfl) hS1 ?_ ?_; rotate_left; focus (intro w hSw; (try dsimp only at hSw); go_simp; try with_reducible rfl); (try simp only [Act.put, List.setIfInBounds_toArray, List.set_cons_zero, List.set_cons_succ])
        refine anyX_take (i := 6) (v := ?_) rfl (by kernel_rfl) (by kernel_rfl) (by kernel_rfl) (by kernel_rfl) (fun _ _ _ h => h) (by rfl) hS1 ?_ ?_; rotate_left; focus (intro w hSw; (try dsimp only at hSw); go_simp; try with_reducible rfl); (try simp only [Act.put, List.setIfInBounds_toArray, List.set_cons_zero, List.set_cons_succ])
        refine anyX_two (i := 7) (j := 9) (by kernel_rfl) rfl rfl (fun K hK => ?_) (fun K hK => ?_)
        · go_simp
          go_wp2_with (go_at_call 68; refine (some15_any rb len _ v _ 2 ts _ Q2.drew.rd (by omega) hL2 (by omega) hTne).mono ?_; rintro e w3 ⟨⟨nu, ns, rfl, hon, hnl, hnm⟩, hR3, hg3⟩)
          obtain ⟨an, cn, rfl⟩ := hon.lst.shape
          have Q3 := Q2.drew.new (Q2.drew.gr hrl hg3 hR3) hon (Nat.le_refl _)
          have hS3 := Mk.out _ (show w2.grownBy w3 (some rb) from ⟨hg3.os, hg3.tape, hg3.output, hg3.size, hg3.block⟩)
          have Hnm : Hid (∀ s ∈ ns, s ∈ ts) := hnm
          clear hnm hon hR3 hg3 Q2 hT2
          refine gox hK hS3 ?_; clear hK K; (try simp only [Act.put, List.setIfInBounds_toArray, List.set_cons_zero, List.set_cons_succ])
          refine anyX_take (i := 8) (v := ?_) rfl (by kernel_rfl) (by kernel_rfl) (by kernel_rfl) (by kernel_rfl) (fun _ _ _ h => h) (by rfl) hS3 ?_ ?_; rotate_left; focus (intro w hSw; (try dsimp only at hSw); go_simp; try with_reducible rfl); (try simp only [Act.put, List.setIfInBounds_toArray, List.set_cons_zero, List.set_cons_succ])
          obtain ⟨W4, hW4, kX, hb4, hs4⟩ : ∃ W4, w3.alloc (.cells #[.string ⟨#[]⟩, .slice none 0 0, .slice none 0 0] 32) = W4 ∧ CB W4 w3.heap.size [.string ⟨#[]⟩, .slice none 0 0, .slice none 0 0] ∧ Below w3.heap.size w3 W4 ∧ W4.heap.size = w3.heap.size + 1 := ⟨_, rfl, cb1 w3 _ _⟩
          have Q4 := Q3.avoid (Q3.up hb4) (Nat.le_refl _) (by omega)
          have hS4 : World.cell? W4 ⟨nb, k, none⟩ = some (.string s0) ∧ World.cell? W4 ⟨w.heap.size, 0, none⟩ = some (Value.slice a1 ts.length c1) := ⟨(hb4.cell (p := ⟨nb, k, none⟩) (by have := Q3.z; show nb < _; omega)).trans hS3.1, (hb4.cell (p := ⟨w.heap.size, 0, none⟩) Q3.a.2.2).trans hS3.2⟩
          clear Q3 hb4 hs4
          refine onx 9 rfl (fun K hK => ?_)
          go_simp
          try rw [hW4]
          clear hW4
          refine gox hK hS4 ?_; clear hK K; (try simp only [Act.put, List.setIfInBounds_toArray, List.set_cons_zero, List.set_cons_succ])
          obtain ⟨⟨j0, j1, j2⟩, m0, m1, m2⟩ := kX.c3
          generalize w3.heap.size = q at *
          refine onx 10 rfl (fun K hK => ?_)
          go_simp
          refine finx hK ?_
          clear hK K
          refine anyX_done (by kernel_rfl) ?_ _
          have Q5 := (((Q4.set hrl 0 (.string s0)).set hrl 1 (.slice none 0 0)).set hrl 2 (.slice an ns.length cn)).nil
          have kX5 := kX.copy3 (.string s0) (.slice none 0 0) (.slice an ns.length cn)
          clear Q4 kX j0 j1 j2 m0 m1 m2
          go_wp2_with fail
          go_meet
          case rel => exact ⟨q, _, an, cn, ns, rfl, by omega, Q5, kX5, by omega, fun s hs => htz s (Hnm.out s hs)⟩
        · go_simp
          obtain ⟨W3, hW3, kX, hb3, hs3⟩ : ∃ W3, (w2.alloc (.cells #[.string ⟨#[]⟩, .slice none 0 0, .slice none 0 0] 32)).drew = W3 ∧ CB W3 w2.heap.size [.string ⟨#[]⟩, .slice none 0 0, .slice none 0 0] ∧ Below w2.heap.size w2 W3 ∧ W3.heap.size = w2.heap.size + 1 := ⟨_, rfl, (cb1 w2 _ _).1, (cb1 w2 _ _).2.1.drew, (cb1 w2 _ _).2.2⟩
          have Q3 := Q2.avoid (Q2.up hb3) (Nat.le_refl _) (by omega)
          have hS3 := Mk.out _ (grown_below (r := some rb) hb3)
          have hL3 := hL2.up hb3
          have hqr : some w2.heap.size ≠ some rb := by have := Q2.rd.lt; simp; omega
          try rw [hW3]
          clear hW3
          refine gox hK hS3 ?_; clear hK K; (try simp only [Act.put, List.setIfInBounds_toArray, List.set_cons_zero, List.set_cons_succ])
          refine onx 7 rfl (fun K hK => ?_)
          go_simp
          go_wp2_with (go_at_call 68; refine (some15_any rb len _ v _ 2 ts _ Q3.rd (by omega) hL3 (by omega) hTne).mono ?_; rintro e w4 ⟨⟨nu, ns, rfl, hon, hnl, hnm⟩, hR4, hg4⟩)
          obtain ⟨an, cn, rfl⟩ := hon.lst.shape
          have Q4 := Q3.new (Q3.gr hrl hg4 hR4) hon (Nat.le_refl _)
          have hS4 := Mk.out _ (grown_trans (grown_below (r := some rb) hb3) hg4)
          have kX := kX.kept hg4 hqr
          have Hnm : Hid (∀ s ∈ ns, s ∈ ts) := hnm
          clear hnm hon hR4 hg4 Q2 hT2 Q3 hb3 hs3
          refine gox hK hS4 ?_; clear hK K; (try simp only [Act.put, List.setIfInBounds_toArray, List.set_cons_zero, List.set_cons_succ])
          refine anyX_take (i := 8) (v := ?_) rfl (by kernel_rfl) (by kernel_rfl) (by kernel_rfl) (by kernel_rfl) (fun _ _ _ h => h) (by rfl) hS4 ?_ ?_; rotate_left; focus (intro w hSw; (try dsimp only at hSw); go_simp; try with_reducible rfl); (try simp only [Act.put, List.setIfInBounds_toArray, List.set_cons_zero, List.set_cons_succ])
          obtain ⟨⟨j0, j1, j2⟩, m0, m1, m2⟩ := kX.c3
          generalize w2.heap.size = q at *
          refine onx 10 rfl (fun K hK => ?_)
          go_simp
          refine finx hK ?_
          clear hK K
          refine anyX_done (by kernel_rfl) ?_ _
          have Q5 := (((Q4.set hrl 0 (.string s0)).set hrl 1 (.slice none 0 0)).set hrl 2 (.slice an ns.length cn)).nil
          have kX5 := kX.copy3 (.string s0) (.slice none 0 0) (.slice an ns.length cn)
          clear Q4 kX j0 j1 j2 m0 m1 m2
          go_wp2_with fail
          go_meet
          case rel => exact ⟨q, _, an, cn, ns, rfl, by omega, Q5, kX5, by omega, fun s hs => htz s (Hnm.out s hs)⟩
      case rest =>
        obtain ⟨q, M, an, cn, ns, rfl, hM, Q3, kX, hnl, hnz⟩ := hcut
        have Hnz : Hid (∀ s ∈ ns, s.size ≤ maxLen) := hnz
        clear Q2 c0 hnz
        go_wp2_with fail
        go_loopw [6, 9] (fun tk j w' => ∃ (j' : Nat) (aT : Option Addr) (cT : Nat) (tks : List ByteArray) (ah : Option Addr) (ch : Nat) (hs : List ByteArray), j' ≤ ns.length ∧ j = .int .i64 j' ∧ tk = .slice aT tks.length cT ∧ WQ w w' rb len (M + j') nb v (Value.slice a1 ts.length c1) xv (some q) [(.slice ah hs.length ch, hs), (.slice an ns.length cn, ns), (.slice aT tks.length cT, tks)] ps ∧ CB w' q [.string s0, .slice ah hs.length ch, .slice an ns.length cn] ∧ hs.length ≤ j' ∧ tks.length ≤ 50 * k + j' ∧ (∀ s ∈ tks, s.size ≤ maxLen) ∧ ∀ s ∈ hs, s.size ≤ maxLen) (fun _ j _ => ns.length - (intOf j).toNat)
        case atStart => exact ⟨0, _, _, tks, none, 0, [], by omega, rfl, rfl, Q3, kX, by simp, by omega, Htk.out, fun s hs => by simp at hs⟩
        case round =>
          clear Q3 kX Htk htkl
          obtain ⟨j, aT, cT, tks, ah, ch, hs, hj, rfl, rfl, Q1, kX, hhl, htkl, htkz, hhz⟩ := hrel
          have Htk : Hid (∀ s ∈ tks, s.size ≤ maxLen) := htkz
          have Hhz : Hid (∀ s ∈ hs, s.size ≤ maxLen) := hhz
          clear htkz hhz
          obtain ⟨⟨j0, j1, j2⟩, m0, m1, m2⟩ := kX.c3
          by_cases hp2 : j < ns.length
          · have hoN : OwnT wr (nb + 1) (.slice an ns.length cn) ns := Q1.fam.own (.slice an ns.length cn, ns) (by simp)
            obtain ⟨g, cg, hgn⟩ := own_ptr2 hoN (by omega)
            obtain ⟨rfl, -, rfl⟩ := Value.slice.inj hgn
            have hoNc := hoN.cellAt j (by simpa using hp2)
            have cS : wr.cell? ⟨g, j, none⟩ = some (.string ns[j]) := by simpa [hp2] using hoNc
            have HsZ : Hid ((ns[j]).size ≤ maxLen) := Hnz.out _ (by simp)
            have HsN : Hid (∀ X : World, OwnT X (nb + 1) (.slice (some ⟨g, 0, none⟩) ns.length cn) ns → X.cell? ⟨g, j, none⟩ = some (.string ns[j])) := fun X hX => by simpa [hp2] using hX.cellAt j (by simpa using hp2)
            generalize ns[j] = s1 at *
            have hLt := (Q1.turn.head).lst.ls Htk.out
            clear hgn hoNc hoN
            go_wp2_with fail
            refine (has11_any tks _ s1 _ hLt).mono ?_
            rintro e w' ⟨rfl, hw'⟩
            obtain rfl := hw'.symm
            clear hw' hLt
            cases hmem : memS tks s1
            · go_wp2_with fail
              refine (pick15_any rb len _ v 2 _ Q1.rd (by omega)).mono ?_
              rintro e w4 ⟨⟨y, rfl, -, -⟩, hR4, hg4⟩
              have hqr : some q ≠ some rb := by have := (Q1.ql q rfl).1; have := Q1.nz; simp; omega
              have Q4 := Q1.gr hrl hg4 hR4
              have kX := kX.kept hg4 hqr
              clear Q1 hR4 hg4 j0 j1 j2 m0 m1 m2 cS
              by_cases hy : y = 0
              · subst hy
                obtain ⟨⟨j0, j1, j2⟩, m0, m1, m2⟩ := kX.c3
                have cS := HsN.out _ (Q4.fam.own (.slice (some ⟨g, 0, none⟩) ns.length cn, ns) (by simp))
                have QA := (Q4.alloc (.cells #[.string s1] 9)).turn
                have hzA := QA.z
                have hrowT := QA.head
                have kXA := kX.up ((Below.refl w4.heap.size w4).alloc (Nat.le_refl _) (.cells #[.string s1] 9)) kX.2.2
                go_wp2_with (at_builtin; refine wpList_append_at _ rfl _ _ 23 rfl (nb + 1) 9 is _ 1 16 Tryz.underlying23 his js0 js1 js2 rfl (by decide) _ _ _ rfl hrowT ⟨w4.heap.size, 0, none⟩ 1 1 [.string s1] rfl rfl (one_new _ _ _) (oneV s1) (by omega) (by unfold maxLen; omega) (by omega) hzA ?_)
                intro v5 w5 hown5 hgr5 hwh5
                have hO5 : OwnT w5 (nb + 1) v5 (tks ++ [s1]) := by unfold OwnT; simpa using hown5
                have Q5 := (QA.app hrl hgr5 hO5 hwh5).turn
                have kX5 := QA.cbApp kXA hgr5
                have htk5 : (tks ++ [s1]).length ≤ 50 * k + (j + 1) := by simp; omega
                have Htk5 : Hid (∀ s ∈ tks ++ [s1], s.size ≤ maxLen) := fun s hs => by
                  rcases List.mem_append.1 hs with h | h
                  · exact Htk.out s h
                  · obtain rfl : s = s1 := by simpa using h
                    exact HsZ.out
                obtain ⟨aT5, cT5, rfl⟩ := hO5.lst.shape
                clear hO5 hown5 hgr5 hwh5 QA kXA hrowT Q4 kX j0 j1 j2 m0 m1 m2 cS hzA Htk htkl hmem
                generalize tks ++ [s1] = tks5 at *
                have cS := HsN.out _ (Q5.fam.own (.slice (some ⟨g, 0, none⟩) ns.length cn, ns) (by simp))
                have hSd : World.cell? w5.drew ⟨q, 1, none⟩ = some (.slice ah hs.length ch) ∧ World.cell? w5.drew ⟨q, 2, none⟩ = some (.slice (some ⟨g, 0, none⟩) ns.length cn) ∧ World.cell? w5.drew ⟨g, j, none⟩ = some (.string s1) := ⟨kX5.c3.1.2.1, kX5.c3.1.2.2, cS⟩
                have QB := Q5.drew.alloc (.cells #[.string s1] 9)
                have kXB := kX5.up ((Below.refl w5.heap.size w5).drew.alloc (Nat.le_refl _) (.cells #[.string s1] 9)) kX5.2.2
                have hSA : World.cell? (w5.drew.alloc (.cells #[.string s1] 9)) ⟨q, 1, none⟩ = some (.slice ah hs.length ch) ∧ World.cell? (w5.drew.alloc (.cells #[.string s1] 9)) ⟨q, 2, none⟩ = some (.slice (some ⟨g, 0, none⟩) ns.length cn) ∧ World.cell? (w5.drew.alloc (.cells #[.string s1] 9)) ⟨g, j, none⟩ = some (.string s1) := ⟨kXB.c3.1.2.1, kXB.c3.1.2.2, HsN.out _ (QB.fam.own (.slice (some ⟨g, 0, none⟩) ns.length cn, ns) (by simp))⟩
                have hzB := QB.z
                have hrowH := QB.head
                clear cS
                go_wp2_with fail
                refine wp_region_x 10 (fun w' => World.cell? w' ⟨q, 1, none⟩ = some (.slice ah hs.length ch) ∧ World.cell? w' ⟨q, 2, none⟩ = some (.slice (some ⟨g, 0, none⟩) ns.length cn) ∧ World.cell? w' ⟨g, j, none⟩ = some (.string s1)) (by kernel_rfl) ?_
                refine anyX_take (i := 0) (v := ?_) rfl (by kernel_rfl) (by kernel_rfl) (by kernel_rfl) (by kernel_rfl) (fun _ _ _ h => h) (by rfl) hSd ?_ ?_; rotate_left; focus (intro w hSw; (try dsimp only at hSw); go_simp; try with_reducible rfl); (try simp only [Act.put, List.setIfInBounds_toArray, List.set_cons_zero, List.set_cons_succ])
                refine anyX_take (i := 1) (v := ?_) rfl (by kernel_rfl) (by kernel_rfl) (by kernel_rfl) (by kernel_rfl) (fun _ _ _ h => h) (by rfl) hSd ?_ ?_; rotate_left; focus (intro w hSw; (try dsimp only at hSw); go_simp; try with_reducible rfl); (try simp only [Act.put, List.setIfInBounds_toArray, List.set_cons_zero, List.set_cons_succ])
                refine anyX_take (i := 2) (v := ?_) rfl (by kernel_rfl) (by kernel_rfl) (by kernel_rfl) (by kernel_rfl) (fun _ _ _ h => h) (by rfl) hSd ?_ ?_; rotate_left; focus (intro w hSw; (try dsimp only at hSw); go_simp; try with_reducible rfl); (try simp only [Act.put, List.setIfInBounds_toArray, List.set_cons_zero, List.set_cons_succ])
                refine anyX_take (i := 3) (v := ?_) rfl (by kernel_rfl) (by kernel_rfl) (by kernel_rfl) (by kernel_rfl) (fun _ _ _ h => h) (by rfl) hSd ?_ ?_; rotate_left; focus (intro w hSw; (try dsimp only at hSw); go_simp; try with_reducible rfl); (try simp only [Act.put, List.setIfInBounds_toArray, List.set_cons_zero, List.set_cons_succ])
                refine anyX_take (i := 4) (v := ?_) rfl (by kernel_rfl) (by kernel_rfl) (by kernel_rfl) (by kernel_rfl) (fun _ _ _ h => h) (by rfl) hSd ?_ ?_; rotate_left; focus (intro w hSw; (try dsimp only at hSw); go_simp; try with_reducible rfl); (try simp only [Act.put, List.setIfInBounds_toArray, List.set_cons_zero, List.set_cons_succ])
                refine anyX_take (i := 5) (v := ?_) rfl (by kernel_rfl) (by kernel_rfl) (by kernel_rfl) (by kernel_rfl) (fun _ _ _ h => h) (by rfl) hSd ?_ ?_; rotate_left; focus (intro w hSw; (try dsimp only at hSw); go_simp; try with_reducible rfl); (try simp only [Act.put, List.setIfInBounds_toArray, List.set_cons_zero, List.set_cons_succ])
                refine anyX_take (i := 6) (v := ?_) rfl (by kernel_rfl) (by kernel_rfl) (by kernel_rfl) (by kernel_rfl) (fun _ _ _ h => h) (by rfl) hSd ?_ ?_; rotate_left; focus (intro w hSw; (try dsimp only at hSw); go_simp; try with_reducible rfl); (try simp only [Act.put, List.setIfInBounds_toArray, List.set_cons_zero, List.set_cons_succ])
                refine onx 7 rfl (fun K hK => ?_)
                go_simp
                refine gox hK hSA ?_; clear hK K; (try simp only [Act.put, List.setIfInBounds_toArray, List.set_cons_zero, List.set_cons_succ])
                refine onx 8 rfl (fun K hK => ?_)
                refine step_append_at rfl _ _ 23 rfl (nb + 1) 9 is _ 1 16 Tryz.underlying23 his js0 js1 js2 rfl (by decide) _ _ _ rfl hrowH ⟨w5.heap.size, 0, none⟩ 1 1 [.string s1] rfl rfl (one_new _ _ _) (oneV s1) (by omega) (by unfold maxLen; omega) (by omega) hzB ?_
                intro v6 w6 hown6 hgr6 hwh6
                have hO6 : OwnT w6 (nb + 1) v6 (hs ++ [s1]) := by unfold OwnT; simpa using hown6
                have Q6 := QB.app hrl hgr6 hO6 hwh6
                have kX6 := QB.cbApp kXB hgr6
                have hh6 : (hs ++ [s1]).length ≤ j + 1 := by simp; omega
                have Hh6 : Hid (∀ s ∈ hs ++ [s1], s.size ≤ maxLen) := fun s hs' => by
                  rcases List.mem_append.1 hs' with h | h
                  · exact Hhz.out s h
                  · obtain rfl : s = s1 := by simpa using h
                    exact HsZ.out
                have hSE : World.cell? w6 ⟨q, 1, none⟩ = some (.slice ah hs.length ch) ∧ World.cell? w6 ⟨q, 2, none⟩ = some (.slice (some ⟨g, 0, none⟩) ns.length cn) ∧ World.cell? w6 ⟨g, j, none⟩ = some (.string s1) := ⟨kX6.c3.1.2.1, kX6.c3.1.2.2, HsN.out _ (Q6.fam.own (.slice (some ⟨g, 0, none⟩) ns.length cn, ns) (by simp))⟩
                obtain ⟨ah6, ch6, rfl⟩ := hO6.lst.shape
                obtain ⟨⟨j0, j1, j2⟩, m0, m1, m2⟩ := kX6.c3
                clear hO6 hown6 hgr6 hwh6 QB kXB hrowH Q5 kX5 hSA hzB
                generalize hs ++ [s1] = hs6 at *
                refine gox hK hSE ?_; clear hK K; (try simp only [Act.put])
                refine anyX_take (i := 9) (v := ?_) rfl (by kernel_rfl) (by kernel_rfl) (by kernel_rfl) (by kernel_rfl) (fun _ _ _ h => h) (by rfl) hSE ?_ ?_; rotate_left; focus (intro w hSw; (try dsimp only at hSw); go_simp; try with_reducible rfl); (try simp only [Act.put, List.setIfInBounds_toArray, List.set_cons_zero, List.set_cons_succ])
                refine onx 10 rfl (fun K hK => ?_)
                go_simp
                refine finx hK ?_
                clear hK K
                refine anyX_done (by kernel_rfl) ?_ _
                have Q7 := Q6.set hrl 1 (.slice ah6 hs6.length ch6)
                have kX7 : CB (w6.setCell ⟨q, 1, none⟩ (.slice ah6 hs6.length ch6)) q [.string s0, .slice ah6 hs6.length ch6, .slice (some ⟨g, 0, none⟩) ns.length cn] := kX6.set (j := 1) (by simp)
                clear Q6 kX6 j0 j1 j2 m0 m1 m2 hSE hSd
                go_wp2_with fail
                go_roundw
                case rel => exact ⟨j + 1, _, _, tks5, _, _, hs6, by omega, by go_num, rfl, Q7.mono (by omega), kX7, hh6, htk5, Htk5.out, Hh6.out⟩
                case measure => simp [intOf]; omega
              · have hy' : (y == 0) = false := by simpa using hy
                go_wp2_with fail
                go_roundw
                case rel => exact ⟨j + 1, _, _, tks, _, _, hs, by omega, by go_num, rfl, Q4.mono (by omega), kX, by omega, by omega, Htk.out, Hhz.out⟩
                case measure => simp [intOf]; omega
            · go_wp2_with fail
              go_roundw
              case rel => exact ⟨j + 1, _, _, tks, _, _, hs, by omega, by go_num, rfl, Q1.mono (by omega), kX, by omega, by omega, Htk.out, Hhz.out⟩
              case measure => simp [intOf]; omega
          · obtain ⟨ax, cx, rfl⟩ := own_shape Q1.row
            obtain ⟨z0, z1⟩ := Q1.a.c2'
            have QA := Q1.alloc (.cells #[.string s0, .slice ah hs.length ch, .slice an ns.length cn] 32)
            have hrowA := QA.row
            have hzA := QA.z
            obtain ⟨⟨y0, y1⟩, f0, f1⟩ := QA.a.c2
            go_wp2_with (at_builtin; refine wpList_append_own _ rfl _ _ 24 rfl (nb + 1) 32 ib _ 3 64 Tryz.underlying24 hib jb0 jb1 jb2 rfl (by decide) _ _ _ rfl hrowA ⟨wr.heap.size, 0, none⟩ 1 1 [.string s0, .slice ah hs.length ch, .slice an ns.length cn] rfl rfl (fun j u hj => hnew3 _ _ _ _ _ hj) (by simp [Value.oneCell']) (by unfold maxLen; omega) (by omega) hzA ?_)
            intro v6 w6 hown6 hgr6 _
            have Q6 := QA.push hrl hown6 hgr6
            have hps6 : Psz (ps ++ [((⟨s0, hs, ns⟩, .slice ah hs.length ch, .slice an ns.length cn) : Bv)]) := Hps.out.snoc hs0 (by show hs.length ≤ 40; omega) (by show ns.length ≤ 40; omega) Hhz.out Hnz.out
            have a6 := QA.a.kept hgr6 (own_ne hrowA (by have := QA.nz; omega))
            obtain ⟨⟨x0, x1⟩, g0, g1⟩ := a6.c2
            obtain ⟨a7, c7, rfl⟩ := own_shape hown6
            clear hown6 hgr6 QA hrowA Q1 z0 z1 y0 y1 f0 f1 kX j0 j1 j2 m0 m1 m2 a6
            go_wp2_with fail
            go_roundw
            case rel => exact ⟨k + 1, _, _, _, tks, _, by omega, by go_num, rfl, Q6.mono (by omega), by simp; omega, by omega, hps6, Htk.out⟩
            case measure => simp [intOf]; omega
    · obtain ⟨ax, cx, rfl⟩ := own_shape Q1.row
      have kR := Q1.r
      have hz := Q1.nz
      obtain ⟨z0, z1⟩ := Q1.a.c2'
      obtain ⟨⟨y0, y1⟩, g0, g1⟩ := kR.c2
      go_wp2_with fail
      refine end_cb2 Tryz.results47 Tryz.underlying26 rfl sizeBk1 kR rfl ?_
      have hG : w.grownBy ((wr.setCell ⟨w.heap.size + 1, 0, none⟩ (Value.slice a1 ts.length c1)).setCell ⟨w.heap.size + 1, 1, none⟩ (.slice ax ps.length cx)) (some rb) := grown_setNew (grown_setNew Q1.g (by omega) _) (by omega) _
      have hbs : BsW wr (nb + 1) (.slice ax ps.length cx) ps := Q1.fam.bsW (fs := [(.slice aT tks.length cT, tks)]) Q1.row (fun p hp => (Hps.out p hp).1)
      refine ⟨⟨_, ⟨ts, ps.map (·.1)⟩, rfl, ⟨_, _, ps, rfl, own_grown hT hG hB, ((hbs.set (by omega)).set (by omega)).low (by omega), rfl⟩, psz_dk Hps.out (by omega) htz htl⟩, ((Q1.rd.setCell (by omega)).setCell (by omega)).mono (by omega), hG⟩
end Go.Proofs.YtnojjmkmkelbgaaGreat
