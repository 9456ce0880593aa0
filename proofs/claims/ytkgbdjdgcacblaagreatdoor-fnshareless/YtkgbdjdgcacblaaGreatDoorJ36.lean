/- The program's walks of chapter 12: bits of things. -/
import Derived.Test.YtkgbdjdgcacblaaGreatDoorJ1
import Derived.Test.YtkgbdjdgcacblaaGreatDoorJ4
import Derived.Laws.BitsAllLaws
namespace Go.Proofs.YtkgbdjdgcacblaaGreatDoor
open Go.RowKit

theorem indexS_any (ss : List ByteArray) (v : Value) (s : ByteArray) (w : World) (h : Ls w v ss) :
    Calls Tryz.prog 88 #[v, .string s] w fun e w' => e = .returned (.int .i64 (idxI ss s)) ∧ w' = w := by
  obtain ⟨a, c, rfl, hn, -, hpos⟩ := h
  unfold maxLen at hn
  go_enter Tryz.func88, Tryz.ntmps88
  go_wp2
  go_loop [8] (fun i => ∃ k : Nat, k ≤ ss.length ∧ i = .int .i64 k ∧ memS (ss.take k) s = false) (fun i => ss.length - (intOf i).toNat)
  case atStart => exact ⟨0, by omega, rfl, rfl⟩
  case round =>
    obtain ⟨k, hk, rfl, hal⟩ := hrel
    have Hal : Hid (memS (ss.take k) s = false) := hal
    clear hal
    by_cases hp : k < ss.length
    · obtain ⟨b, o, rfl, hS, hb⟩ := hpos (by omega)
      have c0 := hS.cell hp
      cases hq : (s.toList == (ss[k]).toList)
      · have Hq : Hid (((ss[k]).toList == s.toList) = false) := by show _ = _; rw [beq_flip]; exact hq
        go_wp2
        go_round
        case rel => exact ⟨k + 1, by omega, by go_num, memS_take hp Hal.out Hq.out⟩
        case measure => simp [intOf]; omega
      · have Hq : Hid (((ss[k]).toList == s.toList) = true) := by show _ = _; rw [beq_flip]; exact hq
        go_wp2
        go_ret
        exact ⟨ret_int (idxI_found hp Hal.out Hq.out).symm, rfl⟩
    · go_wp2
      go_ret
      exact ⟨ret_int (idxI_none (memS_all hp Hal.out)).symm, rfl⟩

theorem containsS_any (ss : List ByteArray) (v : Value) (s : ByteArray) (w : World) (h : Ls w v ss) :
    Calls Tryz.prog 78 #[v, .string s] w fun e w' => e = .returned (.bool (memS ss s)) ∧ w' = w := by
  obtain ⟨a, c, rfl, -⟩ := id h
  go_enter Tryz.func78, Tryz.ntmps78
  go_wp2_with (go_at_call 88; refine (indexS_any ss _ _ _ h).mono ?_; rintro e w' ⟨rfl, hw⟩; obtain rfl := hw.symm; clear hw)
  all_goals
    go_ret
    refine ⟨ret_bool ?_, rfl⟩
    rw [← idxI_mem]
    try simp_all

theorem wrap_small {x : Int} (h0 : 0 ≤ x) (h1 : x < 18446744073709551616) : IntKind.u64.wrap x = x := by
  rw [IntKind.wrap_u64]; omega
theorem two_pow {k : Nat} (_ : k ≤ 7) : (2 : Int) ^ k = ((2 ^ k : Nat) : Int) := by simp
theorem two_pow_lt {k : Nat} (h : k ≤ 7) : 2 ^ k ≤ 128 := Nat.pow_le_pow_right (n := 2) (by omega) h
theorem wrap_sum {n k : Nat} (hn : n < 256) (hk : k ≤ 7) : IntKind.u64.wrap ((n : Int) + IntKind.u64.wrap (2 ^ k)) = ((n + 2 ^ k : Nat) : Int) := by
  have h := two_pow_lt hk
  rw [two_pow hk]
  generalize 2 ^ k = m at *
  rw [wrap_small (x := (m : Int)) (by omega) (by omega), wrap_small (by omega) (by omega)]; omega
theorem bitsN_take {l : List ByteArray} {P : ByteArray → Bool} {k : Nat} (hk : k < l.length) : bitsN (l.take (k + 1)) P = bitsN (l.take k) P + (if P l[k] = true then 2 ^ k else 0) := by
  rw [List.take_succ_eq_append_getElem hk, bitsN_snoc, List.length_take, Nat.min_eq_left (by omega)]
theorem bitsOf_any (things picked : List ByteArray) (u v : Value) (w : World) (h : Ls w u things) (h2 : Ls w v picked) (h8 : things.length ≤ 8) :
    Calls Tryz.prog 70 #[u, v] w fun e w' => e = .returned (.int .u64 (bitsN things (memS picked) : Nat)) ∧ w' = w := by
  obtain ⟨a, c, rfl, -, -, hpos⟩ := h
  obtain ⟨a2, c2, rfl, -⟩ := id h2
  go_enter Tryz.func70, Tryz.ntmps70
  go_wp2
  go_loop [5, 6, 7, 10] (fun x _ _ i => ∃ k : Nat, k ≤ things.length ∧ i = .int .i64 k ∧ x = .int .u64 (bitsN (things.take k) (memS picked) : Nat)) (fun _ _ _ i => things.length - (intOf i).toNat)
  case atStart => exact ⟨0, by omega, rfl, rfl⟩
  case round =>
    obtain ⟨k, hk, rfl, rfl⟩ := hrel
    by_cases hp : k < things.length
    · obtain ⟨b, o, rfl, hS, hb⟩ := hpos (by omega)
      have c0 := hS.cell hp
      have Hb := bitsN_take (P := memS picked) hp
      have hsm : bitsN (things.take k) (memS picked) < 256 := bitsN_small (by rw [List.length_take]; omega) _
      cases hq : memS picked things[k]
      · have HB : Hid (bitsN (things.take (k + 1)) (memS picked) = bitsN (things.take k) (memS picked)) := by show _ = _; rw [Hb, hq]; simp
        clear Hb
        go_wp2_with (go_at_call 78; refine (containsS_any picked _ _ _ h2).mono ?_; rintro e w' ⟨rfl, hw⟩; obtain rfl := hw.symm; clear hw)
        go_round
        case rel => exact ⟨k + 1, by omega, by go_num, by rw [HB.out]⟩
        case measure => simp [intOf]; omega
      · have HB : Hid (bitsN (things.take (k + 1)) (memS picked) = bitsN (things.take k) (memS picked) + 2 ^ k) := by show _ = _; rw [Hb, if_pos hq]
        clear Hb
        go_wp2_with (go_at_call 78; refine (containsS_any picked _ _ _ h2).mono ?_; rintro e w' ⟨rfl, hw⟩; obtain rfl := hw.symm; clear hw)
        go_round
        case rel =>
          refine ⟨k + 1, by omega, by go_num, ?_⟩
          rw [HB.out, wrap_sum hsm (by omega)]
        case measure => simp [intOf]; omega
    · have HB : Hid (bitsN (things.take k) (memS picked) = bitsN things (memS picked)) := by show _ = _; rw [List.take_of_length_le (by omega)]
      go_wp2
      go_ret
      exact ⟨congrArg (fun n : Nat => Ending.returned (.int .u64 (n : Int))) HB.out, rfl⟩
end Go.Proofs.YtkgbdjdgcacblaaGreatDoor

/- The program's table in memory: who can, who leaves (chapter 12). -/
namespace Go.Proofs.YtkgbdjdgcacblaaGreatDoor
open Go.RowKit

/-- The table in block tb, its rows in a row of their own behind it. -/
def Tab (w : World) (tb : Nat) (things : List ByteArray) (ts : List Tr) : Prop :=
  ∃ rv, CB w tb [rv, .int .u64 (bitsN things (freeL ts) : Nat)] ∧ w.ownsRow (tb + 1) 113 4 rv ts.length (rowsL things ts)
theorem Tab.up {w w' : World} {tb : Nat} {things : List ByteArray} {ts : List Tr} (h : Tab w tb things ts) (hb : Below w.heap.size w w') : Tab w' tb things ts := by
  obtain ⟨rv, h1, h2⟩ := h
  exact ⟨rv, h1.up hb h1.2.2, own_up h2 hb⟩
theorem Tab.drewN {w : World} {tb n : Nat} {things : List ByteArray} {ts : List Tr} (h : Tab w tb things ts) : Tab (w.drewN n) tb things ts := h
theorem Tab.lt {w : World} {tb : Nat} {things : List ByteArray} {ts : List Tr} (h : Tab w tb things ts) : tb < w.heap.size := by
  obtain ⟨rv, h1, -⟩ := h; exact h1.2.2
/-- A row's four cells. -/
theorem row_cells {w : World} {base g cap : Nat} {things : List ByteArray} {ts : List Tr} (h : w.ownsRow base 113 4 (.slice (some ⟨g, 0, none⟩) ts.length cap) ts.length (rowsL things ts)) {i : Nat} {p : Tr} (hp : ts[i]? = some p) :
    w.cell? ⟨g, i * 4, none⟩ = some (.string p.1.nm) ∧ w.cell? ⟨g, i * 4 + 1, none⟩ = some (.int .u64 (bitsN things (memS p.1.has) : Nat)) ∧ w.cell? ⟨g, i * 4 + 2, none⟩ = some (.int .u64 (bitsN things (memS p.1.needs) : Nat)) ∧ w.cell? ⟨g, i * 4 + 3, none⟩ = some (.bool p.2) := by
  have hi := (List.getElem?_eq_some_iff.1 hp).1
  refine ⟨?_, ?_, ?_, ?_⟩
  · rw [show i * 4 = i * 4 + 0 by omega, h.cellAt (i * 4 + 0) (by omega), rowsL_get things ts i 0 p hp (by omega)]; rfl
  · rw [h.cellAt (i * 4 + 1) (by omega), rowsL_get things ts i 1 p hp (by omega)]; rfl
  · rw [h.cellAt (i * 4 + 2) (by omega), rowsL_get things ts i 2 p hp (by omega)]; rfl
  · rw [h.cellAt (i * 4 + 3) (by omega), rowsL_get things ts i 3 p hp (by omega)]; rfl
theorem andNot_small (a b : Nat) (ha : a < 256) (hb : b < 512) : bits .andNot .u64 (a : Int) (b : Int) = ((a &&& (18446744073709551615 - b) : Nat) : Int) := by
  have := u64_andNot (a : Int) (b : Int) (by omega) (by omega) (by omega) (by omega)
  simpa using this

set_option maxHeartbeats 2000000 in
theorem can_any (tb at' : Nat) (things : List ByteArray) (ts : List Tr) (p : Tr) (w : World) (h : Tab w tb things ts) (h8 : things.length ≤ 8) (hp : ts[at']? = some p) (h5 : ts.length ≤ 5) :
    Calls Tryz.prog 71 #[.pointer (some ⟨tb, 0, none⟩), .int .i64 at'] w fun e w' => e = .returned (.bool (!p.2 && decide (bitsN things (memS p.1.needs) &&& (18446744073709551615 - (bitsN things (freeL ts) + bitsN things (memS p.1.has))) = 0))) ∧ Below w.heap.size w w' := by
  obtain ⟨rv, hC, hown⟩ := h
  have hi := (List.getElem?_eq_some_iff.1 hp).1
  obtain ⟨g, cap, rfl⟩ := own_ptr2 hown (by omega)
  obtain ⟨r0, r1, r2, r3⟩ := row_cells hown hp
  obtain ⟨t0, t1⟩ := hC.c2'
  have htl := hC.2.2
  have n1 := bitsN_small h8 (memS p.1.has)
  have n2 := bitsN_small h8 (memS p.1.needs)
  have n3 := bitsN_small h8 (freeL ts)
  generalize bitsN things (memS p.1.has) = hb at *
  generalize bitsN things (memS p.1.needs) = nb at *
  generalize bitsN things (freeL ts) = fb at *
  clear hown hC
  obtain ⟨W1, hW1, kX, hB1, hs1⟩ : ∃ W1, w.alloc (.cells #[.string p.1.nm, .int .u64 (hb : Nat), .int .u64 (nb : Nat), .bool p.2] 113) = W1 ∧ CB W1 w.heap.size [.string p.1.nm, .int .u64 (hb : Nat), .int .u64 (nb : Nat), .bool p.2] ∧ Below w.heap.size w W1 ∧ W1.heap.size = w.heap.size + 1 := ⟨_, rfl, cb1 w _ _⟩
  go_enter Tryz.func71, Tryz.ntmps71
  go_upto_region 2 with fail
  try rw [hW1]
  clear hW1 r0 r1 r2 r3
  have x1 := kX.1 1 _ rfl
  have x2 := kX.1 2 _ rfl
  have x3 := kX.1 3 _ rfl
  have f1 := (hB1.cell (p := ⟨tb, 1, none⟩) htl).trans t1
  simp only [Nat.zero_add] at x1 x2 x3
  have hadd : IntKind.u64.wrap ((fb : Int) + (hb : Int)) = ((fb + hb : Nat) : Int) := by rw [wrap_small (by omega) (by omega)]; omega
  have hand := andNot_small nb (fb + hb) n2 (by omega)
  cases hgone : p.2
  · rw [hgone] at x3
    go_wp2_with fail
    go_quiet (fail)
    go_wp2_with fail
    go_ret
    refine ⟨ret_bool ?_, below_drewN hB1 _⟩
    rw [hgone, ← Int.natCast_add, hand]
    rw [Bool.eq_iff_iff, beq_iff_eq]
    simp
  · rw [hgone] at x3
    go_wp2_with fail
    go_quiet (fail)
    go_wp2_with fail
    go_ret
    exact ⟨ret_bool (by rw [hgone]; rfl), below_drewN hB1 _⟩

/-- Two rows of different types lie apart; a row that lies apart from what turned stays. -/
theorem own_apart {w : World} {base base' e e' s s' n n' : Nat} {v v' : Value} {xs xs' : List Value} (h : w.ownsRow base e s v n xs) (h' : w.ownsRow base' e' s' v' n' xs') (hne : e ≠ e') : ∀ g, v.ownBlock = some g → some g ≠ v'.ownBlock := fun g hg hg' => by
  rcases h.2 with ⟨rfl, _⟩ | ⟨g1, cap, cur, rfl, _, hh, _⟩
  · simp [Value.ownBlock] at hg
  · rcases h'.2 with ⟨rfl, _⟩ | ⟨g2, cap', cur', rfl, _, hh', _⟩
    · simp [Value.ownBlock] at hg'
    · simp [Value.ownBlock] at hg hg'
      subst hg hg'
      rw [hh] at hh'
      simp at hh'
      exact hne hh'.2
theorem own_keep {w w' : World} {base e s n : Nat} {v : Value} {xs : List Value} {r : Option Nat} (h : w.ownsRow base e s v n xs) (hg : w.grownBy w' r) (hne : ∀ g, v.ownBlock = some g → some g ≠ r) : w'.ownsRow base e s v n xs := by
  refine ⟨h.1, ?_⟩
  rcases h.2 with h0 | ⟨g, cap, cur, hv, hb, hh, q⟩
  · exact .inl h0
  · refine .inr ⟨g, cap, cur, hv, hb, ?_, q⟩
    rw [hg.block g (Array.getElem?_eq_some_iff.1 hh).1 (hne g (by rw [hv]; rfl))]; exact hh
theorem there_row {w : World} {base g cap n : Nat} {xs : List Value} {e size : Nat} (h : w.ownsRow base e size (.slice (some ⟨g, 0, none⟩) n cap) n xs) (k : Nat) : w.frozen? ⟨g, k, none⟩ = false := h.frozenAt k
set_option maxHeartbeats 2000000 in
theorem leave_any (tb at' : Nat) (things : List ByteArray) (ts : List Tr) (p : Tr) (bs : List Ba) (w : World) (h : Tab w tb things ts) (h8 : things.length ≤ 8) (hp : ts[at']? = some p) (hg : p.2 = false) (hm : ts.map (·.1) = bs) (ha : Apart bs) (h5 : ts.length ≤ 5) :
    Calls Tryz.prog 54 #[.pointer (some ⟨tb, 0, none⟩), .int .i64 at'] w fun e w' => (∃ v, e = .returned v) ∧ Tab w' tb things (ts.set at' (p.1, true)) ∧ Below tb w w' ∧ ∀ (base : Nat) (u : Value) (ss : List ByteArray), OwnT w base u ss → tb < base → OwnT w' base u ss := by
  obtain ⟨rv, hC, hown⟩ := h
  have hi := (List.getElem?_eq_some_iff.1 hp).1
  obtain ⟨g, cap, rfl⟩ := own_ptr2 hown (by omega)
  have hg0 := (hown.lt g rfl).1
  obtain ⟨r0, r1, r2, r3⟩ := row_cells hown hp
  obtain ⟨⟨t0, t1⟩, u0, u1⟩ := hC.c2
  have n1 := bitsN_small h8 (memS p.1.has)
  have n3 := bitsN_small h8 (freeL ts)
  have hfr := free_leave ha hm hp hg things
  have f3 := hown.frozenAt (at' * 4 + 3)
  have hst := hown.stored (at' * 4 + 3) (.bool true)
  rw [rowsL_set things ts at' p hp] at hst
  obtain ⟨W1, hW1, hown1, hgr⟩ : ∃ W1, w.setCell ⟨g, at' * 4 + 3, none⟩ (.bool true) = W1 ∧ W1.ownsRow (tb + 1) 113 4 (.slice (some ⟨g, 0, none⟩) ts.length cap) ts.length (rowsL things (ts.set at' (p.1, true))) ∧ w.grownBy W1 (some g) := ⟨_, rfl, hst.1, hst.2⟩
  clear hst
  have hC1 := hC.kept hgr (by simp; omega)
  have hl1 : (ts.set at' (p.1, true)).length = ts.length := List.length_set
  have hown1' : W1.ownsRow (tb + 1) 113 4 (.slice (some ⟨g, 0, none⟩) (ts.set at' (p.1, true)).length cap) (ts.set at' (p.1, true)).length (rowsL things (ts.set at' (p.1, true))) := by rw [hl1]; exact hown1
  obtain ⟨-, s1, -, -⟩ := row_cells hown1' (i := at') (p := (p.1, true)) (by rw [List.getElem?_set, if_pos rfl, if_pos hi])
  have hT : ∀ x, CB x tb [.slice (some ⟨g, 0, none⟩) ts.length cap, .int .u64 (bitsN things (freeL (ts.set at' (p.1, true))) : Nat)] → W1.grownBy x (some tb) → Tab x tb things (ts.set at' (p.1, true)) := fun x h1 h2 => ⟨_, h1, by rw [hl1]; exact own_grown hown1 h2 (by omega)⟩
  have HT : Hid (∀ x, CB x tb [.slice (some ⟨g, 0, none⟩) ts.length cap, .int .u64 (bitsN things (freeL (ts.set at' (p.1, true))) : Nat)] → W1.grownBy x (some tb) → Tab x tb things (ts.set at' (p.1, true))) := hT
  have hB1 : Below tb w W1 := ⟨hgr.os, hgr.tape, hgr.output, hgr.size, fun i hi => hgr.block i (Nat.lt_trans hi hC.2.2) (by simp; omega)⟩
  have HO : Hid (∀ (base : Nat) (u : Value) (ss : List ByteArray), OwnT w base u ss → tb < base → OwnT W1 base u ss) := fun base u ss q1 q2 => own_keep q1 hgr fun g' hg' => by
    have := own_apart q1 hown (by decide) g' hg'
    simpa [Value.ownBlock] using this
  clear hT hown1 hown1' hgr hown
  generalize bitsN things (freeL (ts.set at' (p.1, true))) = fb2 at *
  generalize bitsN things (memS p.1.has) = hb at *
  generalize bitsN things (freeL ts) = fb at *
  have hadd : IntKind.u64.wrap ((fb : Int) + (hb : Int)) = (fb2 : Int) := by rw [wrap_small (by omega) (by omega)]; omega
  go_enter Tryz.func54, Tryz.ntmps54
  go_upto_region 1 with fail
  try rw [hW1]
  clear hW1 r0 r1 r2 r3 t0 t1 u0 u1 f3
  obtain ⟨⟨t0, t1⟩, u0, u1⟩ := hC1.c2
  have hC2 : CB ((W1.setCell ⟨tb, 1, none⟩ (.int .u64 (fb2 : Nat))).drew) tb [.slice (some ⟨g, 0, none⟩) ts.length cap, .int .u64 (fb2 : Nat)] := CB.set (j := 1) hC1 (by simp)
  have HTx : Hid (Tab ((W1.setCell ⟨tb, 1, none⟩ (.int .u64 (fb2 : Nat))).drew) tb things (ts.set at' (p.1, true))) := HT.out _ hC2 (grown_drew (grown_setCell (grown_refl _ _) _))
  have HBx : Hid (Below tb w ((W1.setCell ⟨tb, 1, none⟩ (.int .u64 (fb2 : Nat))).drew)) := (hB1.setCell (p := ⟨tb, 1, none⟩) (Nat.le_refl _) _).drew
  clear hC2 HT
  go_wp2_with fail
  go_region
  go_end0
  exact ⟨⟨_, rfl⟩, HTx.out, HBx.out, fun base u ss q1 q2 => own_grown (HO.out base u ss q1 q2) (grown_drew (grown_setCell (grown_refl _ _) _)) q2⟩
end Go.Proofs.YtkgbdjdgcacblaaGreatDoor
