/- The program's walks of chapter 12: bits of things. -/
import Derived.Test.YtialglmnfchfmadGreatDoorJ3
import Derived.Laws.BitsAllLaws
import Derived.Test.YtialglmnfchfmadGreatDoorShelf
import Derived.Test.YtialglmnfchfmadGreatDoorJ7
import Derived.Laws.AppendOwnNone
import Derived.Test.YtialglmnfchfmadGreatDoorJ0
import Derived.Deep.MidRow
namespace Go.Proofs.YtialglmnfchfmadGreatDoor
open Go.RowKit

theorem indexS_any (ss : List ByteArray) (v : Value) (s : ByteArray) (w : World) (h : Ls w v ss) :
    Calls Tryz.prog 80 #[v, .string s] w fun e w' => e = .returned (.int .i64 (idxI ss s)) ∧ w' = w := by
  obtain ⟨a, c, rfl, hn, -, hpos⟩ := h
  unfold maxLen at hn
  go_enter Tryz.func80, Tryz.ntmps80
  go_wp2
  go_loop [8] (fun i => ∃ k : Nat, k ≤ ss.length ∧ i = .int .i64 k ∧ memS (ss.take k) s = false) (fun i => ss.length - (intOf i).toNat)
  case atStart => exact ⟨0, by omega, rfl, rfl⟩
  case round =>
    obtain ⟨k, hk, rfl, hal⟩ := hrel
    have Hal : Hid (memS (ss.take k) s = false) := hal
    clear hal
    by_cases hp : k < ss.length
    · obtain ⟨b, o, rfl, hS, hb⟩ := hpos (by omega)
      have c0 := hS.cell hp
      cases hq : (s.toList == (ss[k]).toList)
      · have Hq : Hid (((ss[k]).toList == s.toList) = false) := by show _ = _; rw [beq_flip]; exact hq
        go_wp2
        go_round
        case rel => exact ⟨k + 1, by omega, by go_num, memS_take hp Hal.out Hq.out⟩
        case measure => simp [intOf]; omega
      · have Hq : Hid (((ss[k]).toList == s.toList) = true) := by show _ = _; rw [beq_flip]; exact hq
        go_wp2
        go_ret
        exact ⟨ret_int (idxI_found hp Hal.out Hq.out).symm, rfl⟩
    · go_wp2
      go_ret
      exact ⟨ret_int (idxI_none (memS_all hp Hal.out)).symm, rfl⟩

theorem containsS_any (ss : List ByteArray) (v : Value) (s : ByteArray) (w : World) (h : Ls w v ss) :
    Calls Tryz.prog 73 #[v, .string s] w fun e w' => e = .returned (.bool (memS ss s)) ∧ w' = w := by
  obtain ⟨a, c, rfl, -⟩ := id h
  go_enter Tryz.func73, Tryz.ntmps73
  go_wp2_with (go_at_call 80; refine (indexS_any ss _ _ _ h).mono ?_; rintro e w' ⟨rfl, hw⟩; obtain rfl := hw.symm; clear hw)
  all_goals
    go_ret
    refine ⟨ret_bool ?_, rfl⟩
    rw [← idxI_mem]
    try simp_all

theorem wrap_small {x : Int} (h0 : 0 ≤ x) (h1 : x < 18446744073709551616) : IntKind.u64.wrap x = x := by
  rw [IntKind.wrap_u64]; omega
theorem two_pow {k : Nat} (_ : k ≤ 7) : (2 : Int) ^ k = ((2 ^ k : Nat) : Int) := by simp
theorem two_pow_lt {k : Nat} (h : k ≤ 7) : 2 ^ k ≤ 128 := Nat.pow_le_pow_right (n := 2) (by omega) h
theorem wrap_sum {n k : Nat} (hn : n < 256) (hk : k ≤ 7) : IntKind.u64.wrap ((n : Int) + IntKind.u64.wrap (2 ^ k)) = ((n + 2 ^ k : Nat) : Int) := by
  have h := two_pow_lt hk
  rw [two_pow hk]
  generalize 2 ^ k = m at *
  rw [wrap_small (x := (m : Int)) (by omega) (by omega), wrap_small (by omega) (by omega)]; omega
theorem bitsN_take {l : List ByteArray} {P : ByteArray → Bool} {k : Nat} (hk : k < l.length) : bitsN (l.take (k + 1)) P = bitsN (l.take k) P + (if P l[k] = true then 2 ^ k else 0) := by
  rw [List.take_succ_eq_append_getElem hk, bitsN_snoc, List.length_take, Nat.min_eq_left (by omega)]
theorem bitsOf_any (things picked : List ByteArray) (u v : Value) (w : World) (h : Ls w u things) (h2 : Ls w v picked) (h8 : things.length ≤ 8) :
    Calls Tryz.prog 113 #[u, v] w fun e w' => e = .returned (.int .u64 (bitsN things (memS picked) : Nat)) ∧ w' = w := by
  obtain ⟨a, c, rfl, -, -, hpos⟩ := h
  obtain ⟨a2, c2, rfl, -⟩ := id h2
  go_enter Tryz.func113, Tryz.ntmps113
  go_wp2
  go_loop [5, 6, 7, 10] (fun x _ _ i => ∃ k : Nat, k ≤ things.length ∧ i = .int .i64 k ∧ x = .int .u64 (bitsN (things.take k) (memS picked) : Nat)) (fun _ _ _ i => things.length - (intOf i).toNat)
  case atStart => exact ⟨0, by omega, rfl, rfl⟩
  case round =>
    obtain ⟨k, hk, rfl, rfl⟩ := hrel
    by_cases hp : k < things.length
    · obtain ⟨b, o, rfl, hS, hb⟩ := hpos (by omega)
      have c0 := hS.cell hp
      have Hb := bitsN_take (P := memS picked) hp
      have hsm : bitsN (things.take k) (memS picked) < 256 := bitsN_small (by rw [List.length_take]; omega) _
      cases hq : memS picked things[k]
      · have HB : Hid (bitsN (things.take (k + 1)) (memS picked) = bitsN (things.take k) (memS picked)) := by show _ = _; rw [Hb, hq]; simp
        clear Hb
        go_wp2_with (go_at_call 73; refine (containsS_any picked _ _ _ h2).mono ?_; rintro e w' ⟨rfl, hw⟩; obtain rfl := hw.symm; clear hw)
        go_round
        case rel => exact ⟨k + 1, by omega, by go_num, by rw [HB.out]⟩
        case measure => simp [intOf]; omega
      · have HB : Hid (bitsN (things.take (k + 1)) (memS picked) = bitsN (things.take k) (memS picked) + 2 ^ k) := by show _ = _; rw [Hb, if_pos hq]
        clear Hb
        go_wp2_with (go_at_call 73; refine (containsS_any picked _ _ _ h2).mono ?_; rintro e w' ⟨rfl, hw⟩; obtain rfl := hw.symm; clear hw)
        go_round
        case rel =>
          refine ⟨k + 1, by omega, by go_num, ?_⟩
          rw [HB.out, wrap_sum hsm (by omega)]
        case measure => simp [intOf]; omega
    · have HB : Hid (bitsN (things.take k) (memS picked) = bitsN things (memS picked)) := by show _ = _; rw [List.take_of_length_le (by omega)]
      go_wp2
      go_ret
      exact ⟨congrArg (fun n : Nat => Ending.returned (.int .u64 (n : Int))) HB.out, rfl⟩
end Go.Proofs.YtialglmnfchfmadGreatDoor

/- The program's chapter 13: lists joined; those of names that are in one of the lists. -/
namespace Go.Proofs.YtialglmnfchfmadGreatDoor
open Go.RowKit Go.Shelf

theorem growA_any (n : Nat) (w : World) (h1 : 1 ≤ n) (h2 : n ≤ 1000) :
    Calls Tryz.prog 79 #[.slice none 0 0, .int .i64 (n : Int)] w
      fun e w' => (∃ u, e = .returned u ∧ OwnT w' w.heap.size u []) ∧ Below w.heap.size w w' := by
  obtain ⟨ii, hi, iz0, iz1, iz2⟩ := info_parts infoStr
  have h := Any8.slices_Grow_grow Tryz.growS ii (.string ⟨#[]⟩) hi iz0 (by omega) none 0 0 n [] w (Nat.le_refl _) (by omega) (by rw [iz2]; omega) (by omega) (by simp) (fun _ => rfl) (fun a ha => by cases ha)
  refine Calls.mono h ?_
  rintro e w' ⟨rfl, rfl⟩
  have hge := grownCap_ge w (0 + n) 0 9
  have hle := grownCap_le_maxLen w (0 + n) 0 9 (by unfold maxLen; omega)
  refine ⟨⟨_, rfl, rfl, .inr ⟨_, _, _, rfl, Nat.le_refl _, heap_alloc_new _ _, Nat.zero_le _, hle, ?_, by simp⟩⟩, (Below.refl _ _).drew.alloc (by simp) _⟩
  have hz : (Value.string ⟨#[]⟩).cells.size = 1 := rfl
  rw [Array.size_append, Array.size_append, size_zeroCells, size_zeroCells, hz]
  simp only [List.size_toArray, List.length_nil]
  show 0 + (0 + n - 0) * 1 + (grownCap w (0 + n) 0 9 - (0 + n)) * 1 = grownCap w (0 + n) 0 9 * 1
  omega
set_option maxRecDepth 20000 in
theorem grow0_any (w : World) : Calls Tryz.prog 79 #[.slice none 0 0, .int .i64 0] w fun e w' => (∃ u, e = .returned u ∧ OwnT w' w.heap.size u []) ∧ Below w.heap.size w w' := by
  go_enter Tryz.func79, Tryz.ntmps79
  go_wp2
  go_ret
  exact ⟨⟨_, rfl, World.ownsRow_nil _ _ _ _⟩, Below.refl _ _⟩
theorem growN_any (n : Nat) (w : World) (h2 : n ≤ 1000) : Calls Tryz.prog 79 #[.slice none 0 0, .int .i64 (n : Int)] w fun e w' => (∃ u, e = .returned u ∧ OwnT w' w.heap.size u []) ∧ Below w.heap.size w w' := by
  rcases Nat.eq_zero_or_pos n with h | h
  · subst h; exact grow0_any w
  · exact growA_any n w h h2
/-- Any list appended to one of one's own. -/
theorem app_ls {w : World} {base : Nat} {u v : Value} {xs ss : List ByteArray} (ho : OwnT w base u xs) (h : Ls w v ss) (hn : xs.length + ss.length ≤ 1000) (hb : base ≤ w.heap.size) :
    ∃ u' w', (Builtin.append_ #[22, 22] 22 #[u, v]).run Tryz.prog w = .ok u' w' ∧ OwnT w' base u' (xs ++ ss) ∧ w.grownBy w' u.ownBlock := by
  obtain ⟨ii, hi, iz0, iz1, iz2⟩ := info_parts infoStr
  obtain ⟨a, c, rfl, -, -, hpos⟩ := h
  rcases Nat.eq_zero_or_pos ss.length with h0 | h0
  · obtain rfl := List.length_eq_zero_iff.1 h0
    exact ⟨u, w, run_append_zero base 22 22 9 ii 1 Tryz.underlying22 hi _ _ _ ho a c, by simpa using ho, grown_refl _ _⟩
  · obtain ⟨g, o, rfl, hS, hg⟩ := hpos h0
    obtain ⟨v1, w1, hr, hown1, hgr1, -⟩ := run_append_own (P := Tryz.prog) w base 22 22 9 ii _ 1 16 Tryz.underlying22 hi iz0 iz1 iz2 rfl (by decide) u xs.length (xs.map Value.string) ho ⟨g, o, none⟩ ss.length c (ss.map Value.string) (by simp) (news_of hS) (oneS ss) (by unfold maxLen; omega) (by omega) hb
    refine ⟨v1, w1, hr, ?_, hgr1⟩
    unfold OwnT
    rw [List.length_append, List.map_append]
    exact hown1
/-- The lists up to place k, joined. -/
def catL (L : List (Value × List ByteArray)) (k : Nat) : List ByteArray := ((L.take k).map (·.2)).flatten
theorem catL_succ (L : List (Value × List ByteArray)) (k : Nat) (hk : k < L.length) : catL L (k + 1) = catL L k ++ (L[k]).2 := by
  rw [catL, catL, List.take_succ_eq_append_getElem hk, List.map_append, List.flatten_append]; simp
theorem catL_le (L : List (Value × List ByteArray)) : ∀ (d k : Nat), k + d ≤ L.length → (catL L k).length ≤ (catL L (k + d)).length
  | 0, _, _ => Nat.le_refl _
  | d + 1, k, h => by
    have h1 := catL_le L d k (by omega)
    have h2 := catL_succ L (k + d) (by omega)
    rw [← Nat.add_assoc, h2, List.length_append]; omega
def CellsL (w : World) (sb : Nat) (L : List (Value × List ByteArray)) : Prop := ∀ (i : Nat) (f : Value × List ByteArray), L[i]? = some f → w.cell? ⟨sb, i, none⟩ = some f.1 ∧ Ls w f.1 f.2
theorem CellsL.up {w w' : World} {sb : Nat} {L : List (Value × List ByteArray)} (h : CellsL w sb L) (hb : Below w.heap.size w w') (hs : sb < w.heap.size) : CellsL w' sb L := fun i f hf => ⟨(hb.cell (p := ⟨sb, i, none⟩) hs).trans (h i f hf).1, (h i f hf).2.up hb⟩
set_option maxRecDepth 20000 in
set_option maxHeartbeats 4000000 in
theorem concatN_any (L : List (Value × List ByteArray)) (sb : Nat) (w : World) (h : CellsL w sb L) (hsb : sb < w.heap.size) (hL : L.length ≤ 10) (hn : (catL L L.length).length ≤ 900) :
    Calls Tryz.prog 72 #[.slice (some ⟨sb, 0, none⟩) L.length L.length] w
      fun e w' => (∃ u, e = .returned u ∧ OwnT w' w.heap.size u (catL L L.length)) ∧ Below w.heap.size w w' := by
  have Hle : Hid (∀ k, k ≤ L.length → (catL L k).length ≤ 900) := fun k hk => by
    have := catL_le L (L.length - k) k (by omega)
    rw [show k + (L.length - k) = L.length by omega] at this
    omega
  go_enter Tryz.func72, Tryz.ntmps72
  go_wp2_with fail
  go_loop [3, 11] (fun z i => ∃ k : Nat, k ≤ L.length ∧ i = .int .i64 (k : Int) ∧ z = .int .i64 ((catL L k).length : Int)) (fun _ i => L.length - (intOf i).toNat)
  case atStart => exact ⟨0, by omega, rfl, by simp [catL]⟩
  case round =>
    obtain ⟨k, hk, rfl, rfl⟩ := hrel
    have hb1 := Hle.out k hk
    by_cases hp : k < L.length
    · obtain ⟨c0, l0⟩ := h k _ (List.getElem?_eq_getElem hp)
      have hb2 := Hle.out (k + 1) hp
      have HS : Hid ((catL L (k + 1)).length = (catL L k).length + (L[k]).2.length) := by show _ = _; rw [catL_succ L k hp, List.length_append]
      rw [HS.out] at hb2
      generalize L[k] = f0 at *
      obtain ⟨fv, fs⟩ := f0
      simp only at c0 l0 hb2 HS
      obtain ⟨fa, fc, hfv, -⟩ := id l0
      subst hfv
      clear l0
      generalize hcl : (catL L k).length = n0 at *
      go_wp2_with fail
      go_round
      case rel => exact ⟨k + 1, by omega, by go_num, by rw [HS.out]; go_num⟩
      case measure => simp [intOf]; omega
    · obtain rfl : k = L.length := by omega
      go_wp2_with fail
      refine (growN_any (catL L L.length).length w (by omega)).mono ?_
      rintro e w1 ⟨⟨u, rfl, ho⟩, hB1⟩
      have HC : Hid (CellsL w sb L) := h
      clear h hn hb1
      obtain ⟨ua, uc, hu⟩ := own_shape ho
      subst hu
      go_wp2_with fail
      go_loopw [6, 27] (fun u i w' => ∃ (k : Nat), k ≤ L.length ∧ i = .int .i64 (k : Int) ∧ OwnT w' w.heap.size u (catL L k) ∧ Below w.heap.size w w') (fun _ i _ => L.length - (intOf i).toNat)
      case atStart => exact ⟨0, by omega, rfl, by simpa [catL] using ho, hB1⟩
      case round =>
        clear ho hB1
        obtain ⟨k, hk, rfl, ho, hB⟩ := hrel
        by_cases hp : k < L.length
        · obtain ⟨c0, l0⟩ := (HC.out.up hB hsb) k _ (List.getElem?_eq_getElem hp)
          have hb2 := Hle.out (k + 1) hp
          rw [catL_succ L k hp, List.length_append] at hb2
          obtain ⟨u', w', hr, ho', hg'⟩ := app_ls ho l0 (by omega) hB.size
          have hB' := below_own hB ho hg' (Nat.le_refl _)
          rw [← catL_succ L k hp] at ho'
          generalize L[k] = f0 at *
          obtain ⟨fv, fs⟩ := f0
          simp only at c0 l0 hr
          obtain ⟨fa, fc, hfv, -⟩ := id l0
          subst hfv
          clear hb2 ho hg' l0
          go_wp2_with (at_builtin; refine wpList_append_run _ rfl _ _ _ _ rfl _ _ _ _ rfl rfl hr ?_)
          go_roundw
          case rel => exact ⟨k + 1, by omega, by go_num, ho', hB'⟩
          case measure => simp [intOf]; omega
        · obtain rfl : k = L.length := by omega
          go_wp2_with fail
          go_ret
          exact ⟨⟨_, rfl, ho⟩, hB⟩
end Go.Proofs.YtialglmnfchfmadGreatDoor

/- The program's chapter 13: those of names that are in one of the lists. -/
namespace Go.Proofs.YtialglmnfchfmadGreatDoor
open Go.RowKit

theorem catL_mem {L : List (Value × List ByteArray)} {s : ByteArray} (h : s ∈ catL L L.length) : ∃ i, ∃ hi : i < L.length, s ∈ (L[i]).2 := by
  rw [catL, List.take_length, List.mem_flatten] at h
  obtain ⟨l, hl, hs⟩ := h
  obtain ⟨f, hf, rfl⟩ := List.mem_map.1 hl
  obtain ⟨i, hi, rfl⟩ := List.getElem_of_mem hf
  exact ⟨i, hi, hs⟩
theorem catL_size {w : World} {sb : Nat} {L : List (Value × List ByteArray)} (h : CellsL w sb L) : ∀ s ∈ catL L L.length, s.size ≤ maxLen := fun s hs => by
  obtain ⟨i, hi, hm⟩ := catL_mem hs
  obtain ⟨_, _, _, _, hz, _⟩ := (h i _ (List.getElem?_eq_getElem hi)).2
  exact hz s hm
theorem filt_take {ss : List ByteArray} {f : ByteArray → Bool} {k : Nat} (hk : k < ss.length) : (ss.take (k + 1)).filter f = (ss.take k).filter f ++ (if f ss[k] = true then [ss[k]] else []) := by
  rw [List.take_succ_eq_append_getElem hk, List.filter_append]
  congr 1
  by_cases h : f ss[k] = true
  · simp [h]
  · simp [h]
theorem filt_len (ss : List ByteArray) (f : ByteArray → Bool) (k : Nat) : ((ss.take k).filter f).length ≤ k := by
  have h1 := List.length_filter_le f (ss.take k)
  rw [List.length_take] at h1
  omega
set_option maxRecDepth 20000 in
set_option maxHeartbeats 4000000 in
theorem among_any (ss : List ByteArray) (v : Value) (L : List (Value × List ByteArray)) (sb : Nat) (w : World) (h : Ls w v ss) (hs : ss.length ≤ 100) (hc : CellsL w sb L) (hsb : sb < w.heap.size) (hL : L.length ≤ 10) (hn : (catL L L.length).length ≤ 900) :
    Calls Tryz.prog 60 #[v, .slice (some ⟨sb, 0, none⟩) L.length L.length] w fun e w' => (∃ u, e = .returned u ∧ OwnT w' w.heap.size u (ss.filter (memS (catL L L.length)))) ∧ Below w.heap.size w w' := by
  obtain ⟨ii, hi, iz0, iz1, iz2⟩ := info_parts infoStr
  have Hz := catL_size hc
  obtain ⟨a, c, rfl, -, -, hpos⟩ := h
  go_enter Tryz.func60, Tryz.ntmps60
  go_wp2_with fail
  refine (concatN_any L sb w hc hsb hL hn).mono ?_
  rintro e w1 ⟨⟨u, rfl, ho⟩, hB1⟩
  have HL : Hid (∀ W, Below w1.heap.size w1 W → Ls W u (catL L L.length)) := fun W hW => (ho.lst.ls Hz).up hW
  obtain ⟨ua, uc, hu⟩ := own_shape ho
  subst hu
  clear ho Hz hc hn
  generalize hcat : catL L L.length = cat at *
  have Hcat : Hid (catL L L.length = cat) := hcat
  clear hcat
  have hpos1 : Hid (0 < ss.length → ∃ b o, a = some ⟨b, o, none⟩ ∧ StrsAt w1 b o ss ∧ b < w1.heap.size) := fun hp => by
    obtain ⟨g, o, e, hS, hg⟩ := hpos hp
    exact ⟨g, o, e, hS.up hB1 hg, Nat.lt_of_lt_of_le hg hB1.size⟩
  clear hpos
  go_wp2_with fail
  go_loopw [6, 13] (fun x i w' => ∃ k : Nat, k ≤ ss.length ∧ i = .int .i64 (k : Int) ∧ OwnT w' w1.heap.size x ((ss.take k).filter (memS cat)) ∧ Below w1.heap.size w1 w') (fun _ i _ => ss.length - (intOf i).toNat)
  case atStart => exact ⟨0, by omega, rfl, World.ownsRow_nil _ _ _ _, Below.refl _ _⟩
  case round =>
    obtain ⟨k, hk, rfl, hx, hB⟩ := hrel
    by_cases hp : k < ss.length
    · obtain ⟨g, o, rfl, hS, hg⟩ := hpos1.out (by omega)
      have c0 := (hS.up hB hg).cell hp
      have HF := filt_take (f := memS cat) hp
      have Hl := filt_len ss (memS cat) k
      have HC := HL.out wr hB
      generalize ss[k] = s0 at *
      go_wp2_with fail
      refine (containsS_any cat _ s0 _ HC).mono ?_
      rintro e w2 ⟨rfl, hw2⟩
      obtain rfl := hw2.symm
      clear c0
      cases hq : memS cat s0
      · rw [hq, if_neg (by simp), List.append_nil] at HF
        have HX : Hid (OwnT wr w1.heap.size u6 ((ss.take (k + 1)).filter (memS cat))) := by show _; rw [HF]; exact hx
        clear hx HF
        go_wp2_with fail
        go_roundw
        case rel => exact ⟨k + 1, by omega, by go_num, HX.out, hB⟩
        case measure => simp [intOf]; omega
      · rw [hq, if_pos rfl] at HF
        have HF' : Hid ((ss.take (k + 1)).filter (memS cat) = (ss.take k).filter (memS cat) ++ [s0]) := HF
        clear HF
        generalize (ss.take k).filter (memS cat) = xs at *
        have hownA := World.ownsRow.alloc hx (.cells #[.string s0] 9)
        have hBA := hB.alloc hB.size (.cells #[.string s0] 9)
        have hzA := hB.size
        obtain ⟨xa, xc, hxs⟩ := own_shape hx
        subst hxs
        clear hx
        go_wp2_with (at_builtin; refine wpList_append_own _ rfl _ _ 22 rfl w1.heap.size 9 ii _ 1 16 Tryz.underlying22 hi iz0 iz1 iz2 rfl (by decide) _ _ _ rfl hownA ⟨wr.heap.size, 0, none⟩ 1 1 [.string s0] rfl rfl (one_new _ _ _) (oneV s0) (by unfold maxLen; omega) (by omega) (by simp; omega) ?_)
        intro v' w2 hown2 hgr2 _
        have hB2 := below_own hBA hownA hgr2 (Nat.le_refl _)
        have hO2 : OwnT w2 w1.heap.size v' (xs ++ [s0]) := by unfold OwnT; simpa using hown2
        obtain ⟨ya, yc, hys⟩ := own_shape hO2
        subst hys
        clear hownA hgr2 hown2 hBA
        go_wp2_with fail
        go_roundw
        case rel => exact ⟨k + 1, by omega, by go_num, by rw [HF'.out]; exact hO2, hB2⟩
        case measure => simp [intOf]; omega
    · obtain rfl : k = ss.length := by omega
      rw [List.take_length] at hx
      have hBB := up_trans hB1 hB
      have hz1 := hB1.size
      obtain ⟨xa, xc, hxs⟩ := own_shape hx
      subst hxs
      go_wp2_with fail
      go_ret
      have e := Hcat.out
      subst e
      exact ⟨⟨_, rfl, own_low hx hz1⟩, hBB⟩
end Go.Proofs.YtialglmnfchfmadGreatDoor

/- Recipes: plain facts. -/
namespace Go.Proofs.YtialglmnfchfmadGreatDoor
open Go.RowKit
structure Ph where
  nm : ByteArray
  k : Int
  a : ByteArray
  b : ByteArray
  n : Int
  wi : Int
  t : ByteArray
  e : ByteArray
def Ph.cells (p : Ph) : List Value := [.string p.nm, .int .i64 p.k, .string p.a, .string p.b, .int .i64 p.n, .int .i64 p.wi, .string p.t, .string p.e]
def Ph.okB (p : Ph) : Bool := phaseB p.nm p.k p.a p.b p.n p.wi p.t p.e
/-- The recipe lies in block b from cell o on. -/
def RecAt (w : World) (b o : Nat) (ps : List Ph) : Prop := ∀ (i : Nat) (p : Ph), ps[i]? = some p → w.rangeAt b (o + i * 8) p.cells
/-- Its texts have sizes. -/
def Sized (ps : List Ph) : Prop := ∀ p ∈ ps, p.nm.size ≤ maxLen ∧ p.a.size ≤ maxLen ∧ p.b.size ≤ maxLen ∧ p.t.size ≤ maxLen ∧ p.e.size ≤ maxLen
def hasB (ps : List Ph) (nm : ByteArray) : Bool := ps.any fun p => p.nm.toList == nm.toList
def atI (ps : List Ph) (nm : ByteArray) : Int := match ps.findIdx? fun p => p.nm.toList == nm.toList with
  | some i => i
  | none => -1
theorem RecAt.cells {w : World} {b o : Nat} {ps : List Ph} (h : RecAt w b o ps) (i : Nat) (hi : i < ps.length) :
    w.cell? ⟨b, o + i * 8, none⟩ = some (.string (ps[i]).nm) ∧ w.cell? ⟨b, o + i * 8 + 1, none⟩ = some (.int .i64 (ps[i]).k) ∧ w.cell? ⟨b, o + i * 8 + 2, none⟩ = some (.string (ps[i]).a) ∧ w.cell? ⟨b, o + i * 8 + 3, none⟩ = some (.string (ps[i]).b) ∧
    w.cell? ⟨b, o + i * 8 + 4, none⟩ = some (.int .i64 (ps[i]).n) ∧ w.cell? ⟨b, o + i * 8 + 5, none⟩ = some (.int .i64 (ps[i]).wi) ∧ w.cell? ⟨b, o + i * 8 + 6, none⟩ = some (.string (ps[i]).t) ∧ w.cell? ⟨b, o + i * 8 + 7, none⟩ = some (.string (ps[i]).e) := by
  have hr := h i ps[i] (by simp [hi])
  exact ⟨hr 0 _ rfl, hr 1 _ rfl, hr 2 _ rfl, hr 3 _ rfl, hr 4 _ rfl, hr 5 _ rfl, hr 6 _ rfl, hr 7 _ rfl⟩
theorem RecAt.drop {w : World} {b o : Nat} {ps : List Ph} (h : RecAt w b o ps) (i : Nat) : RecAt w b (o + i * 8) (ps.drop i) := fun j p hp => by
  have := h (i + j) p (by simpa [List.getElem?_drop] using hp)
  rwa [show o + i * 8 + j * 8 = o + (i + j) * 8 by omega]
theorem RecAt.up {w w' : World} {b o B : Nat} {ps : List Ph} (h : RecAt w b o ps) (hb : Below B w w') (hB : b < B) : RecAt w' b o ps := fun i p hp j v hv => by
  rw [hb.cell (p := ⟨b, o + i * 8 + j, none⟩) hB]; exact h i p hp j v hv
theorem hasB_take (ps : List Ph) (nm : ByteArray) (k : Nat) (h : k < ps.length) : hasB (ps.take (k + 1)) nm = (hasB (ps.take k) nm || ((ps[k]).nm.toList == nm.toList)) := by
  unfold hasB; rw [List.take_succ_eq_append_getElem h, List.any_append]; simp
theorem hasB_all (ps : List Ph) (nm : ByteArray) (k : Nat) (h : ¬ k < ps.length) (hn : hasB (ps.take k) nm = false) : hasB ps nm = false := by
  rwa [List.take_of_length_le (by omega)] at hn
theorem hasB_yes (ps : List Ph) (nm : ByteArray) (k : Nat) (h : k < ps.length) (he : ((ps[k]).nm.toList == nm.toList) = true) : hasB ps nm = true := by
  unfold hasB; rw [List.any_eq_true]; exact ⟨ps[k], by simp, he⟩
theorem hasB_iff (ps : List Ph) (nm : ByteArray) : hasB ps nm = true ↔ ∃ (j : Nat) (q : Ph), ps[j]? = some q ∧ (q.nm.toList == nm.toList) = true := by
  unfold hasB; rw [List.any_eq_true]
  constructor
  · rintro ⟨q, hq, he⟩
    obtain ⟨j, hj, rfl⟩ := List.getElem_of_mem hq
    exact ⟨j, ps[j], by simp [hj], he⟩
  · rintro ⟨j, q, hq, he⟩
    exact ⟨q, List.mem_of_getElem? hq, he⟩
theorem atI_none (ps : List Ph) (nm : ByteArray) (h : hasB ps nm = false) : atI ps nm = -1 := by
  have : (ps.findIdx? fun p => p.nm.toList == nm.toList) = none := by
    rw [List.findIdx?_eq_none_iff]; simpa [hasB] using h
  simp only [atI, this]
theorem atI_found (ps : List Ph) (nm : ByteArray) (k : Nat) (h : k < ps.length) (hn : hasB (ps.take k) nm = false) (he : ((ps[k]).nm.toList == nm.toList) = true) : atI ps nm = k := by
  have : (ps.findIdx? fun p => p.nm.toList == nm.toList) = some k := by
    rw [List.findIdx?_eq_some_iff_getElem]
    refine ⟨h, he, fun j hj => ?_⟩
    intro hc
    have : hasB (ps.take k) nm = true := by
      rw [hasB_iff]
      exact ⟨j, ps[j], by simp [hj, Nat.lt_trans hj h], hc⟩
    rw [hn] at this; cases this
  simp only [atI, this]
def goesB (later : List Ph) (nm : ByteArray) : Bool := endN nm != 0 || hasB later nm
end Go.Proofs.YtialglmnfchfmadGreatDoor
