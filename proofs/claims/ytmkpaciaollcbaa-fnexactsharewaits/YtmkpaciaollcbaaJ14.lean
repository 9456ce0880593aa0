/- The program's walks of chapter 12: bits of things. -/
import Derived.Test.YtmkpaciaollcbaaKp3
import Derived.Test.YtmkpaciaollcbaaJ4
import Derived.Laws.BitsAllLaws
import Derived.Test.YtmkpaciaollcbaaKs2
namespace Go.Proofs.Ytmkpaciaollcbaa
open Go.RowKit

theorem indexS_any (ss : List ByteArray) (v : Value) (s : ByteArray) (w : World) (h : Ls w v ss) :
    Calls Try.prog 62 #[v, .string s] w fun e w' => e = .returned (.int .i64 (idxI ss s)) ∧ w' = w := by
  obtain ⟨a, c, rfl, hn, -, hpos⟩ := h
  unfold maxLen at hn
  go_enter Try.func62, Try.ntmps62
  go_wp2
  go_loop [8] (fun i => ∃ k : Nat, k ≤ ss.length ∧ i = .int .i64 k ∧ memS (ss.take k) s = false) (fun i => ss.length - (intOf i).toNat)
  case atStart => exact ⟨0, by omega, rfl, rfl⟩
  case round =>
    obtain ⟨k, hk, rfl, hal⟩ := hrel
    have Hal : Hid (memS (ss.take k) s = false) := hal
    clear hal
    by_cases hp : k < ss.length
    · obtain ⟨b, o, rfl, hS, hb⟩ := hpos (by omega)
      have c0 := hS.cell hp
      cases hq : (s.toList == (ss[k]).toList)
      · have Hq : Hid (((ss[k]).toList == s.toList) = false) := by show _ = _; rw [beq_flip]; exact hq
        go_wp2
        go_round
        case rel => exact ⟨k + 1, by omega, by go_num, memS_take hp Hal.out Hq.out⟩
        case measure => simp [intOf]; omega
      · have Hq : Hid (((ss[k]).toList == s.toList) = true) := by show _ = _; rw [beq_flip]; exact hq
        go_wp2
        go_ret
        exact ⟨ret_int (idxI_found hp Hal.out Hq.out).symm, rfl⟩
    · go_wp2
      go_ret
      exact ⟨ret_int (idxI_none (memS_all hp Hal.out)).symm, rfl⟩

theorem containsS_any (ss : List ByteArray) (v : Value) (s : ByteArray) (w : World) (h : Ls w v ss) :
    Calls Try.prog 51 #[v, .string s] w fun e w' => e = .returned (.bool (memS ss s)) ∧ w' = w := by
  obtain ⟨a, c, rfl, -⟩ := id h
  go_enter Try.func51, Try.ntmps51
  go_wp2_with (go_at_call 62; refine (indexS_any ss _ _ _ h).mono ?_; rintro e w' ⟨rfl, hw⟩; obtain rfl := hw.symm; clear hw)
  all_goals
    go_ret
    refine ⟨ret_bool ?_, rfl⟩
    rw [← idxI_mem]
    try simp_all

theorem wrap_small {x : Int} (h0 : 0 ≤ x) (h1 : x < 18446744073709551616) : IntKind.u64.wrap x = x := by
  rw [IntKind.wrap_u64]; omega
theorem two_pow {k : Nat} (_ : k ≤ 7) : (2 : Int) ^ k = ((2 ^ k : Nat) : Int) := by simp
theorem two_pow_lt {k : Nat} (h : k ≤ 7) : 2 ^ k ≤ 128 := Nat.pow_le_pow_right (n := 2) (by omega) h
theorem wrap_sum {n k : Nat} (hn : n < 256) (hk : k ≤ 7) : IntKind.u64.wrap ((n : Int) + IntKind.u64.wrap (2 ^ k)) = ((n + 2 ^ k : Nat) : Int) := by
  have h := two_pow_lt hk
  rw [two_pow hk]
  generalize 2 ^ k = m at *
  rw [wrap_small (x := (m : Int)) (by omega) (by omega), wrap_small (by omega) (by omega)]; omega
theorem bitsN_take {l : List ByteArray} {P : ByteArray → Bool} {k : Nat} (hk : k < l.length) : bitsN (l.take (k + 1)) P = bitsN (l.take k) P + (if P l[k] = true then 2 ^ k else 0) := by
  rw [List.take_succ_eq_append_getElem hk, bitsN_snoc, List.length_take, Nat.min_eq_left (by omega)]
theorem bitsOf_any (things picked : List ByteArray) (u v : Value) (w : World) (h : Ls w u things) (h2 : Ls w v picked) (h8 : things.length ≤ 8) :
    Calls Try.prog 43 #[u, v] w fun e w' => e = .returned (.int .u64 (bitsN things (memS picked) : Nat)) ∧ w' = w := by
  obtain ⟨a, c, rfl, -, -, hpos⟩ := h
  obtain ⟨a2, c2, rfl, -⟩ := id h2
  go_enter Try.func43, Try.ntmps43
  go_wp2
  go_loop [5, 6, 7, 10] (fun x _ _ i => ∃ k : Nat, k ≤ things.length ∧ i = .int .i64 k ∧ x = .int .u64 (bitsN (things.take k) (memS picked) : Nat)) (fun _ _ _ i => things.length - (intOf i).toNat)
  case atStart => exact ⟨0, by omega, rfl, rfl⟩
  case round =>
    obtain ⟨k, hk, rfl, rfl⟩ := hrel
    by_cases hp : k < things.length
    · obtain ⟨b, o, rfl, hS, hb⟩ := hpos (by omega)
      have c0 := hS.cell hp
      have Hb := bitsN_take (P := memS picked) hp
      have hsm : bitsN (things.take k) (memS picked) < 256 := bitsN_small (by rw [List.length_take]; omega) _
      cases hq : memS picked things[k]
      · have HB : Hid (bitsN (things.take (k + 1)) (memS picked) = bitsN (things.take k) (memS picked)) := by show _ = _; rw [Hb, hq]; simp
        clear Hb
        go_wp2_with (go_at_call 51; refine (containsS_any picked _ _ _ h2).mono ?_; rintro e w' ⟨rfl, hw⟩; obtain rfl := hw.symm; clear hw)
        go_round
        case rel => exact ⟨k + 1, by omega, by go_num, by rw [HB.out]⟩
        case measure => simp [intOf]; omega
      · have HB : Hid (bitsN (things.take (k + 1)) (memS picked) = bitsN (things.take k) (memS picked) + 2 ^ k) := by show _ = _; rw [Hb, if_pos hq]
        clear Hb
        go_wp2_with (go_at_call 51; refine (containsS_any picked _ _ _ h2).mono ?_; rintro e w' ⟨rfl, hw⟩; obtain rfl := hw.symm; clear hw)
        go_round
        case rel =>
          refine ⟨k + 1, by omega, by go_num, ?_⟩
          rw [HB.out, wrap_sum hsm (by omega)]
        case measure => simp [intOf]; omega
    · have HB : Hid (bitsN (things.take k) (memS picked) = bitsN things (memS picked)) := by show _ = _; rw [List.take_of_length_le (by omega)]
      go_wp2
      go_ret
      exact ⟨congrArg (fun n : Nat => Ending.returned (.int .u64 (n : Int))) HB.out, rfl⟩
end Go.Proofs.Ytmkpaciaollcbaa

/- The specification's walk of the place of a name. -/
namespace Go.Proofs.Ytmkpaciaollcbaa
open Go.RowKit

set_option maxHeartbeats 2000000 in
theorem at11_any (b : Bk) (v : Value) (s : ByteArray) (w : World) (h : BkV w v b) :
    Calls Try.prog 29 #[v, .string s] w fun e w' => e = .returned (.int .i64 (idxI (nms b.bs) s)) ∧ Below w.heap.size w w' := by
  obtain ⟨a1, c1, a2, c2, rfl, h1, h2⟩ := h.parts
  have hC : CB (w.alloc (.cells #[.slice a1 (b).things.length c1, .slice a2 (b).bs.length c2] 30)) w.heap.size [.slice a1 b.things.length c1, .slice a2 b.bs.length c2] := cb_alloc w _ _
  have hB0 := (Below.refl w.heap.size w).alloc (Nat.le_refl _) (.cells #[.slice a1 (b).things.length c1, .slice a2 (b).bs.length c2] 30)
  have g2 := h2.at.1
  unfold maxLen at g2
  go_enter Try.func29, Try.ntmps29
  go_upto_region 1 with fail
  generalize w.alloc (.cells #[.slice a1 (b).things.length c1, .slice a2 (b).bs.length c2] 30) = W1 at *
  have l2 := h2.up hB0
  clear h h1 h2
  obtain ⟨e0, e1⟩ := hC.c2'
  obtain ⟨-, hpos⟩ := l2.at
  go_wp2_with fail
  go_loop [5] (fun i => ∃ k : Nat, k ≤ b.bs.length ∧ i = .int .i64 k ∧ memS ((nms b.bs).take k) s = false) (fun i => b.bs.length - (intOf i).toNat)
  case atStart => exact ⟨0, by omega, rfl, rfl⟩
  case round =>
    obtain ⟨k, hk, rfl, hal⟩ := hrel
    have Hal : Hid (memS ((nms b.bs).take k) s = false) := hal
    clear hal
    by_cases hp : k < b.bs.length
    · obtain ⟨bb, o, rfl, hS, hb⟩ := hpos (by omega)
      obtain ⟨a3, d3, a4, d4, c3, c4, c5, -, -, -⟩ := (hS.at hp).cells
      have hp' : k < (nms b.bs).length := by rw [nms_length]; exact hp
      have Hn : Hid ((nms b.bs)[k] = (b.bs[k]).nm) := nms_get b.bs k hp
      cases hq : ((b.bs[k]).nm.toList == s.toList)
      · have Hq : Hid (memS ((nms b.bs).take (k + 1)) s = false) := memS_take hp' Hal.out (by rw [Hn.out]; exact hq)
        generalize b.bs[k] = x0 at *
        go_wp2_with fail
        go_round
        case rel => exact ⟨k + 1, by omega, by go_num, Hq.out⟩
        case measure => simp [intOf]; omega
      · have Hq : Hid (idxI (nms b.bs) s = (k : Int)) := idxI_found hp' Hal.out (by rw [Hn.out]; exact hq)
        generalize b.bs[k] = x0 at *
        go_wp2_with fail
        go_ret
        exact ⟨ret_int Hq.out.symm, hB0⟩
    · have Hq : Hid (idxI (nms b.bs) s = -1) := idxI_none (memS_all (by rw [nms_length]; exact hp) Hal.out)
      go_wp2_with fail
      go_ret
      exact ⟨ret_int Hq.out.symm, hB0⟩
end Go.Proofs.Ytmkpaciaollcbaa
