/- The laws' marks: a text of a number. -/
import Derived.Test.YtafgabakhaipnaaJ9
import Derived.Laws.IdiomStrings
import Derived.Test.YtafgabakhaipnaaJ21
namespace Go.Proofs.Ytafgabakhaipnaa
open Go.RowKit

def mkD (k : Nat) (out : ByteArray) : ByteArray := if k = 0 then out else mkD (k / 10) (⟨#[48 + UInt8.ofNat (k % 10)]⟩ ++ out)
termination_by k
decreasing_by omega
def mkB (k : Int) : ByteArray := if k ≤ 0 then ⟨#[109, 48]⟩ else ⟨#[109]⟩ ++ mkD k.toNat ⟨#[]⟩
theorem mkD_size : ∀ (k : Nat) (out : ByteArray), (mkD k out).size ≤ out.size + k := by
  intro k
  induction k using Nat.strongRecOn with
  | ind k ih =>
    intro out
    unfold mkD
    split
    · omega
    · have := ih (k / 10) (by omega) (⟨#[48 + UInt8.ofNat (k % 10)]⟩ ++ out)
      rw [ByteArray.size_append] at this
      have h1 : (⟨#[48 + UInt8.ofNat (k % 10)]⟩ : ByteArray).size = 1 := rfl
      omega
theorem byte_str (w : World) (x : Int) (h0 : 0 ≤ x) (h1 : x < 256) :
    (convert 75 9 (.slice (some ⟨w.heap.size, 0, none⟩) 1 1)).run Try.prog (w.alloc (.cells #[.int .u8 x] 5)) = .ok (.string ⟨#[UInt8.ofNat x.toNat]⟩) (w.alloc (.cells #[.int .u8 x] 5)) := by
  refine run_convert_bytes_back (P := Try.prog) (w.alloc (.cells #[.int .u8 x] 5)) 75 9 5 ⟨w.heap.size, 0, none⟩ 1 [UInt8.ofNat x.toNat] Try.underlying75 Try.underlying5 Try.underlying9 (fun j hj => ?_)
  obtain rfl : j = 0 := by simpa using hj
  have e : ((UInt8.ofNat x.toNat).toNat : Int) = x := by
    rw [UInt8.toNat_ofNat']; omega
  simp only [List.getElem_cons_zero, e]
  simp [go_sem, Addr.add]

set_option maxRecDepth 20000 in
set_option maxHeartbeats 1000000 in
theorem mark_any (k : Int) (w : World) (hk : k ≤ 9000000000000000000) :
    Calls Try.prog 25 #[.int .i64 k] w fun e w' => e = .returned (.string (mkB k)) ∧ Below w.heap.size w w' := by
  by_cases h0 : k ≤ 0
  · have HV : Hid (mkB k = ⟨#[109, 48]⟩) := by show _ = _; rw [mkB, if_pos h0]
    go_enter Try.func25, Try.ntmps25
    go_wp2_with fail
    go_ret
    exact ⟨by rw [HV.out]; rfl, Below.refl _ _⟩
  obtain ⟨K, rfl⟩ : ∃ K : Nat, k = (K : Int) := ⟨k.toNat, by omega⟩
  have HV : Hid (mkB K = ⟨#[109]⟩ ++ mkD K ⟨#[]⟩) := by show _ = _; rw [mkB, if_neg h0]; rfl
  go_enter Try.func25, Try.ntmps25
  go_wp2_with fail
  go_loopw [0, 3] (fun kk o w' => ∃ (n j : Nat) (s : ByteArray), kk = .int .i64 (n : Int) ∧ o = .string s ∧ mkD n s = mkD K ⟨#[]⟩ ∧ n < 10 ^ j ∧ s.size + j ≤ 19 ∧ n ≤ K ∧ Below w.heap.size w w') (fun kk _ _ => (intOf kk).toNat)
  case atStart => exact ⟨K, 19, ⟨#[]⟩, rfl, rfl, rfl, by omega, Nat.le_refl _, Nat.le_refl _, Below.refl _ _⟩
  case round =>
    obtain ⟨n, j, s, rfl, rfl, hm, hj, hs, hnK, hB⟩ := hrel
    have Hj : Hid (n < 10 ^ j) := hj
    clear hj
    have Hm : Hid (mkD n s = mkD K ⟨#[]⟩) := hm
    clear hm
    by_cases hn : n = 0
    · subst hn
      go_wp2_with fail
      go_ret
      have h9 := Hm.out
      unfold mkD at h9
      rw [if_pos rfl] at h9
      refine ⟨?_, hB⟩
      rw [HV.out]
      unfold mkD
      rw [← h9]; rfl
    · have hcv := byte_str wr (48 + (n : Int) % 10) (by omega) (by omega)
      have He : Hid (mkD n s = mkD (n / 10) (⟨#[48 + UInt8.ofNat (n % 10)]⟩ ++ s)) := by
        show _ = _
        rw [mkD, if_neg hn]
      have Hj2 : Hid (∃ i, j = i + 1 ∧ n / 10 < 10 ^ i) := by
        have h := Hj.out
        rcases j with _ | i
        · rw [Nat.pow_zero] at h; omega
        · rw [Nat.pow_succ] at h
          refine ⟨i, rfl, ?_⟩
          generalize 10 ^ i = q at h ⊢
          omega
      go_wp2_with fail
      obtain ⟨i, rfl, hi⟩ := Hj2.out
      refine ⟨⟨n / 10, i, ⟨#[48 + UInt8.ofNat (n % 10)]⟩ ++ s, by rw [Int.natCast_ediv]; rfl, rfl, by rw [← He.out]; exact Hm.out, hi, ?_, by omega, hB.alloc hB.size _⟩, by simp only [intOf]; omega⟩
      rw [ByteArray.size_append]
      have h1 : (⟨#[48 + UInt8.ofNat (n % 10)]⟩ : ByteArray).size = 1 := rfl
      omega
end Go.Proofs.Ytafgabakhaipnaa

/- The laws' marks over a list of texts of its own. -/
namespace Go.Proofs.Ytafgabakhaipnaa
open Go.RowKit

/-- What could be written can be written still. -/
def Thr (w w' : World) : Prop := ∀ b n, b < w.heap.size → w.there b 0 n → w'.there b 0 n
theorem Thr.trans {a b c : World} (h : Thr a b) (hz : a.heap.size ≤ b.heap.size) (k : Thr b c) : Thr a c := fun x n hx ht => k x n (Nat.lt_of_lt_of_le hx hz) (h x n hx ht)
theorem thr_up {w w' : World} (hb : Below w.heap.size w w') : Thr w w' := fun _ _ hx ht => there_up ht hb hx
theorem thr_set {w : World} {b j : Nat} {u : Value} : Thr w (w.setCell ⟨b, j, none⟩ u) := fun x n _ ht => by
  have := World.there_setCells ht b j [u]
  simpa [World.setCells] using this

set_option maxHeartbeats 1000000 in
theorem mkLs_any (N bb : Nat) (m : Int) (w : World) (ht : w.there bb 0 N) (hb : bb < w.heap.size) (hN : N ≤ 1048576) (hm : 1 ≤ m) (hm9 : m ≤ 4000000000000) :
    Calls Try.prog 11 #[.slice (some ⟨bb, 0, none⟩) N N, .int .i64 m] w fun e w' => e = .returned (.int .i64 (m + N)) ∧ w.grownBy w' (some bb) ∧ Thr w w' := by
  go_enter Try.func11, Try.ntmps11
  go_wp2
  go_loopw [1, 5] (fun kk i w' => ∃ k : Nat, k ≤ N ∧ i = .int .i64 k ∧ kk = .int .i64 (m + k) ∧ w.grownBy w' (some bb) ∧ Thr w w') (fun _ i _ => N - (intOf i).toNat)
  case atStart => exact ⟨0, by omega, rfl, by simp, grown_refl _ _, fun _ _ _ h => h⟩
  case round =>
    obtain ⟨k, hk, rfl, rfl, hG, hR⟩ := hrel
    by_cases hp : k < N
    · go_wp2_with fail
      refine (mark_any (m + k) wr (by omega)).mono ?_
      rintro e w1 ⟨rfl, hB1⟩
      have hz := hG.size
      have hG1 := grown_trans hG (grown_below (r := some bb) hB1)
      have hR1 := hR.trans hz (thr_up hB1)
      have hc := hR1 bb N hb ht k hp
      rw [Nat.zero_add] at hc
      obtain ⟨x0, c0⟩ := Option.isSome_iff_exists.1 hc.1
      have f0 := hc.2
      have hz1 := hG1.size
      have hR2 : Hid (Thr w (w1.setCell ⟨bb, k, none⟩ (.string (mkB (m + k))))) := hR1.trans hz1 thr_set
      have hG2 := grown_setCell (off := k) hG1 (.string (mkB (m + k)))
      clear hG hR hB1 hR1 hc hG1
      generalize mkB (m + k) = mb at *
      go_wp2_with fail
      go_roundw
      case rel => exact ⟨k + 1, by omega, by go_num, by go_num, hG2, hR2.out⟩
      case measure => simp [intOf]; omega
    · obtain rfl : k = N := by omega
      go_wp2_with fail
      go_ret
      exact ⟨rfl, hG, hR⟩
end Go.Proofs.Ytafgabakhaipnaa
