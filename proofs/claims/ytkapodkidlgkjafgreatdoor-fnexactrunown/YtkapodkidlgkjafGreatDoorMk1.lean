/- The laws' marks: a text of a number. -/
import Derived.Test.YtkapodkidlgkjafGreatDoorJ0
import Derived.Laws.IdiomStrings
namespace Go.Proofs.YtkapodkidlgkjafGreatDoor
open Go.RowKit

def mkD (k : Nat) (out : ByteArray) : ByteArray := if k = 0 then out else mkD (k / 10) (⟨#[48 + UInt8.ofNat (k % 10)]⟩ ++ out)
termination_by k
decreasing_by omega
def mkB (k : Int) : ByteArray := if k ≤ 0 then ⟨#[109, 48]⟩ else ⟨#[109]⟩ ++ mkD k.toNat ⟨#[]⟩
theorem mkD_size : ∀ (k : Nat) (out : ByteArray), (mkD k out).size ≤ out.size + k := by
  intro k
  induction k using Nat.strongRecOn with
  | ind k ih =>
    intro out
    unfold mkD
    split
    · omega
    · have := ih (k / 10) (by omega) (⟨#[48 + UInt8.ofNat (k % 10)]⟩ ++ out)
      rw [ByteArray.size_append] at this
      have h1 : (⟨#[48 + UInt8.ofNat (k % 10)]⟩ : ByteArray).size = 1 := rfl
      omega
theorem byte_str (w : World) (x : Int) (h0 : 0 ≤ x) (h1 : x < 256) :
    (convert 141 9 (.slice (some ⟨w.heap.size, 0, none⟩) 1 1)).run Tryz.prog (w.alloc (.cells #[.int .u8 x] 5)) = .ok (.string ⟨#[UInt8.ofNat x.toNat]⟩) (w.alloc (.cells #[.int .u8 x] 5)) := by
  refine run_convert_bytes_back (P := Tryz.prog) (w.alloc (.cells #[.int .u8 x] 5)) 141 9 5 ⟨w.heap.size, 0, none⟩ 1 [UInt8.ofNat x.toNat] Tryz.underlying141 Tryz.underlying5 Tryz.underlying9 (fun j hj => ?_)
  obtain rfl : j = 0 := by simpa using hj
  have e : ((UInt8.ofNat x.toNat).toNat : Int) = x := by
    rw [UInt8.toNat_ofNat']; omega
  simp only [List.getElem_cons_zero, e]
  simp [go_sem, Addr.add]

set_option maxRecDepth 20000 in
set_option maxHeartbeats 1000000 in
theorem mark_any (k : Int) (w : World) (hk : k ≤ 9000000000000) :
    Calls Tryz.prog 44 #[.int .i64 k] w fun e w' => e = .returned (.string (mkB k)) ∧ Below w.heap.size w w' := by
  by_cases h0 : k ≤ 0
  · have HV : Hid (mkB k = ⟨#[109, 48]⟩) := by show _ = _; rw [mkB, if_pos h0]
    go_enter Tryz.func44, Tryz.ntmps44
    go_wp2_with fail
    go_ret
    exact ⟨by rw [HV.out]; rfl, Below.refl _ _⟩
  obtain ⟨K, rfl⟩ : ∃ K : Nat, k = (K : Int) := ⟨k.toNat, by omega⟩
  have HV : Hid (mkB K = ⟨#[109]⟩ ++ mkD K ⟨#[]⟩) := by show _ = _; rw [mkB, if_neg h0]; rfl
  have Hz : Hid ((mkD K ⟨#[]⟩).size ≤ K) := by
    show _ ≤ _
    have := mkD_size K ⟨#[]⟩
    have h1 : (⟨#[]⟩ : ByteArray).size = 0 := rfl
    omega
  go_enter Tryz.func44, Tryz.ntmps44
  go_wp2_with fail
  go_loopw [0, 3] (fun kk o w' => ∃ (n : Nat) (s : ByteArray), kk = .int .i64 (n : Int) ∧ o = .string s ∧ mkD n s = mkD K ⟨#[]⟩ ∧ s.size + n ≤ K ∧ Below w.heap.size w w') (fun kk _ _ => (intOf kk).toNat)
  case atStart => exact ⟨K, ⟨#[]⟩, rfl, rfl, rfl, Nat.le_of_eq (Nat.zero_add _), Below.refl _ _⟩
  case round =>
    obtain ⟨n, s, rfl, rfl, hm, hs, hB⟩ := hrel
    have Hm : Hid (mkD n s = mkD K ⟨#[]⟩) := hm
    clear hm
    by_cases hn : n = 0
    · subst hn
      go_wp2_with fail
      go_ret
      have h9 := Hm.out
      unfold mkD at h9
      rw [if_pos rfl] at h9
      refine ⟨?_, hB⟩
      rw [HV.out]
      unfold mkD
      rw [← h9]; rfl
    · have hcv := byte_str wr (48 + (n : Int) % 10) (by omega) (by omega)
      have He : Hid (mkD n s = mkD (n / 10) (⟨#[48 + UInt8.ofNat (n % 10)]⟩ ++ s)) := by
        show _ = _
        rw [mkD, if_neg hn]
      go_wp2_with fail
      refine ⟨⟨n / 10, ⟨#[48 + UInt8.ofNat (n % 10)]⟩ ++ s, by rw [Int.natCast_ediv]; rfl, rfl, by rw [← He.out]; exact Hm.out, ?_, hB.alloc hB.size _⟩, by simp only [intOf]; omega⟩
      rw [ByteArray.size_append]
      have h1 : (⟨#[48 + UInt8.ofNat (n % 10)]⟩ : ByteArray).size = 1 := rfl
      omega
end Go.Proofs.YtkapodkidlgkjafGreatDoor
