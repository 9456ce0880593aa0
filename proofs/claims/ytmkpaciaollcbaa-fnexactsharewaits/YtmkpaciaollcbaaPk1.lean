/- The names of those who are noted: what picked does behind shareNoted (chapter 14). -/
import Derived.Test.YtmkpaciaollcbaaJ17
namespace Go.Proofs.Ytmkpaciaollcbaa
open Go.RowKit

/-- Of a list's first k those whose place is noted. -/
def pk (hb : Nat → Bool) (l : List ByteArray) : Nat → List ByteArray
  | 0 => []
  | k + 1 => pk hb l k ++ if hb k = true then [l.getD k ByteArray.empty] else []
theorem pk_congr {hb hb' : Nat → Bool} (l : List ByteArray) : ∀ n, (∀ k, k < n → hb k = hb' k) → pk hb l n = pk hb' l n
  | 0, _ => rfl
  | n + 1, h => by rw [pk, pk, pk_congr l n fun k hk => h k (by omega), h n (by omega)]
theorem pk_length (hb : Nat → Bool) (l : List ByteArray) : ∀ n, (pk hb l n).length ≤ n
  | 0 => by simp [pk]
  | n + 1 => by have := pk_length hb l n; rw [pk, List.length_append]; split <;> simp <;> omega
theorem pk_mem {hb : Nat → Bool} {l : List ByteArray} : ∀ {n : Nat}, n ≤ l.length → ∀ s ∈ pk hb l n, s ∈ l
  | 0, _, s, h => by simp [pk] at h
  | n + 1, hn, s, h => by
    rw [pk, List.mem_append] at h
    rcases h with h | h
    · exact pk_mem (by omega) s h
    · split at h
      · simp at h; subst h; rw [List.getElem?_eq_getElem (by omega)]; exact List.getElem_mem _
      · simp at h

noncomputable def bodyP : Code := Try.f24.body.getD .skip
theorem bit_u32 {s : Nat} (hs : s < 4294967296) (k : Nat) : (bits .and .u32 ((s : Int) / 2 ^ k) 1 == 1) = s.testBit k := by
  have h1 : ((s : Int) / 2 ^ k) = ((s / 2 ^ k : Nat) : Int) := by simp
  have h2 : s / 2 ^ k < 4294967296 := Nat.lt_of_le_of_lt (Nat.div_le_self _ _) hs
  rw [h1, show (1 : Int) = ((1 : Nat) : Int) from rfl, u32_and_nat _ _ h2 (by omega), Nat.and_one_is_mod, Nat.testBit_eq_decide_div_mod_eq]
  rw [Bool.eq_iff_iff]
  simp only [beq_iff_eq, decide_eq_true_eq]
  omega

/-- What comes behind the noting. -/
noncomputable def RP : Code := match bodyP with | .seq _ (.seq _ r) => r | _ => .skip

set_option maxRecDepth 20000 in
set_option maxHeartbeats 4000000 in
theorem pickTail (tb : Nat) (things : List ByteArray) (ts : List Tr) (s : Nat) (fv : Value) (x9 x10 x11 x12 x13 x14 x15 : Value) (w : World) (h : Tab w tb things ts) (h5 : ts.length ≤ 5) (hs : s < 4294967296) {R : Value → World → Prop} (HR : Hid (∀ v w', OwnT w' w.heap.size v (pk (fun k => s.testBit k) (ts.map (·.1.nm)) ts.length) → Below w.heap.size w w' → R v w')) :
    RP.wp Try.prog (bodyPost Try.prog Try.f24 fun e w' => ∃ v, e = .returned v ∧ R v w')
      ⟨#[.pointer (some ⟨tb, 0, none⟩), fv, undef, undef, .slice none 0 0, .int .u32 s, undef, undef, undef, x9, x10, x11, x12, x13, x14, x15, undef, undef, undef, undef, undef, undef, undef, undef, undef, undef, undef, undef, undef, undef, undef, undef, undef, undef, undef, undef, undef, undef], []⟩ w := by
  obtain ⟨rv, hC, hown⟩ := h
  obtain ⟨t0, t1⟩ := hC.c2'
  obtain ⟨ii, hi, iz0, iz1, iz2⟩ := info_parts infoStr
  have htl := hC.2.2
  obtain ⟨ra, rc, rfl⟩ : ∃ ra rc, rv = .slice ra ts.length rc := by
    rcases hown.2 with ⟨h0, h1⟩ | ⟨g, cap, cur, hv, _⟩
    · exact ⟨none, 0, by rw [h0, h1]⟩
    · exact ⟨_, _, hv⟩
  simp only [RP, bodyP, Try.f24, Option.getD_some]
  go_wp2_with fail
  go_loopw [6, 7, 8, 21] (fun u _ _ i w' => ∃ k : Nat, k ≤ ts.length ∧ i = .int .i64 k ∧ OwnT w' w.heap.size u (pk (fun k => s.testBit k) (ts.map (·.1.nm)) k) ∧ Below w.heap.size w w') (fun _ _ _ i _ => ts.length - (intOf i).toNat)
  case atStart => exact ⟨0, by omega, rfl, ⟨by simp [pk], .inl ⟨rfl, rfl⟩⟩, Below.refl _ _⟩
  case round =>
    obtain ⟨k, hk, rfl, hown2, hB⟩ := hrel
    by_cases hp : k < ts.length
    · obtain ⟨p, hpt⟩ : ∃ p, ts[k]? = some p := ⟨_, List.getElem?_eq_getElem hp⟩
      obtain ⟨g, cap, hv⟩ := own_ptr2 hown (by omega)
      cases hv
      obtain ⟨r0, r1, r2, r3⟩ := row_cells (own_up hown hB) hpt
      have Hn : Hid ((ts.map (·.1.nm)).getD k ByteArray.empty = p.1.nm) := by
        show _ = _
        rw [List.getD_eq_getElem?_getD, List.getElem?_map, hpt]; rfl
      have Hl := pk_length (fun k => s.testBit k) (ts.map (·.1.nm)) k
      generalize p.1.nm = nm at *
      generalize bitsN things (memS p.1.has) = hb at *
      generalize bitsN things (memS p.1.needs) = nb at *
      generalize p.2 = gone at *
      obtain ⟨W1, hW1, kX, hB1, hs1⟩ : ∃ W1, wr.alloc (.cells #[.string nm, .int .u64 (hb : Nat), .int .u64 (nb : Nat), .bool gone] 59) = W1 ∧ CB W1 wr.heap.size [.string nm, .int .u64 (hb : Nat), .int .u64 (nb : Nat), .bool gone] ∧ Below wr.heap.size wr W1 ∧ W1.heap.size = wr.heap.size + 1 := ⟨_, rfl, cb1 wr _ _⟩
      clear hown hC t0 t1
      go_upto_region 6 with fail
      try rw [hW1]
      clear hW1 r0 r1 r2 r3
      have hneg : ¬ ((k : Int) < 0) := by omega
      have hbit := bit_u32 hs k
      have HB1 : Hid (Below w.heap.size w W1) := hB.trans (hB1.mono hB.size)
      have hown1 : OwnT W1 w.heap.size u6 (pk (fun k => s.testBit k) (ts.map (·.1.nm)) k) := OwnT.up hown2 hB1
      clear hown2
      cases ht : s.testBit k with
      | false =>
        rw [ht] at hbit
        have Hpk : Hid (pk (fun k => s.testBit k) (ts.map (·.1.nm)) (k + 1) = pk (fun k => s.testBit k) (ts.map (·.1.nm)) k) := by
          show _ = _
          rw [pk]; simp [ht]
        clear ht
        go_wp2_with fail
        go_roundw
        case rel => exact ⟨k + 1, by omega, by go_num, by rw [Hpk.out]; exact hown1, HB1.out⟩
        case measure => simp [intOf]; omega
      | true =>
        rw [ht] at hbit
        have Hpk : Hid (pk (fun k => s.testBit k) (ts.map (·.1.nm)) (k + 1) = pk (fun k => s.testBit k) (ts.map (·.1.nm)) k ++ [nm]) := by
          show _ = _
          rw [pk]; simp only [ht, if_true]; rw [Hn.out]
        clear ht Hn
        clear hs1
        have e0 := kX.1 0 _ rfl
        generalize pk (fun k => s.testBit k) (ts.map (·.1.nm)) k = pl at *
        have hown3 := own_up hown1 ((Below.refl W1.heap.size W1).alloc (Nat.le_refl _) (.cells #[.string nm] 9))
        have HB2 : Hid (Below w.heap.size w (W1.alloc (.cells #[.string nm] 9))) := HB1.out.alloc HB1.out.size (.cells #[.string nm] 9)
        go_wp2_with (at_builtin; refine wpList_append_own _ rfl _ _ 22 rfl w.heap.size 9 ii _ 1 16 Try.underlying22 hi iz0 iz1 iz2 rfl (by decide) _ _ _ rfl hown3 ⟨W1.heap.size, 0, none⟩ 1 1 [.string nm] rfl rfl (one_new _ _ _) (oneV _) (by unfold maxLen; omega) (by omega) HB2.out.size ?_)
        intro v1 w1 hown4 hgrow4 _
        have HB3 : Hid (Below w.heap.size w w1) := below_own HB2.out hown3 hgrow4 (Nat.le_refl _)
        clear hown1 hown3 hgrow4 e0 kX
        have Ho4 : Hid (OwnT w1 w.heap.size v1 (pk (fun k => s.testBit k) (ts.map (·.1.nm)) (k + 1))) := by
          show OwnT _ _ _ _
          rw [Hpk.out]; unfold OwnT; rw [List.length_append, List.map_append]; exact hown4
        clear hown4
        go_wp2_with fail
        go_roundw
        case rel => exact ⟨k + 1, by omega, by go_num, Ho4.out, HB3.out⟩
        case measure => simp [intOf]; omega
    · have Ho : Hid (∀ u, OwnT wr w.heap.size u (pk (fun k => s.testBit k) (ts.map (·.1.nm)) k) → OwnT wr w.heap.size u (pk (fun k => s.testBit k) (ts.map (·.1.nm)) ts.length)) := fun u h => by
        obtain rfl : k = ts.length := by omega
        exact h
      go_wp2_with fail
      go_ret
      exact ⟨_, rfl, HR.out _ _ (Ho.out _ hown2) hB⟩
end Go.Proofs.Ytmkpaciaollcbaa
