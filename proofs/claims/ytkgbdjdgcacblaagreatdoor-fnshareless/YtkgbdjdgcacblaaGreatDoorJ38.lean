/- The program's walk of ShareFits (chapter 12). -/
import Derived.Test.YtkgbdjdgcacblaaGreatDoorKp7
import Derived.Test.YtkgbdjdgcacblaaGreatDoorJ4
namespace Go.Proofs.YtkgbdjdgcacblaaGreatDoor
open Go.RowKit

/-- The table says who is gone. -/
def GoneIs (ts : List Tr) (gone : List ByteArray) : Prop := ∀ (i : Nat) (p : Tr), ts[i]? = some p → p.2 = memS gone p.1.nm
theorem memS_snoc (l : List ByteArray) (s t : ByteArray) : memS (l ++ [s]) t = (memS l t || (s.toList == t.toList)) := by simp [memS]
theorem gone_step {bs : List Ba} (ha : Asc (nms bs)) {ts : List Tr} (h : ts.map (·.1) = bs) {gone : List ByteArray} (hG : GoneIs ts gone) {n : Nat} {p : Tr} (hp : ts[n]? = some p) : GoneIs (ts.set n (p.1, true)) (gone ++ [p.1.nm]) := fun i q hq => by
  rw [memS_snoc]
  by_cases e : n = i
  · subst e
    rw [List.getElem?_set, if_pos rfl, if_pos (List.getElem?_eq_some_iff.1 hp).1] at hq
    obtain rfl := Option.some.inj hq
    simp
  · rw [List.getElem?_set, if_neg e] at hq
    rw [hG i q hq]
    have : (p.1.nm.toList == q.1.nm.toList) = false := by
      rw [← Bool.not_eq_true, beq_iff_eq]
      intro h1
      refine e (asc_ne ha (a := p.1.nm) ?_ ?_)
      · rw [nms, List.getElem?_map, map_at h hp]; rfl
      · rw [nms, List.getElem?_map, map_at h hq, toL_eq h1]; rfl
    rw [this, Bool.or_false]
theorem set_fst {bs : List Ba} {ts : List Tr} (h : ts.map (·.1) = bs) {n : Nat} {p : Tr} (hp : ts[n]? = some p) : (ts.set n (p.1, true)).map (·.1) = bs := by
  rw [List.map_set, h]
  have := map_at h hp
  obtain ⟨hn, e⟩ := List.getElem?_eq_some_iff.1 this
  show bs.set n p.1 = bs
  rw [← e, List.set_getElem_self]
theorem row_at {bs : List Ba} {ts : List Tr} (h : ts.map (·.1) = bs) {n : Nat} (hn : n < bs.length) : ∃ p, ts[n]? = some p ∧ p.1 = bs[n] := by
  have hl : n < ts.length := by rw [← h] at hn; simpa using hn
  refine ⟨ts[n], List.getElem?_eq_getElem hl, ?_⟩
  have := map_at h (List.getElem?_eq_getElem hl)
  rw [List.getElem?_eq_getElem hn] at this
  exact (Option.some.inj this).symm
theorem gone_none (bs : List Ba) (k : Nat) : GoneIs (ts0 bs k) [] := fun i p hp => by
  rw [ts0, List.getElem?_map, Option.map_eq_some_iff] at hp
  obtain ⟨x, _, rfl⟩ := hp
  rfl
end Go.Proofs.YtkgbdjdgcacblaaGreatDoor

/- The program's first that can (chapter 12). -/
namespace Go.Proofs.YtkgbdjdgcacblaaGreatDoor
open Go.RowKit

theorem good_tab {b : Bk} (hok : BookOk b) {ts : List Tr} (h : ts.map (·.1) = b.bs) {gone : List ByteArray} (hG : GoneIs ts gone) {a : Nat} {p : Tr} (hp : ts[a]? = some p) :
    (!p.2 && decide (bitsN b.things (memS p.1.needs) &&& (18446744073709551615 - (bitsN b.things (freeL ts) + bitsN b.things (memS p.1.has))) = 0)) = true ↔ Good b.bs gone a := by
  have hb := map_at h hp
  rw [Bool.and_eq_true, Bool.not_eq_true', decide_eq_true_eq]
  constructor
  · rintro ⟨h1, h2⟩
    exact ⟨p.1, hb, by rw [← hG a p hp]; exact h1, (can_tab hok h hG hp h1).1 h2⟩
  · rintro ⟨x, hx, h1, h2⟩
    rw [hb] at hx
    obtain rfl := Option.some.inj hx
    have h3 : p.2 = false := by rw [hG a p hp]; exact h1
    exact ⟨h3, (can_tab hok h hG hp h3).2 h2⟩

set_option maxHeartbeats 2000000 in
theorem first_any (tb : Nat) (b : Bk) (ts : List Tr) (gone : List ByteArray) (w : World) (h : Tab w tb b.things ts) (hok : BookOk b) (hm : ts.map (·.1) = b.bs) (hG : GoneIs ts gone) :
    Calls Tryz.prog 53 #[.pointer (some ⟨tb, 0, none⟩)] w fun e w' => ((∃ k : Nat, e = .returned (.tuple #[.int .i64 k, .bool true]) ∧ NextIs b.bs gone (k : Int)) ∨ (e = .returned (.tuple #[.int .i64 0, .bool false]) ∧ NextIs b.bs gone (-1))) ∧ Below w.heap.size w w' := by
  have hT := h
  obtain ⟨rv, hC, hown⟩ := h
  have h8 := hok.1.1
  have hlb : ts.length = b.bs.length := by rw [← hm]; simp
  have h5 : ts.length ≤ 5 := by have := hok.2.1; omega
  have Hlb : Hid (ts.length = b.bs.length) := hlb
  have HG : Hid (∀ (a : Nat) (p : Tr), ts[a]? = some p → ((!p.2 && decide (bitsN b.things (memS p.1.needs) &&& (18446744073709551615 - (bitsN b.things (freeL ts) + bitsN b.things (memS p.1.has))) = 0)) = true ↔ Good b.bs gone a)) := fun a p hp => good_tab hok hm hG hp
  obtain ⟨rva, rvc, rfl⟩ : ∃ a c, rv = .slice a ts.length c := by
    rcases hown.2 with ⟨h0, h1⟩ | ⟨g, cap, _, hv, _⟩
    · exact ⟨none, 0, by rw [h0, h1]⟩
    · exact ⟨_, cap, hv⟩
  obtain ⟨t0, t1⟩ := hC.c2'
  clear hC hown hlb hok hm hG
  go_enter Tryz.func53, Tryz.ntmps53
  go_wp2_with fail
  go_loopw [4, 10] (fun _ i w' => ∃ k : Nat, k ≤ ts.length ∧ i = .int .i64 k ∧ (∀ j, j < k → ¬ Good b.bs gone j) ∧ Below w.heap.size w w') (fun _ i _ => ts.length - (intOf i).toNat)
  case atStart => exact ⟨0, by omega, rfl, fun j hj => by omega, Below.refl _ _⟩
  case round =>
    obtain ⟨k, hk, rfl, hal, hB⟩ := hrel
    have Hal : Hid (∀ j, j < k → ¬ Good b.bs gone j) := hal
    clear hal
    by_cases hp : k < ts.length
    · have hpk := List.getElem?_eq_getElem hp
      have HI := HG.out k _ hpk
      have HI' : Hid ((!(ts[k]).2 && decide (bitsN b.things (memS (ts[k]).1.needs) &&& (18446744073709551615 - (bitsN b.things (freeL ts) + bitsN b.things (memS (ts[k]).1.has))) = 0)) = true ↔ Good b.bs gone k) := HI
      clear HI
      go_wp2_with fail
      refine (can_any tb k b.things ts _ _ (hT.up hB) h8 hpk h5).mono ?_
      rintro e w2 ⟨rfl, hb2⟩
      have hB2 := up_trans hB hb2
      clear hB hb2
      revert HI'
      generalize (!(ts[k]).2 && decide (bitsN b.things (memS (ts[k]).1.needs) &&& (18446744073709551615 - (bitsN b.things (freeL ts) + bitsN b.things (memS (ts[k]).1.has))) = 0)) = cb
      intro HI'
      cases cb
      · have Hs : Hid (∀ j, j < k + 1 → ¬ Good b.bs gone j) := goodTo_step Hal.out fun h => by have := HI'.out.2 h; cases this
        clear HI' HG
        go_wp2_with fail
        go_roundw
        case rel => exact ⟨k + 1, by omega, by go_num, Hs.out, hB2⟩
        case measure => simp [intOf]; omega
      · have Hs : Hid (NextIs b.bs gone (k : Int)) := .inr ⟨k, rfl, by have := Hlb.out; omega, HI'.out.1 rfl, Hal.out⟩
        clear HI' HG
        go_wp2_with fail
        go_returns
        exact ⟨.inl ⟨k, rfl, Hs.out⟩, hB2⟩
    · have Hs : Hid (NextIs b.bs gone (-1)) := .inl ⟨rfl, fun j hj => Hal.out j (by have := Hlb.out; omega)⟩
      go_wp2_with fail
      go_returns
      exact ⟨.inr ⟨rfl, Hs.out⟩, hB⟩
end Go.Proofs.YtkgbdjdgcacblaaGreatDoor
