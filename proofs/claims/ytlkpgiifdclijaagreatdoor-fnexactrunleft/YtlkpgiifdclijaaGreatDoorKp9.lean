/- The program's first that can (chapter 12). -/
import Derived.Test.YtlkpgiifdclijaaGreatDoorJ23
import Derived.Test.YtlkpgiifdclijaaGreatDoorJ2
namespace Go.Proofs.YtlkpgiifdclijaaGreatDoor
open Go.RowKit

theorem good_tab {b : Bk} (hok : BookOk b) {ts : List Tr} (h : ts.map (·.1) = b.bs) {gone : List ByteArray} (hG : GoneIs ts gone) {a : Nat} {p : Tr} (hp : ts[a]? = some p) :
    (!p.2 && decide (bitsN b.things (memS p.1.needs) &&& (18446744073709551615 - (bitsN b.things (freeL ts) + bitsN b.things (memS p.1.has))) = 0)) = true ↔ Good b.bs gone a := by
  have hb := map_at h hp
  rw [Bool.and_eq_true, Bool.not_eq_true', decide_eq_true_eq]
  constructor
  · rintro ⟨h1, h2⟩
    exact ⟨p.1, hb, by rw [← hG a p hp]; exact h1, (can_tab hok h hG hp h1).1 h2⟩
  · rintro ⟨x, hx, h1, h2⟩
    rw [hb] at hx
    obtain rfl := Option.some.inj hx
    have h3 : p.2 = false := by rw [hG a p hp]; exact h1
    exact ⟨h3, (can_tab hok h hG hp h3).2 h2⟩

set_option maxHeartbeats 2000000 in
theorem first_any (tb : Nat) (b : Bk) (ts : List Tr) (gone : List ByteArray) (w : World) (h : Tab w tb b.things ts) (hok : BookOk b) (hm : ts.map (·.1) = b.bs) (hG : GoneIs ts gone) :
    Calls Tryz.prog 158 #[.pointer (some ⟨tb, 0, none⟩)] w fun e w' => ((∃ k : Nat, e = .returned (.tuple #[.int .i64 k, .bool true]) ∧ NextIs b.bs gone (k : Int)) ∨ (e = .returned (.tuple #[.int .i64 0, .bool false]) ∧ NextIs b.bs gone (-1))) ∧ Below w.heap.size w w' := by
  have hT := h
  obtain ⟨rv, hC, hown⟩ := h
  have h8 := hok.1.1
  have hlb : ts.length = b.bs.length := by rw [← hm]; simp
  have h5 : ts.length ≤ 5 := by have := hok.2.1; omega
  have Hlb : Hid (ts.length = b.bs.length) := hlb
  have HG : Hid (∀ (a : Nat) (p : Tr), ts[a]? = some p → ((!p.2 && decide (bitsN b.things (memS p.1.needs) &&& (18446744073709551615 - (bitsN b.things (freeL ts) + bitsN b.things (memS p.1.has))) = 0)) = true ↔ Good b.bs gone a)) := fun a p hp => good_tab hok hm hG hp
  obtain ⟨rva, rvc, rfl⟩ : ∃ a c, rv = .slice a ts.length c := by
    rcases hown.2 with ⟨h0, h1⟩ | ⟨g, cap, _, hv, _⟩
    · exact ⟨none, 0, by rw [h0, h1]⟩
    · exact ⟨_, cap, hv⟩
  obtain ⟨t0, t1⟩ := hC.c2'
  clear hC hown hlb hok hm hG
  go_enter Tryz.func158, Tryz.ntmps158
  go_wp2_with fail
  go_loopw [4, 10] (fun _ i w' => ∃ k : Nat, k ≤ ts.length ∧ i = .int .i64 k ∧ (∀ j, j < k → ¬ Good b.bs gone j) ∧ Below w.heap.size w w') (fun _ i _ => ts.length - (intOf i).toNat)
  case atStart => exact ⟨0, by omega, rfl, fun j hj => by omega, Below.refl _ _⟩
  case round =>
    obtain ⟨k, hk, rfl, hal, hB⟩ := hrel
    have Hal : Hid (∀ j, j < k → ¬ Good b.bs gone j) := hal
    clear hal
    by_cases hp : k < ts.length
    · have hpk := List.getElem?_eq_getElem hp
      have HI := HG.out k _ hpk
      have HI' : Hid ((!(ts[k]).2 && decide (bitsN b.things (memS (ts[k]).1.needs) &&& (18446744073709551615 - (bitsN b.things (freeL ts) + bitsN b.things (memS (ts[k]).1.has))) = 0)) = true ↔ Good b.bs gone k) := HI
      clear HI
      go_wp2_with fail
      refine (can_any tb k b.things ts _ _ (hT.up hB) h8 hpk h5).mono ?_
      rintro e w2 ⟨rfl, hb2⟩
      have hB2 := up_trans hB hb2
      clear hB hb2
      revert HI'
      generalize (!(ts[k]).2 && decide (bitsN b.things (memS (ts[k]).1.needs) &&& (18446744073709551615 - (bitsN b.things (freeL ts) + bitsN b.things (memS (ts[k]).1.has))) = 0)) = cb
      intro HI'
      cases cb
      · have Hs : Hid (∀ j, j < k + 1 → ¬ Good b.bs gone j) := goodTo_step Hal.out fun h => by have := HI'.out.2 h; cases this
        clear HI' HG
        go_wp2_with fail
        go_roundw
        case rel => exact ⟨k + 1, by omega, by go_num, Hs.out, hB2⟩
        case measure => simp [intOf]; omega
      · have Hs : Hid (NextIs b.bs gone (k : Int)) := .inr ⟨k, rfl, by have := Hlb.out; omega, HI'.out.1 rfl, Hal.out⟩
        clear HI' HG
        go_wp2_with fail
        go_returns
        exact ⟨.inl ⟨k, rfl, Hs.out⟩, hB2⟩
    · have Hs : Hid (NextIs b.bs gone (-1)) := .inl ⟨rfl, fun j hj => Hal.out j (by have := Hlb.out; omega)⟩
      go_wp2_with fail
      go_returns
      exact ⟨.inr ⟨rfl, Hs.out⟩, hB⟩
end Go.Proofs.YtlkpgiifdclijaaGreatDoor
