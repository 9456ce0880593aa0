/- The law of promise 13 on who has what: its walk. -/
import Derived.Test.YthpcadlohahblabDnc
import Derived.Test.YthpcadlohahblabKs3
import Derived.Test.YthpcadlohahblabP1
namespace Go.Proofs.Ythpcadlohahblab
open Go.RowKit

theorem whHas_any (ss : List ByteArray) (v : Value) (s : ByteArray) (w : World) (h : Ls w v ss) :
    Calls Try.prog 19 #[v, .string s] w fun e w' => e = .returned (.bool (memS ss s)) ∧ w' = w := by
  obtain ⟨a, c, rfl, hn, -, hpos⟩ := h
  unfold maxLen at hn
  go_enter Try.func19, Try.ntmps19
  go_wp2
  go_loop [5] (fun i => ∃ k : Nat, k ≤ ss.length ∧ i = .int .i64 k ∧ memS (ss.take k) s = false) (fun i => ss.length - (intOf i).toNat)
  case atStart => exact ⟨0, by omega, rfl, rfl⟩
  case round =>
    obtain ⟨k, hk, rfl, hal⟩ := hrel
    have Hal : Hid (memS (ss.take k) s = false) := hal
    clear hal
    by_cases hp : k < ss.length
    · obtain ⟨b, o, rfl, hS, hb⟩ := hpos (by omega)
      have c0 := hS.cell hp
      cases hq : ((ss[k]).toList == s.toList)
      · have Hq : Hid (memS (ss.take (k + 1)) s = false) := memS_take hp Hal.out hq
        go_wp2
        go_round
        case rel => exact ⟨k + 1, by omega, by go_num, Hq.out⟩
        case measure => simp [intOf]; omega
      · have Hq : Hid (memS ss s = true) := memS_found hp hq
        go_wp2
        go_ret
        exact ⟨ret_bool Hq.out.symm, rfl⟩
    · have Hq : Hid (memS ss s = false) := memS_all hp Hal.out
      go_wp2
      go_ret
      exact ⟨ret_bool Hq.out.symm, rfl⟩
/-- How many have a thing so far. -/
def HadTo (bs : List Ba) (s : ByteArray) (k : Nat) (n : Int) : Prop := (n = 0 ∧ FreeTo bs s k) ∨ (n = 1 ∧ ∃ j, ∃ x, j < k ∧ bs[j]? = some x ∧ memS x.has s = true)
theorem had_one {bs : List Ba} {s : ByteArray} {k : Nat} {n : Int} (ha : Apart bs) (h : HadTo bs s k n) (hk : k < bs.length) (hm : memS (bs[k]).has s = true) : n = 0 ∧ FreeTo bs s k := by
  rcases h with h | ⟨-, j, x, hj, hx, hs⟩
  · exact h
  · exfalso
    obtain ⟨hj', rfl⟩ := List.getElem?_eq_some_iff.1 hx
    have := Apart.at ha hk hj
    rw [shareB_no] at this
    exact this s ((memS_iff _ _).1 hm) ((memS_iff _ _).1 hs)
theorem had_no {bs : List Ba} {s : ByteArray} {k : Nat} {n : Int} (h : HadTo bs s k n) (hk : k < bs.length) (hm : memS (bs[k]).has s = false) : HadTo bs s (k + 1) n := by
  rcases h with ⟨h0, h⟩ | ⟨h1, j, x, hj, hx, hs⟩
  · exact .inl ⟨h0, h.step hk hm⟩
  · exact .inr ⟨h1, j, x, by omega, hx, hs⟩

set_option maxRecDepth 20000 in
set_option maxHeartbeats 4000000 in
theorem lawShareWho_any (a : Option Addr) (n cap : Nat) (w : World) (h : BytesAt w w.heap.size (.slice a n cap) n) (hcap : n ≤ cap) (hbig : cap ≤ maxLen) :
    Calls Try.prog 4 #[.slice a n cap] w fun e' w' => e' = .returned (.bool true) ∧ Below w.heap.size w w' := by
  by_cases hn : 1048576 < n
  · go_enter Try.func4, Try.ntmps4
    go_wp2_with fail
    go_ret
    exact ⟨rfl, Below.refl _ _⟩
  go_enter Try.func4, Try.ntmps4
  go_wp2_with fail
  refine (drawWho_any a n cap _ h hcap hbig).mono ?_
  rintro e w1 ⟨⟨u, b, s, rfl, hD, hsz⟩, hB1⟩
  obtain ⟨a1, c1, a2, c2, rfl⟩ := hD.parts
  have Hsz : Hid (s.size ≤ maxLen) := hsz
  clear hsz
  go_upto_region 4 with fail
  obtain ⟨W2, hW2, kX, hb2, hs2⟩ : ∃ W2, w1.alloc (.cells #[.slice a1 b.things.length c1, .slice a2 b.bs.length c2] 26) = W2 ∧ CB W2 w1.heap.size [.slice a1 b.things.length c1, .slice a2 b.bs.length c2] ∧ Below w1.heap.size w1 W2 ∧ W2.heap.size = w1.heap.size + 1 := ⟨_, rfl, cb1 w1 _ _⟩
  try rw [hW2]
  have hB2 := up_trans hB1 hb2
  have hk := hD.bk.up hb2
  clear hW2 hb2 hs2 hD hB1
  generalize w1.heap.size = q at *
  obtain ⟨z0, z1⟩ := kX.c2'
  go_wp2_with fail
  refine (who_any b _ s _ hk Hsz.out).mono ?_
  rintro e w3 ⟨rfl, hb3⟩
  have hB3 := up_trans hB2 hb3
  have kX := kX.up hb3 kX.2.2
  have hk := hk.up hb3
  clear z0 z1 hb3 hB2
  obtain ⟨z0, z1⟩ := kX.c2'
  go_wp2_with fail
  refine (specWho_any b _ s _ hk).mono ?_
  rintro e w4 ⟨rfl, hb4⟩
  have hB4 := up_trans hB3 hb4
  have kX := kX.up hb4 kX.2.2
  have hk := hk.up hb4
  clear z0 z1 hb4 hB3
  obtain ⟨z0, z1⟩ := kX.c2'
  go_wp2_with fail
  refine (specBook_any b _ _ hk).mono ?_
  rintro e w5 ⟨rfl, hb5⟩
  have hB5 := up_trans hB4 hb5
  have kX := kX.up hb5 kX.2.2
  have hk := hk.up hb5
  clear z0 z1 hb5 hB4
  obtain ⟨z0, z1⟩ := kX.c2'
  cases hok : bookB b
  · have hw0 : whoS b s = ⟨#[]⟩ := whoS_no hok
    go_wp2_with fail
    refine (specWho_any b _ s _ hk).mono ?_
    rintro e w6 ⟨rfl, hb6⟩
    have hB6 := up_trans hB5 hb6
    clear z0 z1 hb6
    rw [hw0]
    clear hw0
    go_wp2_with fail
    go_ret
    exact ⟨rfl, hB6⟩
  have HO : Hid (BookOk b) := book_ok hok
  have HW : Hid (whoS b s = whoB b.bs s) := whoS_yes hok
  rw [HW.out]
  clear hok HW
  obtain ⟨-, hpos⟩ := hk.bsOf.at
  have hn5 : b.bs.length ≤ 5 := HO.out.2.1
  go_wp2_with fail
  go_loopw [6, 7] (fun c i w' => ∃ (k : Nat) (m : Int), k ≤ b.bs.length ∧ i = .int .i64 k ∧ c = .int .i64 m ∧ HadTo b.bs s k m ∧ Below w5.heap.size w5 w') (fun _ i _ => b.bs.length - (intOf i).toNat)
  case atStart => exact ⟨0, 0, by omega, rfl, rfl, .inl ⟨rfl, FreeTo.zero _ _⟩, Below.refl _ _⟩
  case round =>
    obtain ⟨k, m, hk', rfl, rfl, hhad, hB⟩ := hrel
    have Hh : Hid (HadTo b.bs s k m) := hhad
    clear hhad
    have z0 := (hB.cell (p := ⟨q, 0, none⟩) kX.2.2).trans z0
    have z1 := (hB.cell (p := ⟨q, 1, none⟩) kX.2.2).trans z1
    by_cases hp : k < b.bs.length
    · obtain ⟨bb, o, rfl, hS, hb⟩ := hpos (by omega)
      obtain ⟨a3, d3, a4, d4, c3, c4, c5, l3, l4, -⟩ := ((hS.at hp).up hB hb).cells
      have HY : Hid (memS (b.bs[k]).has s = true → m = 0 ∧ whoB b.bs s = (b.bs[k]).nm ∧ memS (b.bs[k]).needs s = true ∧ HadTo b.bs s (k + 1) 1) := fun hm => by
        obtain ⟨h0, hf⟩ := had_one HO.out.2.2.2.2.2 Hh.out hp hm
        exact ⟨h0, whoB_at hp hf hm, (memS_iff _ _).2 (part_mem (HO.out.2.2.2.2.1.at hp hp).2.1 ((memS_iff _ _).1 hm)), .inr ⟨rfl, k, b.bs[k], by omega, List.getElem?_eq_getElem hp, hm⟩⟩
      have HN : Hid (memS (b.bs[k]).has s = false → HadTo b.bs s (k + 1) m) := fun hm => had_no Hh.out hp hm
      generalize b.bs[k] = x0 at *
      clear hS
      go_wp2_with fail
      refine (whHas_any x0.has _ s _ l3).mono ?_
      rintro e w' ⟨rfl, hw⟩
      obtain rfl := hw.symm
      clear hw
      cases hm : memS x0.has s
      · have Hm : Hid (HadTo b.bs s (k + 1) m) := HN.out hm
        go_wp2_with fail
        go_roundw
        case rel => exact ⟨k + 1, m, by omega, by go_num, rfl, Hm.out, hB⟩
        case measure => simp [intOf]; omega
      · obtain ⟨rfl, hw, hnd, hhad⟩ := HY.out hm
        have Hm : Hid (HadTo b.bs s (k + 1) 1) := hhad
        have Hnd : Hid (memS x0.needs s = true) := hnd
        have Hw : Hid (whoB b.bs s = x0.nm) := hw
        clear hhad hnd hm HY HN hw
        have hw2 : ((whoB b.bs s).toList == x0.nm.toList) = true := by rw [Hw.out]; simp
        go_wp2_with fail
        refine (whHas_any x0.needs _ s _ l4).mono ?_
        rintro e w' ⟨rfl, hw⟩
        obtain rfl := hw.symm
        clear hw
        rw [Hnd.out]
        go_wp2_with fail
        go_roundw
        case rel => exact ⟨k + 1, 1, by omega, by go_num, by go_num, Hm.out, hB⟩
        case measure => simp [intOf]; omega
    · have Hend : Hid (m = 0 ∧ whoB b.bs s = ⟨#[]⟩ ∨ m = 1) := by
        rcases Hh.out with ⟨h0, hf⟩ | ⟨h1, _⟩
        · exact .inl ⟨h0, whoB_none hp hf⟩
        · exact .inr h1
      have hB6 := up_trans hB5 hB
      rcases Hend.out with ⟨rfl, h2⟩ | rfl
      · rw [h2]
        clear h2
        go_wp2_with fail
        go_ret
        exact ⟨rfl, hB6⟩
      · go_wp2_with fail
        go_ret
        exact ⟨rfl, hB6⟩
end Go.Proofs.Ythpcadlohahblab
