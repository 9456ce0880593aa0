/- The specification's walks of chapter 12: who can, orders that fit. -/
import Derived.Test.YtliebjbbomghiaaGreatDoorJ23
import Derived.Test.YtliebjbbomghiaaGreatDoorJ5
import Derived.Test.YtliebjbbomghiaaGreatDoorJ1
import Derived.Laws.OwnMore
namespace Go.Proofs.YtliebjbbomghiaaGreatDoor
open Go.RowKit


set_option maxHeartbeats 2000000 in
theorem can12_any (b : Bk) (v gv : Value) (at' : Nat) (gone : List ByteArray) (w : World) (h : BkV w v b) (hg : Ls w gv gone) (hat : at' < b.bs.length) :
    Calls Tryz.prog 134 #[v, .int .i64 at', gv] w fun e w' => e = .returned (.bool (pB (Can b.bs at' gone))) ∧ Below w.heap.size w w' := by
  obtain ⟨a1, c1, a2, c2, rfl, h1, h2⟩ := h.parts
  have hC : CB (w.alloc (.cells #[.slice a1 (b).things.length c1, .slice a2 (b).bs.length c2] 95)) w.heap.size [.slice a1 b.things.length c1, .slice a2 b.bs.length c2] := cb_alloc w _ _
  have hB0 := (Below.refl w.heap.size w).alloc (Nat.le_refl _) (.cells #[.slice a1 (b).things.length c1, .slice a2 (b).bs.length c2] 95)
  have g2 := h2.at.1
  unfold maxLen at g2
  go_enter Tryz.func134, Tryz.ntmps134
  go_upto_region 1 with fail
  generalize w.alloc (.cells #[.slice a1 (b).things.length c1, .slice a2 (b).bs.length c2] 95) = W1 at *
  have l2 := h2.up hB0
  have lg := hg.up hB0
  clear h h1 h2 hg
  obtain ⟨e0, e1⟩ := hC.c2'
  obtain ⟨-, hpos⟩ := l2.at
  obtain ⟨bb, o, rfl, hS, hb⟩ := hpos (by omega)
  obtain ⟨a5, d5, a6, d6, -, -, c8, -, l6, -⟩ := (hS.at hat).cells
  go_wp2_with fail
  go_loopw [7] (fun i w' => ∃ k m : Nat, k ≤ b.bs.length ∧ i = .int .i64 k ∧ CanTo b.bs at' gone k ∧ w' = W1.drewN m) (fun i _ => b.bs.length - (intOf i).toNat)
  case atStart => exact ⟨0, 0, by omega, rfl, CanTo.zero _ _ _, rfl⟩
  case round =>
    obtain ⟨k, m, hk, rfl, hal, hw⟩ := hrel
    have Hw : Hid (wr = W1.drewN m) := hw
    have Hal : Hid (CanTo b.bs at' gone k) := hal
    have hBw : Below W1.heap.size W1 wr := by rw [hw]; exact below_drewN (Below.refl _ _) _
    clear hw hal
    have f1 : wr.cell? ⟨w.heap.size, 1, none⟩ = some (.slice (some ⟨bb, o, none⟩) b.bs.length c2) := by rw [Hw.out]; exact e1
    by_cases hp : k < b.bs.length
    · by_cases hka : k = at'
      · subst hka
        have Hs : Hid (CanTo b.bs k gone (k + 1)) := Hal.out.step hp hat (.inl rfl)
        go_wp2_with fail
        go_quiet (fail)
        go_wp2_with fail
        go_roundw
        case rel =>
          obtain ⟨m', hm'⟩ := drew_more (n := nq) Hw.out
          exact ⟨k + 1, m', by omega, by go_num, Hs.out, hm'⟩
        case measure => simp [intOf]; omega
      have hkb : ((k : Int) != (at' : Int)) = true := by rw [bne_iff_ne]; omega
      obtain ⟨a3, d3, a4, d4, c3, c4, -, l3, -, -⟩ := (hS.at hp).cells
      have c3' : wr.cell? ⟨bb, o + k * 3, none⟩ = some (.string (b.bs[k]).nm) := by rw [Hw.out]; exact c3
      have c4' : wr.cell? ⟨bb, o + k * 3 + 1, none⟩ = some (.slice a3 (b.bs[k]).has.length d3) := by rw [Hw.out]; exact c4
      have c8' : wr.cell? ⟨bb, o + at' * 3 + 2, none⟩ = some (.slice a6 (b.bs[at']).needs.length d6) := by rw [Hw.out]; exact c8
      have HY : Hid (memS gone (b.bs[k]).nm = true ∨ shareB (b.bs[k]).has (b.bs[at']).needs = false → CanTo b.bs at' gone (k + 1)) := fun h => Hal.out.step hp hat (.inr h)
      have HN : Hid (memS gone (b.bs[k]).nm = false → shareB (b.bs[k]).has (b.bs[at']).needs = true → ¬ Can b.bs at' gone) := fun h1 h2 => can_no hp hat hka h1 h2
      have R1 : Hid (∀ n, Calls Tryz.prog 119 #[gv, .string (b.bs[k]).nm] (wr.drewN n) fun e w'' => e = .returned (.bool (memS gone (b.bs[k]).nm)) ∧ ∃ m, w'' = wr.drewN m) := fun n => Calls.quiet_of_same (has11_any gone gv _ _ (by have e := Hw.out; subst e; exact lg))
      have R2 : Hid (∀ n, Calls Tryz.prog 109 #[.slice a3 (b.bs[k]).has.length d3, .slice a6 (b.bs[at']).needs.length d6] (wr.drewN n) fun e w'' => e = .returned (.bool (shareB (b.bs[k]).has (b.bs[at']).needs)) ∧ ∃ m, w'' = wr.drewN m) := fun n => Calls.quiet_of_same (share11_any _ _ _ _ _ (by have e := Hw.out; subst e; exact l3) (by have e := Hw.out; subst e; exact l6))
      clear c3 c4 l3
      generalize b.bs[k] = x0 at *
      generalize b.bs[at'] = y0 at *
      obtain ⟨hv, hhv⟩ : ∃ hv, Value.slice a3 x0.has.length d3 = hv := ⟨_, rfl⟩
      obtain ⟨nv, hnv⟩ : ∃ nv, Value.slice a6 y0.needs.length d6 = nv := ⟨_, rfl⟩
      rw [hhv] at c4' R2
      rw [hnv] at c8' R2
      clear hhv hnv
      cases hm : memS gone x0.nm
      case true =>
        have Hs : Hid (CanTo b.bs at' gone (k + 1)) := HY.out (.inl hm)
        have Q1 : Hid (∀ n, Calls Tryz.prog 119 #[gv, .string x0.nm] (wr.drewN n) fun e w'' => e = .returned (.bool true) ∧ ∃ m, w'' = wr.drewN m) := by have := R1.out; rw [hm] at this; exact this
        have q1 := Q1.out
        clear Q1 R1 R2 HY HN
        go_wp2_with fail
        go_quiet ((go_at_call 119; exact q1 _))
        go_wp2_with fail
        go_roundw
        case rel =>
          obtain ⟨m', hm'⟩ := drew_more (n := nq) Hw.out
          exact ⟨k + 1, m', by omega, by go_num, Hs.out, hm'⟩
        case measure => simp [intOf]; omega
      have Q1 : Hid (∀ n, Calls Tryz.prog 119 #[gv, .string x0.nm] (wr.drewN n) fun e w'' => e = .returned (.bool false) ∧ ∃ m, w'' = wr.drewN m) := by have := R1.out; rw [hm] at this; exact this
      cases hs : shareB x0.has y0.needs
      · have Hs : Hid (CanTo b.bs at' gone (k + 1)) := HY.out (.inr hs)
        have Q2 : Hid (∀ n, Calls Tryz.prog 109 #[hv, nv] (wr.drewN n) fun e w'' => e = .returned (.bool false) ∧ ∃ m, w'' = wr.drewN m) := by have := R2.out; rw [hs] at this; exact this
        have q1 := Q1.out
        have q2 := Q2.out
        clear Q1 Q2 R1 R2 HY HN
        go_wp2_with fail
        go_quiet ((first | (go_at_call 119; exact q1 _) | (go_at_call 109; exact q2 _)))
        go_wp2_with fail
        go_roundw
        case rel =>
          obtain ⟨m', hm'⟩ := drew_more (n := nq) Hw.out
          exact ⟨k + 1, m', by omega, by go_num, Hs.out, hm'⟩
        case measure => simp [intOf]; omega
      · have Hs : Hid (¬ Can b.bs at' gone) := HN.out hm hs
        have Q2 : Hid (∀ n, Calls Tryz.prog 109 #[hv, nv] (wr.drewN n) fun e w'' => e = .returned (.bool true) ∧ ∃ m, w'' = wr.drewN m) := by have := R2.out; rw [hs] at this; exact this
        have q1 := Q1.out
        have q2 := Q2.out
        clear Q1 Q2 R1 R2 HY HN
        go_wp2_with fail
        go_quiet ((first | (go_at_call 119; exact q1 _) | (go_at_call 109; exact q2 _)))
        go_wp2_with fail
        go_ret
        exact ⟨ret_bool (pB_no Hs.out).symm, up_trans hB0 (below_drewN hBw _)⟩
    · have Hs : Hid (Can b.bs at' gone) := can_end Hal.out hp
      go_wp2_with fail
      go_ret
      exact ⟨ret_bool (pB_yes Hs.out).symm, up_trans hB0 hBw⟩
end Go.Proofs.YtliebjbbomghiaaGreatDoor

/- The specification's walks of l12Next and ShareOrder (chapter 12). -/
namespace Go.Proofs.YtliebjbbomghiaaGreatDoor
open Go.RowKit

set_option maxHeartbeats 2000000 in
theorem next12_any (b : Bk) (v gv : Value) (gone : List ByteArray) (w : World) (h : BkV w v b) (hg : Ls w gv gone) :
    Calls Tryz.prog 133 #[v, gv] w fun e w' => (∃ n : Int, e = .returned (.int .i64 n) ∧ NextIs b.bs gone n) ∧ Below w.heap.size w w' := by
  obtain ⟨a1, c1, a2, c2, rfl, h1, h2⟩ := h.parts
  obtain ⟨ag, cg, rfl, -⟩ := id hg
  have hC : CB (w.alloc (.cells #[.slice a1 (b).things.length c1, .slice a2 (b).bs.length c2] 95)) w.heap.size [.slice a1 b.things.length c1, .slice a2 b.bs.length c2] := cb_alloc w _ _
  have hB0 := (Below.refl w.heap.size w).alloc (Nat.le_refl _) (.cells #[.slice a1 (b).things.length c1, .slice a2 (b).bs.length c2] 95)
  have g2 := h2.at.1
  unfold maxLen at g2
  go_enter Tryz.func133, Tryz.ntmps133
  go_upto_region 1 with fail
  generalize w.alloc (.cells #[.slice a1 (b).things.length c1, .slice a2 (b).bs.length c2] 95) = W1 at *
  have l2 := h2.up hB0
  have hk := h.up hB0
  have lg := hg.up hB0
  clear h h1 h2 hg
  obtain ⟨e0, e1⟩ := hC.c2'
  have hlt := hC.2.2
  obtain ⟨-, hpos⟩ := l2.at
  have hB : Below W1.heap.size W1 W1 := Below.refl _ _
  go_wp2_with fail
  go_loopw [5] (fun i w' => ∃ k : Nat, k ≤ b.bs.length ∧ i = .int .i64 k ∧ (∀ j, j < k → ¬ Good b.bs gone j) ∧ Below W1.heap.size W1 w') (fun i _ => b.bs.length - (intOf i).toNat)
  case atStart => exact ⟨0, by omega, rfl, fun j hj => by omega, hB⟩
  case round =>
    clear hB
    obtain ⟨k, hkl, rfl, hal, hB⟩ := hrel
    have Hal : Hid (∀ j, j < k → ¬ Good b.bs gone j) := hal
    clear hal
    have f0 := (hB.cell (p := ⟨w.heap.size, 0, none⟩) hlt).trans e0
    have f1 := (hB.cell (p := ⟨w.heap.size, 1, none⟩) hlt).trans e1
    by_cases hp : k < b.bs.length
    · obtain ⟨bb, o, rfl, hS, hb⟩ := hpos (by omega)
      obtain ⟨a3, d3, a4, d4, c3, c4, c5, -, -, -⟩ := ((hS.at hp).up hB hb).cells
      have HI : Hid (Good b.bs gone k ↔ memS gone (b.bs[k]).nm = false ∧ Can b.bs k gone) := good_iff hp
      generalize b.bs[k] = x0 at *
      clear hS
      go_wp2_with fail
      refine (has11_any gone _ x0.nm _ (lg.up hB)).mono ?_
      rintro e w' ⟨rfl, hw⟩
      obtain rfl := hw.symm
      clear hw
      cases hm : memS gone x0.nm
      case true =>
        have Hs : Hid (∀ j, j < k + 1 → ¬ Good b.bs gone j) := goodTo_step Hal.out fun h => by rw [(HI.out.1 h).1] at hm; cases hm
        clear HI
        go_wp2_with fail
        go_roundw
        case rel => exact ⟨k + 1, by omega, by go_num, Hs.out, hB⟩
        case measure => simp [intOf]; omega
      go_wp2_with fail
      refine (can12_any b _ _ k gone _ (hk.up hB) (lg.up hB) hp).mono ?_
      rintro e w2 ⟨rfl, hb2⟩
      have hB2 := up_trans hB hb2
      clear f0 f1 hB hb2 c3 c4 c5
      cases hcn : pB (Can b.bs k gone)
      · have Hs : Hid (∀ j, j < k + 1 → ¬ Good b.bs gone j) := goodTo_step Hal.out fun h => pB_not.1 hcn (HI.out.1 h).2
        clear HI
        go_wp2_with fail
        go_roundw
        case rel => exact ⟨k + 1, by omega, by go_num, Hs.out, hB2⟩
        case measure => simp [intOf]; omega
      · have Hs : Hid (NextIs b.bs gone (k : Int)) := .inr ⟨k, rfl, hp, HI.out.2 ⟨hm, pB_iff.1 hcn⟩, Hal.out⟩
        clear HI
        go_wp2_with fail
        go_ret
        exact ⟨⟨_, rfl, Hs.out⟩, up_trans hB0 hB2⟩
    · have Hs : Hid (NextIs b.bs gone (-1)) := .inl ⟨rfl, fun j hj => Hal.out j (by omega)⟩
      go_wp2_with fail
      go_ret
      exact ⟨⟨_, rfl, Hs.out⟩, up_trans hB0 hB⟩

def lenV : Value → Nat
  | .slice _ n _ => n
  | _ => 0

set_option maxHeartbeats 2000000 in
theorem specOrder_any (b : Bk) (v : Value) (w : World) (h : BkV w v b) :
    Calls Tryz.prog 128 #[v] w fun e w' => (∃ u ss ok, e = .returned (.tuple #[u, .bool ok]) ∧ OrderIs b ss ok ∧ OwnT w' w.heap.size u ss ∧ ∀ s ∈ ss, s.size ≤ maxLen) ∧ Below w.heap.size w w' := by
  obtain ⟨a1, c1, a2, c2, rfl, h1, h2⟩ := h.parts
  obtain ⟨W1, hW1, kA, hB1, hs1⟩ : ∃ W1, w.alloc (.cells #[.slice a1 (b).things.length c1, .slice a2 (b).bs.length c2] 95) = W1 ∧ CB W1 w.heap.size [.slice a1 b.things.length c1, .slice a2 b.bs.length c2] ∧ Below w.heap.size w W1 ∧ W1.heap.size = w.heap.size + 1 := ⟨_, rfl, cb1 w _ _⟩
  have hz1 := hB1.size
  clear hs1
  obtain ⟨ii, hi, iz0, iz1, iz2⟩ := info_parts infoStr
  go_enter Tryz.func128, Tryz.ntmps128
  go_upto_region 1 with fail
  try rw [hW1]
  clear hW1
  have hk := h.up hB1
  have l2 := h2.up hB1
  obtain ⟨e0, e1⟩ := kA.c2'
  have hlt := kA.2.2
  obtain ⟨-, hpos⟩ := l2.at
  clear h h1 h2
  have ho2 := ownT_lit0 W1
  have hb2 := (Below.refl W1.heap.size W1).alloc (Nat.le_refl _) (.cells #[] 9)
  go_upto_region 2 with fail
  generalize W1.alloc (.cells #[] 9) = W2 at *
  have f0 := (hb2.cell (p := ⟨w.heap.size, 0, none⟩) hlt).trans e0
  have f1 := (hb2.cell (p := ⟨w.heap.size, 1, none⟩) hlt).trans e1
  go_wp2_with fail
  refine (specBook_any b _ _ (hk.up hb2)).mono ?_
  rintro e w3 ⟨rfl, hb3⟩
  have hB3 := up_trans hb2 hb3
  have ho3 := ho2.up hb3
  clear f0 f1 hb3 ho2 hb2
  cases hq : bookB b
  · have Hq : Hid (OrderIs b [] false) := .inr ⟨rfl, rfl, .inl (pB_not.1 hq)⟩
    go_wp2_with fail
    go_returns
    exact ⟨⟨_, [], false, rfl, Hq.out, own_low ho3 (by omega), fun s hs => by simp at hs⟩, up_trans hB1 hB3⟩
  have Hok : Hid (BookOk b) := pB_iff.1 hq
  have h5 : b.bs.length ≤ 5 := Hok.out.2.1
  clear hq
  go_wp2_with fail
  go_loopw [4, 5] (fun u _ w' => ∃ (n : Nat) (gone : List ByteArray), n ≤ b.bs.length ∧ Goes b.bs n gone ∧ OwnT w' W1.heap.size u gone ∧ (∀ s ∈ gone, s.size ≤ maxLen) ∧ Below W1.heap.size W1 w') (fun u _ _ => b.bs.length - lenV u)
  case atStart => exact ⟨0, [], by omega, .none, ho3, fun s hs => by simp at hs, hB3⟩
  case round =>
    clear hB3 ho3
    obtain ⟨n, gone, hnl, hgo, hown, hsz, hB⟩ := hrel
    have Hgo : Hid (Goes b.bs n gone) := hgo
    have Hlen : Hid (gone.length = n) := hgo.length
    have lgo := hown.lst.ls hsz
    obtain ⟨ag, cg, rfl⟩ := hown.lst.shape
    have Hsz : Hid (∀ s ∈ gone, s.size ≤ maxLen) := hsz
    clear hgo hsz
    have hgl : gone.length ≤ b.bs.length := by rw [Hlen.out]; exact hnl
    have f0 := (hB.cell (p := ⟨w.heap.size, 0, none⟩) hlt).trans e0
    have f1 := (hB.cell (p := ⟨w.heap.size, 1, none⟩) hlt).trans e1
    by_cases hp : gone.length < b.bs.length
    · go_wp2_with fail
      refine (next12_any b _ _ gone _ (hk.up hB) lgo).mono ?_
      rintro e w4 ⟨⟨nx, rfl, hnx⟩, hb4⟩
      have hB4 := up_trans hB hb4
      have hown4 := hown.up hb4
      have Hnx : Hid (NextIs b.bs gone nx) := hnx
      clear f0 f1 hB hb4 hown lgo
      rcases hnx with ⟨rfl, -⟩ | ⟨k, rfl, hkl, -, -⟩
      · have Hs : Hid (OrderIs b [] false) := .inr ⟨rfl, rfl, .inr ⟨n, gone, by have := Hlen.out; omega, Hgo.out, Hnx.out⟩⟩
        have ho5 := ownT_lit0 w4
        have hb5 := (Below.refl w4.heap.size w4).alloc (Nat.le_refl _) (.cells #[] 9)
        have hz4 := hB4.size
        go_wp2_with fail
        go_returns
        exact ⟨⟨_, [], false, rfl, Hs.out, own_low ho5 (by omega), fun s hs => by simp at hs⟩, up_trans hB1 (up_trans hB4 hb5)⟩
      · obtain ⟨bb, o, rfl, hS, hb⟩ := hpos (by omega)
        have f1 := (hB4.cell (p := ⟨w.heap.size, 1, none⟩) hlt).trans e1
        obtain ⟨a3, d3, a4, d4, c3, -, -, -, -, z0⟩ := ((hS.at hkl).up hB4 hb).cells
        have Hs : Hid (Goes b.bs (n + 1) (gone ++ [(b.bs[k]).nm])) := .more Hgo.out Hnx.out (List.getElem?_eq_getElem hkl)
        generalize b.bs[k] = x0 at *
        have hnb : decide ((k : Int) < 0) = false := by simp
        have hownA := own_up hown4 ((Below.refl w4.heap.size w4).alloc (Nat.le_refl _) (.cells #[.string x0.nm] 9))
        have hBA := hB4.alloc hB4.size (.cells #[.string x0.nm] 9)
        clear hS
        go_wp2_with (at_builtin; refine wpList_append_own _ rfl _ _ 29 rfl W1.heap.size 9 ii _ 1 16 Tryz.underlying29 hi iz0 iz1 iz2 rfl (by decide) _ _ _ rfl hownA ⟨w4.heap.size, 0, none⟩ 1 1 [.string x0.nm] rfl rfl (one_new _ _ _) (oneV _) (by unfold maxLen; omega) (by omega) hBA.size ?_)
        intro v1 w5 hown5 hgr5 _
        have hB5 := below_own hBA hownA hgr5 (Nat.le_refl _)
        have ho5 : OwnT w5 W1.heap.size v1 (gone ++ [x0.nm]) := by unfold OwnT; rw [List.length_append, List.map_append]; exact hown5
        have hl5 : ∃ a c, v1 = .slice a (gone.length + 1) c := by
          have := ho5.lst.shape
          simpa using this
        obtain ⟨a5, c5, rfl⟩ := hl5
        clear hownA hBA hown5 hgr5 hown4 hB4 f1 c3
        go_wp2_with fail
        go_roundw
        case rel =>
          refine ⟨n + 1, _, by have := Hlen.out; omega, Hs.out, ho5, fun s hs => ?_, hB5⟩
          rcases List.mem_append.1 hs with h | h
          · exact Hsz.out s h
          · obtain rfl : s = x0.nm := by simpa using h
            exact z0
        case measure => simp [lenV]; omega
    · have Hs : Hid (OrderIs b gone true) := .inl ⟨rfl, Hok.out, by
        have e : b.bs.length = n := by have := Hlen.out; omega
        rw [e]; exact Hgo.out⟩
      go_wp2_with fail
      go_returns
      exact ⟨⟨_, gone, true, rfl, Hs.out, own_low hown (by omega), Hsz.out⟩, up_trans hB1 hB⟩
end Go.Proofs.YtliebjbbomghiaaGreatDoor

/- Safe by the specification. -/
namespace Go.Proofs.YtliebjbbomghiaaGreatDoor
open Go.RowKit

set_option maxHeartbeats 1000000 in
theorem specSafe_any (b : Bk) (v : Value) (w : World) (h : BkV w v b) :
    Calls Tryz.prog 120 #[v] w fun e w' => (∃ ss ok, e = .returned (.bool ok) ∧ OrderIs b ss ok) ∧ Below w.heap.size w w' := by
  obtain ⟨a1, c1, a2, c2, rfl, -, -⟩ := h.parts
  have hC : CB (w.alloc (.cells #[.slice a1 (b).things.length c1, .slice a2 (b).bs.length c2] 95)) w.heap.size [.slice a1 b.things.length c1, .slice a2 b.bs.length c2] := cb_alloc w _ _
  have hB0 := (Below.refl w.heap.size w).alloc (Nat.le_refl _) (.cells #[.slice a1 (b).things.length c1, .slice a2 (b).bs.length c2] 95)
  go_enter Tryz.func120, Tryz.ntmps120
  go_upto_region 1 with fail
  generalize w.alloc (.cells #[.slice a1 (b).things.length c1, .slice a2 (b).bs.length c2] 95) = W1 at *
  have hk := h.up hB0
  obtain ⟨e0, e1⟩ := hC.c2'
  go_wp2_with fail
  refine (specOrder_any b _ _ hk).mono ?_
  rintro e w2 ⟨⟨u, ss, ok, rfl, hord, -, -⟩, hb2⟩
  clear e0 e1
  go_wp2_with fail
  go_ret
  exact ⟨⟨ss, ok, rfl, hord⟩, up_trans hB0 hb2⟩
end Go.Proofs.YtliebjbbomghiaaGreatDoor

/- The specification's walks of chapter 13: copies, what is taken, safe or not. -/
namespace Go.Proofs.YtliebjbbomghiaaGreatDoor
open Go.RowKit

/-- Somebody else has one of some things. -/
def takenTo (bs : List Ba) (at' : Int) (things : List ByteArray) (k : Nat) : Prop := ∀ (i : Nat) (x : Ba), i < k → (i : Int) ≠ at' → bs[i]? = some x → shareB x.has things = false
def Taken (bs : List Ba) (at' : Int) (things : List ByteArray) : Prop := ∃ (i : Nat) (x : Ba), (i : Int) ≠ at' ∧ bs[i]? = some x ∧ shareB x.has things = true
theorem takenTo.step {bs : List Ba} {a : Int} {things : List ByteArray} {k : Nat} (h : takenTo bs a things k) (hk : k < bs.length) (h1 : (k : Int) = a ∨ shareB (bs[k]).has things = false) : takenTo bs a things (k + 1) := fun i x hi hne hx => by
  by_cases e : i = k
  · subst e
    rw [List.getElem?_eq_getElem hk] at hx
    obtain rfl := Option.some.inj hx
    exact h1.resolve_left hne
  · exact h i x (by omega) hne hx
theorem taken_no {bs : List Ba} {a : Int} {things : List ByteArray} {k : Nat} (h : takenTo bs a things k) (hk : ¬ k < bs.length) : ¬ Taken bs a things := fun ⟨i, x, hne, hx, hs⟩ => by
  rw [h i x (by have := (List.getElem?_eq_some_iff.1 hx).1; omega) hne hx] at hs; cases hs

set_option maxHeartbeats 2000000 in
theorem taken13_any (b : Bk) (v tv : Value) (at' : Int) (things : List ByteArray) (w : World) (h : BkV w v b) (ht : Ls w tv things) :
    Calls Tryz.prog 131 #[v, .int .i64 at', tv] w fun e w' => e = .returned (.bool (pB (Taken b.bs at' things))) ∧ Below w.heap.size w w' := by
  obtain ⟨a1, c1, a2, c2, rfl, h1, h2⟩ := h.parts
  obtain ⟨at1, ct1, rfl, -⟩ := id ht
  have hC : CB (w.alloc (.cells #[.slice a1 (b).things.length c1, .slice a2 (b).bs.length c2] 95)) w.heap.size [.slice a1 b.things.length c1, .slice a2 b.bs.length c2] := cb_alloc w _ _
  have hB0 := (Below.refl w.heap.size w).alloc (Nat.le_refl _) (.cells #[.slice a1 (b).things.length c1, .slice a2 (b).bs.length c2] 95)
  have g2 := h2.at.1
  unfold maxLen at g2
  go_enter Tryz.func131, Tryz.ntmps131
  go_upto_region 1 with fail
  generalize w.alloc (.cells #[.slice a1 (b).things.length c1, .slice a2 (b).bs.length c2] 95) = W1 at *
  have l2 := h2.up hB0
  have lt := ht.up hB0
  clear h h1 h2 ht
  obtain ⟨e0, e1⟩ := hC.c2'
  obtain ⟨-, hpos⟩ := l2.at
  go_wp2_with fail
  go_loop [7] (fun i => ∃ k : Nat, k ≤ b.bs.length ∧ i = .int .i64 k ∧ takenTo b.bs at' things k) (fun i => b.bs.length - (intOf i).toNat)
  case atStart => exact ⟨0, by omega, rfl, fun i _ hi => by omega⟩
  case round =>
    obtain ⟨k, hk, rfl, hal⟩ := hrel
    have Hal : Hid (takenTo b.bs at' things k) := hal
    clear hal
    by_cases hp : k < b.bs.length
    · obtain ⟨bb, o, rfl, hS, hb⟩ := hpos (by omega)
      by_cases hka : (k : Int) = at'
      · have hkb : ((k : Int) != at') = false := by rw [bne_eq_false_iff_eq]; exact hka
        have Hs : Hid (takenTo b.bs at' things (k + 1)) := Hal.out.step hp (.inl hka)
        clear hka
        go_wp2_with fail
        go_round
        case rel => exact ⟨k + 1, by omega, by go_num, Hs.out⟩
        case measure => simp [intOf]; omega
      have hkb : ((k : Int) != at') = true := by rw [bne_iff_ne]; exact hka
      obtain ⟨a3, d3, a4, d4, -, c4, -, l3, -, -⟩ := (hS.at hp).cells
      have HY : Hid (shareB (b.bs[k]).has things = false → takenTo b.bs at' things (k + 1)) := fun h => Hal.out.step hp (.inr h)
      have HN : Hid (shareB (b.bs[k]).has things = true → Taken b.bs at' things) := fun h => ⟨k, _, hka, List.getElem?_eq_getElem hp, h⟩
      clear hka
      generalize b.bs[k] = x0 at *
      go_wp2_with fail
      refine (share11_any x0.has things _ _ _ l3 lt).mono ?_
      rintro e w' ⟨rfl, hw⟩
      obtain rfl := hw.symm
      clear hw
      cases hs : shareB x0.has things
      · have Hs : Hid (takenTo b.bs at' things (k + 1)) := HY.out hs
        clear HY HN
        go_wp2_with fail
        go_round
        case rel => exact ⟨k + 1, by omega, by go_num, Hs.out⟩
        case measure => simp [intOf]; omega
      · have Hs : Hid (Taken b.bs at' things) := HN.out hs
        clear HY HN
        go_wp2_with fail
        go_ret
        exact ⟨ret_bool (pB_yes Hs.out).symm, hB0⟩
    · have Hs : Hid (¬ Taken b.bs at' things) := taken_no Hal.out hp
      go_wp2_with fail
      go_ret
      exact ⟨ret_bool (pB_no Hs.out).symm, hB0⟩

end Go.Proofs.YtliebjbbomghiaaGreatDoor
