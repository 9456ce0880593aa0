/- The program's walks over batches (chapter 11): their names, who has what. -/
import Derived.Test.YtlkpgiifdclijaaGreatDoorJ21
import Derived.Test.YtlkpgiifdclijaaGreatDoorJ2
import Derived.Maps.OwnSet
import Derived.Maps.OwnOps
import Derived.Laws.BitsAllLaws
namespace Go.Proofs.YtlkpgiifdclijaaGreatDoor
open Go.RowKit Go.Maps

theorem nms_snoc (bs : List Ba) (k : Nat) (hk : k < bs.length) : nms (bs.take (k + 1)) = nms (bs.take k) ++ [(bs[k]).nm] := by
  rw [nms_take, nms_take, List.take_succ_eq_append_getElem (by rw [nms_length]; exact hk), nms_get bs k hk]
theorem BaAt.batch {w : World} {b o : Nat} {x : Ba} (h : BaAt w b o x) : x.nm.size ≤ maxLen := by
  obtain ⟨_, _, _, _, _, h3⟩ := h; exact h3

set_option maxHeartbeats 1000000 in
theorem batchNames_any (bs : List Ba) (v : Value) (w : World) (h : Bs w v bs) (hn : bs.length ≤ 1048576) :
    Calls Tryz.prog 60 #[v] w fun e w' => (∃ u, e = .returned u ∧ OwnT w' w.heap.size u (nms bs) ∧ Ls w' u (nms bs)) ∧ Below w.heap.size w w' := by
  obtain ⟨a, c, rfl, -, hpos⟩ := h
  obtain ⟨ii, hi, iz0, iz1, iz2⟩ := info_parts infoStr
  go_enter Tryz.func60, Tryz.ntmps60
  go_wp2_with fail
  go_loopw [3, 5, 8] (fun u _ i w' => ∃ k : Nat, k ≤ bs.length ∧ i = .int .i64 k ∧ w'.ownsRow w.heap.size 9 1 u k ((nms (bs.take k)).map Value.string) ∧ Below w.heap.size w w') (fun _ _ i _ => bs.length - (intOf i).toNat)
  case atStart => exact ⟨0, by omega, rfl, ⟨by simp [nms], .inl ⟨rfl, rfl⟩⟩, Below.refl _ _⟩
  case round =>
    obtain ⟨k, hk, rfl, hown, hB⟩ := hrel
    by_cases hp : k < bs.length
    · obtain ⟨b, o, rfl, hS, hb⟩ := hpos (by omega)
      obtain ⟨a1, d1, a2, d2, c0, c1, c2, l1, l2, z0⟩ := ((hS.at hp).up hB hb).cells
      have Hs : Hid ((nms (bs.take (k + 1))).map Value.string = (nms (bs.take k)).map Value.string ++ [.string (bs[k]).nm]) := by
        show _ = _
        rw [nms_snoc bs k hp, List.map_append]; rfl
      generalize bs[k] = x0 at *
      clear l1 l2 hS
      have hB1 := hB.alloc hB.size (.cells #[.string (x0).nm, .slice a1 (x0).has.length d1, .slice a2 (x0).needs.length d2] 86)
      have hown1 := own_up hown ((Below.refl wr.heap.size wr).alloc (Nat.le_refl _) (.cells #[.string (x0).nm, .slice a1 (x0).has.length d1, .slice a2 (x0).needs.length d2] 86))
      have hC : CB (wr.alloc (.cells #[.string (x0).nm, .slice a1 (x0).has.length d1, .slice a2 (x0).needs.length d2] 86)) wr.heap.size [.string x0.nm, .slice a1 x0.has.length d1, .slice a2 x0.needs.length d2] := cb_alloc wr _ _
      have hz := hB.size
      go_upto_region 5 with fail
      generalize wr.alloc (.cells #[.string (x0).nm, .slice a1 (x0).has.length d1, .slice a2 (x0).needs.length d2] 86) = W1 at *
      obtain ⟨⟨e0, -⟩, -⟩ := hC.c3
      clear c0 c1 c2 hown hB
      have hown2 := own_up hown1 ((Below.refl W1.heap.size W1).alloc (Nat.le_refl _) (.cells #[.string x0.nm] 9))
      have hB2 := hB1.alloc hB1.size (.cells #[.string x0.nm] 9)
      go_wp2_with (at_builtin; refine wpList_append_own _ rfl _ _ 93 rfl w.heap.size 9 ii _ 1 16 Tryz.underlying93 hi iz0 iz1 iz2 rfl (by decide) _ _ _ rfl hown2 ⟨W1.heap.size, 0, none⟩ 1 1 [.string x0.nm] rfl rfl (one_new _ _ _) (oneV _) (by unfold maxLen; omega) (by omega) hB2.size ?_)
      intro v1 w1 hown3 hgrow3 _
      rw [← Hs.out] at hown3
      have hB3 := below_own hB2 hown2 hgrow3 (Nat.le_refl _)
      clear hown1 hown2 hgrow3 hB1 hB2 hC e0
      go_wp2_with fail
      go_roundw
      case rel => exact ⟨k + 1, by omega, by go_num, hown3, hB3⟩
      case measure => simp [intOf]; omega
    · have hz : ∀ s ∈ nms bs, s.size ≤ maxLen := fun s hs => by
        obtain ⟨x, hx, rfl⟩ := List.mem_map.1 hs
        obtain ⟨i, hi, rfl⟩ := List.getElem_of_mem hx
        obtain ⟨b, o, rfl, hS, hb⟩ := hpos (by omega)
        exact (hS.at hi).batch
      have Ho : Hid (∀ u, wr.ownsRow w.heap.size 9 1 u k ((nms (bs.take k)).map Value.string) → OwnT wr w.heap.size u (nms bs)) := fun u h => by
        obtain rfl : k = bs.length := by omega
        rw [List.take_length] at h
        unfold OwnT; rw [nms_length]; exact h
      have Hz : Hid (∀ s ∈ nms bs, s.size ≤ maxLen) := hz
      clear hz
      go_wp2_with fail
      go_ret
      exact ⟨⟨_, rfl, Ho.out _ hown, (Ho.out _ hown).lst.ls Hz.out⟩, hB⟩

theorem keyLaw : Keyed Tryz.prog 9 := string_keyed Tryz.underlying9
theorem zeroInt (w : World) : (zeroValue 3).run Tryz.prog w = .ok (.int .i64 0) w := by kernel_rfl
abbrev MapAt (w : World) (M n : Nat) (D : DataW Unit) : Prop := w.ownsMap Tryz.prog 9 (plainElem Tryz.prog 3) M n D

set_option maxRecDepth 100000 in
set_option maxHeartbeats 2000000 in
theorem holders_any (bs : List Ba) (v : Value) (w : World) (h : Bs w v bs) (hn : bs.length ≤ 5) (h8 : ∀ x ∈ bs, Asc x.has ∧ x.has.length ≤ 8) :
    Calls Tryz.prog 155 #[v] w fun e w' =>
      ((Apart bs ∧ ∃ M n D, e = .returned (.tuple #[.map (some M), .bool true]) ∧ MapAt w' M n D ∧ HoldD D bs bs.length 0 ∧ w.heap.size ≤ M) ∨ (¬ Apart bs ∧ e = .returned (.tuple #[.map none, .bool false]))) ∧ Below w.heap.size w w' := by
  obtain ⟨a, c, rfl, -, hpos⟩ := h
  have hmm := @run_makeMap Tryz.prog
  go_enter Tryz.func155, Tryz.ntmps155
  go_wp2_with fail
  go_loopw [5, 6, 8, 9, 10, 14] (fun _ _ _ _ _ i w' => ∃ (k : Nat) (D : DataW Unit), k ≤ bs.length ∧ i = .int .i64 k ∧ MapAt w' w.heap.size (k * 8) D ∧ HoldD D bs k 0 ∧ Below w.heap.size w w') (fun _ _ _ _ _ i _ => bs.length - (intOf i).toNat)
  case atStart => exact ⟨0, _, by omega, rfl, World.ownsMap_made _ _ _ _, HoldD.start bs, (Below.refl _ _).alloc (Nat.le_refl _) _⟩
  case round =>
    obtain ⟨k, D, hk, rfl, hmap, hD, hB⟩ := hrel
    have HD : Hid (HoldD D bs k 0) := hD
    clear hD
    by_cases hp : k < bs.length
    · obtain ⟨b, o, rfl, hS, hb⟩ := hpos (by omega)
      obtain ⟨a1, d1, a2, d2, c0, c1, c2, l1, -, -⟩ := (hS.at hp).cells
      obtain ⟨h8a, h8b⟩ := h8 bs[k] (by simp)
      have HS : Hid (∀ (D : DataW Unit) (m : Nat) (s : ByteArray), (bs[k]).has[m]? = some s → HoldD D bs k m → Maps.has D (kl s) = false → HoldD (D.put (kl s) (.lit (.int .i64 (k : Int)))) bs k (m + 1)) := fun D m s hs h hn => by
        obtain ⟨hm, rfl⟩ := List.getElem?_eq_some_iff.1 hs
        exact h.step hp hm hn
      have HT : Hid (∀ (D : DataW Unit) (m : Nat) (s : ByteArray), (bs[k]).has[m]? = some s → HoldD D bs k m → Maps.has D (kl s) = true → ¬ Apart bs) := fun D m s hs h hn => by
        obtain ⟨hm, rfl⟩ := List.getElem?_eq_some_iff.1 hs
        exact h.twice hp hm h8a hn
      have HN : Hid (∀ (D : DataW Unit) (m : Nat), ¬ m < (bs[k]).has.length → HoldD D bs k m → HoldD D bs (k + 1) 0) := fun D m hm h => h.next hp hm
      obtain ⟨-, hz, hp1⟩ := l1.inv
      clear h8a l1
      generalize bs[k] = x0 at *
      obtain ⟨hc, hf⟩ := bcell hB
      have hB1 := hB.alloc hB.size (.cells #[.string (x0).nm, .slice a1 (x0).has.length d1, .slice a2 (x0).needs.length d2] 86)
      have hmap1 := hmap.alloc (.cells #[.string (x0).nm, .slice a1 (x0).has.length d1, .slice a2 (x0).needs.length d2] 86)
      have hC : CB (wr.alloc (.cells #[.string (x0).nm, .slice a1 (x0).has.length d1, .slice a2 (x0).needs.length d2] 86)) wr.heap.size [.string x0.nm, .slice a1 x0.has.length d1, .slice a2 x0.needs.length d2] := cb_alloc wr _ _
      have hz1 := hB.size
      go_upto_region 5 with fail
      generalize wr.alloc (.cells #[.string (x0).nm, .slice a1 (x0).has.length d1, .slice a2 (x0).needs.length d2] 86) = W1 at *
      obtain ⟨⟨e0, e1, e2⟩, -⟩ := hC.c3
      clear c0 c1 c2 hc hf hmap hB hS
      go_wp2_with fail
      clear e0 e1 e2 hC
      go_loopw [8, 9, 10, 22] (fun _ _ _ j w' => ∃ (m : Nat) (D' : DataW Unit), m ≤ x0.has.length ∧ j = .int .i64 m ∧ MapAt w' w.heap.size (k * 8 + m) D' ∧ HoldD D' bs k m ∧ Below w.heap.size w w') (fun _ _ _ j _ => x0.has.length - (intOf j).toNat)
      case atStart => exact ⟨0, D, by omega, rfl, hmap1, HD.out, hB1⟩
      case round =>
        clear hB1 hmap1 HD
        obtain ⟨m, D', hm, rfl, hmap, hD, hB⟩ := hrel
        have HD : Hid (HoldD D' bs k m) := hD
        clear hD
        by_cases hq : m < x0.has.length
        · obtain ⟨b1, o1, rfl, hS1, hb1⟩ := hp1 (by omega)
          have c0 := (hB.cell (p := ⟨b1, o1 + m, none⟩) hb1).trans (hS1.cell hq)
          have z0 := hz x0.has[m] (by simp)
          have hx := List.getElem?_eq_getElem hq
          generalize x0.has[m] = s at *
          have Hy : Hid (Maps.has D' (kl s) = false → HoldD (D'.put (kl s) (.lit (.int .i64 (k : Int)))) bs k (m + 1)) := HS.out D' m s hx HD.out
          have Ht : Hid (Maps.has D' (kl s) = true → ¬ Apart bs) := HT.out D' m s hx HD.out
          have hkey : keyOf Tryz.prog 9 (.string s) = some (kl s) := WideMaps.keyOf_string_mk Tryz.underlying9 z0
          clear HS HT HN hx HD
          cases ht : Maps.has D' (kl s)
          · go_wp2_with (first
              | (at_lookup; refine wpList_lookup_own_ok_int _ rfl _ _ 198 rfl 9 3 .i64 keyLaw Tryz.underlying198 Tryz.underlying3 (zeroInt _) w.heap.size (k * 8 + m) D' rfl hmap _ _ rfl hkey ?_; intro cc _ _)
              | (at_mapUpdate; refine wpList_mapUpdate_own _ rfl _ _ _ 198 rfl 9 3 keyLaw Tryz.underlying198 _ w.heap.size (k * 8 + m) D' rfl hmap (by unfold maxLen; omega) _ _ _ rfl rfl hkey _ [] (plainElem_int Tryz.underlying3 (WalkArith.wf_i64 (by omega))) ?_; intro w1 hown1 hgrow1))
            have HD1 : Hid (HoldD (D'.put (kl s) (.lit (.int .i64 (k : Int)))) bs k (m + 1)) := Hy.out ht
            have hB1 := below_gr hB hgrow1 (Nat.le_refl _)
            clear Hy Ht hgrow1 hmap hB c0
            go_wp2_with fail
            go_roundw
            case rel => exact ⟨m + 1, _, by omega, by go_num, hown1, HD1.out, hB1⟩
            case measure => simp [intOf]; omega
          · go_wp2_with (first
              | (at_lookup; refine wpList_lookup_own_ok_int _ rfl _ _ 198 rfl 9 3 .i64 keyLaw Tryz.underlying198 Tryz.underlying3 (zeroInt _) w.heap.size (k * 8 + m) D' rfl hmap _ _ rfl hkey ?_; intro cc _ _))
            go_returns
            exact ⟨.inr ⟨Ht.out ht, rfl⟩, hB⟩
        · go_wp2_with fail
          go_roundw
          case rel => exact ⟨k + 1, D', by omega, by go_num, hmap.mono (by omega), HN.out D' m hq HD.out, hB⟩
          case measure => simp [intOf]; omega
    · have Hk : Hid (k = bs.length) := by show _ = _; omega
      go_wp2_with fail
      go_returns
      exact ⟨.inl ⟨HD.out.apart hp, _, _, D, rfl, hmap, by rw [← Hk.out]; exact HD.out, Nat.le_refl _⟩, hB⟩
end Go.Proofs.YtlkpgiifdclijaaGreatDoor

/- The program's walks over books (chapter 11): ok or not, who has what. -/
namespace Go.Proofs.YtlkpgiifdclijaaGreatDoor
open Go.RowKit Go.Maps

theorem bas_has {things : List ByteArray} {bs : List Ba} (h8 : things.length ≤ 8) (h : BasTo things bs bs.length) : ∀ x ∈ bs, Asc x.has ∧ x.has.length ≤ 8 := fun x hx => by
  obtain ⟨i, hi, rfl⟩ := List.getElem_of_mem hx
  obtain ⟨h1, h2⟩ := h.at hi hi
  have e1 := part_short h1
  have e2 := part_short h2
  exact ⟨h2.2, by omega⟩

set_option maxHeartbeats 2000000 in
theorem bookOk_any (b : Bk) (v : Value) (w : World) (h : BkV w v b) :
    Calls Tryz.prog 124 #[v] w fun e w' => e = .returned (.bool (bookB b)) ∧ Below w.heap.size w w' := by
  obtain ⟨a1, c1, a2, c2, rfl, h1, h2⟩ := h.parts
  have hC : CB (w.alloc (.cells #[.slice a1 (b).things.length c1, .slice a2 (b).bs.length c2] 34)) w.heap.size [.slice a1 b.things.length c1, .slice a2 b.bs.length c2] := cb_alloc w _ _
  have hB0 := (Below.refl w.heap.size w).alloc (Nat.le_refl _) (.cells #[.slice a1 (b).things.length c1, .slice a2 (b).bs.length c2] 34)
  have g1 := h1.inv.1
  have g2 := h2.at.1
  unfold maxLen at g1 g2
  go_enter Tryz.func124, Tryz.ntmps124
  go_upto_region 1 with fail
  generalize w.alloc (.cells #[.slice a1 (b).things.length c1, .slice a2 (b).bs.length c2] 34) = W1 at *
  have l1 := h1.up hB0
  have l2 := h2.up hB0
  obtain ⟨e0, e1⟩ := hC.c2'
  have hlt := hC.2.2
  clear h h1 h2
  by_cases h8 : 8 < b.things.length
  · have Hq : Hid (bookB b = false) := pB_no fun h => by have := h.1.1; omega
    go_wp2_with fail
    go_ret
    exact ⟨ret_bool Hq.out.symm, hB0⟩
  by_cases h5 : 5 < b.bs.length
  · have Hq : Hid (bookB b = false) := pB_no fun h => by have := h.2.1; omega
    go_wp2_with fail
    go_ret
    exact ⟨ret_bool Hq.out.symm, hB0⟩
  cases ho : pB (Names b.things ∧ Asc b.things)
  · have Hq : Hid (bookB b = false) := pB_no fun h => pB_not.1 ho ⟨h.1.2.1, h.1.2.2⟩
    go_wp2_with fail
    refine (ordered_any b.things _ _ l1).mono ?_
    rintro e w2 ⟨rfl, hB⟩
    rw [ho]
    go_wp2_with fail
    go_ret
    exact ⟨ret_bool Hq.out.symm, up_trans hB0 hB⟩
  have Ho : Hid (ThingsOk b.things) := ⟨by omega, (pB_iff.1 ho).1, (pB_iff.1 ho).2⟩
  go_wp2_with fail
  refine (ordered_any b.things _ _ l1).mono ?_
  rintro e w2 ⟨rfl, hb2⟩
  rw [ho]
  clear ho
  obtain ⟨hc, hf⟩ := bcell hb2
  go_wp2_with fail
  refine (batchNames_any b.bs _ _ (l2.up hb2) (by omega)).mono ?_
  rintro e w3 ⟨⟨u, rfl, -, hu⟩, hb3⟩
  clear hc hf
  obtain ⟨au, cu, rfl, -⟩ := id hu
  go_wp2_with fail
  refine (ordered_any (nms b.bs) _ _ hu).mono ?_
  rintro e w4 ⟨rfl, hb4⟩
  have hB := up_trans (up_trans hb2 hb3) hb4
  clear hb2 hb3 hb4 hu
  cases hn : pB (Names (nms b.bs) ∧ Asc (nms b.bs))
  · have Hq : Hid (bookB b = false) := pB_no fun h => pB_not.1 hn ⟨h.2.2.1, h.2.2.2.1⟩
    go_wp2_with fail
    go_ret
    exact ⟨ret_bool Hq.out.symm, up_trans hB0 hB⟩
  have Hn : Hid (Names (nms b.bs) ∧ Asc (nms b.bs)) := pB_iff.1 hn
  clear hn
  obtain ⟨hc, hf⟩ := bcell hB
  obtain ⟨-, hpos⟩ := l2.at
  have hz4 := hB.size
  go_wp2_with fail
  clear hc hf
  go_loopw [4, 31] (fun _ i w' => ∃ k : Nat, k ≤ b.bs.length ∧ i = .int .i64 k ∧ BasTo b.things b.bs k ∧ Below W1.heap.size W1 w') (fun _ i _ => b.bs.length - (intOf i).toNat)
  case atStart => exact ⟨0, by omega, rfl, BasTo.zero _ _, hB⟩
  case round =>
    clear hB hz4
    obtain ⟨k, hk, rfl, hal, hB⟩ := hrel
    have Hal : Hid (BasTo b.things b.bs k) := hal
    clear hal
    by_cases hp : k < b.bs.length
    · obtain ⟨bb, o, rfl, hS, hb⟩ := hpos (by omega)
      obtain ⟨a3, d3, a4, d4, c3, c4, c5, l3, l4, -⟩ := ((hS.at hp).up hB hb).cells
      have HS : Hid (BaOk b.things b.bs[k] → BasTo b.things b.bs (k + 1)) := fun h => Hal.out.step hp h
      have HN : Hid (¬ BaOk b.things b.bs[k] → bookB b = false) := fun h => pB_no fun hb => h (hb.2.2.2.2.1.at hp hp)
      generalize b.bs[k] = x0 at *
      have hC1 : CB (wr.alloc (.cells #[.string (x0).nm, .slice a3 (x0).has.length d3, .slice a4 (x0).needs.length d4] 86)) wr.heap.size [.string x0.nm, .slice a3 x0.has.length d3, .slice a4 x0.needs.length d4] := cb_alloc wr _ _
      have hb5 := (Below.refl wr.heap.size wr).alloc (Nat.le_refl _) (.cells #[.string (x0).nm, .slice a3 (x0).has.length d3, .slice a4 (x0).needs.length d4] 86)
      go_upto_region 8 with fail
      generalize wr.alloc (.cells #[.string (x0).nm, .slice a3 (x0).has.length d3, .slice a4 (x0).needs.length d4] 86) = W2 at *
      have hB5 := up_trans hB hb5
      have l3' := l3.up hb5
      have l4' := l4.up hb5
      have l1' := l1.up hB5
      obtain ⟨⟨q0, q1, q2⟩, -⟩ := hC1.c3
      obtain ⟨hc, hf⟩ := bcell hB5
      clear c3 c4 c5 l3 l4 hb5 hB hS
      go_wp2_with fail
      refine (batchOk_any x0 b.things _ _ _ _ l3' l4' l1').mono ?_
      rintro e w6 ⟨rfl, hb6⟩
      have hB6 := up_trans hB5 hb6
      clear hc hf q0 q1 q2 l3' l4' l1' hB5 hb6 hC1
      cases hq : pB (BaOk b.things x0)
      · have Hq : Hid (bookB b = false) := HN.out (pB_not.1 hq)
        go_wp2_with fail
        go_ret
        exact ⟨ret_bool Hq.out.symm, up_trans hB0 hB6⟩
      · have Hq : Hid (BasTo b.things b.bs (k + 1)) := HS.out (pB_iff.1 hq)
        go_wp2_with fail
        go_roundw
        case rel => exact ⟨k + 1, by omega, by go_num, Hq.out, hB6⟩
        case measure => simp [intOf]; omega
    · have Hq : Hid (BasTo b.things b.bs b.bs.length) := bas_end Hal.out hp
      have h8' : ∀ x ∈ b.bs, Asc x.has ∧ x.has.length ≤ 8 := bas_has (by omega) Hq.out
      obtain ⟨hc, hf⟩ := bcell hB
      go_wp2_with fail
      refine (holders_any b.bs _ _ (l2.up hB) (by omega) h8').mono ?_
      rintro e w6 ⟨hh, hb6⟩
      have hB6 := up_trans hB hb6
      clear hc hf
      rcases hh with ⟨hA, M, n, D, rfl, -, -, -⟩ | ⟨hA, rfl⟩
      · have Hy : Hid (bookB b = true) := pB_yes ⟨Ho.out, by omega, Hn.out.1, Hn.out.2, Hq.out, hA⟩
        go_wp2_with fail
        go_ret
        exact ⟨ret_bool Hy.out.symm, up_trans hB0 hB6⟩
      · have Hy : Hid (bookB b = false) := pB_no fun h => hA h.2.2.2.2.2
        go_wp2_with fail
        go_ret
        exact ⟨ret_bool Hy.out.symm, up_trans hB0 hB6⟩
end Go.Proofs.YtlkpgiifdclijaaGreatDoor

/- The program's walks of chapter 12: bits of things. -/
namespace Go.Proofs.YtlkpgiifdclijaaGreatDoor
open Go.RowKit

theorem indexS_any (ss : List ByteArray) (v : Value) (s : ByteArray) (w : World) (h : Ls w v ss) :
    Calls Tryz.prog 177 #[v, .string s] w fun e w' => e = .returned (.int .i64 (idxI ss s)) ∧ w' = w := by
  obtain ⟨a, c, rfl, hn, -, hpos⟩ := h
  unfold maxLen at hn
  go_enter Tryz.func177, Tryz.ntmps177
  go_wp2
  go_loop [8] (fun i => ∃ k : Nat, k ≤ ss.length ∧ i = .int .i64 k ∧ memS (ss.take k) s = false) (fun i => ss.length - (intOf i).toNat)
  case atStart => exact ⟨0, by omega, rfl, rfl⟩
  case round =>
    obtain ⟨k, hk, rfl, hal⟩ := hrel
    have Hal : Hid (memS (ss.take k) s = false) := hal
    clear hal
    by_cases hp : k < ss.length
    · obtain ⟨b, o, rfl, hS, hb⟩ := hpos (by omega)
      have c0 := hS.cell hp
      cases hq : (s.toList == (ss[k]).toList)
      · have Hq : Hid (((ss[k]).toList == s.toList) = false) := by show _ = _; rw [beq_flip]; exact hq
        go_wp2
        go_round
        case rel => exact ⟨k + 1, by omega, by go_num, memS_take hp Hal.out Hq.out⟩
        case measure => simp [intOf]; omega
      · have Hq : Hid (((ss[k]).toList == s.toList) = true) := by show _ = _; rw [beq_flip]; exact hq
        go_wp2
        go_ret
        exact ⟨ret_int (idxI_found hp Hal.out Hq.out).symm, rfl⟩
    · go_wp2
      go_ret
      exact ⟨ret_int (idxI_none (memS_all hp Hal.out)).symm, rfl⟩

theorem containsS_any (ss : List ByteArray) (v : Value) (s : ByteArray) (w : World) (h : Ls w v ss) :
    Calls Tryz.prog 176 #[v, .string s] w fun e w' => e = .returned (.bool (memS ss s)) ∧ w' = w := by
  obtain ⟨a, c, rfl, -⟩ := id h
  go_enter Tryz.func176, Tryz.ntmps176
  go_wp2_with (go_at_call 177; refine (indexS_any ss _ _ _ h).mono ?_; rintro e w' ⟨rfl, hw⟩; obtain rfl := hw.symm; clear hw)
  all_goals
    go_ret
    refine ⟨ret_bool ?_, rfl⟩
    rw [← idxI_mem]
    try simp_all

theorem wrap_small {x : Int} (h0 : 0 ≤ x) (h1 : x < 18446744073709551616) : IntKind.u64.wrap x = x := by
  rw [IntKind.wrap_u64]; omega
theorem two_pow {k : Nat} (_ : k ≤ 7) : (2 : Int) ^ k = ((2 ^ k : Nat) : Int) := by simp
theorem two_pow_lt {k : Nat} (h : k ≤ 7) : 2 ^ k ≤ 128 := Nat.pow_le_pow_right (n := 2) (by omega) h
theorem wrap_sum {n k : Nat} (hn : n < 256) (hk : k ≤ 7) : IntKind.u64.wrap ((n : Int) + IntKind.u64.wrap (2 ^ k)) = ((n + 2 ^ k : Nat) : Int) := by
  have h := two_pow_lt hk
  rw [two_pow hk]
  generalize 2 ^ k = m at *
  rw [wrap_small (x := (m : Int)) (by omega) (by omega), wrap_small (by omega) (by omega)]; omega
theorem bitsN_take {l : List ByteArray} {P : ByteArray → Bool} {k : Nat} (hk : k < l.length) : bitsN (l.take (k + 1)) P = bitsN (l.take k) P + (if P l[k] = true then 2 ^ k else 0) := by
  rw [List.take_succ_eq_append_getElem hk, bitsN_snoc, List.length_take, Nat.min_eq_left (by omega)]
theorem bitsOf_any (things picked : List ByteArray) (u v : Value) (w : World) (h : Ls w u things) (h2 : Ls w v picked) (h8 : things.length ≤ 8) :
    Calls Tryz.prog 170 #[u, v] w fun e w' => e = .returned (.int .u64 (bitsN things (memS picked) : Nat)) ∧ w' = w := by
  obtain ⟨a, c, rfl, -, -, hpos⟩ := h
  obtain ⟨a2, c2, rfl, -⟩ := id h2
  go_enter Tryz.func170, Tryz.ntmps170
  go_wp2
  go_loop [5, 6, 7, 10] (fun x _ _ i => ∃ k : Nat, k ≤ things.length ∧ i = .int .i64 k ∧ x = .int .u64 (bitsN (things.take k) (memS picked) : Nat)) (fun _ _ _ i => things.length - (intOf i).toNat)
  case atStart => exact ⟨0, by omega, rfl, rfl⟩
  case round =>
    obtain ⟨k, hk, rfl, rfl⟩ := hrel
    by_cases hp : k < things.length
    · obtain ⟨b, o, rfl, hS, hb⟩ := hpos (by omega)
      have c0 := hS.cell hp
      have Hb := bitsN_take (P := memS picked) hp
      have hsm : bitsN (things.take k) (memS picked) < 256 := bitsN_small (by rw [List.length_take]; omega) _
      cases hq : memS picked things[k]
      · have HB : Hid (bitsN (things.take (k + 1)) (memS picked) = bitsN (things.take k) (memS picked)) := by show _ = _; rw [Hb, hq]; simp
        clear Hb
        go_wp2_with (go_at_call 176; refine (containsS_any picked _ _ _ h2).mono ?_; rintro e w' ⟨rfl, hw⟩; obtain rfl := hw.symm; clear hw)
        go_round
        case rel => exact ⟨k + 1, by omega, by go_num, by rw [HB.out]⟩
        case measure => simp [intOf]; omega
      · have HB : Hid (bitsN (things.take (k + 1)) (memS picked) = bitsN (things.take k) (memS picked) + 2 ^ k) := by show _ = _; rw [Hb, if_pos hq]
        clear Hb
        go_wp2_with (go_at_call 176; refine (containsS_any picked _ _ _ h2).mono ?_; rintro e w' ⟨rfl, hw⟩; obtain rfl := hw.symm; clear hw)
        go_round
        case rel =>
          refine ⟨k + 1, by omega, by go_num, ?_⟩
          rw [HB.out, wrap_sum hsm (by omega)]
        case measure => simp [intOf]; omega
    · have HB : Hid (bitsN (things.take k) (memS picked) = bitsN things (memS picked)) := by show _ = _; rw [List.take_of_length_le (by omega)]
      go_wp2
      go_ret
      exact ⟨congrArg (fun n : Nat => Ending.returned (.int .u64 (n : Int))) HB.out, rfl⟩
end Go.Proofs.YtlkpgiifdclijaaGreatDoor
