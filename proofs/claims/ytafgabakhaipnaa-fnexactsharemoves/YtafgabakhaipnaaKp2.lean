/- The program's walks over batches (chapter 11): their names, who has what. -/
import Derived.Test.YtafgabakhaipnaaKp1
import Derived.Test.YtafgabakhaipnaaJ14
import Derived.Maps.OwnSet
import Derived.Maps.OwnOps
namespace Go.Proofs.Ytafgabakhaipnaa
open Go.RowKit Go.Maps

theorem nms_snoc (bs : List Ba) (k : Nat) (hk : k < bs.length) : nms (bs.take (k + 1)) = nms (bs.take k) ++ [(bs[k]).nm] := by
  rw [nms_take, nms_take, List.take_succ_eq_append_getElem (by rw [nms_length]; exact hk), nms_get bs k hk]
theorem BaAt.batch {w : World} {b o : Nat} {x : Ba} (h : BaAt w b o x) : x.nm.size ≤ maxLen := by
  obtain ⟨_, _, _, _, _, h3⟩ := h; exact h3

set_option maxHeartbeats 1000000 in
theorem batchNames_any (bs : List Ba) (v : Value) (w : World) (h : Bs w v bs) (hn : bs.length ≤ 1048576) :
    Calls Try.prog 34 #[v] w fun e w' => (∃ u, e = .returned u ∧ OwnT w' w.heap.size u (nms bs) ∧ Ls w' u (nms bs)) ∧ Below w.heap.size w w' := by
  obtain ⟨a, c, rfl, -, hpos⟩ := h
  obtain ⟨ii, hi, iz0, iz1, iz2⟩ := info_parts infoStr
  go_enter Try.func34, Try.ntmps34
  go_wp2_with fail
  go_loopw [3, 5, 8] (fun u _ i w' => ∃ k : Nat, k ≤ bs.length ∧ i = .int .i64 k ∧ w'.ownsRow w.heap.size 9 1 u k ((nms (bs.take k)).map Value.string) ∧ Below w.heap.size w w') (fun _ _ i _ => bs.length - (intOf i).toNat)
  case atStart => exact ⟨0, by omega, rfl, ⟨by simp [nms], .inl ⟨rfl, rfl⟩⟩, Below.refl _ _⟩
  case round =>
    obtain ⟨k, hk, rfl, hown, hB⟩ := hrel
    by_cases hp : k < bs.length
    · obtain ⟨b, o, rfl, hS, hb⟩ := hpos (by omega)
      obtain ⟨a1, d1, a2, d2, c0, c1, c2, l1, l2, z0⟩ := ((hS.at hp).up hB hb).cells
      have Hs : Hid ((nms (bs.take (k + 1))).map Value.string = (nms (bs.take k)).map Value.string ++ [.string (bs[k]).nm]) := by
        show _ = _
        rw [nms_snoc bs k hp, List.map_append]; rfl
      generalize bs[k] = x0 at *
      clear l1 l2 hS
      have hB1 := hB.alloc hB.size (.cells #[.string (x0).nm, .slice a1 (x0).has.length d1, .slice a2 (x0).needs.length d2] 41)
      have hown1 := own_up hown ((Below.refl wr.heap.size wr).alloc (Nat.le_refl _) (.cells #[.string (x0).nm, .slice a1 (x0).has.length d1, .slice a2 (x0).needs.length d2] 41))
      have hC : CB (wr.alloc (.cells #[.string (x0).nm, .slice a1 (x0).has.length d1, .slice a2 (x0).needs.length d2] 41)) wr.heap.size [.string x0.nm, .slice a1 x0.has.length d1, .slice a2 x0.needs.length d2] := cb_alloc wr _ _
      have hz := hB.size
      go_upto_region 5 with fail
      generalize wr.alloc (.cells #[.string (x0).nm, .slice a1 (x0).has.length d1, .slice a2 (x0).needs.length d2] 41) = W1 at *
      obtain ⟨⟨e0, -⟩, -⟩ := hC.c3
      clear c0 c1 c2 hown hB
      have hown2 := own_up hown1 ((Below.refl W1.heap.size W1).alloc (Nat.le_refl _) (.cells #[.string x0.nm] 9))
      have hB2 := hB1.alloc hB1.size (.cells #[.string x0.nm] 9)
      go_wp2_with (at_builtin; refine wpList_append_own _ rfl _ _ 57 rfl w.heap.size 9 ii _ 1 16 Try.underlying57 hi iz0 iz1 iz2 rfl (by decide) _ _ _ rfl hown2 ⟨W1.heap.size, 0, none⟩ 1 1 [.string x0.nm] rfl rfl (one_new _ _ _) (oneV _) (by unfold maxLen; omega) (by omega) hB2.size ?_)
      intro v1 w1 hown3 hgrow3 _
      rw [← Hs.out] at hown3
      have hB3 := below_own hB2 hown2 hgrow3 (Nat.le_refl _)
      clear hown1 hown2 hgrow3 hB1 hB2 hC e0
      go_wp2_with fail
      go_roundw
      case rel => exact ⟨k + 1, by omega, by go_num, hown3, hB3⟩
      case measure => simp [intOf]; omega
    · have hz : ∀ s ∈ nms bs, s.size ≤ maxLen := fun s hs => by
        obtain ⟨x, hx, rfl⟩ := List.mem_map.1 hs
        obtain ⟨i, hi, rfl⟩ := List.getElem_of_mem hx
        obtain ⟨b, o, rfl, hS, hb⟩ := hpos (by omega)
        exact (hS.at hi).batch
      have Ho : Hid (∀ u, wr.ownsRow w.heap.size 9 1 u k ((nms (bs.take k)).map Value.string) → OwnT wr w.heap.size u (nms bs)) := fun u h => by
        obtain rfl : k = bs.length := by omega
        rw [List.take_length] at h
        unfold OwnT; rw [nms_length]; exact h
      have Hz : Hid (∀ s ∈ nms bs, s.size ≤ maxLen) := hz
      clear hz
      go_wp2_with fail
      go_ret
      exact ⟨⟨_, rfl, Ho.out _ hown, (Ho.out _ hown).lst.ls Hz.out⟩, hB⟩

theorem keyLaw : Keyed Try.prog 9 := string_keyed Try.underlying9
theorem zeroInt (w : World) : (zeroValue 3).run Try.prog w = .ok (.int .i64 0) w := by kernel_rfl
abbrev MapAt (w : World) (M n : Nat) (D : DataW Unit) : Prop := w.ownsMap Try.prog 9 (plainElem Try.prog 3) M n D

set_option maxRecDepth 100000 in
set_option maxHeartbeats 2000000 in
theorem holders_any (bs : List Ba) (v : Value) (w : World) (h : Bs w v bs) (hn : bs.length ≤ 5) (h8 : ∀ x ∈ bs, Asc x.has ∧ x.has.length ≤ 8) :
    Calls Try.prog 36 #[v] w fun e w' =>
      ((Apart bs ∧ ∃ M n D, e = .returned (.tuple #[.map (some M), .bool true]) ∧ MapAt w' M n D ∧ HoldD D bs bs.length 0 ∧ w.heap.size ≤ M) ∨ (¬ Apart bs ∧ e = .returned (.tuple #[.map none, .bool false]))) ∧ Below w.heap.size w w' := by
  obtain ⟨a, c, rfl, -, hpos⟩ := h
  have hmm := @run_makeMap Try.prog
  go_enter Try.func36, Try.ntmps36
  go_wp2_with fail
  go_loopw [5, 6, 8, 9, 10, 14] (fun _ _ _ _ _ i w' => ∃ (k : Nat) (D : DataW Unit), k ≤ bs.length ∧ i = .int .i64 k ∧ MapAt w' w.heap.size (k * 8) D ∧ HoldD D bs k 0 ∧ Below w.heap.size w w') (fun _ _ _ _ _ i _ => bs.length - (intOf i).toNat)
  case atStart => exact ⟨0, _, by omega, rfl, World.ownsMap_made _ _ _ _, HoldD.start bs, (Below.refl _ _).alloc (Nat.le_refl _) _⟩
  case round =>
    obtain ⟨k, D, hk, rfl, hmap, hD, hB⟩ := hrel
    have HD : Hid (HoldD D bs k 0) := hD
    clear hD
    by_cases hp : k < bs.length
    · obtain ⟨b, o, rfl, hS, hb⟩ := hpos (by omega)
      obtain ⟨a1, d1, a2, d2, c0, c1, c2, l1, -, -⟩ := (hS.at hp).cells
      obtain ⟨h8a, h8b⟩ := h8 bs[k] (by simp)
      have HS : Hid (∀ (D : DataW Unit) (m : Nat) (s : ByteArray), (bs[k]).has[m]? = some s → HoldD D bs k m → Maps.has D (kl s) = false → HoldD (D.put (kl s) (.lit (.int .i64 (k : Int)))) bs k (m + 1)) := fun D m s hs h hn => by
        obtain ⟨hm, rfl⟩ := List.getElem?_eq_some_iff.1 hs
        exact h.step hp hm hn
      have HT : Hid (∀ (D : DataW Unit) (m : Nat) (s : ByteArray), (bs[k]).has[m]? = some s → HoldD D bs k m → Maps.has D (kl s) = true → ¬ Apart bs) := fun D m s hs h hn => by
        obtain ⟨hm, rfl⟩ := List.getElem?_eq_some_iff.1 hs
        exact h.twice hp hm h8a hn
      have HN : Hid (∀ (D : DataW Unit) (m : Nat), ¬ m < (bs[k]).has.length → HoldD D bs k m → HoldD D bs (k + 1) 0) := fun D m hm h => h.next hp hm
      obtain ⟨-, hz, hp1⟩ := l1.inv
      clear h8a l1
      generalize bs[k] = x0 at *
      obtain ⟨hc, hf⟩ := bcell hB
      have hB1 := hB.alloc hB.size (.cells #[.string (x0).nm, .slice a1 (x0).has.length d1, .slice a2 (x0).needs.length d2] 41)
      have hmap1 := hmap.alloc (.cells #[.string (x0).nm, .slice a1 (x0).has.length d1, .slice a2 (x0).needs.length d2] 41)
      have hC : CB (wr.alloc (.cells #[.string (x0).nm, .slice a1 (x0).has.length d1, .slice a2 (x0).needs.length d2] 41)) wr.heap.size [.string x0.nm, .slice a1 x0.has.length d1, .slice a2 x0.needs.length d2] := cb_alloc wr _ _
      have hz1 := hB.size
      go_upto_region 5 with fail
      generalize wr.alloc (.cells #[.string (x0).nm, .slice a1 (x0).has.length d1, .slice a2 (x0).needs.length d2] 41) = W1 at *
      obtain ⟨⟨e0, e1, e2⟩, -⟩ := hC.c3
      clear c0 c1 c2 hc hf hmap hB hS
      go_wp2_with fail
      clear e0 e1 e2 hC
      go_loopw [8, 9, 10, 22] (fun _ _ _ j w' => ∃ (m : Nat) (D' : DataW Unit), m ≤ x0.has.length ∧ j = .int .i64 m ∧ MapAt w' w.heap.size (k * 8 + m) D' ∧ HoldD D' bs k m ∧ Below w.heap.size w w') (fun _ _ _ j _ => x0.has.length - (intOf j).toNat)
      case atStart => exact ⟨0, D, by omega, rfl, hmap1, HD.out, hB1⟩
      case round =>
        clear hB1 hmap1 HD
        obtain ⟨m, D', hm, rfl, hmap, hD, hB⟩ := hrel
        have HD : Hid (HoldD D' bs k m) := hD
        clear hD
        by_cases hq : m < x0.has.length
        · obtain ⟨b1, o1, rfl, hS1, hb1⟩ := hp1 (by omega)
          have c0 := (hB.cell (p := ⟨b1, o1 + m, none⟩) hb1).trans (hS1.cell hq)
          have z0 := hz x0.has[m] (by simp)
          have hx := List.getElem?_eq_getElem hq
          generalize x0.has[m] = s at *
          have Hy : Hid (Maps.has D' (kl s) = false → HoldD (D'.put (kl s) (.lit (.int .i64 (k : Int)))) bs k (m + 1)) := HS.out D' m s hx HD.out
          have Ht : Hid (Maps.has D' (kl s) = true → ¬ Apart bs) := HT.out D' m s hx HD.out
          have hkey : keyOf Try.prog 9 (.string s) = some (kl s) := WideMaps.keyOf_string_mk Try.underlying9 z0
          clear HS HT HN hx HD
          cases ht : Maps.has D' (kl s)
          · go_wp2_with (first
              | (at_lookup; refine wpList_lookup_own_ok_int _ rfl _ _ 61 rfl 9 3 .i64 keyLaw Try.underlying61 Try.underlying3 (zeroInt _) w.heap.size (k * 8 + m) D' rfl hmap _ _ rfl hkey ?_; intro cc _ _)
              | (at_mapUpdate; refine wpList_mapUpdate_own _ rfl _ _ _ 61 rfl 9 3 keyLaw Try.underlying61 _ w.heap.size (k * 8 + m) D' rfl hmap (by unfold maxLen; omega) _ _ _ rfl rfl hkey _ [] (plainElem_int Try.underlying3 (WalkArith.wf_i64 (by omega))) ?_; intro w1 hown1 hgrow1))
            have HD1 : Hid (HoldD (D'.put (kl s) (.lit (.int .i64 (k : Int)))) bs k (m + 1)) := Hy.out ht
            have hB1 := below_gr hB hgrow1 (Nat.le_refl _)
            clear Hy Ht hgrow1 hmap hB c0
            go_wp2_with fail
            go_roundw
            case rel => exact ⟨m + 1, _, by omega, by go_num, hown1, HD1.out, hB1⟩
            case measure => simp [intOf]; omega
          · go_wp2_with (first
              | (at_lookup; refine wpList_lookup_own_ok_int _ rfl _ _ 61 rfl 9 3 .i64 keyLaw Try.underlying61 Try.underlying3 (zeroInt _) w.heap.size (k * 8 + m) D' rfl hmap _ _ rfl hkey ?_; intro cc _ _))
            go_returns
            exact ⟨.inr ⟨Ht.out ht, rfl⟩, hB⟩
        · go_wp2_with fail
          go_roundw
          case rel => exact ⟨k + 1, D', by omega, by go_num, hmap.mono (by omega), HN.out D' m hq HD.out, hB⟩
          case measure => simp [intOf]; omega
    · have Hk : Hid (k = bs.length) := by show _ = _; omega
      go_wp2_with fail
      go_returns
      exact ⟨.inl ⟨HD.out.apart hp, _, _, D, rfl, hmap, by rw [← Hk.out]; exact HD.out, Nat.le_refl _⟩, hB⟩
end Go.Proofs.Ytafgabakhaipnaa
