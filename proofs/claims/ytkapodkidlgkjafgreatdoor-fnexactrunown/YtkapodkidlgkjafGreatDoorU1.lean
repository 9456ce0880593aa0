/- The program's slots of a batch: a map while a call lasts, the things of slots (chapter 21). -/
import Derived.Test.YtkapodkidlgkjafGreatDoorU0
import Derived.Test.YtkapodkidlgkjafGreatDoorJ17
import Derived.Maps.OwnSet
import Derived.Maps.OwnOps
namespace Go.Proofs.YtkapodkidlgkjafGreatDoor
open Go.RowKit Go.Maps Go.Shelf Go.Sort

def Sl.cells (x : Sl) : List Value := [.string x.s, .string x.t]
/-- The slots lie in block b from cell o on. -/
def SlAt (w : World) (b o : Nat) (l : List Sl) : Prop := ∀ (i : Nat) (x : Sl), l[i]? = some x → w.rangeAt b (o + i * 2) x.cells
theorem SlAt.cells {w : World} {b o : Nat} {l : List Sl} (h : SlAt w b o l) (i : Nat) (hi : i < l.length) : w.cell? ⟨b, o + i * 2, none⟩ = some (.string (l[i]).s) ∧ w.cell? ⟨b, o + i * 2 + 1, none⟩ = some (.string (l[i]).t) := by
  have hr := h i l[i] (by simp)
  exact ⟨hr 0 _ rfl, hr 1 _ rfl⟩
theorem SlAt.up {w w' : World} {b o B : Nat} {l : List Sl} (h : SlAt w b o l) (hb : Below B w w') (hB : b < B) : SlAt w' b o l := fun i x hx j v hv => by
  rw [hb.cell (p := ⟨b, o + i * 2 + j, none⟩) hB]; exact h i x hx j v hv

/-- How a slot reads as an element of a map. -/
def slDat (x : Sl) : DataW Unit := .agg [.lit (.string x.s.data.toList), .lit (.string x.t.data.toList)]
def slElem (v : Value) : Option (DataW Unit × List MemPlace) := match v with
  | .agg a => match a.toList with
    | [.string s, .string t] => some (slDat ⟨s, t⟩, [])
    | _ => none
  | _ => none
theorem slElem_mk (s t : ByteArray) : slElem (.agg #[.string s, .string t]) = some (slDat ⟨s, t⟩, []) := rfl
theorem slElem_inv {v : Value} {z : DataW Unit × List MemPlace} (h : slElem v = some z) : ∃ s t, v = .agg #[.string s, .string t] ∧ z = (slDat ⟨s, t⟩, []) := by
  unfold slElem at h
  split at h
  · rename_i a
    split at h
    · rename_i s t hl
      refine ⟨s, t, ?_, (Option.some.inj h).symm⟩
      rw [← Array.toArray_toList (xs := a), hl]
    · cases h
  · cases h
abbrev MapS (w : World) (M n : Nat) (D : DataW Unit) : Prop := w.ownsMap Tryz.prog 9 slElem M n D
theorem keyStr : Keyed Tryz.prog 9 := string_keyed Tryz.underlying9
theorem zeroSl (w : World) : (zeroValue 113).run Tryz.prog w = .ok (.agg #[.string ⟨#[]⟩, .string ⟨#[]⟩]) w := by kernel_rfl
/-- The map holds the last slot of each name. -/
def SlM (D : DataW Unit) (l : List Sl) : Prop := IsMap D ∧ ∀ (s : ByteArray) (z : Sl), z.t = ⟨#[]⟩ → ∃ x : Sl, D.atKey (kl s) (slDat z) = slDat x ∧ x.t = lastT l s
theorem SlM.start : SlM (.map []) [] := ⟨⟨[], rfl⟩, fun s z hz => ⟨z, rfl, by rw [hz]; rfl⟩⟩
theorem SlM.step {D : DataW Unit} {l : List Sl} (h : SlM D l) (x : Sl) : SlM (D.put (kl x.s) (slDat x)) (l ++ [x]) := by
  refine ⟨h.1.put _ _, fun s z hz => ?_⟩
  rw [lastT_snoc]
  by_cases e : kl s = kl x.s
  · obtain rfl := kl_inj e
    exact ⟨x, atKey_put_same h.1 (kl_key _) _ _, by simp⟩
  · obtain ⟨y, h1, h2⟩ := h.2 s z hz
    have hne : ¬ (x.s.toList == s.toList) = true := fun h => e (by rw [key_inj (beq_iff_eq.1 h)])
    exact ⟨y, by rw [atKey_put_other e]; exact h1, by rw [if_neg hne]; exact h2⟩
theorem slDat_inj {x y : Sl} (h : slDat x = slDat y) : x.t = y.t := by
  unfold slDat at h
  simp only [DataW.agg.injEq, List.cons.injEq, DataW.lit.injEq, Lit.string.injEq] at h
  have := h.2.1
  cases hx : x.t; cases hy : y.t
  rw [hx, hy] at this
  simpa using this
/-- A slot looked up. -/
theorem wpList_lookup_slot (w : World) {ops : Array Oper} {rest : List Oper} {o : Oper} {a : Act} {Q : Exit → Act → World → Prop}
    (hg : o.guard = none) (m x : Operand) (hop : o.op = Op.lookup 78 m x false) (M n : Nat) (D : DataW Unit) (l : List Sl)
    (hm : a.eval m = .map (some M)) (hown : MapS w M n D) (hD : SlM D l) (s : ByteArray) (hx : a.eval x = .string s) (hs : s.size ≤ maxLen)
    (hK : ∀ c : ByteArray, wpList Tryz.prog ops Q rest (a.put o.dst (.agg #[.string c, .string (lastT l s)])) w) :
    wpList Tryz.prog ops Q (o :: rest) a w := by
  refine wpList_plain hg fun K' hK' => ?_
  obtain ⟨v, ps, hrun, hv⟩ := hown.lookup keyStr Tryz.underlying78 (zeroSl w) (slElem_mk _ _) (WideMaps.keyOf_string_mk Tryz.underlying9 hs)
  obtain ⟨c, t, rfl, hz⟩ := slElem_inv hv
  obtain ⟨y, h1, h2⟩ := hD.2 s ⟨⟨#[]⟩, ⟨#[]⟩⟩ rfl
  have h3 : D.atKey (kl s) (slDat ⟨⟨#[]⟩, ⟨#[]⟩⟩) = slDat ⟨c, t⟩ := congrArg Prod.fst hz
  have ht : t = lastT l s := by rw [← h2, ← slDat_inj (x := ⟨c, t⟩) (y := y) (by rw [← h3, h1])]
  subst ht
  unfold Oper.wp
  simp [execOp, hop, hm, hx, hrun, Result.andThen]
  exact hK' _ _ (hK c)

set_option maxRecDepth 100000 in
set_option maxHeartbeats 2000000 in
theorem slotMap_any (l : List Sl) (b o c : Nat) (w : World) (h : SlAt w b o l) (hb : b < w.heap.size) (hn : l.length ≤ 1048576) (hz : ∀ x ∈ l, x.s.size ≤ maxLen) :
    Calls Tryz.prog 40 #[.slice (some ⟨b, o, none⟩) l.length c] w fun e w' =>
      (∃ M D, e = .returned (.map (some M)) ∧ MapS w' M l.length D ∧ SlM D l ∧ w.heap.size ≤ M) ∧ Below w.heap.size w w' := by
  have hmm := @run_makeMap Tryz.prog
  go_enter Tryz.func40, Tryz.ntmps40
  go_wp2_with fail
  go_loopw [5, 9] (fun _ i w' => ∃ (k : Nat) (D : DataW Unit), k ≤ l.length ∧ i = .int .i64 k ∧ MapS w' w.heap.size k D ∧ SlM D (l.take k) ∧ Below w.heap.size w w') (fun _ i _ => l.length - (intOf i).toNat)
  case atStart => exact ⟨0, _, by omega, rfl, World.ownsMap_made _ _ _ _, SlM.start, (Below.refl _ _).alloc (Nat.le_refl _) _⟩
  case round =>
    obtain ⟨k, D, hk, rfl, hmap, hD, hB⟩ := hrel
    have HD : Hid (SlM D (l.take k)) := hD
    clear hD
    by_cases hp : k < l.length
    · obtain ⟨c0, c1⟩ := (h.up hB hb).cells k hp
      have z0 := hz l[k] (by simp)
      have HS : Hid (SlM (D.put (kl (l[k]).s) (slDat l[k])) (l.take (k + 1))) := by
        show _
        rw [List.take_succ_eq_append_getElem hp]; exact HD.out.step _
      have hkey : keyOf Tryz.prog 9 (.string (l[k]).s) = some (kl (l[k]).s) := WideMaps.keyOf_string_mk Tryz.underlying9 z0
      generalize l[k] = x0 at *
      clear HD z0
      have hB1 := hB.alloc hB.size (.cells #[.string (x0).s, .string (x0).t] 113)
      have hmap1 := hmap.alloc (.cells #[.string (x0).s, .string (x0).t] 113)
      have hC : CB (wr.alloc (.cells #[.string (x0).s, .string (x0).t] 113)) wr.heap.size [.string x0.s, .string x0.t] := cb_alloc wr _ _
      go_upto_region 5 with fail
      generalize wr.alloc (.cells #[.string (x0).s, .string (x0).t] 113) = W1 at *
      obtain ⟨⟨e0, e1⟩, -⟩ := hC.c2
      clear c0 c1 hmap hB
      go_wp2_with (at_mapUpdate; refine wpList_mapUpdate_own _ rfl _ _ _ 78 rfl 9 113 keyStr Tryz.underlying78 _ w.heap.size k D rfl hmap1 (by unfold maxLen; omega) _ _ _ rfl rfl hkey _ [] (slElem_mk _ _) ?_; intro w1 hown1 hgrow1)
      have hB2 := below_gr hB1 hgrow1 (Nat.le_refl _)
      clear hgrow1 hmap1 hB1 e0 e1 hC hkey
      go_wp2_with fail
      go_roundw
      case rel => exact ⟨k + 1, _, by omega, by go_num, hown1, HS.out, hB2⟩
      case measure => simp [intOf]; omega
    · have HK : Hid (SlM D l) := by
        have := HD.out
        rw [List.take_of_length_le (by omega)] at this; exact this
      go_wp2_with fail
      go_ret
      exact ⟨⟨_, D, rfl, hmap.mono hk, HK.out, Nat.le_refl _⟩, hB⟩

theorem slotMap_at (l : List Sl) (n b o c : Nat) (w : World) (hl : l.length = n) (h : SlAt w b o l) (hb : b < w.heap.size) (hn : n ≤ 1048576) (hz : ∀ x ∈ l, x.s.size ≤ maxLen) :
    Calls Tryz.prog 40 #[.slice (some ⟨b, o, none⟩) n c] w fun e w' =>
      (∃ M D, e = .returned (.map (some M)) ∧ MapS w' M n D ∧ SlM D l ∧ w.heap.size ≤ M) ∧ Below w.heap.size w w' := by
  subst hl; exact slotMap_any l b o c w h hb hn hz
theorem run_fieldT (c t : ByteArray) (w : World) : (Instr.field 113 (.agg #[.string c, .string t]) 1).run Tryz.prog w = .ok (.string t) w := by kernel_rfl
theorem own_shape {w : World} {base e size n : Nat} {v : Value} {xs : List Value} (h : w.ownsRow base e size v n xs) : ∃ a c, v = .slice a n c := by
  rcases h.2 with ⟨h1, h2⟩ | ⟨g, cap, _, hv, _⟩
  · exact ⟨_, _, by rw [h1, h2]⟩
  · exact ⟨_, _, hv⟩
set_option maxRecDepth 20000 in
set_option maxHeartbeats 4000000 in
theorem thingsM_any (l : List Sl) (ss : List ByteArray) (M n : Nat) (D : DataW Unit) (v : Value) (w : World) (hmap : MapS w M n D) (hD : SlM D l) (h : Lst w v ss) (hz : ∀ s ∈ ss, s.size ≤ maxLen) (hn : ss.length ≤ 800) :
    Calls Tryz.prog 41 #[.map (some M), v] w fun e w' => (∃ u, e = .returned u ∧ OwnT w' w.heap.size u (namesOf (thI l ss))) ∧ Below w.heap.size w w' := by
  obtain ⟨a, c, rfl⟩ := h.shape
  have hML := hmap.lt
  obtain ⟨ii, hi, iz0, iz1, iz2⟩ := info_parts infoStr
  have HD : Hid (SlM D l) := hD
  clear hD
  have hfd := run_fieldT
  go_enter Tryz.func41, Tryz.ntmps41
  go_wp2_with fail
  go_loopw [5, 7, 10] (fun u _ i w' => ∃ k : Nat, k ≤ ss.length ∧ i = .int .i64 k ∧ w'.ownsRow w.heap.size 9 1 u k (((ss.take k).map (lastT l)).map Value.string) ∧ Below w.heap.size w w') (fun _ _ i _ => ss.length - (intOf i).toNat)
  case atStart => exact ⟨0, by omega, rfl, ⟨by simp, .inl ⟨rfl, rfl⟩⟩, Below.refl _ _⟩
  case round =>
    obtain ⟨k, hk, rfl, hown, hB⟩ := hrel
    by_cases hp : k < ss.length
    · obtain ⟨g, hc0⟩ : ∃ g, w.cell? ⟨g, k, none⟩ = some (.string ss[k]) ∧ g < w.heap.size ∧ a = some ⟨g, 0, none⟩ := by
        rcases h with ⟨h1, h2⟩ | ⟨g, c', h1, hS, hg, -⟩
        · subst h2; simp at hp
        · simp only [Value.slice.injEq] at h1
          exact ⟨g, by have := hS k ss[k] (by simp); simpa using this, hg, h1.1⟩
      obtain ⟨hc0, hg, rfl⟩ := hc0
      have c0 := (hB.cell (p := ⟨g, k, none⟩) hg).trans hc0
      have z0 := hz ss[k] (by simp)
      have hmap1 : MapS wr M n D := hmap.kept (row := none) ⟨hB.os, hB.tape, hB.output, hB.size, fun i hi _ => hB.block i hi⟩ (by simp)
      have Hs : Hid ((((ss.take (k + 1)).map (lastT l)).map Value.string) = ((ss.take k).map (lastT l)).map Value.string ++ [.string (lastT l ss[k])]) := by
        show _ = _
        rw [List.take_succ_eq_append_getElem hp, List.map_append, List.map_append]; rfl
      generalize ss[k] = s0 at *
      have hz1 := hB.size
      go_wp2_with (first
        | (at_lookup; refine wpList_lookup_slot _ rfl _ _ rfl M n D l rfl hmap1 HD.out s0 rfl z0 ?_; intro cc)
        | (at_builtin; refine wpList_append_own _ rfl _ _ 27 rfl w.heap.size 9 ii _ 1 16 Tryz.underlying27 hi iz0 iz1 iz2 rfl (by decide) _ _ _ rfl (own_up hown ((Below.refl wr.heap.size wr).alloc (Nat.le_refl _) (.cells #[.string (lastT l s0)] 9))) ⟨wr.heap.size, 0, none⟩ 1 1 [.string (lastT l s0)] rfl rfl (one_new _ _ _) (oneV _) (by unfold maxLen; omega) (by omega) (by simp; omega) ?_; intro v1 w1 hown3 hgrow3 _))
      rw [← Hs.out] at hown3
      have hB3 := below_own (hB.alloc hB.size (.cells #[.string (lastT l s0)] 9)) (own_up hown ((Below.refl wr.heap.size wr).alloc (Nat.le_refl _) (.cells #[.string (lastT l s0)] 9))) hgrow3 (Nat.le_refl _)
      clear hown hgrow3 hB c0 hmap1
      go_wp2_with fail
      go_roundw
      case rel => exact ⟨k + 1, by omega, by go_num, hown3, hB3⟩
      case measure => simp [intOf]; omega
    · have hkl : k = ss.length := by omega
      rw [hkl, List.take_length] at hown
      clear hkl
      have HT : Hid (thI l ss = uniq (keys (ss.map (lastT l)))) := rfl
      have Hl : Hid ((keys (ss.map (lastT l))).length = ss.length) := by show _ = _; simp [keys]
      by_cases h0 : ss.length = 0
      · have H0 : Hid (ss = []) := List.length_eq_zero_iff.1 h0
        rw [h0] at hown
        obtain ⟨ua, uc, hu⟩ := own_shape hown
        subst hu
        have HO : Hid (OwnT wr w.heap.size (.slice ua 0 uc) (namesOf (thI l ss))) := by
          show OwnT _ _ _ _
          have e : namesOf (thI l ss) = [] := by
            have := thI_len l ss
            rw [h0] at this
            rw [List.length_eq_zero_iff.1 (Nat.le_zero.1 this)]; rfl
          rw [e]
          rw [H0.out] at hown
          exact hown
        clear hown h0
        go_wp2_with fail
        refine (Tryz.slices_Sort_string_none _ _ _).mono ?_
        rintro e w' ⟨rfl, hw⟩; obtain rfl := hw.symm; clear hw
        go_wp2_with fail
        refine (Tryz.slices_Compact_string_empty _ _ _).mono ?_
        rintro e w' ⟨rfl, hw⟩; obtain rfl := hw.symm; clear hw
        go_wp2_with fail
        go_ret
        exact ⟨⟨_, rfl, HO.out⟩, hB⟩
      · rw [strs_enc] at hown
        generalize keys (ss.map (lastT l)) = ks at *
        obtain ⟨n', hN⟩ : ∃ n, n = ss.length := ⟨_, rfl⟩
        have hlen : ks.length = n' := by rw [Hl.out, hN]
        rw [← hN] at hown
        have hnp : 0 < n' := by omega
        have hn9 : n' ≤ 900 := by omega
        clear hN Hl h0
        obtain ⟨g, cap, hug⟩ := own_ptr2 hown hnp
        subst hug
        obtain ⟨g', cap', hv, hbg, hgl, hncap, hcm, _, hH⟩ := Lib.holds_of_ownsRow hown (by simp)
        cases hv
        unfold maxLen at hcm
        have hsort := Tryz.slices_Sort_string g 0 cap ks wr hH hgl (by omega)
        rw [hlen] at hsort
        go_wp2_with fail
        refine hsort.mono ?_
        rintro e w3 ⟨rfl, nn, os, rfl⟩
        clear hsort
        have hl2 : (ks.mergeSort fun x y => decide (x ≤ y)).length = n' := by rw [List.length_mergeSort]; exact hlen
        have hH2 : Holds encStr (grow (putRow encStr (Sort.ahead wr nn) g 0 (ks.mergeSort fun x y => decide (x ≤ y)).toArray) os) g 0 (ks.mergeSort fun x y => decide (x ≤ y)).toArray :=
          holds_grow encStr _ os g 0 _ (by simpa [putRow, mapBlock, Sort.ahead] using hgl) (holds_putRow encStr _ g 0 _ _ (holds_ahead encStr wr nn g 0 _ hH) (by simp))
        have hcomp := Tryz.slices_Compact_string g 0 cap (ks.mergeSort fun x y => decide (x ≤ y)) _ hH2 (by omega) (by omega)
        rw [hl2] at hcomp
        clear hH2 hH
        go_wp2_with fail
        refine hcomp.mono ?_
        rintro e w4 ⟨rfl, q, rfl⟩
        obtain ⟨ho, hB4⟩ := left_of (nn := nn) (q := q) (os := os) hown hB hbg hlen
        rw [← HT.out, names_enc] at ho
        clear hcomp
        go_wp2_with fail
        go_ret
        refine ⟨⟨_, rfl, ?_⟩, hB4⟩
        have hT := HT.out
        unfold uniq at hT
        rw [← hT] at ho ⊢
        have hll : (namesOf (thI l ss)).length = (thI l ss).length := by simp [namesOf]
        unfold OwnT
        rw [hll]
        exact ho
end Go.Proofs.YtkapodkidlgkjafGreatDoor
