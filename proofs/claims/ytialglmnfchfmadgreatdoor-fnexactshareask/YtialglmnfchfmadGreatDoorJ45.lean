/- The program's chapter 13: why asking is refused. -/
import Derived.Test.YtialglmnfchfmadGreatDoorKrh
import Derived.Test.YtialglmnfchfmadGreatDoorKp4
import Derived.Test.YtialglmnfchfmadGreatDoorJ44
import Derived.Test.YtialglmnfchfmadGreatDoorJ22
namespace Go.Proofs.YtialglmnfchfmadGreatDoor
open Go.RowKit

theorem empty_of {s : ByteArray} (h : s.toList = []) : s = ⟨#[]⟩ := toL_eq (by rw [h, Go.ByteArray.toList_eq])
theorem szb_ask {b : Bk} {nm : ByteArray} {things : List ByteArray} (h : Szb b) (hn : ∀ s ∈ things, s.size ≤ maxLen) : Szb (chg b (plN b nm) (askF things)) := by
  cases hx : b.bs[plN b nm]? with
  | none => simp only [chg, hx]; exact h
  | some x =>
    rw [chg_at hx]
    refine ⟨h.1, fun y hy => ?_⟩
    rcases List.mem_or_eq_of_mem_set hy with k | k
    · exact h.2 y k
    · subst k
      have hm := List.mem_of_getElem? hx
      refine ⟨fun s hs => ?_, (h.2 x hm).2⟩
      rcases insAll_mem x.has things s hs with k | k
      · exact (h.2 x hm).1 s k
      · exact hn s k
set_option maxRecDepth 20000 in
set_option maxHeartbeats 4000000 in
theorem askRef_any (b : Bk) (v : Value) (nm : ByteArray) (lv : Value) (ls : List ByteArray) (w : World) (h : BkV w v b) (hok : BookOk b) (hl : Ls w lv ls) :
    Calls Tryz.prog 103 #[.agg #[.string nm, lv], v] w fun e w' => e = .returned (refV (askR b nm ls)) ∧ Below w.heap.size w w' := by
  have hzb := h.szb
  obtain ⟨a1, c1, a2, c2, rfl, -, -⟩ := h.parts
  obtain ⟨la, lc, rfl, hlm, hzl, -⟩ := id hl
  unfold maxLen at hlm
  obtain ⟨W1, hW1, kA, kB, hB1, hs1⟩ : ∃ W1, (w.alloc (.cells #[.string nm, .slice la ls.length lc] 59)).alloc (.cells #[.slice a1 (b).things.length c1, .slice a2 (b).bs.length c2] 30) = W1 ∧ CB W1 w.heap.size [.string nm, .slice la ls.length lc] ∧ CB W1 (w.heap.size + 1) [.slice a1 b.things.length c1, .slice a2 b.bs.length c2] ∧ Below w.heap.size w W1 ∧ W1.heap.size = w.heap.size + 2 := ⟨_, rfl, cb2 w _ _ _ _⟩
  go_enter Tryz.func103, Tryz.ntmps103
  go_upto_region 1 with fail
  try rw [hW1]
  clear hW1
  have hk1 := h.up hB1
  have hl1 := hl.up hB1
  obtain ⟨e0, e1⟩ := kA.c2'
  obtain ⟨d0, d1⟩ := kB.c2'
  go_wp2_with fail
  refine (ofNeeds_any b _ nm _ ls _ hk1 hok hl1).mono ?_
  rintro e w2 ⟨rfl, hB2⟩
  have hz2 := hB2.size
  have kA2 := kA.up hB2 (by omega)
  have kB2 := kB.up hB2 (by omega)
  have hk2 := hk1.up hB2
  have hl2 := hl1.up hB2
  have hB02 := up_trans hB1 hB2
  clear d0 d1 e0 e1 kA kB hk1 hl1 hB1 hB2 h hl
  by_cases hc : ofC b nm ls = 0
  case neg =>
    have HR : Hid (refV (askR b nm ls) = .iface 73 (.agg #[.int .i64 (ofC b nm ls)])) := by show _ = _; rw [askR_of hc, refV_some hc]
    rw [refV_some hc]
    generalize ofC b nm ls = c0 at *
    go_wp2_with fail
    go_ret
    exact ⟨ret_ref HR.out, hB02⟩
  have hm := of_mem hc
  have hpt := of_part hc
  have hsh := of_short hok hc
  rw [hc, refV_zero]
  obtain ⟨e0, e1⟩ := kA2.c2'
  obtain ⟨-, -, hpos⟩ := hl2.inv
  go_wp2_with fail
  go_loopw [22] (fun i w' => ∃ k : Nat, k ≤ ls.length ∧ i = .int .i64 (k : Int) ∧ (∀ (j : Nat) (s : ByteArray), j < k → ls[j]? = some s → ¬ Other b nm s) ∧ Below w2.heap.size w2 w') (fun i _ => ls.length - (intOf i).toNat)
  case atStart => exact ⟨0, by omega, rfl, fun j s hj => by omega, Below.refl _ _⟩
  case round =>
    obtain ⟨k, hk, rfl, hno, hB⟩ := hrel
    have Hno : Hid (∀ (j : Nat) (s : ByteArray), j < k → ls[j]? = some s → ¬ Other b nm s) := hno
    clear hno
    by_cases hp : k < ls.length
    · obtain ⟨bb, o, rfl, hS, hbb⟩ := hpos (by omega)
      have c0 := (hS.up hB hbb).cell hp
      have hs0 := hzl ls[k] (by simp)
      have Hstep : Hid (¬ Other b nm ls[k] → ∀ (j : Nat) (s : ByteArray), j < k + 1 → ls[j]? = some s → ¬ Other b nm s) := fun hn => by
        intro j s hj hs
        by_cases e : j = k
        · subst e
          rw [List.getElem?_eq_getElem hp] at hs
          obtain rfl := Option.some.inj hs
          exact hn
        · exact Hno.out j s (by omega) hs
      have H5 : Hid (Other b nm ls[k] → refV (askR b nm ls) = .iface 73 (.agg #[.int .i64 5])) := fun ho => by
        rw [askR_five hc ((taken_iff hok hm).2 ⟨_, List.getElem_mem hp, ho⟩)]; rfl
      generalize ls[k] = s0 at *
      have kBr := kB2.up hB (by omega)
      have kAr := kA2.up hB (by omega)
      obtain ⟨d0, d1⟩ := kBr.c2'
      go_wp2_with fail
      refine (who_any b _ s0 _ (hk2.up hB) hs0).mono ?_
      rintro e w3 ⟨rfl, hB3⟩
      rw [whoS, if_pos (show bookB b = true from pB_yes hok)]
      have hB23 := up_trans hB hB3
      have kA3 := kAr.up hB3 (by have := hB.size; omega)
      obtain ⟨f0, f1⟩ := kA3.c2'
      have Hot : Hid (Other b nm s0 ↔ whoB b.bs s0 ≠ ⟨#[]⟩ ∧ whoB b.bs s0 ≠ nm) := Iff.rfl
      generalize whoB b.bs s0 = wh at *
      clear c0 d0 d1 kBr kAr kA3 hB hB3
      by_cases q1 : wh = ⟨#[]⟩
      · have HN : Hid (¬ Other b nm s0) := fun ho => (Hot.out.1 ho).1 q1
        have HX : Hid (∀ (j : Nat) (s : ByteArray), j < k + 1 → ls[j]? = some s → ¬ Other b nm s) := Hstep.out HN.out
        subst q1
        clear Hot
        go_wp2_with fail
        go_roundw
        case rel => exact ⟨k + 1, by omega, by go_num, HX.out, hB23⟩
        case measure => simp [intOf]; omega
      by_cases q2 : wh = nm
      · have HN : Hid (¬ Other b nm s0) := fun ho => (Hot.out.1 ho).2 q2
        have HX : Hid (∀ (j : Nat) (s : ByteArray), j < k + 1 → ls[j]? = some s → ¬ Other b nm s) := Hstep.out HN.out
        rw [q2] at q1 ⊢
        have t1 : ¬ nm.toList = [] := fun e => q1 (empty_of e)
        clear Hot
        go_wp2_with fail
        go_roundw
        case rel => exact ⟨k + 1, by omega, by go_num, HX.out, hB23⟩
        case measure => simp [intOf]; omega
      · have HV : Hid (refV (askR b nm ls) = .iface 73 (.agg #[.int .i64 5])) := H5.out (Hot.out.2 ⟨q1, q2⟩)
        have t1 : ¬ wh.toList = [] := fun e => q1 (empty_of e)
        have t2 : (!wh.toList.isEmpty) = true := by cases hx : wh.toList with
          | nil => exact absurd hx t1
          | cons _ _ => rfl
        have t3 : (!wh.toList == nm.toList) = true := by
          cases hx : (wh.toList == nm.toList)
          · rfl
          · exact absurd (toL_eq (by simpa using hx)) q2
        clear Hot
        go_wp2_with fail
        all_goals
          first
            | (go_ret; exact ⟨ret_ref HV.out, up_trans hB02 hB23⟩)
            | (exfalso; simp_all)
    · obtain rfl : k = ls.length := by omega
      have HT : Hid (¬ Taken b.bs (plN b nm : Int) ls) := fun ht => by
        obtain ⟨s, hs, ho⟩ := (taken_iff hok hm).1 ht
        obtain ⟨i, hi, rfl⟩ := List.getElem_of_mem hs
        exact Hno.out i _ hi (List.getElem?_eq_getElem hi) ho
      have HR := askR_rest hc HT.out
      have kBr := kB2.up hB (by omega)
      have kAr := kA2.up hB (by omega)
      have hzr := hB.size
      have hkr := hk2.up hB
      have hlr := hl2.up hB
      obtain ⟨d0, d1⟩ := kBr.c2'
      obtain ⟨f0, f1⟩ := kAr.c2'
      go_wp2_with fail
      refine (safe_any b _ _ hkr).mono ?_
      rintro e w3 ⟨⟨ss, ok, rfl, hord⟩, hB3⟩
      have hz3 := hB3.size
      have hB23 := up_trans hB hB3
      have kB3 := kBr.up hB3 (by omega)
      have kA3 := kAr.up hB3 (by omega)
      have hk3 := hkr.up hB3
      have hl3 := hlr.up hB3
      rw [← safeQ_ok hord] at HR
      clear d0 d1 f0 f1 kBr kAr hkr hlr hB hB3 hord
      cases ok
      · have HV : Hid (refV (askR b nm ls) = .nilIface) := by show _ = _; rw [HR]; rfl
        clear HR
        go_wp2_with fail
        go_ret
        exact ⟨ret_ref HV.out, up_trans hB02 hB23⟩
      obtain ⟨d0, d1⟩ := kB3.c2'
      obtain ⟨f0, f1⟩ := kA3.c2'
      go_wp2_with fail
      refine (doneAsk_any b _ nm _ ls _ hk3 hl3 (by omega) hok hpt hm).mono ?_
      rintro e w4 ⟨⟨u, rfl, hu⟩, hB4⟩
      have hB24 := up_trans hB23 hB4
      have hVu := hu.w.bk (szb_ask hzb hzl)
      obtain ⟨i1, j1, i2, j2, rfl⟩ := hu.shape
      clear d0 d1 f0 f1 kB3 kA3 hk3 hl3 hB23 hB4 hu
      go_wp2_with fail
      refine (safe_any _ _ _ hVu).mono ?_
      rintro e w5 ⟨⟨st, ok2, rfl, hord2⟩, hB5⟩
      have hB25 := up_trans hB24 hB5
      rw [← safeQ_ok hord2] at HR
      clear hVu hord2 hB24 hB5
      cases ok2
      · have HV : Hid (refV (askR b nm ls) = .iface 73 (.agg #[.int .i64 6])) := by show _ = _; rw [HR]; rfl
        clear HR
        go_wp2_with fail
        go_ret
        exact ⟨ret_ref HV.out, up_trans hB02 hB25⟩
      · have HV : Hid (refV (askR b nm ls) = .nilIface) := by show _ = _; rw [HR]; rfl
        clear HR
        go_wp2_with fail
        go_ret
        exact ⟨ret_ref HV.out, up_trans hB02 hB25⟩
end Go.Proofs.YtialglmnfchfmadGreatDoor

/- The program's ShareAsk. -/
namespace Go.Proofs.YtialglmnfchfmadGreatDoor
open Go.RowKit

noncomputable def askC (b : Bk) (nm : ByteArray) (ls : List ByteArray) : Int := askedC b (askR b nm ls)
noncomputable def askB (b : Bk) (nm : ByteArray) (ls : List ByteArray) : Bk := askedB b (askR b nm ls) (chg b (plN b nm) (askF ls))
theorem ask_one {b b' : Bk} {nm : ByteArray} {ls : List ByteArray} {cd : Int} (h : AskIs b nm ls cd b') : cd = askC b nm ls ∧ b' = askB b nm ls := ask_is h
theorem szb_askB {b : Bk} {nm : ByteArray} {ls : List ByteArray} (h : Szb b) (hn : ∀ s ∈ ls, s.size ≤ maxLen) : Szb (askB b nm ls) := by
  unfold askB askedB
  split
  · exact szb_none
  · split
    · exact szb_ask h hn
    · exact h
theorem lit_askB (b : Bk) (nm : ByteArray) (ls : List ByteArray) : Lit (askB b nm ls) := by
  unfold askB askedB
  cases hb : bookB b
  · exact ⟨by simp [nobody], by simp [nobody], fun x hx => by simp [nobody] at hx⟩
  · have hok := book_ok hb
    obtain ⟨s1, s2, s3⟩ := lit_ok hok
    simp only [Bool.true_eq_false, if_false]
    split
    · rename_i hc
      have h0 := askR_zero hc
      obtain ⟨-, hpl⟩ := plN_lt (of_mem h0)
      have h8 := of_short hok h0
      rw [chg_at (List.getElem?_eq_getElem hpl)]
      refine ⟨s1, by rw [List.length_set]; exact s2, fun x hx => ?_⟩
      rcases List.mem_or_eq_of_mem_set hx with k | k
      · exact s3 x k
      · subst k
        have h1 := insAll_len (b.bs[plN b nm]).has ls
        have h2 := (ok_small hok).2.2 _ (List.getElem_mem hpl)
        exact ⟨by show (insAll _ _).length ≤ _; omega, by show (b.bs[plN b nm]).needs.length ≤ _; omega⟩
    · exact ⟨s1, s2, s3⟩
set_option maxRecDepth 20000 in
set_option maxHeartbeats 2000000 in
theorem askP_any (b : Bk) (v : Value) (nm : ByteArray) (lv : Value) (ls : List ByteArray) (w : World) (h : BkV w v b) (hl : Ls w lv ls) (hg : ErrT w) :
    Calls Tryz.prog 17 #[v, .string nm, lv] w fun e w' => (∃ u, e = .returned (.tuple #[u, .int .i64 (askC b nm ls)]) ∧ BkF w' w.heap.size u (askB b nm ls)) ∧ Below w.heap.size w w' := by
  have hA : ∀ W, Below w.heap.size w W → Calls Tryz.prog 26 #[v, .iface 59 (.agg #[.string nm, lv])] W fun e w' => (∃ u, e = .returned (.tuple #[u, .int .i64 (askC b nm ls)]) ∧ BkF w' W.heap.size u (askB b nm ls)) ∧ Below W.heap.size W w' := fun W hW => by
    refine answer_any b v nm _ _ (askC b nm ls) (askB b nm ls) W (h.up hW) (hg.up hW) fun X hX => ?_
    unfold askC askB
    exact try_any b v nm _ _ 103 (askR b nm ls) _ X ((h.up hW).up hX) (fun n w => as_whoA n _ _ w) (fun n w => as_refA n _ _ w) ru_A
      (fun hok Y hY => askRef_any b v nm lv ls Y (((h.up hW).up hX).up hY) hok (((hl.up hW).up hX).up hY))
      (fun hok hc Y hY => doneAsk_any b v nm lv ls Y (((h.up hW).up hX).up hY) (((hl.up hW).up hX).up hY) (by have := of_short hok (askR_zero hc); omega) hok (of_part (askR_zero hc)) (of_mem (askR_zero hc)))
  obtain ⟨a1, c1, a2, c2, rfl, -, -⟩ := h.parts
  obtain ⟨la, lc, rfl, -⟩ := id hl
  have HA : Hid (∀ W, Below w.heap.size w W → Calls Tryz.prog 26 #[.agg #[.slice a1 b.things.length c1, .slice a2 b.bs.length c2], .iface 59 (.agg #[.string nm, .slice la ls.length lc])] W fun e w' => (∃ u, e = .returned (.tuple #[u, .int .i64 (askC b nm ls)]) ∧ BkF w' W.heap.size u (askB b nm ls)) ∧ Below W.heap.size W w') := hA
  clear hA h hg hl
  obtain ⟨W1, hW1, kA, kR, hB1, hs1⟩ : ∃ W1, (w.alloc (.cells #[.slice a1 (b).things.length c1, .slice a2 (b).bs.length c2] 30)).alloc (.cells #[.slice none 0 0, .slice none 0 0] 30) = W1 ∧ CB W1 w.heap.size [.slice a1 b.things.length c1, .slice a2 b.bs.length c2] ∧ CB W1 (w.heap.size + 1) [.slice none 0 0, .slice none 0 0] ∧ Below w.heap.size w W1 ∧ W1.heap.size = w.heap.size + 2 := ⟨_, rfl, cb2 w _ _ _ _⟩
  go_enter Tryz.func17, Tryz.ntmps17
  go_upto_region 1 with fail
  try rw [hW1]
  clear hW1
  obtain ⟨e0, e1⟩ := kA.c2'
  go_wp2_with fail
  refine (HA.out _ hB1).mono ?_
  rintro e w2 ⟨⟨u, rfl, hu⟩, hb2⟩
  have kR2 := kR.up hb2 (by omega)
  have hB2 := up_trans hB1 hb2
  obtain ⟨i1, j1, i2, j2, rfl⟩ := hu.shape
  clear e0 e1 kA kR hB1 hb2 HA
  obtain ⟨⟨y0, y1⟩, q0, q1⟩ := kR2.c2
  go_wp2_with fail
  refine end_cb2b Tryz.results17 Tryz.underlying30 rfl sizeBk1 kR2 rfl rfl ?_
  exact ⟨⟨_, rfl, ((hu.set (by omega)).set (by omega)).low (by omega)⟩, below_set2 hB2 (Nat.le_succ _) _ _⟩
end Go.Proofs.YtialglmnfchfmadGreatDoor
