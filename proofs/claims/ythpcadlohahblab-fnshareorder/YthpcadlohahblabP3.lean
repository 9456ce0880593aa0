/- The program's walk of ShareFits (chapter 12). -/
import Derived.Test.YthpcadlohahblabKp7
import Derived.Test.YthpcadlohahblabK1
namespace Go.Proofs.Ythpcadlohahblab
open Go.RowKit

/-- The table says who is gone. -/
def GoneIs (ts : List Tr) (gone : List ByteArray) : Prop := ∀ (i : Nat) (p : Tr), ts[i]? = some p → p.2 = memS gone p.1.nm
theorem memS_snoc (l : List ByteArray) (s t : ByteArray) : memS (l ++ [s]) t = (memS l t || (s.toList == t.toList)) := by simp [memS]
theorem gone_step {bs : List Ba} (ha : Asc (nms bs)) {ts : List Tr} (h : ts.map (·.1) = bs) {gone : List ByteArray} (hG : GoneIs ts gone) {n : Nat} {p : Tr} (hp : ts[n]? = some p) : GoneIs (ts.set n (p.1, true)) (gone ++ [p.1.nm]) := fun i q hq => by
  rw [memS_snoc]
  by_cases e : n = i
  · subst e
    rw [List.getElem?_set, if_pos rfl, if_pos (List.getElem?_eq_some_iff.1 hp).1] at hq
    obtain rfl := Option.some.inj hq
    simp
  · rw [List.getElem?_set, if_neg e] at hq
    rw [hG i q hq]
    have : (p.1.nm.toList == q.1.nm.toList) = false := by
      rw [← Bool.not_eq_true, beq_iff_eq]
      intro h1
      refine e (asc_ne ha (a := p.1.nm) ?_ ?_)
      · rw [nms, List.getElem?_map, map_at h hp]; rfl
      · rw [nms, List.getElem?_map, map_at h hq, toL_eq h1]; rfl
    rw [this, Bool.or_false]
theorem set_fst {bs : List Ba} {ts : List Tr} (h : ts.map (·.1) = bs) {n : Nat} {p : Tr} (hp : ts[n]? = some p) : (ts.set n (p.1, true)).map (·.1) = bs := by
  rw [List.map_set, h]
  have := map_at h hp
  obtain ⟨hn, e⟩ := List.getElem?_eq_some_iff.1 this
  show bs.set n p.1 = bs
  rw [← e, List.set_getElem_self]
theorem row_at {bs : List Ba} {ts : List Tr} (h : ts.map (·.1) = bs) {n : Nat} (hn : n < bs.length) : ∃ p, ts[n]? = some p ∧ p.1 = bs[n] := by
  have hl : n < ts.length := by rw [← h] at hn; simpa using hn
  refine ⟨ts[n], List.getElem?_eq_getElem hl, ?_⟩
  have := map_at h (List.getElem?_eq_getElem hl)
  rw [List.getElem?_eq_getElem hn] at this
  exact (Option.some.inj this).symm
theorem gone_none (bs : List Ba) (k : Nat) : GoneIs (ts0 bs k) [] := fun i p hp => by
  rw [ts0, List.getElem?_map, Option.map_eq_some_iff] at hp
  obtain ⟨x, _, rfl⟩ := hp
  rfl

set_option maxHeartbeats 4000000 in
theorem fits_any (b : Bk) (v : Value) (ss : List ByteArray) (ov : Value) (w : World) (h : BkV w v b) (ho : Ls w ov ss) :
    Calls Try.prog 13 #[v, ov] w fun e w' => e = .returned (.bool (pB (Fits b ss))) ∧ Below w.heap.size w w' := by
  obtain ⟨a1, c1, a2, c2, rfl, h1, h2⟩ := h.parts
  obtain ⟨a, c, rfl, -⟩ := id ho
  have g2 := h2.at.1
  have g3 := ho.inv.1
  unfold maxLen at g2 g3
  obtain ⟨W1, hW1, kA, hB1, hs1⟩ : ∃ W1, w.alloc (.cells #[.slice a1 (b).things.length c1, .slice a2 (b).bs.length c2] 26) = W1 ∧ CB W1 w.heap.size [.slice a1 b.things.length c1, .slice a2 b.bs.length c2] ∧ Below w.heap.size w W1 ∧ W1.heap.size = w.heap.size + 1 := ⟨_, rfl, cb1 w _ _⟩
  clear hs1
  go_enter Try.func13, Try.ntmps13
  go_upto_region 1 with fail
  try rw [hW1]
  clear hW1
  have hk := h.up hB1
  have l2 := h2.up hB1
  have lo := ho.up hB1
  obtain ⟨e0, e1⟩ := kA.c2'
  have hlt := kA.2.2
  clear h h1 h2 ho
  go_wp2_with fail
  refine (bookOk_any b _ _ hk).mono ?_
  rintro e w2 ⟨rfl, hB2⟩
  cases hq : bookB b
  · have Hq : Hid (¬ Fits b ss) := fun h => by rw [bookB, pB_yes h.1] at hq; cases hq
    go_wp2_with fail
    go_ret
    exact ⟨ret_bool (pB_no Hq.out).symm, up_trans hB1 hB2⟩
  have hok : BookOk b := pB_iff.1 hq
  have Hok : Hid (BookOk b) := hok
  have h8 := hok.1.1
  have h5 := hok.2.1
  clear hq hok
  have f0 := (hB2.cell (p := ⟨w.heap.size, 0, none⟩) hlt).trans e0
  have f1 := (hB2.cell (p := ⟨w.heap.size, 1, none⟩) hlt).trans e1
  by_cases hl : ss.length = b.bs.length
  case neg =>
    have Hq : Hid (¬ Fits b ss) := fun h => hl h.2.1
    have hlb : ((ss.length : Int) != (b.bs.length : Int)) = true := by rw [bne_iff_ne]; omega
    go_wp2_with fail
    go_ret
    exact ⟨ret_bool (pB_no Hq.out).symm, up_trans hB1 hB2⟩
  have Hl : Hid (ss.length = b.bs.length) := hl
  have hlb : ((ss.length : Int) != (b.bs.length : Int)) = false := by rw [bne_eq_false_iff_eq]; omega
  clear hl
  go_wp2_with fail
  refine (batchNames_any b.bs _ _ (l2.up hB2) (by omega)).mono ?_
  rintro e w3 ⟨⟨u, rfl, -, hu⟩, hb3⟩
  have hB3 := up_trans hB2 hb3
  clear hb3 f0 f1 hlb hB2
  have f0 := (hB3.cell (p := ⟨w.heap.size, 0, none⟩) hlt).trans e0
  have f1 := (hB3.cell (p := ⟨w.heap.size, 1, none⟩) hlt).trans e1
  obtain ⟨au, cu, rfl, -⟩ := id hu
  go_wp2_with fail
  refine (tableOf_any b _ _ (hk.up hB3) Hok.out).mono ?_
  rintro e w4 ⟨⟨tb, rfl, hT, htb⟩, hb4⟩
  clear f0 f1
  have hBA := up_trans hB1 hB3
  have lo3 := lo.up hB3
  go_wp2_with fail
  go_loopw [8, 9, 28] (fun _ _ i w' => ∃ (k : Nat) (ts : List Tr), k ≤ ss.length ∧ i = .int .i64 k ∧ FitsTo b.bs ss k ∧ Tab w' tb b.things ts ∧ ts.map (·.1) = b.bs ∧ GoneIs ts (ss.take k) ∧ Below w3.heap.size w3 w') (fun _ _ i _ => ss.length - (intOf i).toNat)
  case atStart => exact ⟨0, _, by omega, rfl, FitsTo.zero _ _, hT, by rw [ts0_fst, List.take_length], gone_none _ _, hb4⟩
  case round =>
    clear hT hb4
    obtain ⟨k, ts, hkl, rfl, hal, hT, hfst, hG, hB⟩ := hrel
    have Hal : Hid (FitsTo b.bs ss k) := hal
    have Hfst : Hid (ts.map (·.1) = b.bs) := hfst
    have HG : Hid (GoneIs ts (ss.take k)) := hG
    have hl5 : ts.length ≤ 5 := by
      have := congrArg List.length hfst
      simp at this; omega
    clear hal hfst hG
    by_cases hp : k < ss.length
    · obtain ⟨-, -, hpos⟩ := lo3.inv
      obtain ⟨g, o, rfl, hS, hg⟩ := hpos (by omega)
      have s0 := (hB.cell (p := ⟨g, o + k, none⟩) hg).trans (hS.cell hp)
      have HY : Hid (0 ≤ idxI (nms b.bs) ss[k] ∧ memS (ss.take k) ss[k] = false ∧ Can b.bs (idxI (nms b.bs) ss[k]).toNat (ss.take k) → FitsTo b.bs ss (k + 1)) := fun h => Hal.out.step hp h
      have HN : Hid (¬ (0 ≤ idxI (nms b.bs) ss[k] ∧ memS (ss.take k) ss[k] = false ∧ Can b.bs (idxI (nms b.bs) ss[k]).toNat (ss.take k)) → ¬ Fits b ss) := fun h hf => h (fits_at hf hp)
      have HS : Hid (ss.take (k + 1) = ss.take k ++ [ss[k]]) := List.take_succ_eq_append_getElem hp
      generalize ss[k] = s at *
      clear hS
      go_wp2_with fail
      refine (indexN_any (nms b.bs) _ s _ (hu.up hB)).mono ?_
      rintro e w' ⟨rfl, hw⟩
      obtain rfl := hw.symm
      clear hw s0
      by_cases hneg : idxI (nms b.bs) s < 0
      · have Hs : Hid (¬ Fits b ss) := HN.out fun h => by omega
        go_wp2_with fail
        go_ret
        exact ⟨ret_bool (pB_no Hs.out).symm, up_trans hBA hB⟩
      obtain ⟨n, hn, hnl', hnm⟩ := idxI_at (l := nms b.bs) (s := s) (by omega)
      have hnl : n < b.bs.length := by rwa [nms_length] at hnl'
      rw [nms_get b.bs n hnl] at hnm
      rw [hn] at HY HN ⊢
      obtain ⟨p, hpt, hpb⟩ := row_at Hfst.out hnl
      rw [← hpb] at hnm
      have HC : Hid (p.2 = false → ((bitsN b.things (memS p.1.needs) &&& (18446744073709551615 - (bitsN b.things (freeL ts) + bitsN b.things (memS p.1.has))) = 0) ↔ Can b.bs n (ss.take k))) := fun hg => can_tab Hok.out Hfst.out HG.out hpt hg
      have hgn : p.2 = memS (ss.take k) s := by rw [HG.out n p hpt, hnm]
      have hnb : decide ((n : Int) < 0) = false := by simp
      clear hn hneg hnl' hpb
      go_wp2_with fail
      refine (can_any tb n b.things ts p _ hT h8 hpt hl5).mono ?_
      rintro e w5 ⟨rfl, hb5⟩
      have hB5 := up_trans hB hb5
      have hT5 := hT.up hb5
      clear hB hT hb5
      cases hm : memS (ss.take k) s
      case true =>
        have Hs : Hid (¬ Fits b ss) := HN.out fun h => by rw [h.2.1] at hm; cases hm
        rw [hgn, hm]
        go_wp2_with fail
        go_ret
        exact ⟨ret_bool (pB_no Hs.out).symm, up_trans hBA hB5⟩
      have hg0 : p.2 = false := by rw [hgn, hm]
      by_cases hcn : Can b.bs n (ss.take k)
      case neg =>
        have Hs : Hid (¬ Fits b ss) := HN.out fun h => hcn (by simpa using h.2.2)
        have hd : decide (bitsN b.things (memS p.1.needs) &&& (18446744073709551615 - (bitsN b.things (freeL ts) + bitsN b.things (memS p.1.has))) = 0) = false := decide_eq_false fun h => hcn ((HC.out hg0).1 h)
        rw [hg0, hd]
        go_wp2_with fail
        go_ret
        exact ⟨ret_bool (pB_no Hs.out).symm, up_trans hBA hB5⟩
      have Hs : Hid (FitsTo b.bs ss (k + 1)) := HY.out ⟨by omega, hm, by simpa using hcn⟩
      have hd : decide (bitsN b.things (memS p.1.needs) &&& (18446744073709551615 - (bitsN b.things (freeL ts) + bitsN b.things (memS p.1.has))) = 0) = true := decide_eq_true ((HC.out hg0).2 hcn)
      rw [hg0, hd]
      have Hgs : Hid (GoneIs (ts.set n (p.1, true)) (ss.take (k + 1))) := by
        show GoneIs _ _
        rw [HS.out, ← hnm]
        exact gone_step Hok.out.2.2.2.1 Hfst.out HG.out hpt
      have Hfs : Hid ((ts.set n (p.1, true)).map (·.1) = b.bs) := set_fst Hfst.out hpt
      clear HY HN HC hd hcn
      go_wp2_with fail
      refine (leave_any tb n b.things ts p b.bs _ hT5 h8 hpt hg0 Hfst.out Hok.out.2.2.2.2.2 hl5).mono ?_
      rintro e w6 ⟨⟨v6, rfl⟩, hT6, hb6, -⟩
      have hB6 := hB5.trans (hb6.mono htb)
      clear hT5 hB5 hb6
      go_wp2_with fail
      go_roundw
      case rel => exact ⟨k + 1, _, by omega, by go_num, Hs.out, hT6, Hfs.out, Hgs.out, hB6⟩
      case measure => simp [intOf]; omega
    · have Hs : Hid (Fits b ss) := fits_end Hok.out Hl.out Hal.out hp
      go_wp2_with fail
      go_ret
      exact ⟨ret_bool (pB_yes Hs.out).symm, up_trans hBA hB⟩
end Go.Proofs.Ythpcadlohahblab

/- The program's first that can (chapter 12). -/
namespace Go.Proofs.Ythpcadlohahblab
open Go.RowKit

theorem good_tab {b : Bk} (hok : BookOk b) {ts : List Tr} (h : ts.map (·.1) = b.bs) {gone : List ByteArray} (hG : GoneIs ts gone) {a : Nat} {p : Tr} (hp : ts[a]? = some p) :
    (!p.2 && decide (bitsN b.things (memS p.1.needs) &&& (18446744073709551615 - (bitsN b.things (freeL ts) + bitsN b.things (memS p.1.has))) = 0)) = true ↔ Good b.bs gone a := by
  have hb := map_at h hp
  rw [Bool.and_eq_true, Bool.not_eq_true', decide_eq_true_eq]
  constructor
  · rintro ⟨h1, h2⟩
    exact ⟨p.1, hb, by rw [← hG a p hp]; exact h1, (can_tab hok h hG hp h1).1 h2⟩
  · rintro ⟨x, hx, h1, h2⟩
    rw [hb] at hx
    obtain rfl := Option.some.inj hx
    have h3 : p.2 = false := by rw [hG a p hp]; exact h1
    exact ⟨h3, (can_tab hok h hG hp h3).2 h2⟩

set_option maxHeartbeats 2000000 in
theorem first_any (tb : Nat) (b : Bk) (ts : List Tr) (gone : List ByteArray) (w : World) (h : Tab w tb b.things ts) (hok : BookOk b) (hm : ts.map (·.1) = b.bs) (hG : GoneIs ts gone) :
    Calls Try.prog 45 #[.pointer (some ⟨tb, 0, none⟩)] w fun e w' => ((∃ k : Nat, e = .returned (.tuple #[.int .i64 k, .bool true]) ∧ NextIs b.bs gone (k : Int)) ∨ (e = .returned (.tuple #[.int .i64 0, .bool false]) ∧ NextIs b.bs gone (-1))) ∧ Below w.heap.size w w' := by
  have hT := h
  obtain ⟨rv, hC, hown⟩ := h
  have h8 := hok.1.1
  have hlb : ts.length = b.bs.length := by rw [← hm]; simp
  have h5 : ts.length ≤ 5 := by have := hok.2.1; omega
  have Hlb : Hid (ts.length = b.bs.length) := hlb
  have HG : Hid (∀ (a : Nat) (p : Tr), ts[a]? = some p → ((!p.2 && decide (bitsN b.things (memS p.1.needs) &&& (18446744073709551615 - (bitsN b.things (freeL ts) + bitsN b.things (memS p.1.has))) = 0)) = true ↔ Good b.bs gone a)) := fun a p hp => good_tab hok hm hG hp
  obtain ⟨rva, rvc, rfl⟩ : ∃ a c, rv = .slice a ts.length c := by
    rcases hown.2 with ⟨h0, h1⟩ | ⟨g, cap, _, hv, _⟩
    · exact ⟨none, 0, by rw [h0, h1]⟩
    · exact ⟨_, cap, hv⟩
  obtain ⟨t0, t1⟩ := hC.c2'
  clear hC hown hlb hok hm hG
  go_enter Try.func45, Try.ntmps45
  go_wp2_with fail
  go_loopw [4, 10] (fun _ i w' => ∃ k : Nat, k ≤ ts.length ∧ i = .int .i64 k ∧ (∀ j, j < k → ¬ Good b.bs gone j) ∧ Below w.heap.size w w') (fun _ i _ => ts.length - (intOf i).toNat)
  case atStart => exact ⟨0, by omega, rfl, fun j hj => by omega, Below.refl _ _⟩
  case round =>
    obtain ⟨k, hk, rfl, hal, hB⟩ := hrel
    have Hal : Hid (∀ j, j < k → ¬ Good b.bs gone j) := hal
    clear hal
    by_cases hp : k < ts.length
    · have hpk := List.getElem?_eq_getElem hp
      have HI := HG.out k _ hpk
      have HI' : Hid ((!(ts[k]).2 && decide (bitsN b.things (memS (ts[k]).1.needs) &&& (18446744073709551615 - (bitsN b.things (freeL ts) + bitsN b.things (memS (ts[k]).1.has))) = 0)) = true ↔ Good b.bs gone k) := HI
      clear HI
      go_wp2_with fail
      refine (can_any tb k b.things ts _ _ (hT.up hB) h8 hpk h5).mono ?_
      rintro e w2 ⟨rfl, hb2⟩
      have hB2 := up_trans hB hb2
      clear hB hb2
      revert HI'
      generalize (!(ts[k]).2 && decide (bitsN b.things (memS (ts[k]).1.needs) &&& (18446744073709551615 - (bitsN b.things (freeL ts) + bitsN b.things (memS (ts[k]).1.has))) = 0)) = cb
      intro HI'
      cases cb
      · have Hs : Hid (∀ j, j < k + 1 → ¬ Good b.bs gone j) := goodTo_step Hal.out fun h => by have := HI'.out.2 h; cases this
        clear HI' HG
        go_wp2_with fail
        go_roundw
        case rel => exact ⟨k + 1, by omega, by go_num, Hs.out, hB2⟩
        case measure => simp [intOf]; omega
      · have Hs : Hid (NextIs b.bs gone (k : Int)) := .inr ⟨k, rfl, by have := Hlb.out; omega, HI'.out.1 rfl, Hal.out⟩
        clear HI' HG
        go_wp2_with fail
        go_returns
        exact ⟨.inl ⟨k, rfl, Hs.out⟩, hB2⟩
    · have Hs : Hid (NextIs b.bs gone (-1)) := .inl ⟨rfl, fun j hj => Hal.out j (by have := Hlb.out; omega)⟩
      go_wp2_with fail
      go_returns
      exact ⟨.inr ⟨rfl, Hs.out⟩, hB⟩
end Go.Proofs.Ythpcadlohahblab
