/- The program's iterator that tells an order as it grows (chapter 12). -/
import Derived.Test.YtialglmnfchfmadGreatDoorJ40
import Derived.Test.YtialglmnfchfmadGreatDoorRf2
import Derived.OwnWalkIn
import Derived.TacticsIn
import Derived.TacticsInMore
import Derived.LoopIn
import Derived.RegionIn
import Derived.WalkKit
import Derived.Deep.RegionWith
import Derived.Shelf.RegionOpen
namespace Go.Proofs.YtialglmnfchfmadGreatDoor
open Go Go.RowKit Go.Shelf

def lenW : Value → Nat
  | .slice _ n _ => n
  | _ => 0
/-- A round that left the record as it was has changed nothing up to it. -/
theorem below_round {W X : World} {l : Nat} {lp : Loop} (hg : W.grownBy X (some l)) (h1 : W.heap[l]? = some (.loop lp)) (h2 : X.heap[l]? = some (.loop lp)) : Below (l + 1) W X :=
  ⟨hg.os, hg.tape, hg.output, hg.size, fun i hi => by
    by_cases e : i = l
    · subst e; rw [h1, h2]
    · exact hg.block i (by have := (Array.getElem?_eq_some_iff.1 h1).1; omega) (by simp; omega)⟩

set_option maxRecDepth 100000 in
set_option maxHeartbeats 4000000 in
theorem ordersRun_any (m : Nat) (W1 : World) (q l : Nat) (b : Bk) (tv bv : Value) (lp : Loop) (Fin : World → List ByteArray → Value → Prop) (hq : CB W1 q [tv, bv]) (hbk : BkV W1 (.agg #[tv, bv]) b) (hlow : ∀ X, Below (l + 1) W1 X → BkV X (.agg #[tv, bv]) b) (hok : BookOk b) (hL : W1.heap[l]? = some (.loop lp))
    (hY : ∀ (gone : List ByteArray) (u : Value) (W : World), Below (l + 1) W1 W → Goes b.bs gone.length gone → OwnT W (l + 1) u gone → (∀ s ∈ gone, s.size ≤ maxLen) → YieldAt Fence.wide m Tryz.prog l #[u] W fun e W' =>
      (gone.length ≠ b.bs.length ∧ e = .returned (.bool true) ∧ W.grownBy W' (some l) ∧ W'.heap[l]? = some (.loop lp)) ∨ (gone.length = b.bs.length ∧ e = .returned (.bool false) ∧ Fin W' gone u)) :
    CallsIn Fence.wide (m + 1) Tryz.prog 109 #[.func (.yield l) #[] #[], .pointer (some ⟨q, 0, none⟩)] W1 fun e W' => (∃ v, e = .returned v) ∧
      ((∃ gone u, Goes b.bs b.bs.length gone ∧ (∀ s ∈ gone, s.size ≤ maxLen) ∧ Fin W' gone u) ∨ (Below (l + 1) W1 W' ∧ ∃ n gone, n < b.bs.length ∧ Goes b.bs n gone ∧ NextIs b.bs gone (-1))) := by
  have hlW : l < W1.heap.size := (Array.getElem?_eq_some_iff.1 hL).1
  obtain ⟨a1, c1, a2, c2, he, -, -⟩ := hbk.parts
  obtain ⟨rfl, rfl⟩ : tv = .slice a1 b.things.length c1 ∧ bv = .slice a2 b.bs.length c2 := by simpa using he
  clear he
  obtain ⟨ii, hi, iz0, iz1, iz2⟩ := info_parts infoStr
  refine callsIn_of_wp Tryz.func109 rfl trivial ?_ rfl
  simp only [Tryz.ntmps109, List.size_toArray, List.length_cons, List.length_nil, Nat.reduceAdd, Nat.reduceSub, Array.replicate_succ, Array.replicate_zero, List.push_toArray, List.append_toArray, List.nil_append, List.cons_append]
  obtain ⟨q0, q1⟩ := hq.c2'
  have h5 := hok.2.1
  have Hok : Hid (BookOk b) := hok
  clear hok
  gi_wp2_with fail
  refine ⟨trivial, (callsIn_wide.2 (tableOf_any b _ _ hbk Hok.out)).mono ?_⟩
  rintro e W2 ⟨⟨tb, rfl, hT, htb⟩, hb2⟩
  clear q0 q1
  have hB2 : Below (l + 1) W1 W2 := hb2.mono hlW
  gi_wp2_with fail
  gi_loopw [4, 5, 6] (fun u _ _ w' => ∃ (gone : List ByteArray) (ts : List Tr), gone.length ≤ b.bs.length ∧ Goes b.bs gone.length gone ∧ OwnT w' (tb + 1) u gone ∧ (∀ s ∈ gone, s.size ≤ maxLen) ∧ Tab w' tb b.things ts ∧ ts.map (·.1) = b.bs ∧ GoneIs ts gone ∧ Below (l + 1) W1 w') (fun u _ _ _ => b.bs.length + 1 - lenW u)
  case atStart => exact ⟨[], _, by simp, .none, ⟨by simp, .inl ⟨rfl, rfl⟩⟩, fun s hs => by simp at hs, hT, by rw [ts0_fst, List.take_length], gone_none _ _, hB2⟩
  case round =>
    clear hT hB2 hb2
    obtain ⟨gone, ts, hgl, hgo, hown, hsz, hT, hfst, hG, hB⟩ := hrel
    have hYi := hY gone _ wr hB hgo (own_low hown (by omega)) hsz
    obtain ⟨fn, tmps, assign, body, hy1, hR⟩ := hYi
    have hlw := (hB.block l (by omega)).trans hL
    obtain ⟨ag, cg, rfl⟩ := hown.lst.shape
    have Hgo : Hid (Goes b.bs gone.length gone) := hgo
    have Hsz : Hid (∀ s ∈ gone, s.size ≤ maxLen) := hsz
    have Hfst : Hid (ts.map (·.1) = b.bs) := hfst
    have HG : Hid (GoneIs ts gone) := hG
    clear hgo hsz hfst hG
    gi_wp2_with fail
    refine hR.mono ?_
    rintro e W5 (⟨h0, rfl, hg5, hl5⟩ | ⟨h0, rfl, hF⟩)
    · have hb5 := below_round hg5 hlw hl5
      have hB5 := hB.trans hb5
      have hT5 : Tab W5 tb b.things ts := by
        obtain ⟨rv, k1, k2⟩ := hT
        exact ⟨rv, k1.kept hg5 (by simp; omega), own_grown k2 hg5 (by omega)⟩
      have hown5 := own_grown hown hg5 (by omega)
      clear hg5 hl5 hb5 hT hown hB hR hy1 hlw
      gi_wp2_with fail
      refine ⟨trivial, (callsIn_wide.2 (first_any tb b ts gone _ hT5 Hok.out Hfst.out HG.out)).mono ?_⟩
      rintro e W6 ⟨hh, hb6⟩
      have hz5 := hB5.size
      have hz6 := hb6.size
      have hB6 := hB5.trans (hb6.mono (by omega))
      have hT6 := hT5.up hb6
      have hown6 := own_up hown5 hb6
      clear hb6 hT5 hown5 hB5
      rcases hh with ⟨k, rfl, hnx⟩ | ⟨rfl, hnx⟩
      · have Hnx : Hid (NextIs b.bs gone (k : Int)) := hnx
        obtain ⟨k', hkk, hkl, ⟨x, hx, hmg, -⟩, -⟩ : ∃ k' : Nat, (k : Int) = (k' : Int) ∧ k' < b.bs.length ∧ Good b.bs gone k' ∧ ∀ j, j < k' → ¬ Good b.bs gone j := by
          rcases hnx with ⟨h, -⟩ | h
          · omega
          · exact h
        obtain rfl : k = k' := by omega
        obtain ⟨p, hpt, hpb⟩ := row_at Hfst.out hkl
        obtain rfl : x = p.1 := by
          rw [List.getElem?_eq_getElem hkl] at hx
          rw [hpb]; exact (Option.some.inj hx).symm
        have hg0 : p.2 = false := by rw [HG.out k p hpt]; exact hmg
        have hl5 : ts.length ≤ 5 := by
          have := congrArg List.length Hfst.out
          simp at this; omega
        have Hs : Hid (Goes b.bs (gone.length + 1) (gone ++ [p.1.nm])) := .more Hgo.out Hnx.out hx
        have HG2 : Hid (GoneIs (ts.set k (p.1, true)) (gone ++ [p.1.nm])) := gone_step Hok.out.2.2.2.1 Hfst.out HG.out hpt
        have Hf2 : Hid ((ts.set k (p.1, true)).map (·.1) = b.bs) := set_fst Hfst.out hpt
        have hp2 : (ts.set k (p.1, true))[k]? = some (p.1, true) := by rw [List.getElem?_set, if_pos rfl, if_pos (List.getElem?_eq_some_iff.1 hpt).1]
        have hl2 : (ts.set k (p.1, true)).length ≤ 5 := by rw [List.length_set]; exact hl5
        have Hnm : Hid (p.1.nm.size ≤ maxLen) := by
          obtain ⟨tv', bv', e0, -, e2⟩ := (hlow W6 hB6)
          obtain ⟨a', c', e3, -, hpos⟩ := e2
          obtain ⟨bb, o, -, hS, -⟩ := hpos (by omega)
          have := (hS.at hkl).batch
          rw [← hpb] at this
          exact this
        clear hnx hx hmg hpb hkk
        gi_wp2_with fail
        refine ⟨trivial, (callsIn_wide.2 (leave_any tb k b.things ts p b.bs _ hT6 Hok.out.1.1 hpt hg0 Hfst.out Hok.out.2.2.2.2.2 hl5)).mono ?_⟩
        rintro e W7 ⟨⟨v7, rfl⟩, hT7, hb7, hO7⟩
        have hown7 := hO7 _ _ _ hown6 (by omega)
        have hB7 := hB6.trans (hb7.mono (by omega))
        have hz7 := hb7.size
        clear hO7 hb7 hT6 hown6 hB6 hpt hg0 hl5
        generalize ts.set k (p.1, true) = ts2 at *
        obtain ⟨rv, kT, hrw⟩ := hT7
        have hi2 := (List.getElem?_eq_some_iff.1 hp2).1
        obtain ⟨g, cap, rfl⟩ := own_ptr2 hrw (by omega)
        obtain ⟨r0, -, -, -⟩ := row_cells hrw hp2
        simp only at r0
        obtain ⟨t0, t1⟩ := kT.c2'
        have htl := kT.2.2
        generalize p.1.nm = nm at *
        have hownA := own_up hown7 ((Below.refl W7.heap.size W7).alloc (Nat.le_refl _) (.cells #[.string nm] 9))
        have hrwA := own_up hrw ((Below.refl W7.heap.size W7).alloc (Nat.le_refl _) (.cells #[.string nm] 9))
        have kTA := kT.up ((Below.refl W7.heap.size W7).alloc (Nat.le_refl _) (.cells #[.string nm] 9)) htl
        have hBA := hB7.alloc (by omega) (.cells #[.string nm] 9)
        gi_wp2_with (gi_at_builtin; refine wpListIn_append_own _ rfl _ _ 22 rfl (tb + 1) 9 ii _ 1 16 Tryz.underlying22 hi iz0 iz1 iz2 rfl (by decide) _ _ _ rfl hownA ⟨W7.heap.size, 0, none⟩ 1 1 [.string nm] rfl rfl (one_new _ _ _) (oneV _) (by unfold maxLen; omega) (by omega) (by simp; omega) ?_)
        intro v8 W8 hown8 hgr8 _
        have hT8 : Tab W8 tb b.things ts2 := ⟨_, kTA.kept hgr8 (own_ne hownA (by omega)), own_keep hrwA hgr8 (own_apart hrwA hownA (by decide))⟩
        have hB8 : Below (l + 1) W1 W8 := ⟨hgr8.os.trans hBA.os, hgr8.tape.trans hBA.tape, hgr8.output.trans hBA.output, Nat.le_trans hBA.size hgr8.size, fun i hi => (hgr8.block i (by have := hBA.size; omega) (own_ne hownA (by omega))).trans (hBA.block i hi)⟩
        have ho8 : OwnT W8 (tb + 1) v8 (gone ++ [nm]) := by unfold OwnT; rw [List.length_append, List.map_append]; exact hown8
        obtain ⟨a8, c8, rfl⟩ : ∃ a c, v8 = .slice a (gone.length + 1) c := by simpa using ho8.lst.shape
        clear hownA hrwA kTA hBA hown8 hgr8 hown7 hrw kT t0 t1 r0 hB7
        gi_wp2_with fail
        go_roundw
        case rel =>
          refine ⟨gone ++ [nm], ts2, by simp; omega, by rw [List.length_append]; exact Hs.out, ho8, fun s hs => ?_, hT8, Hf2.out, HG2.out, hB8⟩
          rcases List.mem_append.1 hs with h | h
          · exact Hsz.out s h
          · obtain rfl : s = nm := by simpa using h
            exact Hnm.out
        case measure => simp [lenW]; omega
      · gi_wp2_with fail
        (try simp only [Exit.inBlock, Exit.then])
        refine bodyPost_ret (results_none rfl _ _ _) rfl ?_
        exact ⟨⟨_, rfl⟩, .inr ⟨hB6, gone.length, gone, by omega, Hgo.out, hnx⟩⟩
    · gi_wp2_with fail
      go_end0
      exact ⟨⟨_, rfl⟩, .inl ⟨gone, _, by rw [← h0]; exact Hgo.out, Hsz.out, hF⟩⟩
end Go.Proofs.YtialglmnfchfmadGreatDoor
