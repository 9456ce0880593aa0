/- The program's iterator that tells an order as it grows (chapter 12). -/
import Derived.Test.YtlkpgiifdclijaaGreatDoorKp9
import Derived.Test.YtlkpgiifdclijaaGreatDoorRf2
import Derived.OwnWalkIn
import Derived.TacticsIn
import Derived.TacticsInMore
import Derived.LoopIn
import Derived.RegionIn
import Derived.WalkKit
import Derived.Deep.RegionWith
import Derived.Shelf.RegionOpen
namespace Go.Proofs.YtlkpgiifdclijaaGreatDoor
open Go Go.RowKit Go.Shelf

def lenW : Value → Nat
  | .slice _ n _ => n
  | _ => 0
/-- A round that left the record as it was has changed nothing up to it. -/
theorem below_round {W X : World} {l : Nat} {lp : Loop} (hg : W.grownBy X (some l)) (h1 : W.heap[l]? = some (.loop lp)) (h2 : X.heap[l]? = some (.loop lp)) : Below (l + 1) W X :=
  ⟨hg.os, hg.tape, hg.output, hg.size, fun i hi => by
    by_cases e : i = l
    · subst e; rw [h1, h2]
    · exact hg.block i (by have := (Array.getElem?_eq_some_iff.1 h1).1; omega) (by simp; omega)⟩

set_option maxRecDepth 100000 in
set_option maxHeartbeats 4000000 in
theorem ordersRun_any (m : Nat) (W1 : World) (q l : Nat) (b : Bk) (tv bv : Value) (lp : Loop) (Fin : World → List ByteArray → Value → Prop) (hq : CB W1 q [tv, bv]) (hbk : BkV W1 (.agg #[tv, bv]) b) (hlow : ∀ X, Below (l + 1) W1 X → BkV X (.agg #[tv, bv]) b) (hok : BookOk b) (hL : W1.heap[l]? = some (.loop lp))
    (hY : ∀ (gone : List ByteArray) (u : Value) (W : World), Below (l + 1) W1 W → Goes b.bs gone.length gone → OwnT W (l + 1) u gone → (∀ s ∈ gone, s.size ≤ maxLen) → YieldAt Fence.wide m Tryz.prog l #[u] W fun e W' =>
      (gone.length ≠ b.bs.length ∧ e = .returned (.bool true) ∧ W.grownBy W' (some l) ∧ W'.heap[l]? = some (.loop lp)) ∨ (gone.length = b.bs.length ∧ e = .returned (.bool false) ∧ Fin W' gone u)) :
    CallsIn Fence.wide (m + 1) Tryz.prog 156 #[.func (.yield l) #[] #[], .pointer (some ⟨q, 0, none⟩)] W1 fun e W' => (∃ v, e = .returned v) ∧
      ((∃ gone u, Goes b.bs b.bs.length gone ∧ (∀ s ∈ gone, s.size ≤ maxLen) ∧ Fin W' gone u) ∨ (Below (l + 1) W1 W' ∧ ∃ n gone, n < b.bs.length ∧ Goes b.bs n gone ∧ NextIs b.bs gone (-1))) := by
  have hlW : l < W1.heap.size := (Array.getElem?_eq_some_iff.1 hL).1
  obtain ⟨a1, c1, a2, c2, he, -, -⟩ := hbk.parts
  obtain ⟨rfl, rfl⟩ : tv = .slice a1 b.things.length c1 ∧ bv = .slice a2 b.bs.length c2 := by simpa using he
  clear he
  obtain ⟨ii, hi, iz0, iz1, iz2⟩ := info_parts infoStr
  refine callsIn_of_wp Tryz.func156 rfl trivial ?_ rfl
  simp only [Tryz.ntmps156, List.size_toArray, List.length_cons, List.length_nil, Nat.reduceAdd, Nat.reduceSub, Array.replicate_succ, Array.replicate_zero, List.push_toArray, List.append_toArray, List.nil_append, List.cons_append]
  obtain ⟨q0, q1⟩ := hq.c2'
  have h5 := hok.2.1
  have Hok : Hid (BookOk b) := hok
  clear hok
  gi_wp2_with fail
  refine ⟨trivial, (callsIn_wide.2 (tableOf_any b _ _ hbk Hok.out)).mono ?_⟩
  rintro e W2 ⟨⟨tb, rfl, hT, htb⟩, hb2⟩
  clear q0 q1
  have hB2 : Below (l + 1) W1 W2 := hb2.mono hlW
  gi_wp2_with fail
  gi_loopw [4, 5, 6] (fun u _ _ w' => ∃ (gone : List ByteArray) (ts : List Tr), gone.length ≤ b.bs.length ∧ Goes b.bs gone.length gone ∧ OwnT w' (tb + 1) u gone ∧ (∀ s ∈ gone, s.size ≤ maxLen) ∧ Tab w' tb b.things ts ∧ ts.map (·.1) = b.bs ∧ GoneIs ts gone ∧ Below (l + 1) W1 w') (fun u _ _ _ => b.bs.length + 1 - lenW u)
  case atStart => exact ⟨[], _, by simp, .none, ⟨by simp, .inl ⟨rfl, rfl⟩⟩, fun s hs => by simp at hs, hT, by rw [ts0_fst, List.take_length], gone_none _ _, hB2⟩
  case round =>
    clear hT hB2 hb2
    obtain ⟨gone, ts, hgl, hgo, hown, hsz, hT, hfst, hG, hB⟩ := hrel
    have hYi := hY gone _ wr hB hgo (own_low hown (by omega)) hsz
    obtain ⟨fn, tmps, assign, body, hy1, hR⟩ := hYi
    have hlw := (hB.block l (by omega)).trans hL
    obtain ⟨ag, cg, rfl⟩ := hown.lst.shape
    have Hgo : Hid (Goes b.bs gone.length gone) := hgo
    have Hsz : Hid (∀ s ∈ gone, s.size ≤ maxLen) := hsz
    have Hfst : Hid (ts.map (·.1) = b.bs) := hfst
    have HG : Hid (GoneIs ts gone) := hG
    clear hgo hsz hfst hG
    gi_wp2_with fail
    refine hR.mono ?_
    rintro e W5 (⟨h0, rfl, hg5, hl5⟩ | ⟨h0, rfl, hF⟩)
    · have hb5 := below_round hg5 hlw hl5
      have hB5 := hB.trans hb5
      have hT5 : Tab W5 tb b.things ts := by
        obtain ⟨rv, k1, k2⟩ := hT
        exact ⟨rv, k1.kept hg5 (by simp; omega), own_grown k2 hg5 (by omega)⟩
      have hown5 := own_grown hown hg5 (by omega)
      clear hg5 hl5 hb5 hT hown hB hR hy1 hlw
      gi_wp2_with fail
      refine ⟨trivial, (callsIn_wide.2 (first_any tb b ts gone _ hT5 Hok.out Hfst.out HG.out)).mono ?_⟩
      rintro e W6 ⟨hh, hb6⟩
      have hz5 := hB5.size
      have hz6 := hb6.size
      have hB6 := hB5.trans (hb6.mono (by omega))
      have hT6 := hT5.up hb6
      have hown6 := own_up hown5 hb6
      clear hb6 hT5 hown5 hB5
      rcases hh with ⟨k, rfl, hnx⟩ | ⟨rfl, hnx⟩
      · have Hnx : Hid (NextIs b.bs gone (k : Int)) := hnx
        obtain ⟨k', hkk, hkl, ⟨x, hx, hmg, -⟩, -⟩ : ∃ k' : Nat, (k : Int) = (k' : Int) ∧ k' < b.bs.length ∧ Good b.bs gone k' ∧ ∀ j, j < k' → ¬ Good b.bs gone j := by
          rcases hnx with ⟨h, -⟩ | h
          · omega
          · exact h
        obtain rfl : k = k' := by omega
        obtain ⟨p, hpt, hpb⟩ := row_at Hfst.out hkl
        obtain rfl : x = p.1 := by
          rw [List.getElem?_eq_getElem hkl] at hx
          rw [hpb]; exact (Option.some.inj hx).symm
        have hg0 : p.2 = false := by rw [HG.out k p hpt]; exact hmg
        have hl5 : ts.length ≤ 5 := by
          have := congrArg List.length Hfst.out
          simp at this; omega
        have Hs : Hid (Goes b.bs (gone.length + 1) (gone ++ [p.1.nm])) := .more Hgo.out Hnx.out hx
        have HG2 : Hid (GoneIs (ts.set k (p.1, true)) (gone ++ [p.1.nm])) := gone_step Hok.out.2.2.2.1 Hfst.out HG.out hpt
        have Hf2 : Hid ((ts.set k (p.1, true)).map (·.1) = b.bs) := set_fst Hfst.out hpt
        have hp2 : (ts.set k (p.1, true))[k]? = some (p.1, true) := by rw [List.getElem?_set, if_pos rfl, if_pos (List.getElem?_eq_some_iff.1 hpt).1]
        have hl2 : (ts.set k (p.1, true)).length ≤ 5 := by rw [List.length_set]; exact hl5
        have Hnm : Hid (p.1.nm.size ≤ maxLen) := by
          obtain ⟨tv', bv', e0, -, e2⟩ := (hlow W6 hB6)
          obtain ⟨a', c', e3, -, hpos⟩ := e2
          obtain ⟨bb, o, -, hS, -⟩ := hpos (by omega)
          have := (hS.at hkl).batch
          rw [← hpb] at this
          exact this
        clear hnx hx hmg hpb hkk
        gi_wp2_with fail
        refine ⟨trivial, (callsIn_wide.2 (leave_any tb k b.things ts p b.bs _ hT6 Hok.out.1.1 hpt hg0 Hfst.out Hok.out.2.2.2.2.2 hl5)).mono ?_⟩
        rintro e W7 ⟨⟨v7, rfl⟩, hT7, hb7, hO7⟩
        have hown7 := hO7 _ _ _ hown6 (by omega)
        have hB7 := hB6.trans (hb7.mono (by omega))
        have hz7 := hb7.size
        clear hO7 hb7 hT6 hown6 hB6 hpt hg0 hl5
        generalize ts.set k (p.1, true) = ts2 at *
        obtain ⟨rv, kT, hrw⟩ := hT7
        have hi2 := (List.getElem?_eq_some_iff.1 hp2).1
        obtain ⟨g, cap, rfl⟩ := own_ptr2 hrw (by omega)
        obtain ⟨r0, -, -, -⟩ := row_cells hrw hp2
        simp only at r0
        obtain ⟨t0, t1⟩ := kT.c2'
        have htl := kT.2.2
        generalize p.1.nm = nm at *
        have hownA := own_up hown7 ((Below.refl W7.heap.size W7).alloc (Nat.le_refl _) (.cells #[.string nm] 9))
        have hrwA := own_up hrw ((Below.refl W7.heap.size W7).alloc (Nat.le_refl _) (.cells #[.string nm] 9))
        have kTA := kT.up ((Below.refl W7.heap.size W7).alloc (Nat.le_refl _) (.cells #[.string nm] 9)) htl
        have hBA := hB7.alloc (by omega) (.cells #[.string nm] 9)
        gi_wp2_with (gi_at_builtin; refine wpListIn_append_own _ rfl _ _ 22 rfl (tb + 1) 9 ii _ 1 16 Tryz.underlying22 hi iz0 iz1 iz2 rfl (by decide) _ _ _ rfl hownA ⟨W7.heap.size, 0, none⟩ 1 1 [.string nm] rfl rfl (one_new _ _ _) (oneV _) (by unfold maxLen; omega) (by omega) (by simp; omega) ?_)
        intro v8 W8 hown8 hgr8 _
        have hT8 : Tab W8 tb b.things ts2 := ⟨_, kTA.kept hgr8 (own_ne hownA (by omega)), own_keep hrwA hgr8 (own_apart hrwA hownA (by decide))⟩
        have hB8 : Below (l + 1) W1 W8 := ⟨hgr8.os.trans hBA.os, hgr8.tape.trans hBA.tape, hgr8.output.trans hBA.output, Nat.le_trans hBA.size hgr8.size, fun i hi => (hgr8.block i (by have := hBA.size; omega) (own_ne hownA (by omega))).trans (hBA.block i hi)⟩
        have ho8 : OwnT W8 (tb + 1) v8 (gone ++ [nm]) := by unfold OwnT; rw [List.length_append, List.map_append]; exact hown8
        obtain ⟨a8, c8, rfl⟩ : ∃ a c, v8 = .slice a (gone.length + 1) c := by simpa using ho8.lst.shape
        clear hownA hrwA kTA hBA hown8 hgr8 hown7 hrw kT t0 t1 r0 hB7
        gi_wp2_with fail
        go_roundw
        case rel =>
          refine ⟨gone ++ [nm], ts2, by simp; omega, by rw [List.length_append]; exact Hs.out, ho8, fun s hs => ?_, hT8, Hf2.out, HG2.out, hB8⟩
          rcases List.mem_append.1 hs with h | h
          · exact Hsz.out s h
          · obtain rfl : s = nm := by simpa using h
            exact Hnm.out
        case measure => simp [lenW]; omega
      · gi_wp2_with fail
        (try simp only [Exit.inBlock, Exit.then])
        refine bodyPost_ret (results_none rfl _ _ _) rfl ?_
        exact ⟨⟨_, rfl⟩, .inr ⟨hB6, gone.length, gone, by omega, Hgo.out, hnx⟩⟩
    · gi_wp2_with fail
      go_end0
      exact ⟨⟨_, rfl⟩, .inl ⟨gone, _, by rw [← h0]; exact Hgo.out, Hsz.out, hF⟩⟩
end Go.Proofs.YtlkpgiifdclijaaGreatDoor

/- The program's walk of ShareOrder (chapter 12). -/
namespace Go.Proofs.YtlkpgiifdclijaaGreatDoor
open Go Go.RowKit Go.Shelf
attribute [local go_sem] Oper.semAt_some

theorem orders_any (b : Bk) (a1 a2 : Option Addr) (c1 c2 : Nat) (w : World) :
    Calls Tryz.prog 125 #[.agg #[.slice a1 b.things.length c1, .slice a2 b.bs.length c2]] w fun e w' => e = .returned (.func (.func 156) #[] #[.pointer (some ⟨w.heap.size, 0, none⟩)]) ∧ w' = w.alloc (.cells #[.slice a1 (b).things.length c1, .slice a2 (b).bs.length c2] 34) := by
  go_enter Tryz.func125, Tryz.ntmps125
  go_wp2
  go_ret
  exact ⟨rfl, rfl⟩
theorem CB.c1' {w : World} {b : Nat} {x0 : Value} (h : CB w b [x0]) : w.cell? ⟨b, 0, none⟩ = some x0 ∧ w.frozen? ⟨b, 0, none⟩ = false := ⟨h.1 0 _ rfl, (h.2.1 0 (by simp)).2⟩
theorem loadStrs {Z : World} {r : Nat} {x : Value} (h : Z.cell? ⟨r, 0, none⟩ = some x) : (loadVar 22 ⟨r, 0, none⟩).run Tryz.prog Z = .ok x Z := by
  simp [loadVar, isAgg, h, go_sem]
theorem loadBool {Z : World} {r : Nat} {x : Value} (h : Z.cell? ⟨r, 0, none⟩ = some x) : (loadVar 4 ⟨r, 0, none⟩).run Tryz.prog Z = .ok x Z := by
  simp [loadVar, isAgg, h, go_sem]
/-- Two results that lie in cells of their own. -/
theorem ret_cells2 {P : Program} {fn : Func} {q q2 : Tmp} {T T2 : TypeId} (h : fn.results = #[.cell q T, .cell q2 T2]) {tmps : Array Value} {Z : World} {r r2 : Nat} {x y : Value}
    (ht : tmps.getD q undef = .pointer (some ⟨r, 0, none⟩)) (ht2 : tmps.getD q2 undef = .pointer (some ⟨r2, 0, none⟩)) (hZ : (loadVar T ⟨r, 0, none⟩).run P Z = .ok x Z) (hZ2 : (loadVar T2 ⟨r2, 0, none⟩).run P Z = .ok y Z) : (results fn tmps).run P Z = .ok (.tuple #[x, y]) Z := by
  have ha : (asAddr (.pointer (some ⟨r, 0, none⟩))).run P Z = .ok ⟨r, 0, none⟩ Z := by simp [go_sem]
  have ha2 : (asAddr (.pointer (some ⟨r2, 0, none⟩))).run P Z = .ok ⟨r2, 0, none⟩ Z := by simp [go_sem]
  have ht' : tmps[q]?.getD undef = .pointer (some ⟨r, 0, none⟩) := by simpa using ht
  have ht2' : tmps[q2]?.getD undef = .pointer (some ⟨r2, 0, none⟩) := by simpa using ht2
  simp only [results, h]
  simp [Sem.run_bind, Result.andThen, ht', ht2', ha, ha2, hZ, hZ2]

set_option maxRecDepth 100000 in
set_option maxHeartbeats 4000000 in
theorem order_any (b : Bk) (v : Value) (w : World) (h : BkV w v b) :
    Calls Tryz.prog 88 #[v] w fun e w' => (∃ u ss ok, e = .returned (.tuple #[u, .bool ok]) ∧ OrderIs b ss ok ∧ OwnT w' w.heap.size u ss ∧ ∀ s ∈ ss, s.size ≤ maxLen) ∧ Below w.heap.size w w' := by
  obtain ⟨a1, c1, a2, c2, rfl, -, -⟩ := h.parts
  refine (callsIn_wide (n := 3)).1 ?_
  refine callsIn_of_wp_marks Tryz.func88 rfl trivial ?_ rfl
  simp only [Tryz.ntmps88, List.size_toArray, List.length_cons, List.length_nil, Nat.reduceAdd, Nat.reduceSub, Array.replicate_succ, Array.replicate_zero, List.push_toArray, List.append_toArray, List.nil_append, List.cons_append]
  obtain ⟨W1, hW1, kA, k2, k3, hB1, hs1⟩ : ∃ W1, ((w.alloc (.cells #[.slice a1 (b).things.length c1, .slice a2 (b).bs.length c2] 34)).alloc (.cells #[.slice none 0 0] 22)).alloc (.cells #[.bool false] 4) = W1 ∧ CB W1 w.heap.size [.slice a1 b.things.length c1, .slice a2 b.bs.length c2] ∧ CB W1 (w.heap.size + 1) [.slice none 0 0] ∧ CB W1 (w.heap.size + 2) [.bool false] ∧ Below w.heap.size w W1 ∧ W1.heap.size = w.heap.size + 3 := ⟨_, rfl, cb3 w _ _ _ _ _ _⟩
  obtain ⟨p0, p1⟩ := kA.c2'
  gi_wp2_with fail
  try rw [hW1]
  clear hW1
  refine ⟨trivial, (callsIn_wide.2 (bookOk_any b _ _ (h.up hB1))).mono ?_⟩
  rintro e w2 ⟨rfl, hb2⟩
  clear p0 p1
  have hz2 := hb2.size
  have hB2 := up_trans hB1 hb2
  have kA := kA.up hb2 kA.2.2
  have k2 := k2.up hb2 k2.2.2
  have k3 := k3.up hb2 k3.2.2
  clear hb2 hB1
  cases hq : bookB b
  · have Hq : Hid (OrderIs b [] false) := .inr ⟨rfl, rfl, .inl (pB_not.1 hq)⟩
    obtain ⟨x2, f2⟩ := k2.c1'
    obtain ⟨x3, f3⟩ := k3.c1'
    have hne : ¬ w.heap.size + 2 = w.heap.size + 1 := by omega
    gi_wp2_with fail
    refine ⟨_, ret_cells2 (r := w.heap.size + 1) (r2 := w.heap.size + 2) (x := .slice none 0 0) (y := .bool false) Tryz.results88 rfl rfl (loadStrs ?_) (loadBool ?_), ?_⟩
    · exact (((k2.set (j := 0) (u := .slice none 0 0) (by simp)).other (by omega)).c1').1
    · exact (((k3.other (q := w.heap.size + 1) (j := 0) (u := .slice none 0 0) (by omega)).set (j := 0) (u := .bool false) (by simp)).c1').1
    exact ⟨⟨_, [], false, rfl, Hq.out, ⟨by simp, .inl ⟨rfl, rfl⟩⟩, fun s hs => by simp at hs⟩, (hB2.setCell (p := ⟨w.heap.size + 1, 0, none⟩) (by simp) _).setCell (p := ⟨w.heap.size + 2, 0, none⟩) (by simp) _⟩
  · have hok : BookOk b := pB_iff.1 hq
    clear hq
    obtain ⟨p0, p1⟩ := kA.c2'
    gi_wp2_with fail
    refine ⟨trivial, (callsIn_wide.2 (orders_any b _ _ _ _ _)).mono ?_⟩
    rintro e W3 ⟨rfl, hW3⟩
    obtain ⟨kQ, hb3, hs3⟩ : CB W3 w2.heap.size [.slice a1 b.things.length c1, .slice a2 b.bs.length c2] ∧ Below w2.heap.size w2 W3 ∧ W3.heap.size = w2.heap.size + 1 := by rw [hW3]; exact cb1 w2 [.slice a1 b.things.length c1, .slice a2 b.bs.length c2] _
    clear hW3 p0 p1
    have hB3 := up_trans hB2 hb3
    have kA := kA.up hb3 kA.2.2
    have k2 := k2.up hb3 k2.2.2
    have k3 := k3.up hb3 k3.2.2
    clear hb3 hB2
    gi_wp2_with fail
    refine range_walkR rfl (by omega) (gf := 156) (lb := #[.pointer (some ⟨w2.heap.size, 0, none⟩)]) rfl trivial (enters_of Tryz.func156 (by kernel_rfl) rfl) ?_
    intro fn lp _ hlp
    obtain ⟨W4, hW4⟩ : ∃ W4, (W3.alloc (.deferred (some []))).alloc (.loop lp) = W4 := ⟨_, rfl⟩
    rw [hW4]
    have hL : W4.heap[W3.heap.size + 1]? = some (.loop lp) := by
      rw [← hW4]; have := World.alloc_heap_new (W3.alloc (.deferred (some []))) (.loop lp); rwa [World.size_alloc] at this
    have hD : W4.heap[W3.heap.size]? = some (.deferred (some [])) := by
      rw [← hW4]; exact (Below.heap_alloc _ _ _ (by simp)).trans (World.alloc_heap_new W3 _)
    have hb4 : Below W3.heap.size W3 W4 := by rw [← hW4]; exact ((Below.refl _ W3).alloc (Nat.le_refl _) _).alloc (by simp) _
    have hs4 : W4.heap.size = W3.heap.size + 2 := by rw [← hW4]; simp
    clear hW4
    have hB4 := up_trans hB3 hb4
    have kA := kA.up hb4 kA.2.2
    have k2 := k2.up hb4 k2.2.2
    have k3 := k3.up hb4 k3.2.2
    have kQ := kQ.up hb4 kQ.2.2
    have hbk4 := h.up hB4
    have hz4 := hB4.size
    clear hb4 hB3
    refine CallsIn.mono (ordersRun_any 1 W4 w2.heap.size (W3.heap.size + 1) b _ _ lp (fun W' gone u => CB W' (w.heap.size + 1) [u] ∧ CB W' (w.heap.size + 2) [.bool true] ∧ W'.heap[W3.heap.size]? = some (.deferred (some [])) ∧ W'.heap[W3.heap.size + 1]? = some (.loop { lp with state := .done, pending := some .ret }) ∧ OwnT W' (W3.heap.size + 2) u gone ∧ Below w.heap.size w W') kQ hbk4 (fun X hX => h.up (hB4.trans (hX.mono (by omega)))) hok hL ?hY) ?_
    case hY =>
      intro gone u W hB hgo hown hsz
      have hlW := (hB.block (W3.heap.size + 1) (by omega)).trans hL
      have hdW := (hB.block W3.heap.size (by omega)).trans hD
      have kA := kA.up hB (by omega)
      have k2 := k2.up hB (by omega)
      have k3 := k3.up hB (by omega)
      have hBW := hB4.trans (hB.mono (by omega))
      have hback : ({ lp with state := .ready, pending := none } : Loop) = lp := by rw [hlp]; rfl
      have Hback : Hid (({ lp with state := .ready, pending := none } : Loop) = lp) := hback
      obtain ⟨au, cu, rfl⟩ := hown.lst.shape
      clear kQ hbk4 hL hD hB hB4 hback hz4
      refine yield_walkR hlW (congrArg Loop.state hlp) (congrArg Loop.assign hlp) (congrArg Loop.body hlp) (congrArg Loop.params hlp) (congrArg Loop.tmps hlp) rfl trivial ?_
      dsimp only [recOf]
      clear hlp
      have hlt : W3.heap.size + 1 < W.heap.size := (Array.getElem?_eq_some_iff.1 hlW).1
      gi_wp2_with fail
      refine ⟨hlW, ?_⟩
      have hg2 := grownBy_putObj' W (W3.heap.size + 1) (.loop { lp with state := .busy })
      have hl2 : (W.putObj (W3.heap.size + 1) (.loop { lp with state := .busy })).heap[W3.heap.size + 1]? = some (.loop { lp with state := .busy }) := World.putObj_heap_same hlt
      have kA := kA.kept hg2 (by simp; omega)
      have k2 := k2.kept hg2 (by simp; omega)
      have k3 := k3.kept hg2 (by simp; omega)
      have hown := own_grown hown hg2 (by omega)
      have hdW := (hg2.block W3.heap.size (by omega) (by simp)).trans hdW
      have hBW := below_gr hBW hg2 (by omega)
      have Hg2 : Hid (W.grownBy (W.putObj (W3.heap.size + 1) (.loop { lp with state := .busy })) (some (W3.heap.size + 1))) := hg2
      have hz2' := hg2.size
      clear hg2 hlW
      generalize W.putObj (W3.heap.size + 1) (.loop { lp with state := .busy }) = X2 at *
      obtain ⟨p0, p1⟩ := kA.c2'
      by_cases h0 : gone.length = b.bs.length
      · have hlb : ((gone.length : Int) == (b.bs.length : Int)) = true := by rw [beq_iff_eq]; omega
        obtain ⟨x2, f2⟩ := k2.c1'
        obtain ⟨x3, f3⟩ := k3.c1'
        have hne : ¬ w.heap.size + 2 = w.heap.size + 1 := by omega
        have hne2 : ¬ w.heap.size + 1 = w.heap.size + 2 := by omega
        have hn0 : ¬ w.heap.size = w.heap.size + 1 := by omega
        have hn1 : ¬ w.heap.size = w.heap.size + 2 := by omega
        have Hh0 : Hid (gone.length = b.bs.length) := h0
        clear h0
        gi_wp2_with fail
        obtain ⟨X3, hX3, hgX, y2, y3⟩ : ∃ X3, (X2.setCell ⟨w.heap.size + 1, 0, none⟩ (.slice au gone.length cu)).setCell ⟨w.heap.size + 2, 0, none⟩ (.bool true) = X3 ∧ (∀ i, i ≠ w.heap.size + 1 → i ≠ w.heap.size + 2 → X3.heap[i]? = X2.heap[i]?) ∧ CB X3 (w.heap.size + 1) [.slice au gone.length cu] ∧ CB X3 (w.heap.size + 2) [.bool true] :=
          ⟨_, rfl, fun i q1 q2 => (Below.heap_setCell _ _ _ _ q2).trans (Below.heap_setCell _ _ _ _ q1), (k2.set (j := 0) (by simp)).other (by omega), (k3.other (by omega)).set (j := 0) (by simp)⟩
        have hBX : Below w.heap.size w X3 := by rw [← hX3]; exact (hBW.setCell (p := ⟨w.heap.size + 1, 0, none⟩) (by simp) _).setCell (p := ⟨w.heap.size + 2, 0, none⟩) (by simp) _
        have hoX : OwnT X3 (W3.heap.size + 2) (.slice au gone.length cu) gone := by
          rw [← hX3]
          exact own_grown (own_grown hown (grown_setCell (off := 0) (grown_refl _ (some (w.heap.size + 1))) _) (by omega)) (grown_setCell (off := 0) (grown_refl _ (some (w.heap.size + 2))) _) (by omega)
        have hlX := (hgX (W3.heap.size + 1) (by omega) (by omega)).trans hl2
        have hdX := (hgX W3.heap.size (by omega) (by omega)).trans hdW
        try rw [hX3]
        clear hX3 x2 x3 f2 f3 p0 p1
        refine ⟨hlX, .inr ⟨Hh0.out, rfl, ?_⟩⟩
        have hlt3 : W3.heap.size + 1 < X3.heap.size := (Array.getElem?_eq_some_iff.1 hlX).1
        have hg4 := grownBy_putObj' X3 (W3.heap.size + 1) (.loop { lp with state := .done, pending := some .ret })
        exact ⟨y2.kept hg4 (by simp; omega), y3.kept hg4 (by simp; omega), (hg4.block W3.heap.size (by omega) (by simp)).trans hdX, World.putObj_heap_same hlt3, own_grown hoX hg4 (by omega), below_gr hBX hg4 (by omega)⟩
      · have hlb : ((gone.length : Int) == (b.bs.length : Int)) = false := by rw [beq_eq_false_iff_ne]; omega
        gi_wp2_with fail
        have hlt3 : W3.heap.size + 1 < X2.heap.size := (Array.getElem?_eq_some_iff.1 hl2).1
        refine ⟨hl2, .inl ⟨h0, rfl, ?_⟩⟩
        rw [Hback.out]
        exact ⟨grown_trans Hg2.out (grownBy_putObj' _ _ _), World.putObj_heap_same hlt3⟩
    rintro e W ⟨⟨v, rfl⟩, ⟨gone, u, hgo, hsz, y2, y3, hdW, hlW, hown, hBW⟩ | ⟨hB, n, gone, hn, hgo, hnx⟩⟩
    · refine ⟨⟨_, rfl⟩, .inl ⟨hlW, ?_⟩⟩
      have HR : Hid (OrderIs b gone true) := .inl ⟨rfl, hok, hgo⟩
      have hg4 := grownBy_putObj' W (W3.heap.size + 1) (.loop { lp with state := .exhausted, pending := some .ret })
      have hlt3 : W3.heap.size + 1 < W.heap.size := (Array.getElem?_eq_some_iff.1 hlW).1
      have y2 := y2.kept hg4 (by simp; omega)
      have y3 := y3.kept hg4 (by simp; omega)
      have hdW := (hg4.block W3.heap.size (by omega) (by simp)).trans hdW
      have hown := own_grown hown hg4 (by omega)
      have hBW := below_gr hBW hg4 (by omega)
      clear hg4 hlW
      generalize W.putObj (W3.heap.size + 1) (.loop { lp with state := .exhausted, pending := some .ret }) = V at *
      have hgZ := grownBy_putObj' V W3.heap.size (.deferred none)
      dsimp only
      gi_wp2_with fail
      refine ⟨by simp, .inl ⟨_, _, rfl, run_takeDeferred hdW, ?_⟩⟩
      refine ⟨_, ret_cells2 (r := w.heap.size + 1) (r2 := w.heap.size + 2) (x := u) (y := .bool true) Tryz.results88 rfl rfl (loadStrs (y2.kept hgZ (by simp; omega)).c1'.1) (loadBool (y3.kept hgZ (by simp; omega)).c1'.1), ?_⟩
      exact ⟨⟨u, gone, true, rfl, HR.out, own_low (own_grown hown hgZ (by omega)) (by omega), hsz⟩, below_gr hBW hgZ (by omega)⟩
    · have hlW := (hB.block (W3.heap.size + 1) (by omega)).trans hL
      have hdW := (hB.block W3.heap.size (by omega)).trans hD
      refine ⟨⟨_, rfl⟩, .inr ⟨hlW, ?_⟩⟩
      have HR : Hid (OrderIs b [] false) := .inr ⟨rfl, rfl, .inr ⟨n, gone, hn, hgo, hnx⟩⟩
      have k2 := k2.up hB (by omega)
      have k3 := k3.up hB (by omega)
      have hBW := hB4.trans (hB.mono (by omega))
      have hlt3 : W3.heap.size + 1 < W.heap.size := (Array.getElem?_eq_some_iff.1 hlW).1
      have hg4 := grownBy_putObj' W (W3.heap.size + 1) (.loop { lp with state := .exhausted, pending := none })
      have k2 := k2.kept hg4 (by simp; omega)
      have k3 := k3.kept hg4 (by simp; omega)
      have hdW := (hg4.block W3.heap.size (by omega) (by simp)).trans hdW
      have hBW := below_gr hBW hg4 (by omega)
      have hzV := hg4.size
      clear hg4 hlW kA kQ hbk4 hL hD hB hgo hnx hn
      generalize W.putObj (W3.heap.size + 1) (.loop { lp with state := .exhausted, pending := none }) = V at *
      obtain ⟨x2, f2⟩ := k2.c1'
      obtain ⟨x3, f3⟩ := k3.c1'
      have hne : ¬ w.heap.size + 2 = w.heap.size + 1 := by omega
      dsimp only
      gi_wp2_with fail
      have y2 : CB ((V.setCell ⟨w.heap.size + 1, 0, none⟩ (.slice none 0 0)).setCell ⟨w.heap.size + 2, 0, none⟩ (.bool false)) (w.heap.size + 1) [.slice none 0 0] := (k2.set (j := 0) (by simp)).other (by omega)
      have y3 : CB ((V.setCell ⟨w.heap.size + 1, 0, none⟩ (.slice none 0 0)).setCell ⟨w.heap.size + 2, 0, none⟩ (.bool false)) (w.heap.size + 2) [.bool false] := (k3.other (by omega)).set (j := 0) (by simp)
      have hdZ : ((V.setCell ⟨w.heap.size + 1, 0, none⟩ (.slice none 0 0)).setCell ⟨w.heap.size + 2, 0, none⟩ (.bool false)).heap[W3.heap.size]? = some (.deferred (some [])) := (Below.heap_setCell _ _ _ _ (by simp; omega)).trans ((Below.heap_setCell _ _ _ _ (by simp; omega)).trans hdW)
      have hBZ := (hBW.setCell (p := ⟨w.heap.size + 1, 0, none⟩) (by simp) (.slice none 0 0)).setCell (p := ⟨w.heap.size + 2, 0, none⟩) (by simp) (.bool false)
      have hgZ := grownBy_putObj' ((V.setCell ⟨w.heap.size + 1, 0, none⟩ (.slice none 0 0)).setCell ⟨w.heap.size + 2, 0, none⟩ (.bool false)) W3.heap.size (.deferred none)
      refine ⟨by simp, .inl ⟨_, _, rfl, run_takeDeferred hdZ, ?_⟩⟩
      refine ⟨_, ret_cells2 (r := w.heap.size + 1) (r2 := w.heap.size + 2) (x := .slice none 0 0) (y := .bool false) Tryz.results88 rfl rfl (loadStrs (y2.kept hgZ (by simp; omega)).c1'.1) (loadBool (y3.kept hgZ (by simp; omega)).c1'.1), ?_⟩
      exact ⟨⟨_, [], false, rfl, HR.out, ⟨by simp, .inl ⟨rfl, rfl⟩⟩, fun s hs => by simp at hs⟩, below_gr hBZ hgZ (by omega)⟩
end Go.Proofs.YtlkpgiifdclijaaGreatDoor

/- Safe by the program. -/
namespace Go.Proofs.YtlkpgiifdclijaaGreatDoor
open Go.RowKit

theorem safe_any (b : Bk) (v : Value) (w : World) (h : BkV w v b) :
    Calls Tryz.prog 57 #[v] w fun e w' => (∃ ss ok, e = .returned (.bool ok) ∧ OrderIs b ss ok) ∧ Below w.heap.size w w' := by
  obtain ⟨a1, c1, a2, c2, rfl, -, -⟩ := h.parts
  obtain ⟨W1, hW1, kA, hB1, hs1⟩ : ∃ W1, w.alloc (.cells #[.slice a1 b.things.length c1, .slice a2 b.bs.length c2] 34) = W1 ∧ CB W1 w.heap.size [.slice a1 b.things.length c1, .slice a2 b.bs.length c2] ∧ Below w.heap.size w W1 ∧ W1.heap.size = w.heap.size + 1 := ⟨_, rfl, cb1 w _ _⟩
  go_enter Tryz.func57, Tryz.ntmps57
  go_upto_region 1 with fail
  try rw [hW1]
  clear hW1
  have hk := h.up hB1
  obtain ⟨e0, e1⟩ := kA.c2'
  go_wp2_with fail
  refine (order_any b _ _ hk).mono ?_
  rintro e w2 ⟨⟨u, ss, ok, rfl, ho, -, -⟩, hb2⟩
  have hB2 := up_trans hB1 hb2
  clear e0 e1
  go_wp2_with fail
  go_ret
  exact ⟨⟨ss, ok, rfl, ho⟩, hB2⟩
end Go.Proofs.YtlkpgiifdclijaaGreatDoor
