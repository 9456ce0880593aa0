/- The specification's walk of the place of a name. -/
import Derived.Test.YtlkpgiifdclijaaGreatDoorJ31
import Derived.Test.YtlkpgiifdclijaaGreatDoorJ2
import Derived.Test.YtlkpgiifdclijaaGreatDoorJ20
import Derived.Deep.Cut
namespace Go.Proofs.YtlkpgiifdclijaaGreatDoor
open Go.RowKit

set_option maxHeartbeats 2000000 in
theorem at11_any (b : Bk) (v : Value) (s : ByteArray) (w : World) (h : BkV w v b) :
    Calls Tryz.prog 47 #[v, .string s] w fun e w' => e = .returned (.int .i64 (idxI (nms b.bs) s)) ∧ Below w.heap.size w w' := by
  obtain ⟨a1, c1, a2, c2, rfl, h1, h2⟩ := h.parts
  have hC : CB (w.alloc (.cells #[.slice a1 (b).things.length c1, .slice a2 (b).bs.length c2] 34)) w.heap.size [.slice a1 b.things.length c1, .slice a2 b.bs.length c2] := cb_alloc w _ _
  have hB0 := (Below.refl w.heap.size w).alloc (Nat.le_refl _) (.cells #[.slice a1 (b).things.length c1, .slice a2 (b).bs.length c2] 34)
  have g2 := h2.at.1
  unfold maxLen at g2
  go_enter Tryz.func47, Tryz.ntmps47
  go_upto_region 1 with fail
  generalize w.alloc (.cells #[.slice a1 (b).things.length c1, .slice a2 (b).bs.length c2] 34) = W1 at *
  have l2 := h2.up hB0
  clear h h1 h2
  obtain ⟨e0, e1⟩ := hC.c2'
  obtain ⟨-, hpos⟩ := l2.at
  go_wp2_with fail
  go_loop [5] (fun i => ∃ k : Nat, k ≤ b.bs.length ∧ i = .int .i64 k ∧ memS ((nms b.bs).take k) s = false) (fun i => b.bs.length - (intOf i).toNat)
  case atStart => exact ⟨0, by omega, rfl, rfl⟩
  case round =>
    obtain ⟨k, hk, rfl, hal⟩ := hrel
    have Hal : Hid (memS ((nms b.bs).take k) s = false) := hal
    clear hal
    by_cases hp : k < b.bs.length
    · obtain ⟨bb, o, rfl, hS, hb⟩ := hpos (by omega)
      obtain ⟨a3, d3, a4, d4, c3, c4, c5, -, -, -⟩ := (hS.at hp).cells
      have hp' : k < (nms b.bs).length := by rw [nms_length]; exact hp
      have Hn : Hid ((nms b.bs)[k] = (b.bs[k]).nm) := nms_get b.bs k hp
      cases hq : ((b.bs[k]).nm.toList == s.toList)
      · have Hq : Hid (memS ((nms b.bs).take (k + 1)) s = false) := memS_take hp' Hal.out (by rw [Hn.out]; exact hq)
        generalize b.bs[k] = x0 at *
        go_wp2_with fail
        go_round
        case rel => exact ⟨k + 1, by omega, by go_num, Hq.out⟩
        case measure => simp [intOf]; omega
      · have Hq : Hid (idxI (nms b.bs) s = (k : Int)) := idxI_found hp' Hal.out (by rw [Hn.out]; exact hq)
        generalize b.bs[k] = x0 at *
        go_wp2_with fail
        go_ret
        exact ⟨ret_int Hq.out.symm, hB0⟩
    · have Hq : Hid (idxI (nms b.bs) s = -1) := idxI_none (memS_all (by rw [nms_length]; exact hp) Hal.out)
      go_wp2_with fail
      go_ret
      exact ⟨ret_int Hq.out.symm, hB0⟩
end Go.Proofs.YtlkpgiifdclijaaGreatDoor

/- The specification's walks of chapter 12: who can, orders that fit. -/
namespace Go.Proofs.YtlkpgiifdclijaaGreatDoor
open Go.RowKit


set_option maxHeartbeats 2000000 in
theorem can12_any (b : Bk) (v gv : Value) (at' : Nat) (gone : List ByteArray) (w : World) (h : BkV w v b) (hg : Ls w gv gone) (hat : at' < b.bs.length) :
    Calls Tryz.prog 116 #[v, .int .i64 at', gv] w fun e w' => e = .returned (.bool (pB (Can b.bs at' gone))) ∧ Below w.heap.size w w' := by
  obtain ⟨a1, c1, a2, c2, rfl, h1, h2⟩ := h.parts
  have hC : CB (w.alloc (.cells #[.slice a1 (b).things.length c1, .slice a2 (b).bs.length c2] 34)) w.heap.size [.slice a1 b.things.length c1, .slice a2 b.bs.length c2] := cb_alloc w _ _
  have hB0 := (Below.refl w.heap.size w).alloc (Nat.le_refl _) (.cells #[.slice a1 (b).things.length c1, .slice a2 (b).bs.length c2] 34)
  have g2 := h2.at.1
  unfold maxLen at g2
  go_enter Tryz.func116, Tryz.ntmps116
  go_upto_region 1 with fail
  generalize w.alloc (.cells #[.slice a1 (b).things.length c1, .slice a2 (b).bs.length c2] 34) = W1 at *
  have l2 := h2.up hB0
  have lg := hg.up hB0
  clear h h1 h2 hg
  obtain ⟨e0, e1⟩ := hC.c2'
  obtain ⟨-, hpos⟩ := l2.at
  obtain ⟨bb, o, rfl, hS, hb⟩ := hpos (by omega)
  obtain ⟨a5, d5, a6, d6, -, -, c8, -, l6, -⟩ := (hS.at hat).cells
  go_wp2_with fail
  go_loopw [7] (fun i w' => ∃ k m : Nat, k ≤ b.bs.length ∧ i = .int .i64 k ∧ CanTo b.bs at' gone k ∧ w' = W1.drewN m) (fun i _ => b.bs.length - (intOf i).toNat)
  case atStart => exact ⟨0, 0, by omega, rfl, CanTo.zero _ _ _, rfl⟩
  case round =>
    obtain ⟨k, m, hk, rfl, hal, hw⟩ := hrel
    have Hw : Hid (wr = W1.drewN m) := hw
    have Hal : Hid (CanTo b.bs at' gone k) := hal
    have hBw : Below W1.heap.size W1 wr := by rw [hw]; exact below_drewN (Below.refl _ _) _
    clear hw hal
    have f1 : wr.cell? ⟨w.heap.size, 1, none⟩ = some (.slice (some ⟨bb, o, none⟩) b.bs.length c2) := by rw [Hw.out]; exact e1
    by_cases hp : k < b.bs.length
    · by_cases hka : k = at'
      · subst hka
        have Hs : Hid (CanTo b.bs k gone (k + 1)) := Hal.out.step hp hat (.inl rfl)
        go_wp2_with fail
        go_quiet (fail)
        go_wp2_with fail
        go_roundw
        case rel =>
          obtain ⟨m', hm'⟩ := drew_more (n := nq) Hw.out
          exact ⟨k + 1, m', by omega, by go_num, Hs.out, hm'⟩
        case measure => simp [intOf]; omega
      have hkb : ((k : Int) != (at' : Int)) = true := by rw [bne_iff_ne]; omega
      obtain ⟨a3, d3, a4, d4, c3, c4, -, l3, -, -⟩ := (hS.at hp).cells
      have c3' : wr.cell? ⟨bb, o + k * 3, none⟩ = some (.string (b.bs[k]).nm) := by rw [Hw.out]; exact c3
      have c4' : wr.cell? ⟨bb, o + k * 3 + 1, none⟩ = some (.slice a3 (b.bs[k]).has.length d3) := by rw [Hw.out]; exact c4
      have c8' : wr.cell? ⟨bb, o + at' * 3 + 2, none⟩ = some (.slice a6 (b.bs[at']).needs.length d6) := by rw [Hw.out]; exact c8
      have HY : Hid (memS gone (b.bs[k]).nm = true ∨ shareB (b.bs[k]).has (b.bs[at']).needs = false → CanTo b.bs at' gone (k + 1)) := fun h => Hal.out.step hp hat (.inr h)
      have HN : Hid (memS gone (b.bs[k]).nm = false → shareB (b.bs[k]).has (b.bs[at']).needs = true → ¬ Can b.bs at' gone) := fun h1 h2 => can_no hp hat hka h1 h2
      have R1 : Hid (∀ n, Calls Tryz.prog 82 #[gv, .string (b.bs[k]).nm] (wr.drewN n) fun e w'' => e = .returned (.bool (memS gone (b.bs[k]).nm)) ∧ ∃ m, w'' = wr.drewN m) := fun n => Calls.quiet_of_same (has11_any gone gv _ _ (by have e := Hw.out; subst e; exact lg))
      have R2 : Hid (∀ n, Calls Tryz.prog 115 #[.slice a3 (b.bs[k]).has.length d3, .slice a6 (b.bs[at']).needs.length d6] (wr.drewN n) fun e w'' => e = .returned (.bool (shareB (b.bs[k]).has (b.bs[at']).needs)) ∧ ∃ m, w'' = wr.drewN m) := fun n => Calls.quiet_of_same (share11_any _ _ _ _ _ (by have e := Hw.out; subst e; exact l3) (by have e := Hw.out; subst e; exact l6))
      clear c3 c4 l3
      generalize b.bs[k] = x0 at *
      generalize b.bs[at'] = y0 at *
      obtain ⟨hv, hhv⟩ : ∃ hv, Value.slice a3 x0.has.length d3 = hv := ⟨_, rfl⟩
      obtain ⟨nv, hnv⟩ : ∃ nv, Value.slice a6 y0.needs.length d6 = nv := ⟨_, rfl⟩
      rw [hhv] at c4' R2
      rw [hnv] at c8' R2
      clear hhv hnv
      cases hm : memS gone x0.nm
      case true =>
        have Hs : Hid (CanTo b.bs at' gone (k + 1)) := HY.out (.inl hm)
        have Q1 : Hid (∀ n, Calls Tryz.prog 82 #[gv, .string x0.nm] (wr.drewN n) fun e w'' => e = .returned (.bool true) ∧ ∃ m, w'' = wr.drewN m) := by have := R1.out; rw [hm] at this; exact this
        have q1 := Q1.out
        clear Q1 R1 R2 HY HN
        go_wp2_with fail
        go_quiet ((go_at_call 82; exact q1 _))
        go_wp2_with fail
        go_roundw
        case rel =>
          obtain ⟨m', hm'⟩ := drew_more (n := nq) Hw.out
          exact ⟨k + 1, m', by omega, by go_num, Hs.out, hm'⟩
        case measure => simp [intOf]; omega
      have Q1 : Hid (∀ n, Calls Tryz.prog 82 #[gv, .string x0.nm] (wr.drewN n) fun e w'' => e = .returned (.bool false) ∧ ∃ m, w'' = wr.drewN m) := by have := R1.out; rw [hm] at this; exact this
      cases hs : shareB x0.has y0.needs
      · have Hs : Hid (CanTo b.bs at' gone (k + 1)) := HY.out (.inr hs)
        have Q2 : Hid (∀ n, Calls Tryz.prog 115 #[hv, nv] (wr.drewN n) fun e w'' => e = .returned (.bool false) ∧ ∃ m, w'' = wr.drewN m) := by have := R2.out; rw [hs] at this; exact this
        have q1 := Q1.out
        have q2 := Q2.out
        clear Q1 Q2 R1 R2 HY HN
        go_wp2_with fail
        go_quiet ((first | (go_at_call 82; exact q1 _) | (go_at_call 115; exact q2 _)))
        go_wp2_with fail
        go_roundw
        case rel =>
          obtain ⟨m', hm'⟩ := drew_more (n := nq) Hw.out
          exact ⟨k + 1, m', by omega, by go_num, Hs.out, hm'⟩
        case measure => simp [intOf]; omega
      · have Hs : Hid (¬ Can b.bs at' gone) := HN.out hm hs
        have Q2 : Hid (∀ n, Calls Tryz.prog 115 #[hv, nv] (wr.drewN n) fun e w'' => e = .returned (.bool true) ∧ ∃ m, w'' = wr.drewN m) := by have := R2.out; rw [hs] at this; exact this
        have q1 := Q1.out
        have q2 := Q2.out
        clear Q1 Q2 R1 R2 HY HN
        go_wp2_with fail
        go_quiet ((first | (go_at_call 82; exact q1 _) | (go_at_call 115; exact q2 _)))
        go_wp2_with fail
        go_ret
        exact ⟨ret_bool (pB_no Hs.out).symm, up_trans hB0 (below_drewN hBw _)⟩
    · have Hs : Hid (Can b.bs at' gone) := can_end Hal.out hp
      go_wp2_with fail
      go_ret
      exact ⟨ret_bool (pB_yes Hs.out).symm, up_trans hB0 hBw⟩
end Go.Proofs.YtlkpgiifdclijaaGreatDoor

/- The specification's shares of a house (chapter 22). -/
namespace Go.Proofs.YtlkpgiifdclijaaGreatDoor
open Go.RowKit

theorem n14_drew {W w0 : World} {q r z o1 o2 : Nat} {x0 x1 x2 x3 x4 x5 x6 x7 x8 x9 x10 x11 x12 x13 : Value} (h : Below W.heap.size W w0 ∧ w0.cell? ⟨q, 0, none⟩ = some x0 ∧ w0.cell? ⟨q, 1, none⟩ = some x1 ∧ w0.cell? ⟨q, 2, none⟩ = some x2 ∧ w0.cell? ⟨q, 3, none⟩ = some x3 ∧ w0.cell? ⟨q, 4, none⟩ = some x4 ∧ w0.cell? ⟨q, 5, none⟩ = some x5 ∧ w0.cell? ⟨r, 0, none⟩ = some x6 ∧ w0.cell? ⟨r, 1, none⟩ = some x7 ∧ w0.cell? ⟨r, 2, none⟩ = some x8 ∧ w0.cell? ⟨r, 3, none⟩ = some x9 ∧ w0.cell? ⟨r, 4, none⟩ = some x10 ∧ w0.cell? ⟨r, 5, none⟩ = some x11 ∧ w0.cell? ⟨z, o1, none⟩ = some x12 ∧ w0.cell? ⟨z, o2, none⟩ = some x13) : Below W.heap.size W w0.drew ∧ w0.drew.cell? ⟨q, 0, none⟩ = some x0 ∧ w0.drew.cell? ⟨q, 1, none⟩ = some x1 ∧ w0.drew.cell? ⟨q, 2, none⟩ = some x2 ∧ w0.drew.cell? ⟨q, 3, none⟩ = some x3 ∧ w0.drew.cell? ⟨q, 4, none⟩ = some x4 ∧ w0.drew.cell? ⟨q, 5, none⟩ = some x5 ∧ w0.drew.cell? ⟨r, 0, none⟩ = some x6 ∧ w0.drew.cell? ⟨r, 1, none⟩ = some x7 ∧ w0.drew.cell? ⟨r, 2, none⟩ = some x8 ∧ w0.drew.cell? ⟨r, 3, none⟩ = some x9 ∧ w0.drew.cell? ⟨r, 4, none⟩ = some x10 ∧ w0.drew.cell? ⟨r, 5, none⟩ = some x11 ∧ w0.drew.cell? ⟨z, o1, none⟩ = some x12 ∧ w0.drew.cell? ⟨z, o2, none⟩ = some x13 :=
  ⟨h.1.drew, h.2⟩
theorem n14_up {W w0 w1 : World} {q r z o1 o2 : Nat} {x0 x1 x2 x3 x4 x5 x6 x7 x8 x9 x10 x11 x12 x13 : Value} (hq : q < W.heap.size) (hr : r < W.heap.size) (hz : z < W.heap.size) (h : Below W.heap.size W w0 ∧ w0.cell? ⟨q, 0, none⟩ = some x0 ∧ w0.cell? ⟨q, 1, none⟩ = some x1 ∧ w0.cell? ⟨q, 2, none⟩ = some x2 ∧ w0.cell? ⟨q, 3, none⟩ = some x3 ∧ w0.cell? ⟨q, 4, none⟩ = some x4 ∧ w0.cell? ⟨q, 5, none⟩ = some x5 ∧ w0.cell? ⟨r, 0, none⟩ = some x6 ∧ w0.cell? ⟨r, 1, none⟩ = some x7 ∧ w0.cell? ⟨r, 2, none⟩ = some x8 ∧ w0.cell? ⟨r, 3, none⟩ = some x9 ∧ w0.cell? ⟨r, 4, none⟩ = some x10 ∧ w0.cell? ⟨r, 5, none⟩ = some x11 ∧ w0.cell? ⟨z, o1, none⟩ = some x12 ∧ w0.cell? ⟨z, o2, none⟩ = some x13) (hB : Below w0.heap.size w0 w1) : Below W.heap.size W w1 ∧ w1.cell? ⟨q, 0, none⟩ = some x0 ∧ w1.cell? ⟨q, 1, none⟩ = some x1 ∧ w1.cell? ⟨q, 2, none⟩ = some x2 ∧ w1.cell? ⟨q, 3, none⟩ = some x3 ∧ w1.cell? ⟨q, 4, none⟩ = some x4 ∧ w1.cell? ⟨q, 5, none⟩ = some x5 ∧ w1.cell? ⟨r, 0, none⟩ = some x6 ∧ w1.cell? ⟨r, 1, none⟩ = some x7 ∧ w1.cell? ⟨r, 2, none⟩ = some x8 ∧ w1.cell? ⟨r, 3, none⟩ = some x9 ∧ w1.cell? ⟨r, 4, none⟩ = some x10 ∧ w1.cell? ⟨r, 5, none⟩ = some x11 ∧ w1.cell? ⟨z, o1, none⟩ = some x12 ∧ w1.cell? ⟨z, o2, none⟩ = some x13 := by
  obtain ⟨h0, a0, a1, a2, a3, a4, a5, a6, a7, a8, a9, a10, a11, a12, a13⟩ := h
  have lq : q < w0.heap.size := Nat.lt_of_lt_of_le hq h0.size
  have lr : r < w0.heap.size := Nat.lt_of_lt_of_le hr h0.size
  have lz : z < w0.heap.size := Nat.lt_of_lt_of_le hz h0.size
  exact ⟨up_trans h0 hB, (hB.cell (p := ⟨q, 0, none⟩) lq).trans a0, (hB.cell (p := ⟨q, 1, none⟩) lq).trans a1, (hB.cell (p := ⟨q, 2, none⟩) lq).trans a2, (hB.cell (p := ⟨q, 3, none⟩) lq).trans a3, (hB.cell (p := ⟨q, 4, none⟩) lq).trans a4, (hB.cell (p := ⟨q, 5, none⟩) lq).trans a5, (hB.cell (p := ⟨r, 0, none⟩) lr).trans a6, (hB.cell (p := ⟨r, 1, none⟩) lr).trans a7, (hB.cell (p := ⟨r, 2, none⟩) lr).trans a8, (hB.cell (p := ⟨r, 3, none⟩) lr).trans a9, (hB.cell (p := ⟨r, 4, none⟩) lr).trans a10, (hB.cell (p := ⟨r, 5, none⟩) lr).trans a11, (hB.cell (p := ⟨z, o1, none⟩) lz).trans a12, (hB.cell (p := ⟨z, o2, none⟩) lz).trans a13⟩
/-- What the specification asks of the book's batches. -/
def ShareAt (h : House) (b : Rb) : Prop := b.nm ∈ nms h.sh.bs ∧ (shOf h.sh b.nm).needs = rbThings b b.ad ∧ (0 ≤ b.si → Part (rbOwn b) (shOf h.sh b.nm).has)
def ShareTo (h : House) (k : Nat) : Prop := ∀ (i : Nat) (b : Rb), i < k → h.bs[i]? = some b → ShareAt h b
def SharesOk (h : House) : Prop := h.sh.bs.length = h.bs.length ∧ ShareTo h h.bs.length
set_option maxRecDepth 20000 in
set_option maxHeartbeats 8000000 in
theorem sharesS_any (h : House) (tv bv xv dv : Value) (w : World) (H : HV w h tv bv xv dv) (hok : BookOk h.sh) :
    Calls Tryz.prog 20 #[.agg #[.int .i64 h.now, .int .i64 h.last, tv, bv, xv, dv]] w fun e w' => e = .returned (.bool (pB (SharesOk h))) ∧ Below w.heap.size w w' := by
  obtain ⟨a1, c1, a2, c2, a3, c3, a4, c4, rfl, rfl, rfl, rfl⟩ := H.shapes
  obtain ⟨hmax, hpos⟩ := H.x.inv rfl
  unfold maxLen at hmax
  have HK := H.book
  have hbp : 0 < h.sh.bs.length → ∃ b o, a2 = some ⟨b, o, none⟩ ∧ BsAt w b o h.sh.bs ∧ b < w.heap.size := by
    obtain ⟨a', c', e', -, hp⟩ := H.b
    simp only [Value.slice.injEq] at e'
    obtain ⟨rfl, -, -⟩ := e'
    exact hp
  clear H
  have Hok : Hid (BookOk h.sh) := hok
  clear hok
  have hB0 := (Below.refl w.heap.size w).alloc (Nat.le_refl _) (.cells #[.int .i64 h.now, .int .i64 h.last, .slice a1 h.sh.things.length c1, .slice a2 h.sh.bs.length c2, .slice a3 h.bs.length c3, .slice a4 h.ds.length c4] 38)
  have hC : CB (w.alloc (.cells #[.int .i64 h.now, .int .i64 h.last, .slice a1 h.sh.things.length c1, .slice a2 h.sh.bs.length c2, .slice a3 h.bs.length c3, .slice a4 h.ds.length c4] 38)) w.heap.size [.int .i64 h.now, .int .i64 h.last, .slice a1 h.sh.things.length c1, .slice a2 h.sh.bs.length c2, .slice a3 h.bs.length c3, .slice a4 h.ds.length c4] := cb_alloc w _ _
  go_enter Tryz.func20, Tryz.ntmps20
  go_upto_region 1 with fail
  generalize w.alloc (.cells #[.int .i64 h.now, .int .i64 h.last, .slice a1 h.sh.things.length c1, .slice a2 h.sh.bs.length c2, .slice a3 h.bs.length c3, .slice a4 h.ds.length c4] 38) = W1 at *
  have hlt := hC.2.2
  obtain ⟨d0, d1, d2, d3, d4, d5⟩ := hC.c6
  by_cases hll : h.sh.bs.length = h.bs.length
  case neg =>
    have HN : Hid (pB (SharesOk h) = false) := pB_no fun t => hll t.1
    go_wp2_with fail
    go_ret
    exact ⟨ret_bool HN.out.symm, hB0⟩
  have Hll : Hid (h.sh.bs.length = h.bs.length) := hll
  go_upto_region 3 with fail
  clear hll
  go_wp2_with fail
  go_loopw [3, 4, 5] (fun i _ _ w' => ∃ k : Nat, k ≤ h.bs.length ∧ i = .int .i64 k ∧ ShareTo h k ∧ Below W1.heap.size W1 w') (fun i _ _ _ => h.bs.length - (intOf i).toNat)
  case atStart => exact ⟨0, by omega, rfl, fun i b hi => by omega, Below.refl _ _⟩
  case round =>
    obtain ⟨k, hk, rfl, hinv, hB⟩ := hrel
    have HI : Hid (ShareTo h k) := hinv
    clear hinv d0 d1 d2 d3 d4 d5
    obtain ⟨d0, d1, d2, d3, d4, d5⟩ := (hC.up hB hlt).c6
    by_cases hp : k < h.bs.length
    · obtain ⟨b, o, ha3, hS, hb⟩ := hpos (by omega)
      subst ha3
      have hB01 := up_trans hB0 hB
      obtain ⟨p, q, c, g, r, d, ⟨e0, e1, e2, e3, e4, e5⟩, hv⟩ := ((hS.at hp).up hB01 hb).open
      have NO : Hid (¬ ShareAt h h.bs[k] → pB (SharesOk h) = false) := fun hn => pB_no fun t => hn (t.2 k _ hp (List.getElem?_eq_getElem hp))
      have YES : Hid (ShareAt h h.bs[k] → ShareTo h (k + 1)) := fun hy => to_step (P := fun _ (b : Rb) => ShareAt h b) HI.out hp hy
      generalize h.bs[k] = x0 at *
      clear hS
      have hB1 := hB.alloc hB.size (.cells #[.string x0.nm, .slice (some ⟨p, q, none⟩) x0.ps.length c, .slice (some ⟨g, r, none⟩) x0.sl.length d, .string x0.ad, .int .i64 x0.si, .int .i64 x0.st] 51)
      have hX : CB (wr.alloc (.cells #[.string x0.nm, .slice (some ⟨p, q, none⟩) x0.ps.length c, .slice (some ⟨g, r, none⟩) x0.sl.length d, .string x0.ad, .int .i64 x0.si, .int .i64 x0.st] 51)) wr.heap.size [.string x0.nm, .slice (some ⟨p, q, none⟩) x0.ps.length c, .slice (some ⟨g, r, none⟩) x0.sl.length d, .string x0.ad, .int .i64 x0.si, .int .i64 x0.st] := cb_alloc wr _ _
      have hv2 := hv.up ((Below.refl wr.heap.size wr).alloc (Nat.le_refl _) (.cells #[.string x0.nm, .slice (some ⟨p, q, none⟩) x0.ps.length c, .slice (some ⟨g, r, none⟩) x0.sl.length d, .string x0.ad, .int .i64 x0.si, .int .i64 x0.st] 51))
      go_upto_region 7 with fail
      generalize wr.alloc (.cells #[.string x0.nm, .slice (some ⟨p, q, none⟩) x0.ps.length c, .slice (some ⟨g, r, none⟩) x0.sl.length d, .string x0.ad, .int .i64 x0.si, .int .i64 x0.st] 51) = W0 at *
      clear d0 d1 d2 d3 d4 d5 e0 e1 e2 e3 e4 e5
      obtain ⟨f0, f1, f2, f3, f4, f5⟩ := hX.c6
      obtain ⟨d0, d1, d2, d3, d4, d5⟩ := (hC.up hB1 hlt).c6
      have hB00 := up_trans hB0 hB1
      cases hm : memS (nms h.sh.bs) x0.nm
      · have HN : Hid (pB (SharesOk h) = false) := NO.out fun t => by rw [(memS_iff _ _).2 t.1] at hm; cases hm
        have hat := at11_any h.sh _ x0.nm W0 (HK.up hB00)
        rw [idxI_none hm] at hat
        go_upto_region 8 with (go_at_call 47; refine hat.mono ?_; rintro e w3 ⟨rfl, hb3⟩)
        have hB03 := up_trans hB00 hb3
        clear f0 f1 f2 f3 f4 f5 d0 d1 d2 d3 d4 d5
        go_wp2_with fail
        go_quiet (fail)
        go_wp2_with fail
        go_ret
        exact ⟨ret_bool HN.out.symm, below_drewN hB03 _⟩
      · have hmem : x0.nm ∈ nms h.sh.bs := (memS_iff _ _).1 hm
        obtain ⟨m, hml, hmn⟩ := mem_at hmem
        have hsh := shOf_at Hok.out.2.2.2.1 hml hmn
        have hix : idxI (nms h.sh.bs) x0.nm = (m : Int) := idxI_found (by rw [nms_length]; exact hml) (by
          rw [memS_no]
          intro hin
          obtain ⟨j, hj, e⟩ := List.mem_take_iff_getElem.1 hin
          have := asc_ne Hok.out.2.2.2.1 (List.getElem?_eq_getElem (by omega)) (show (nms h.sh.bs)[m]? = some ((nms h.sh.bs)[j]'(by omega)) by
            rw [List.getElem?_eq_getElem (by rw [nms_length]; exact hml), nms_get _ _ hml, hmn, e])
          omega) (by rw [nms_get _ _ hml, hmn]; simp)
        have hat := at11_any h.sh _ x0.nm W0 (HK.up hB00)
        rw [hix] at hat
        have hm5 : h.sh.bs.length ≤ 5 := Hok.out.2.1
        obtain ⟨bb, oo, ha2, hSb, hbb⟩ := hbp (by omega)
        subst ha2
        go_upto_region 8 with (go_at_call 47; refine hat.mono ?_; rintro e W2 ⟨rfl, hb3⟩)
        have hB02 := up_trans hB00 hb3
        have hB12 := up_trans hB1 hb3
        have hv3 := hv2.up hb3
        have hX2 := hX.up hb3 hX.2.2
        have hXlt := hX2.2.2
        have hqlt : w.heap.size < W2.heap.size := Nat.lt_of_lt_of_le hlt hB12.size
        have hzlt : bb < W2.heap.size := Nat.lt_of_lt_of_le hbb hB02.size
        clear f0 f1 f2 f3 f4 f5 d0 d1 d2 d3 d4 d5
        obtain ⟨f0, f1, f2, f3, f4, f5⟩ := hX2.c6
        obtain ⟨d0, d1, d2, d3, d4, d5⟩ := (hC.up hB12 hlt).c6
        have HAT : Hid (ShareAt h x0 ↔ (h.sh.bs[m]).needs = rbThings x0 x0.ad ∧ (0 ≤ x0.si → Part (rbOwn x0) (h.sh.bs[m]).has)) := by
          show _ ↔ _
          unfold ShareAt
          rw [hsh]
          exact ⟨fun t => t.2, fun t => ⟨hmem, t⟩⟩
        obtain ⟨ah, dh, an, dn, s0, s1, s2, hLh0, hLn0, -⟩ := ((hSb.at hml).up hB02 hbb).cells
        have hLn := hLn0
        have hLh := hLh0
        have Hsz : Hid (∀ s ∈ rbThings x0 x0.ad, s.size ≤ maxLen) := rbThings_sized hv3 x0.ad
        have Hsz2 : Hid (∀ s ∈ rbOwn x0, s.size ≤ maxLen) := rbOwn_sized hv3
        have hvd := hv3.up (Below.refl _ _).drew
        clear hmem hmn hsh hix hat hm hSb hv2 hLh0 hLn0 hX2
        generalize h.sh.bs[m] = y at *
        have hS0 : Below W2.heap.size W2 W2 ∧ W2.cell? ⟨w.heap.size, 0, none⟩ = some (.int .i64 h.now) ∧ W2.cell? ⟨w.heap.size, 1, none⟩ = some (.int .i64 h.last) ∧ W2.cell? ⟨w.heap.size, 2, none⟩ = some (.slice a1 h.sh.things.length c1) ∧ W2.cell? ⟨w.heap.size, 3, none⟩ = some (.slice (some ⟨bb, oo, none⟩) h.sh.bs.length c2) ∧ W2.cell? ⟨w.heap.size, 4, none⟩ = some (.slice (some ⟨b, o, none⟩) h.bs.length c3) ∧ W2.cell? ⟨w.heap.size, 5, none⟩ = some (.slice a4 h.ds.length c4) ∧ W2.cell? ⟨wr.heap.size, 0, none⟩ = some (.string x0.nm) ∧ W2.cell? ⟨wr.heap.size, 1, none⟩ = some (.slice (some ⟨p, q, none⟩) x0.ps.length c) ∧ W2.cell? ⟨wr.heap.size, 2, none⟩ = some (.slice (some ⟨g, r, none⟩) x0.sl.length d) ∧ W2.cell? ⟨wr.heap.size, 3, none⟩ = some (.string x0.ad) ∧ W2.cell? ⟨wr.heap.size, 4, none⟩ = some (.int .i64 x0.si) ∧ W2.cell? ⟨wr.heap.size, 5, none⟩ = some (.int .i64 x0.st) ∧ World.cell? W2 ⟨bb, oo + m * 3 + 1, none⟩ = some (.slice ah y.has.length dh) ∧ World.cell? W2 ⟨bb, oo + m * 3 + 2, none⟩ = some (.slice an y.needs.length dn) := ⟨Below.refl _ _, d0, d1, d2, d3, d4, d5, f0, f1, f2, f3, f4, f5, s1, s2⟩
        clear f0 f1 f2 f3 f4 f5 d0 d1 d2 d3 d4 d5 s0 s1 s2
        have hS1 : Below W2.heap.size W2 W2.drew ∧ W2.drew.cell? ⟨w.heap.size, 0, none⟩ = some (.int .i64 h.now) ∧ W2.drew.cell? ⟨w.heap.size, 1, none⟩ = some (.int .i64 h.last) ∧ W2.drew.cell? ⟨w.heap.size, 2, none⟩ = some (.slice a1 h.sh.things.length c1) ∧ W2.drew.cell? ⟨w.heap.size, 3, none⟩ = some (.slice (some ⟨bb, oo, none⟩) h.sh.bs.length c2) ∧ W2.drew.cell? ⟨w.heap.size, 4, none⟩ = some (.slice (some ⟨b, o, none⟩) h.bs.length c3) ∧ W2.drew.cell? ⟨w.heap.size, 5, none⟩ = some (.slice a4 h.ds.length c4) ∧ W2.drew.cell? ⟨wr.heap.size, 0, none⟩ = some (.string x0.nm) ∧ W2.drew.cell? ⟨wr.heap.size, 1, none⟩ = some (.slice (some ⟨p, q, none⟩) x0.ps.length c) ∧ W2.drew.cell? ⟨wr.heap.size, 2, none⟩ = some (.slice (some ⟨g, r, none⟩) x0.sl.length d) ∧ W2.drew.cell? ⟨wr.heap.size, 3, none⟩ = some (.string x0.ad) ∧ W2.drew.cell? ⟨wr.heap.size, 4, none⟩ = some (.int .i64 x0.si) ∧ W2.drew.cell? ⟨wr.heap.size, 5, none⟩ = some (.int .i64 x0.st) ∧ World.cell? W2.drew ⟨bb, oo + m * 3 + 1, none⟩ = some (.slice ah y.has.length dh) ∧ World.cell? W2.drew ⟨bb, oo + m * 3 + 2, none⟩ = some (.slice an y.needs.length dn) := n14_drew hS0
        go_cut [65] (fun v65 wc => ∃ cb : Bool, v65 = .bool cb ∧ (cb = true → ¬ ShareAt h x0) ∧ (cb = false → ShareAt h x0) ∧ Below W2.heap.size W2 wc)
        case first =>
          clear NO YES HI
          cases hq : pB (y.needs = rbThings x0 x0.ad)
          · have HN : Hid (¬ ShareAt h x0) := fun t => pB_not.1 hq (HAT.out.1 t).1
            clear hS0
            refine wp_region_x 99 (fun w' => Below W2.heap.size W2 w' ∧ w'.cell? ⟨w.heap.size, 0, none⟩ = some (.int .i64 h.now) ∧ w'.cell? ⟨w.heap.size, 1, none⟩ = some (.int .i64 h.last) ∧ w'.cell? ⟨w.heap.size, 2, none⟩ = some (.slice a1 h.sh.things.length c1) ∧ w'.cell? ⟨w.heap.size, 3, none⟩ = some (.slice (some ⟨bb, oo, none⟩) h.sh.bs.length c2) ∧ w'.cell? ⟨w.heap.size, 4, none⟩ = some (.slice (some ⟨b, o, none⟩) h.bs.length c3) ∧ w'.cell? ⟨w.heap.size, 5, none⟩ = some (.slice a4 h.ds.length c4) ∧ w'.cell? ⟨wr.heap.size, 0, none⟩ = some (.string x0.nm) ∧ w'.cell? ⟨wr.heap.size, 1, none⟩ = some (.slice (some ⟨p, q, none⟩) x0.ps.length c) ∧ w'.cell? ⟨wr.heap.size, 2, none⟩ = some (.slice (some ⟨g, r, none⟩) x0.sl.length d) ∧ w'.cell? ⟨wr.heap.size, 3, none⟩ = some (.string x0.ad) ∧ w'.cell? ⟨wr.heap.size, 4, none⟩ = some (.int .i64 x0.si) ∧ w'.cell? ⟨wr.heap.size, 5, none⟩ = some (.int .i64 x0.st) ∧ World.cell? w' ⟨bb, oo + m * 3 + 1, none⟩ = some (.slice ah y.has.length dh) ∧ World.cell? w' ⟨bb, oo + m * 3 + 2, none⟩ = some (.slice an y.needs.length dn)) (by kernel_rfl) ?_
            refine anyX_take (i := 0) (v := ?_) rfl (by kernel_rfl) (by kernel_rfl) (by kernel_rfl) (by kernel_rfl) (fun _ _ _ h => h) (by kernel_rfl) hS1 ?_ ?_; rotate_left; focus (intro w hSw; (try dsimp only at hSw); go_simp; try with_reducible rfl); (try simp only [Act.put, List.setIfInBounds_toArray, List.set_cons_zero, List.set_cons_succ])
            refine anyX_take (i := 1) (v := ?_) rfl (by kernel_rfl) (by kernel_rfl) (by kernel_rfl) (by kernel_rfl) (fun _ _ _ h => h) (by kernel_rfl) hS1 ?_ ?_; rotate_left; focus (intro w hSw; (try dsimp only at hSw); go_simp; try with_reducible rfl); (try simp only [Act.put, List.setIfInBounds_toArray, List.set_cons_zero, List.set_cons_succ])
            refine anyX_take (i := 2) (v := ?_) rfl (by kernel_rfl) (by kernel_rfl) (by kernel_rfl) (by kernel_rfl) (fun _ _ _ h => h) (by kernel_rfl) hS1 ?_ ?_; rotate_left; focus (intro w hSw; (try dsimp only at hSw); go_simp; try with_reducible rfl); (try simp only [Act.put, List.setIfInBounds_toArray, List.set_cons_zero, List.set_cons_succ])
            refine anyX_take (i := 3) (v := ?_) rfl (by kernel_rfl) (by kernel_rfl) (by kernel_rfl) (by kernel_rfl) (fun _ _ _ h => h) (by kernel_rfl) hS1 ?_ ?_; rotate_left; focus (intro w hSw; (try dsimp only at hSw); go_simp; try with_reducible rfl); (try simp only [Act.put, List.setIfInBounds_toArray, List.set_cons_zero, List.set_cons_succ])
            refine anyX_take (i := 4) (v := ?_) rfl (by kernel_rfl) (by kernel_rfl) (by kernel_rfl) (by kernel_rfl) (fun _ _ _ h => h) (by kernel_rfl) hS1 ?_ ?_; rotate_left; focus (intro w hSw; (try dsimp only at hSw); go_simp; try with_reducible rfl); (try simp only [Act.put, List.setIfInBounds_toArray, List.set_cons_zero, List.set_cons_succ])
            refine anyX_take (i := 5) (v := ?_) rfl (by kernel_rfl) (by kernel_rfl) (by kernel_rfl) (by kernel_rfl) (fun _ _ _ h => h) (by kernel_rfl) hS1 ?_ ?_; rotate_left; focus (intro w hSw; (try dsimp only at hSw); go_simp; try with_reducible rfl); (try simp only [Act.put, List.setIfInBounds_toArray, List.set_cons_zero, List.set_cons_succ])
            refine anyX_take (i := 6) (v := ?_) rfl (by kernel_rfl) (by kernel_rfl) (by kernel_rfl) (by kernel_rfl) (fun _ _ _ h => h) (by kernel_rfl) hS1 ?_ ?_; rotate_left; focus (intro w hSw; (try dsimp only at hSw); go_simp; try with_reducible rfl); (try simp only [Act.put, List.setIfInBounds_toArray, List.set_cons_zero, List.set_cons_succ])
            refine anyX_take (i := 7) (v := ?_) rfl (by kernel_rfl) (by kernel_rfl) (by kernel_rfl) (by kernel_rfl) (fun _ _ _ h => h) (by kernel_rfl) hS1 ?_ ?_; rotate_left; focus (intro w hSw; (try dsimp only at hSw); go_simp; try with_reducible rfl); (try simp only [Act.put, List.setIfInBounds_toArray, List.set_cons_zero, List.set_cons_succ])
            refine anyX_take (i := 8) (v := ?_) rfl (by kernel_rfl) (by kernel_rfl) (by kernel_rfl) (by kernel_rfl) (fun _ _ _ h => h) (by kernel_rfl) hS1 ?_ ?_; rotate_left; focus (intro w hSw; (try dsimp only at hSw); go_simp; try with_reducible rfl); (try simp only [Act.put, List.setIfInBounds_toArray, List.set_cons_zero, List.set_cons_succ])
            refine anyX_take (i := 9) (v := ?_) rfl (by kernel_rfl) (by kernel_rfl) (by kernel_rfl) (by kernel_rfl) (fun _ _ _ h => h) (by kernel_rfl) hS1 ?_ ?_; rotate_left; focus (intro w hSw; (try dsimp only at hSw); go_simp; try with_reducible rfl); (try simp only [Act.put, List.setIfInBounds_toArray, List.set_cons_zero, List.set_cons_succ])
            refine anyX_take (i := 10) (v := ?_) rfl (by kernel_rfl) (by kernel_rfl) (by kernel_rfl) (by kernel_rfl) (fun _ _ _ h => h) (by kernel_rfl) hS1 ?_ ?_; rotate_left; focus (intro w hSw; (try dsimp only at hSw); go_simp; try with_reducible rfl); (try simp only [Act.put, List.setIfInBounds_toArray, List.set_cons_zero, List.set_cons_succ])
            refine anyX_take (i := 11) (v := ?_) rfl (by kernel_rfl) (by kernel_rfl) (by kernel_rfl) (by kernel_rfl) (fun _ _ _ h => h) (by kernel_rfl) hS1 ?_ ?_; rotate_left; focus (intro w hSw; (try dsimp only at hSw); go_simp; try with_reducible rfl); (try simp only [Act.put, List.setIfInBounds_toArray, List.set_cons_zero, List.set_cons_succ])
            refine anyX_take (i := 12) (v := ?_) rfl (by kernel_rfl) (by kernel_rfl) (by kernel_rfl) (by kernel_rfl) (fun _ _ _ h => h) (by kernel_rfl) hS1 ?_ ?_; rotate_left; focus (intro w hSw; (try dsimp only at hSw); go_simp; try with_reducible rfl); (try simp only [Act.put, List.setIfInBounds_toArray, List.set_cons_zero, List.set_cons_succ])
            refine anyX_one (i := 13) (by kernel_rfl) rfl (fun K hK => ?_)
            go_simp
            go_wp2_with (go_at_call 49; refine (thingsS_any x0 _ _ x0.ad _ hvd).mono ?_; rintro e w4 ⟨⟨u4, rfl, hT4⟩, hb4⟩)
            have hS2 : Below W2.heap.size W2 w4 ∧ w4.cell? ⟨w.heap.size, 0, none⟩ = some (.int .i64 h.now) ∧ w4.cell? ⟨w.heap.size, 1, none⟩ = some (.int .i64 h.last) ∧ w4.cell? ⟨w.heap.size, 2, none⟩ = some (.slice a1 h.sh.things.length c1) ∧ w4.cell? ⟨w.heap.size, 3, none⟩ = some (.slice (some ⟨bb, oo, none⟩) h.sh.bs.length c2) ∧ w4.cell? ⟨w.heap.size, 4, none⟩ = some (.slice (some ⟨b, o, none⟩) h.bs.length c3) ∧ w4.cell? ⟨w.heap.size, 5, none⟩ = some (.slice a4 h.ds.length c4) ∧ w4.cell? ⟨wr.heap.size, 0, none⟩ = some (.string x0.nm) ∧ w4.cell? ⟨wr.heap.size, 1, none⟩ = some (.slice (some ⟨p, q, none⟩) x0.ps.length c) ∧ w4.cell? ⟨wr.heap.size, 2, none⟩ = some (.slice (some ⟨g, r, none⟩) x0.sl.length d) ∧ w4.cell? ⟨wr.heap.size, 3, none⟩ = some (.string x0.ad) ∧ w4.cell? ⟨wr.heap.size, 4, none⟩ = some (.int .i64 x0.si) ∧ w4.cell? ⟨wr.heap.size, 5, none⟩ = some (.int .i64 x0.st) ∧ World.cell? w4 ⟨bb, oo + m * 3 + 1, none⟩ = some (.slice ah y.has.length dh) ∧ World.cell? w4 ⟨bb, oo + m * 3 + 2, none⟩ = some (.slice an y.needs.length dn) := n14_up hqlt hXlt hzlt hS1 hb4
            have hL4 := (hLn.up (Below.refl _ _).drew).up hb4
            obtain ⟨gu, cu, hu4, -⟩ := id hT4
            subst hu4
            refine hK.out _ _ (fun _ => hS2) ?_; clear hK K; (try simp only [Act.put, List.setIfInBounds_toArray, List.set_cons_zero, List.set_cons_succ])
            refine anyX_one (i := 14) (by kernel_rfl) rfl (fun K hK => ?_)
            go_simp
            go_wp2_with (go_at_call 48; refine (alikeS_any _ _ _ _ _ hL4 ((Lst.ls (.inr hT4)) Hsz.out)).mono ?_; rw [hq]; rintro e w5 ⟨rfl, hb5⟩)
            have hS3 : Below W2.heap.size W2 w5 ∧ w5.cell? ⟨w.heap.size, 0, none⟩ = some (.int .i64 h.now) ∧ w5.cell? ⟨w.heap.size, 1, none⟩ = some (.int .i64 h.last) ∧ w5.cell? ⟨w.heap.size, 2, none⟩ = some (.slice a1 h.sh.things.length c1) ∧ w5.cell? ⟨w.heap.size, 3, none⟩ = some (.slice (some ⟨bb, oo, none⟩) h.sh.bs.length c2) ∧ w5.cell? ⟨w.heap.size, 4, none⟩ = some (.slice (some ⟨b, o, none⟩) h.bs.length c3) ∧ w5.cell? ⟨w.heap.size, 5, none⟩ = some (.slice a4 h.ds.length c4) ∧ w5.cell? ⟨wr.heap.size, 0, none⟩ = some (.string x0.nm) ∧ w5.cell? ⟨wr.heap.size, 1, none⟩ = some (.slice (some ⟨p, q, none⟩) x0.ps.length c) ∧ w5.cell? ⟨wr.heap.size, 2, none⟩ = some (.slice (some ⟨g, r, none⟩) x0.sl.length d) ∧ w5.cell? ⟨wr.heap.size, 3, none⟩ = some (.string x0.ad) ∧ w5.cell? ⟨wr.heap.size, 4, none⟩ = some (.int .i64 x0.si) ∧ w5.cell? ⟨wr.heap.size, 5, none⟩ = some (.int .i64 x0.st) ∧ World.cell? w5 ⟨bb, oo + m * 3 + 1, none⟩ = some (.slice ah y.has.length dh) ∧ World.cell? w5 ⟨bb, oo + m * 3 + 2, none⟩ = some (.slice an y.needs.length dn) := n14_up hqlt hXlt hzlt hS2 hb5
            refine hK.out _ _ (fun _ => hS3) ?_; clear hK K; (try simp only [Act.put, List.setIfInBounds_toArray, List.set_cons_zero, List.set_cons_succ])
            refine anyX_take (i := 15) (v := ?_) rfl (by kernel_rfl) (by kernel_rfl) (by kernel_rfl) (by kernel_rfl) (fun _ _ _ h => h) (by kernel_rfl) hS3 ?_ ?_; rotate_left; focus (intro w hSw; (try dsimp only at hSw); go_simp; try with_reducible rfl); (try simp only [Act.put, List.setIfInBounds_toArray, List.set_cons_zero, List.set_cons_succ])
            refine anyX_take (i := 16) (v := ?_) rfl (by kernel_rfl) (by kernel_rfl) (by kernel_rfl) (by kernel_rfl) (fun _ _ _ h => h) (by kernel_rfl) hS3 ?_ ?_; rotate_left; focus (intro w hSw; (try dsimp only at hSw); go_simp; try with_reducible rfl); (try simp only [Act.put, List.setIfInBounds_toArray, List.set_cons_zero, List.set_cons_succ])
            refine anyX_take (i := 17) (v := ?_) rfl (by kernel_rfl) (by kernel_rfl) (by kernel_rfl) (by kernel_rfl) (fun _ _ _ h => h) (by kernel_rfl) hS3 ?_ ?_; rotate_left; focus (intro w hSw; (try dsimp only at hSw); go_simp; try with_reducible rfl); (try simp only [Act.put, List.setIfInBounds_toArray, List.set_cons_zero, List.set_cons_succ])
            refine anyX_skip (i := 18) rfl (by kernel_rfl) (by kernel_rfl) (by kernel_rfl) (by kernel_rfl) (fun _ _ _ h => h) (by kernel_rfl) hS3 ?_; (try simp only [Act.put, List.setIfInBounds_toArray])
            refine anyX_skip (i := 19) rfl (by kernel_rfl) (by kernel_rfl) (by kernel_rfl) (by kernel_rfl) (fun _ _ _ h => h) (by kernel_rfl) hS3 ?_; (try simp only [Act.put])
            refine anyX_skip (i := 20) rfl (by kernel_rfl) (by kernel_rfl) (by kernel_rfl) (by kernel_rfl) (fun _ _ _ h => h) (by kernel_rfl) hS3 ?_; (try simp only [Act.put])
            refine anyX_skip (i := 21) rfl (by kernel_rfl) (by kernel_rfl) (by kernel_rfl) (by kernel_rfl) (fun _ _ _ h => h) (by kernel_rfl) hS3 ?_; (try simp only [Act.put])
            refine anyX_skip (i := 22) rfl (by kernel_rfl) (by kernel_rfl) (by kernel_rfl) (by kernel_rfl) (fun _ _ _ h => h) (by kernel_rfl) hS3 ?_; (try simp only [Act.put])
            refine anyX_skip (i := 23) rfl (by kernel_rfl) (by kernel_rfl) (by kernel_rfl) (by kernel_rfl) (fun _ _ _ h => h) (by kernel_rfl) hS3 ?_; (try simp only [Act.put])
            refine anyX_skip (i := 24) rfl (by kernel_rfl) (by kernel_rfl) (by kernel_rfl) (by kernel_rfl) (fun _ _ _ h => h) (by kernel_rfl) hS3 ?_; (try simp only [Act.put])
            refine anyX_skip (i := 25) rfl (by kernel_rfl) (by kernel_rfl) (by kernel_rfl) (by kernel_rfl) (fun _ _ _ h => h) (by kernel_rfl) hS3 ?_; (try simp only [Act.put])
            refine anyX_skip (i := 26) rfl (by kernel_rfl) (by kernel_rfl) (by kernel_rfl) (by kernel_rfl) (fun _ _ _ h => h) (by kernel_rfl) hS3 ?_; (try simp only [Act.put])
            refine anyX_skip (i := 27) rfl (by kernel_rfl) (by kernel_rfl) (by kernel_rfl) (by kernel_rfl) (fun _ _ _ h => h) (by kernel_rfl) hS3 ?_; (try simp only [Act.put])
            refine anyX_skip (i := 28) rfl (by kernel_rfl) (by kernel_rfl) (by kernel_rfl) (by kernel_rfl) (fun _ _ _ h => h) (by kernel_rfl) hS3 ?_; (try simp only [Act.put])
            refine anyX_skip (i := 29) rfl (by kernel_rfl) (by kernel_rfl) (by kernel_rfl) (by kernel_rfl) (fun _ _ _ h => h) (by kernel_rfl) hS3 ?_; (try simp only [Act.put])
            refine anyX_skip (i := 30) rfl (by kernel_rfl) (by kernel_rfl) (by kernel_rfl) (by kernel_rfl) (fun _ _ _ h => h) (by kernel_rfl) hS3 ?_; (try simp only [Act.put])
            refine anyX_skip (i := 31) rfl (by kernel_rfl) (by kernel_rfl) (by kernel_rfl) (by kernel_rfl) (fun _ _ _ h => h) (by kernel_rfl) hS3 ?_; (try simp only [Act.put])
            refine anyX_skip (i := 32) rfl (by kernel_rfl) (by kernel_rfl) (by kernel_rfl) (by kernel_rfl) (fun _ _ _ h => h) (by kernel_rfl) hS3 ?_; (try simp only [Act.put])
            refine anyX_skip (i := 33) rfl (by kernel_rfl) (by kernel_rfl) (by kernel_rfl) (by kernel_rfl) (fun _ _ _ h => h) (by kernel_rfl) hS3 ?_; (try simp only [Act.put])
            refine anyX_one (i := 34) (by kernel_rfl) rfl (fun K hK => ?_)
            go_simp
            refine hK.out _ _ (fun _ => hS3) ?_
            clear hK K
            refine anyX_done (by kernel_rfl) ?_ _
            have hB5 := hS3.1
            clear hS1 hS2 hS3
            go_wp2_with fail
            go_meet
            case rel => exact ⟨true, rfl, fun _ => HN.out, (fun e => by cases e), hB5⟩
          · by_cases hsi : 0 ≤ x0.si
            case neg =>
              have HY : Hid (ShareAt h x0) := HAT.out.2 ⟨pB_iff.1 hq, fun t => absurd t hsi⟩
              have hsd : decide (0 ≤ x0.si) = false := by simpa using hsi
              clear hS0
              refine wp_region_x 99 (fun w' => Below W2.heap.size W2 w' ∧ w'.cell? ⟨w.heap.size, 0, none⟩ = some (.int .i64 h.now) ∧ w'.cell? ⟨w.heap.size, 1, none⟩ = some (.int .i64 h.last) ∧ w'.cell? ⟨w.heap.size, 2, none⟩ = some (.slice a1 h.sh.things.length c1) ∧ w'.cell? ⟨w.heap.size, 3, none⟩ = some (.slice (some ⟨bb, oo, none⟩) h.sh.bs.length c2) ∧ w'.cell? ⟨w.heap.size, 4, none⟩ = some (.slice (some ⟨b, o, none⟩) h.bs.length c3) ∧ w'.cell? ⟨w.heap.size, 5, none⟩ = some (.slice a4 h.ds.length c4) ∧ w'.cell? ⟨wr.heap.size, 0, none⟩ = some (.string x0.nm) ∧ w'.cell? ⟨wr.heap.size, 1, none⟩ = some (.slice (some ⟨p, q, none⟩) x0.ps.length c) ∧ w'.cell? ⟨wr.heap.size, 2, none⟩ = some (.slice (some ⟨g, r, none⟩) x0.sl.length d) ∧ w'.cell? ⟨wr.heap.size, 3, none⟩ = some (.string x0.ad) ∧ w'.cell? ⟨wr.heap.size, 4, none⟩ = some (.int .i64 x0.si) ∧ w'.cell? ⟨wr.heap.size, 5, none⟩ = some (.int .i64 x0.st) ∧ World.cell? w' ⟨bb, oo + m * 3 + 1, none⟩ = some (.slice ah y.has.length dh) ∧ World.cell? w' ⟨bb, oo + m * 3 + 2, none⟩ = some (.slice an y.needs.length dn)) (by kernel_rfl) ?_
              refine anyX_take (i := 0) (v := ?_) rfl (by kernel_rfl) (by kernel_rfl) (by kernel_rfl) (by kernel_rfl) (fun _ _ _ h => h) (by kernel_rfl) hS1 ?_ ?_; rotate_left; focus (intro w hSw; (try dsimp only at hSw); go_simp; try with_reducible rfl); (try simp only [Act.put, List.setIfInBounds_toArray, List.set_cons_zero, List.set_cons_succ])
              refine anyX_take (i := 1) (v := ?_) rfl (by kernel_rfl) (by kernel_rfl) (by kernel_rfl) (by kernel_rfl) (fun _ _ _ h => h) (by kernel_rfl) hS1 ?_ ?_; rotate_left; focus (intro w hSw; (try dsimp only at hSw); go_simp; try with_reducible rfl); (try simp only [Act.put, List.setIfInBounds_toArray, List.set_cons_zero, List.set_cons_succ])
              refine anyX_take (i := 2) (v := ?_) rfl (by kernel_rfl) (by kernel_rfl) (by kernel_rfl) (by kernel_rfl) (fun _ _ _ h => h) (by kernel_rfl) hS1 ?_ ?_; rotate_left; focus (intro w hSw; (try dsimp only at hSw); go_simp; try with_reducible rfl); (try simp only [Act.put, List.setIfInBounds_toArray, List.set_cons_zero, List.set_cons_succ])
              refine anyX_take (i := 3) (v := ?_) rfl (by kernel_rfl) (by kernel_rfl) (by kernel_rfl) (by kernel_rfl) (fun _ _ _ h => h) (by kernel_rfl) hS1 ?_ ?_; rotate_left; focus (intro w hSw; (try dsimp only at hSw); go_simp; try with_reducible rfl); (try simp only [Act.put, List.setIfInBounds_toArray, List.set_cons_zero, List.set_cons_succ])
              refine anyX_take (i := 4) (v := ?_) rfl (by kernel_rfl) (by kernel_rfl) (by kernel_rfl) (by kernel_rfl) (fun _ _ _ h => h) (by kernel_rfl) hS1 ?_ ?_; rotate_left; focus (intro w hSw; (try dsimp only at hSw); go_simp; try with_reducible rfl); (try simp only [Act.put, List.setIfInBounds_toArray, List.set_cons_zero, List.set_cons_succ])
              refine anyX_take (i := 5) (v := ?_) rfl (by kernel_rfl) (by kernel_rfl) (by kernel_rfl) (by kernel_rfl) (fun _ _ _ h => h) (by kernel_rfl) hS1 ?_ ?_; rotate_left; focus (intro w hSw; (try dsimp only at hSw); go_simp; try with_reducible rfl); (try simp only [Act.put, List.setIfInBounds_toArray, List.set_cons_zero, List.set_cons_succ])
              refine anyX_take (i := 6) (v := ?_) rfl (by kernel_rfl) (by kernel_rfl) (by kernel_rfl) (by kernel_rfl) (fun _ _ _ h => h) (by kernel_rfl) hS1 ?_ ?_; rotate_left; focus (intro w hSw; (try dsimp only at hSw); go_simp; try with_reducible rfl); (try simp only [Act.put, List.setIfInBounds_toArray, List.set_cons_zero, List.set_cons_succ])
              refine anyX_take (i := 7) (v := ?_) rfl (by kernel_rfl) (by kernel_rfl) (by kernel_rfl) (by kernel_rfl) (fun _ _ _ h => h) (by kernel_rfl) hS1 ?_ ?_; rotate_left; focus (intro w hSw; (try dsimp only at hSw); go_simp; try with_reducible rfl); (try simp only [Act.put, List.setIfInBounds_toArray, List.set_cons_zero, List.set_cons_succ])
              refine anyX_take (i := 8) (v := ?_) rfl (by kernel_rfl) (by kernel_rfl) (by kernel_rfl) (by kernel_rfl) (fun _ _ _ h => h) (by kernel_rfl) hS1 ?_ ?_; rotate_left; focus (intro w hSw; (try dsimp only at hSw); go_simp; try with_reducible rfl); (try simp only [Act.put, List.setIfInBounds_toArray, List.set_cons_zero, List.set_cons_succ])
              refine anyX_take (i := 9) (v := ?_) rfl (by kernel_rfl) (by kernel_rfl) (by kernel_rfl) (by kernel_rfl) (fun _ _ _ h => h) (by kernel_rfl) hS1 ?_ ?_; rotate_left; focus (intro w hSw; (try dsimp only at hSw); go_simp; try with_reducible rfl); (try simp only [Act.put, List.setIfInBounds_toArray, List.set_cons_zero, List.set_cons_succ])
              refine anyX_take (i := 10) (v := ?_) rfl (by kernel_rfl) (by kernel_rfl) (by kernel_rfl) (by kernel_rfl) (fun _ _ _ h => h) (by kernel_rfl) hS1 ?_ ?_; rotate_left; focus (intro w hSw; (try dsimp only at hSw); go_simp; try with_reducible rfl); (try simp only [Act.put, List.setIfInBounds_toArray, List.set_cons_zero, List.set_cons_succ])
              refine anyX_take (i := 11) (v := ?_) rfl (by kernel_rfl) (by kernel_rfl) (by kernel_rfl) (by kernel_rfl) (fun _ _ _ h => h) (by kernel_rfl) hS1 ?_ ?_; rotate_left; focus (intro w hSw; (try dsimp only at hSw); go_simp; try with_reducible rfl); (try simp only [Act.put, List.setIfInBounds_toArray, List.set_cons_zero, List.set_cons_succ])
              refine anyX_take (i := 12) (v := ?_) rfl (by kernel_rfl) (by kernel_rfl) (by kernel_rfl) (by kernel_rfl) (fun _ _ _ h => h) (by kernel_rfl) hS1 ?_ ?_; rotate_left; focus (intro w hSw; (try dsimp only at hSw); go_simp; try with_reducible rfl); (try simp only [Act.put, List.setIfInBounds_toArray, List.set_cons_zero, List.set_cons_succ])
              refine anyX_one (i := 13) (by kernel_rfl) rfl (fun K hK => ?_)
              go_simp
              go_wp2_with (go_at_call 49; refine (thingsS_any x0 _ _ x0.ad _ hvd).mono ?_; rintro e w4 ⟨⟨u4, rfl, hT4⟩, hb4⟩)
              have hS2 : Below W2.heap.size W2 w4 ∧ w4.cell? ⟨w.heap.size, 0, none⟩ = some (.int .i64 h.now) ∧ w4.cell? ⟨w.heap.size, 1, none⟩ = some (.int .i64 h.last) ∧ w4.cell? ⟨w.heap.size, 2, none⟩ = some (.slice a1 h.sh.things.length c1) ∧ w4.cell? ⟨w.heap.size, 3, none⟩ = some (.slice (some ⟨bb, oo, none⟩) h.sh.bs.length c2) ∧ w4.cell? ⟨w.heap.size, 4, none⟩ = some (.slice (some ⟨b, o, none⟩) h.bs.length c3) ∧ w4.cell? ⟨w.heap.size, 5, none⟩ = some (.slice a4 h.ds.length c4) ∧ w4.cell? ⟨wr.heap.size, 0, none⟩ = some (.string x0.nm) ∧ w4.cell? ⟨wr.heap.size, 1, none⟩ = some (.slice (some ⟨p, q, none⟩) x0.ps.length c) ∧ w4.cell? ⟨wr.heap.size, 2, none⟩ = some (.slice (some ⟨g, r, none⟩) x0.sl.length d) ∧ w4.cell? ⟨wr.heap.size, 3, none⟩ = some (.string x0.ad) ∧ w4.cell? ⟨wr.heap.size, 4, none⟩ = some (.int .i64 x0.si) ∧ w4.cell? ⟨wr.heap.size, 5, none⟩ = some (.int .i64 x0.st) ∧ World.cell? w4 ⟨bb, oo + m * 3 + 1, none⟩ = some (.slice ah y.has.length dh) ∧ World.cell? w4 ⟨bb, oo + m * 3 + 2, none⟩ = some (.slice an y.needs.length dn) := n14_up hqlt hXlt hzlt hS1 hb4
              have hL4 := (hLn.up (Below.refl _ _).drew).up hb4
              obtain ⟨gu, cu, hu4, -⟩ := id hT4
              subst hu4
              refine hK.out _ _ (fun _ => hS2) ?_; clear hK K; (try simp only [Act.put, List.setIfInBounds_toArray, List.set_cons_zero, List.set_cons_succ])
              refine anyX_one (i := 14) (by kernel_rfl) rfl (fun K hK => ?_)
              go_simp
              go_wp2_with (go_at_call 48; refine (alikeS_any _ _ _ _ _ hL4 ((Lst.ls (.inr hT4)) Hsz.out)).mono ?_; rw [hq]; rintro e w5 ⟨rfl, hb5⟩)
              have hS3 : Below W2.heap.size W2 w5 ∧ w5.cell? ⟨w.heap.size, 0, none⟩ = some (.int .i64 h.now) ∧ w5.cell? ⟨w.heap.size, 1, none⟩ = some (.int .i64 h.last) ∧ w5.cell? ⟨w.heap.size, 2, none⟩ = some (.slice a1 h.sh.things.length c1) ∧ w5.cell? ⟨w.heap.size, 3, none⟩ = some (.slice (some ⟨bb, oo, none⟩) h.sh.bs.length c2) ∧ w5.cell? ⟨w.heap.size, 4, none⟩ = some (.slice (some ⟨b, o, none⟩) h.bs.length c3) ∧ w5.cell? ⟨w.heap.size, 5, none⟩ = some (.slice a4 h.ds.length c4) ∧ w5.cell? ⟨wr.heap.size, 0, none⟩ = some (.string x0.nm) ∧ w5.cell? ⟨wr.heap.size, 1, none⟩ = some (.slice (some ⟨p, q, none⟩) x0.ps.length c) ∧ w5.cell? ⟨wr.heap.size, 2, none⟩ = some (.slice (some ⟨g, r, none⟩) x0.sl.length d) ∧ w5.cell? ⟨wr.heap.size, 3, none⟩ = some (.string x0.ad) ∧ w5.cell? ⟨wr.heap.size, 4, none⟩ = some (.int .i64 x0.si) ∧ w5.cell? ⟨wr.heap.size, 5, none⟩ = some (.int .i64 x0.st) ∧ World.cell? w5 ⟨bb, oo + m * 3 + 1, none⟩ = some (.slice ah y.has.length dh) ∧ World.cell? w5 ⟨bb, oo + m * 3 + 2, none⟩ = some (.slice an y.needs.length dn) := n14_up hqlt hXlt hzlt hS2 hb5
              refine hK.out _ _ (fun _ => hS3) ?_; clear hK K; (try simp only [Act.put, List.setIfInBounds_toArray, List.set_cons_zero, List.set_cons_succ])
              refine anyX_take (i := 15) (v := ?_) rfl (by kernel_rfl) (by kernel_rfl) (by kernel_rfl) (by kernel_rfl) (fun _ _ _ h => h) (by kernel_rfl) hS3 ?_ ?_; rotate_left; focus (intro w hSw; (try dsimp only at hSw); go_simp; try with_reducible rfl); (try simp only [Act.put, List.setIfInBounds_toArray, List.set_cons_zero, List.set_cons_succ])
              refine anyX_take (i := 16) (v := ?_) rfl (by kernel_rfl) (by kernel_rfl) (by kernel_rfl) (by kernel_rfl) (fun _ _ _ h => h) (by kernel_rfl) hS3 ?_ ?_; rotate_left; focus (intro w hSw; (try dsimp only at hSw); go_simp; try with_reducible rfl); (try simp only [Act.put, List.setIfInBounds_toArray, List.set_cons_zero, List.set_cons_succ])
              refine anyX_take (i := 17) (v := ?_) rfl (by kernel_rfl) (by kernel_rfl) (by kernel_rfl) (by kernel_rfl) (fun _ _ _ h => h) (by kernel_rfl) hS3 ?_ ?_; rotate_left; focus (intro w hSw; (try dsimp only at hSw); go_simp; try with_reducible rfl); (try simp only [Act.put, List.setIfInBounds_toArray, List.set_cons_zero, List.set_cons_succ])
              refine anyX_take (i := 18) (v := ?_) rfl (by kernel_rfl) (by kernel_rfl) (by kernel_rfl) (by kernel_rfl) (fun _ _ _ h => h) (by kernel_rfl) hS3 ?_ ?_; rotate_left; focus (intro w hSw; (try dsimp only at hSw); go_simp; try with_reducible rfl); (try simp only [Act.put, List.setIfInBounds_toArray, List.set_cons_zero, List.set_cons_succ])
              refine anyX_take (i := 19) (v := ?_) rfl (by kernel_rfl) (by kernel_rfl) (by kernel_rfl) (by kernel_rfl) (fun _ _ _ h => h) (by kernel_rfl) hS3 ?_ ?_; rotate_left; focus (intro w hSw; (try dsimp only at hSw); go_simp; try with_reducible rfl); (try simp only [Act.put, List.setIfInBounds_toArray, List.set_cons_zero, List.set_cons_succ])
              refine anyX_take (i := 20) (v := ?_) rfl (by kernel_rfl) (by kernel_rfl) (by kernel_rfl) (by kernel_rfl) (fun _ _ _ h => h) (by kernel_rfl) hS3 ?_ ?_; rotate_left; focus (intro w hSw; (try dsimp only at hSw); go_simp; try with_reducible rfl); (try simp only [Act.put, List.setIfInBounds_toArray, List.set_cons_zero, List.set_cons_succ])
              try rw [hsd]
              refine anyX_take (i := 21) (v := ?_) rfl (by kernel_rfl) (by kernel_rfl) (by kernel_rfl) (by kernel_rfl) (fun _ _ _ h => h) (by kernel_rfl) hS3 ?_ ?_; rotate_left; focus (intro w hSw; (try dsimp only at hSw); go_simp; try with_reducible rfl); (try simp only [Act.put, List.setIfInBounds_toArray, List.set_cons_zero, List.set_cons_succ])
              refine anyX_skip (i := 22) rfl (by kernel_rfl) (by kernel_rfl) (by kernel_rfl) (by kernel_rfl) (fun _ _ _ h => h) (by kernel_rfl) hS3 ?_; (try simp only [Act.put, List.setIfInBounds_toArray])
              refine anyX_skip (i := 23) rfl (by kernel_rfl) (by kernel_rfl) (by kernel_rfl) (by kernel_rfl) (fun _ _ _ h => h) (by kernel_rfl) hS3 ?_; (try simp only [Act.put])
              refine anyX_skip (i := 24) rfl (by kernel_rfl) (by kernel_rfl) (by kernel_rfl) (by kernel_rfl) (fun _ _ _ h => h) (by kernel_rfl) hS3 ?_; (try simp only [Act.put])
              refine anyX_skip (i := 25) rfl (by kernel_rfl) (by kernel_rfl) (by kernel_rfl) (by kernel_rfl) (fun _ _ _ h => h) (by kernel_rfl) hS3 ?_; (try simp only [Act.put])
              refine anyX_skip (i := 26) rfl (by kernel_rfl) (by kernel_rfl) (by kernel_rfl) (by kernel_rfl) (fun _ _ _ h => h) (by kernel_rfl) hS3 ?_; (try simp only [Act.put])
              refine anyX_skip (i := 27) rfl (by kernel_rfl) (by kernel_rfl) (by kernel_rfl) (by kernel_rfl) (fun _ _ _ h => h) (by kernel_rfl) hS3 ?_; (try simp only [Act.put])
              refine anyX_skip (i := 28) rfl (by kernel_rfl) (by kernel_rfl) (by kernel_rfl) (by kernel_rfl) (fun _ _ _ h => h) (by kernel_rfl) hS3 ?_; (try simp only [Act.put])
              refine anyX_skip (i := 29) rfl (by kernel_rfl) (by kernel_rfl) (by kernel_rfl) (by kernel_rfl) (fun _ _ _ h => h) (by kernel_rfl) hS3 ?_; (try simp only [Act.put])
              refine anyX_skip (i := 30) rfl (by kernel_rfl) (by kernel_rfl) (by kernel_rfl) (by kernel_rfl) (fun _ _ _ h => h) (by kernel_rfl) hS3 ?_; (try simp only [Act.put])
              refine anyX_skip (i := 31) rfl (by kernel_rfl) (by kernel_rfl) (by kernel_rfl) (by kernel_rfl) (fun _ _ _ h => h) (by kernel_rfl) hS3 ?_; (try simp only [Act.put])
              refine anyX_skip (i := 32) rfl (by kernel_rfl) (by kernel_rfl) (by kernel_rfl) (by kernel_rfl) (fun _ _ _ h => h) (by kernel_rfl) hS3 ?_; (try simp only [Act.put])
              refine anyX_take (i := 33) (v := ?_) rfl (by kernel_rfl) (by kernel_rfl) (by kernel_rfl) (by kernel_rfl) (fun _ _ _ h => h) (by kernel_rfl) hS3 ?_ ?_; rotate_left; focus (intro w hSw; (try dsimp only at hSw); go_simp; try with_reducible rfl); (try simp only [Act.put, List.setIfInBounds_toArray, List.set_cons_zero, List.set_cons_succ])
              refine anyX_one (i := 34) (by kernel_rfl) rfl (fun K hK => ?_)
              go_simp
              refine hK.out _ _ (fun _ => hS3) ?_
              clear hK K
              refine anyX_done (by kernel_rfl) ?_ _
              have hB5 := hS3.1
              clear hS1 hS2 hS3
              go_wp2_with fail
              go_meet
              case rel => exact ⟨false, rfl, (fun e => by cases e), fun _ => HY.out, hB5⟩
            case pos =>
              clear hS1
              go_wp2_with fail
              go_region_held (fun w' => Below W2.heap.size W2 w' ∧ w'.cell? ⟨w.heap.size, 0, none⟩ = some (.int .i64 h.now) ∧ w'.cell? ⟨w.heap.size, 1, none⟩ = some (.int .i64 h.last) ∧ w'.cell? ⟨w.heap.size, 2, none⟩ = some (.slice a1 h.sh.things.length c1) ∧ w'.cell? ⟨w.heap.size, 3, none⟩ = some (.slice (some ⟨bb, oo, none⟩) h.sh.bs.length c2) ∧ w'.cell? ⟨w.heap.size, 4, none⟩ = some (.slice (some ⟨b, o, none⟩) h.bs.length c3) ∧ w'.cell? ⟨w.heap.size, 5, none⟩ = some (.slice a4 h.ds.length c4) ∧ w'.cell? ⟨wr.heap.size, 0, none⟩ = some (.string x0.nm) ∧ w'.cell? ⟨wr.heap.size, 1, none⟩ = some (.slice (some ⟨p, q, none⟩) x0.ps.length c) ∧ w'.cell? ⟨wr.heap.size, 2, none⟩ = some (.slice (some ⟨g, r, none⟩) x0.sl.length d) ∧ w'.cell? ⟨wr.heap.size, 3, none⟩ = some (.string x0.ad) ∧ w'.cell? ⟨wr.heap.size, 4, none⟩ = some (.int .i64 x0.si) ∧ w'.cell? ⟨wr.heap.size, 5, none⟩ = some (.int .i64 x0.st) ∧ World.cell? w' ⟨bb, oo + m * 3 + 1, none⟩ = some (.slice ah y.has.length dh) ∧ World.cell? w' ⟨bb, oo + m * 3 + 2, none⟩ = some (.slice an y.needs.length dn)) (first | assumption | exact n14_drew hS0 | exact n14_up hqlt hXlt hzlt (by assumption) (by assumption))
                (first
                  | (go_at_call 49; refine (thingsS_any x0 _ _ x0.ad _ hvd).mono ?_; rintro e w4 ⟨⟨u4, rfl, hT4⟩, hb4⟩; have hL4 := (hLn.up (Below.refl _ _).drew).up hb4; have hv4 := hvd.up hb4; have hH4 := (hLh.up (Below.refl _ _).drew).up hb4)
                  | (go_at_call 48; refine (alikeS_any _ _ _ _ _ hL4 ((Lst.ls (.inr hT4)) Hsz.out)).mono ?_; rw [hq]; rintro e w5 ⟨rfl, hb5⟩; have hv5 := hv4.up hb5; have hH5 := hH4.up hb5)
                  | (go_at_call 51; refine (ownS_any x0 _ _ _ hv5).mono ?_; rintro e w6 ⟨⟨u6, rfl, hT6⟩, hb6⟩; have hH6 := hH5.up hb6)
                  | (go_at_call 50; refine (all22_any _ _ _ _ _ ((Lst.ls (.inr hT6)) Hsz2.out) hH6).mono ?_; rintro e w7 ⟨rfl, hw7⟩; obtain rfl := hw7.symm; clear hw7))
              rename_i hHeld
              have hB7 := hHeld.1
              clear hHeld hS0 hL4 hv4 hH4 hv5 hH5 hH6 hT4 hT6 hb4 hb5 hb6
              have HY : Hid (ShareAt h x0 ↔ Part (rbOwn x0) y.has) := ⟨fun t => (HAT.out.1 t).2 hsi, fun t => HAT.out.2 ⟨pB_iff.1 hq, fun _ => t⟩⟩
              cases hr : pB (Part (rbOwn x0) y.has)
              · go_wp2_with fail
                go_meet
                case rel => exact ⟨true, rfl, fun _ t => pB_not.1 hr (HY.out.1 t), (fun e => by cases e), hB7⟩
              · go_wp2_with fail
                go_meet
                case rel => exact ⟨false, rfl, (fun e => by cases e), fun _ => HY.out.2 (pB_iff.1 hr), hB7⟩
        case rest =>
          obtain ⟨cb, rfl, hc1, hc0, hBc⟩ := hcut
          have hB7 := up_trans hB12 hBc
          have hB07 := up_trans hB0 hB7
          clear hS0 hS1
          cases cb
          · have HY : Hid (ShareTo h (k + 1)) := YES.out (hc0 rfl)
            clear hc0 hc1
            go_wp2_with fail
            go_roundw
            case rel => exact ⟨k + 1, by omega, by go_num, HY.out, hB7⟩
            case measure => simp [intOf]; omega
          · have HN : Hid (pB (SharesOk h) = false) := NO.out (hc1 rfl)
            clear hc0 hc1
            go_wp2_with fail
            go_ret
            exact ⟨ret_bool HN.out.symm, hB07⟩
    · have HY : Hid (pB (SharesOk h) = true) := pB_yes ⟨Hll.out, by
        have := HI.out
        rwa [show k = h.bs.length by omega] at this⟩
      go_wp2_with fail
      go_ret
      exact ⟨ret_bool HY.out.symm, up_trans hB0 hB⟩
end Go.Proofs.YtlkpgiifdclijaaGreatDoor
