/- The specification's walks of chapter 12: who can, orders that fit (out of Ks4). -/
import Derived.Test.YtafgabakhaipnaaKs2
import Derived.Test.YtafgabakhaipnaaJ14
namespace Go.Proofs.Ytafgabakhaipnaa
open Go.RowKit


set_option maxHeartbeats 2000000 in
theorem can12_any (b : Bk) (v gv : Value) (at' : Nat) (gone : List ByteArray) (w : World) (h : BkV w v b) (hg : Ls w gv gone) (hat : at' < b.bs.length) :
    Calls Try.prog 16 #[v, .int .i64 at', gv] w fun e w' => e = .returned (.bool (pB (Can b.bs at' gone))) ∧ Below w.heap.size w w' := by
  obtain ⟨a1, c1, a2, c2, rfl, h1, h2⟩ := h.parts
  have hC : CB (w.alloc (.cells #[.slice a1 (b).things.length c1, .slice a2 (b).bs.length c2] 30)) w.heap.size [.slice a1 b.things.length c1, .slice a2 b.bs.length c2] := cb_alloc w _ _
  have hB0 := (Below.refl w.heap.size w).alloc (Nat.le_refl _) (.cells #[.slice a1 (b).things.length c1, .slice a2 (b).bs.length c2] 30)
  have g2 := h2.at.1
  unfold maxLen at g2
  go_enter Try.func16, Try.ntmps16
  go_upto_region 1 with fail
  generalize w.alloc (.cells #[.slice a1 (b).things.length c1, .slice a2 (b).bs.length c2] 30) = W1 at *
  have l2 := h2.up hB0
  have lg := hg.up hB0
  clear h h1 h2 hg
  obtain ⟨e0, e1⟩ := hC.c2'
  obtain ⟨-, hpos⟩ := l2.at
  obtain ⟨bb, o, rfl, hS, hb⟩ := hpos (by omega)
  obtain ⟨a5, d5, a6, d6, -, -, c8, -, l6, -⟩ := (hS.at hat).cells
  go_wp2_with fail
  go_loopw [7] (fun i w' => ∃ k m : Nat, k ≤ b.bs.length ∧ i = .int .i64 k ∧ CanTo b.bs at' gone k ∧ w' = W1.drewN m) (fun i _ => b.bs.length - (intOf i).toNat)
  case atStart => exact ⟨0, 0, by omega, rfl, CanTo.zero _ _ _, rfl⟩
  case round =>
    obtain ⟨k, m, hk, rfl, hal, hw⟩ := hrel
    have Hw : Hid (wr = W1.drewN m) := hw
    have Hal : Hid (CanTo b.bs at' gone k) := hal
    have hBw : Below W1.heap.size W1 wr := by rw [hw]; exact below_drewN (Below.refl _ _) _
    clear hw hal
    have f1 : wr.cell? ⟨w.heap.size, 1, none⟩ = some (.slice (some ⟨bb, o, none⟩) b.bs.length c2) := by rw [Hw.out]; exact e1
    by_cases hp : k < b.bs.length
    · by_cases hka : k = at'
      · subst hka
        have Hs : Hid (CanTo b.bs k gone (k + 1)) := Hal.out.step hp hat (.inl rfl)
        go_wp2_with fail
        go_quiet (fail)
        go_wp2_with fail
        go_roundw
        case rel =>
          obtain ⟨m', hm'⟩ := drew_more (n := nq) Hw.out
          exact ⟨k + 1, m', by omega, by go_num, Hs.out, hm'⟩
        case measure => simp [intOf]; omega
      have hkb : ((k : Int) != (at' : Int)) = true := by rw [bne_iff_ne]; omega
      obtain ⟨a3, d3, a4, d4, c3, c4, -, l3, -, -⟩ := (hS.at hp).cells
      have c3' : wr.cell? ⟨bb, o + k * 3, none⟩ = some (.string (b.bs[k]).nm) := by rw [Hw.out]; exact c3
      have c4' : wr.cell? ⟨bb, o + k * 3 + 1, none⟩ = some (.slice a3 (b.bs[k]).has.length d3) := by rw [Hw.out]; exact c4
      have c8' : wr.cell? ⟨bb, o + at' * 3 + 2, none⟩ = some (.slice a6 (b.bs[at']).needs.length d6) := by rw [Hw.out]; exact c8
      have HY : Hid (memS gone (b.bs[k]).nm = true ∨ shareB (b.bs[k]).has (b.bs[at']).needs = false → CanTo b.bs at' gone (k + 1)) := fun h => Hal.out.step hp hat (.inr h)
      have HN : Hid (memS gone (b.bs[k]).nm = false → shareB (b.bs[k]).has (b.bs[at']).needs = true → ¬ Can b.bs at' gone) := fun h1 h2 => can_no hp hat hka h1 h2
      have R1 : Hid (∀ n, Calls Try.prog 31 #[gv, .string (b.bs[k]).nm] (wr.drewN n) fun e w'' => e = .returned (.bool (memS gone (b.bs[k]).nm)) ∧ ∃ m, w'' = wr.drewN m) := fun n => Calls.quiet_of_same (has11_any gone gv _ _ (by have e := Hw.out; subst e; exact lg))
      have R2 : Hid (∀ n, Calls Try.prog 30 #[.slice a3 (b.bs[k]).has.length d3, .slice a6 (b.bs[at']).needs.length d6] (wr.drewN n) fun e w'' => e = .returned (.bool (shareB (b.bs[k]).has (b.bs[at']).needs)) ∧ ∃ m, w'' = wr.drewN m) := fun n => Calls.quiet_of_same (share11_any _ _ _ _ _ (by have e := Hw.out; subst e; exact l3) (by have e := Hw.out; subst e; exact l6))
      clear c3 c4 l3
      generalize b.bs[k] = x0 at *
      generalize b.bs[at'] = y0 at *
      obtain ⟨hv, hhv⟩ : ∃ hv, Value.slice a3 x0.has.length d3 = hv := ⟨_, rfl⟩
      obtain ⟨nv, hnv⟩ : ∃ nv, Value.slice a6 y0.needs.length d6 = nv := ⟨_, rfl⟩
      rw [hhv] at c4' R2
      rw [hnv] at c8' R2
      clear hhv hnv
      cases hm : memS gone x0.nm
      case true =>
        have Hs : Hid (CanTo b.bs at' gone (k + 1)) := HY.out (.inl hm)
        have Q1 : Hid (∀ n, Calls Try.prog 31 #[gv, .string x0.nm] (wr.drewN n) fun e w'' => e = .returned (.bool true) ∧ ∃ m, w'' = wr.drewN m) := by have := R1.out; rw [hm] at this; exact this
        have q1 := Q1.out
        clear Q1 R1 R2 HY HN
        go_wp2_with fail
        go_quiet ((go_at_call 31; exact q1 _))
        go_wp2_with fail
        go_roundw
        case rel =>
          obtain ⟨m', hm'⟩ := drew_more (n := nq) Hw.out
          exact ⟨k + 1, m', by omega, by go_num, Hs.out, hm'⟩
        case measure => simp [intOf]; omega
      have Q1 : Hid (∀ n, Calls Try.prog 31 #[gv, .string x0.nm] (wr.drewN n) fun e w'' => e = .returned (.bool false) ∧ ∃ m, w'' = wr.drewN m) := by have := R1.out; rw [hm] at this; exact this
      cases hs : shareB x0.has y0.needs
      · have Hs : Hid (CanTo b.bs at' gone (k + 1)) := HY.out (.inr hs)
        have Q2 : Hid (∀ n, Calls Try.prog 30 #[hv, nv] (wr.drewN n) fun e w'' => e = .returned (.bool false) ∧ ∃ m, w'' = wr.drewN m) := by have := R2.out; rw [hs] at this; exact this
        have q1 := Q1.out
        have q2 := Q2.out
        clear Q1 Q2 R1 R2 HY HN
        go_wp2_with fail
        go_quiet ((first | (go_at_call 31; exact q1 _) | (go_at_call 30; exact q2 _)))
        go_wp2_with fail
        go_roundw
        case rel =>
          obtain ⟨m', hm'⟩ := drew_more (n := nq) Hw.out
          exact ⟨k + 1, m', by omega, by go_num, Hs.out, hm'⟩
        case measure => simp [intOf]; omega
      · have Hs : Hid (¬ Can b.bs at' gone) := HN.out hm hs
        have Q2 : Hid (∀ n, Calls Try.prog 30 #[hv, nv] (wr.drewN n) fun e w'' => e = .returned (.bool true) ∧ ∃ m, w'' = wr.drewN m) := by have := R2.out; rw [hs] at this; exact this
        have q1 := Q1.out
        have q2 := Q2.out
        clear Q1 Q2 R1 R2 HY HN
        go_wp2_with fail
        go_quiet ((first | (go_at_call 31; exact q1 _) | (go_at_call 30; exact q2 _)))
        go_wp2_with fail
        go_ret
        exact ⟨ret_bool (pB_no Hs.out).symm, up_trans hB0 (below_drewN hBw _)⟩
    · have Hs : Hid (Can b.bs at' gone) := can_end Hal.out hp
      go_wp2_with fail
      go_ret
      exact ⟨ret_bool (pB_yes Hs.out).symm, up_trans hB0 hBw⟩
end Go.Proofs.Ytafgabakhaipnaa
