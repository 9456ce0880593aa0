/- The specification's walk of ShareMoves (chapter 14). -/
import Derived.Test.YtnojjmkmkelbgaaGreatJ11
import Derived.Test.YtnojjmkmkelbgaaGreatJ4
import Derived.Test.YtnojjmkmkelbgaaGreatJ34
import Derived.Test.YtnojjmkmkelbgaaGreatKs2
import Derived.Test.YtnojjmkmkelbgaaGreatJ22
import Derived.Test.YtnojjmkmkelbgaaGreatJ6
namespace Go.Proofs.YtnojjmkmkelbgaaGreat
open Go.RowKit

noncomputable def sbM (b : Bk) (j : Nat) : Bool := pB (Can b.bs j [])
def OkM (b : Bk) : Prop := bookB b = true
open Classical in
noncomputable def movesS (b : Bk) : List ByteArray := if OkM b then pk (sbM b) (nms b.bs) b.bs.length else []

set_option maxRecDepth 20000 in
set_option maxHeartbeats 4000000 in
theorem specMoves_any (b : Bk) (v : Value) (w : World) (h : BkV w v b) :
    Calls Tryz.prog 7 #[v] w fun e w' => (∃ u, e = .returned u ∧ OwnT w' w.heap.size u (movesS b)) ∧ Below w.heap.size w w' := by
  obtain ⟨a1, c1, a2, c2, rfl, h1, h2⟩ := h.parts
  have g2 := h2.at.1
  unfold maxLen at g2
  obtain ⟨W1, hW1, kA, hB1, hs1⟩ : ∃ W1, w.alloc (.cells #[.slice a1 (b).things.length c1, .slice a2 (b).bs.length c2] 26) = W1 ∧ CB W1 w.heap.size [.slice a1 b.things.length c1, .slice a2 b.bs.length c2] ∧ Below w.heap.size w W1 ∧ W1.heap.size = w.heap.size + 1 := ⟨_, rfl, cb1 w _ _⟩
  have hz1 := hB1.size
  clear hs1
  obtain ⟨ii, hi, iz0, iz1, iz2⟩ := info_parts infoStr
  go_enter Tryz.func7, Tryz.ntmps7
  go_upto_region 1 with fail
  try rw [hW1]
  clear hW1
  have hk := h.up hB1
  have l2 := h2.up hB1
  obtain ⟨e0, e1⟩ := kA.c2'
  have hlt := kA.2.2
  obtain ⟨-, hpos⟩ := l2.at
  clear h h1 h2
  have ho2 := ownT_lit0 W1
  have hb2 := (Below.refl W1.heap.size W1).alloc (Nat.le_refl _) (.cells #[] 9)
  go_upto_region 2 with fail
  generalize W1.alloc (.cells #[] 9) = W2 at *
  go_wp2_with fail
  go_loopw [3, 4] (fun u i w' => ∃ k : Nat, k ≤ b.bs.length ∧ i = .int .i64 k ∧ (¬ OkM b → k = 0) ∧ OwnT w' W1.heap.size u (pk (sbM b) (nms b.bs) k) ∧ Below W1.heap.size W1 w') (fun _ i _ => b.bs.length - (intOf i).toNat)
  case atStart => exact ⟨0, by omega, rfl, fun _ => rfl, ho2, hb2⟩
  case round =>
    clear hb2 ho2
    obtain ⟨k, hkl, rfl, hno, hown, hB⟩ := hrel
    have Hno : Hid (¬ OkM b → k = 0) := hno
    clear hno
    have Hout : Hid (k = b.bs.length ∨ ¬ OkM b → pk (sbM b) (nms b.bs) k = movesS b) := fun hor => by
      by_cases hy : OkM b
      · rcases hor with rfl | hor
        · rw [movesS, if_pos hy]
        · exact absurd hy hor
      · rw [movesS, if_neg hy, Hno.out hy]; rfl
    have f0 := (hB.cell (p := ⟨w.heap.size, 0, none⟩) hlt).trans e0
    have f1 := (hB.cell (p := ⟨w.heap.size, 1, none⟩) hlt).trans e1
    by_cases hp : k < b.bs.length
    case neg =>
      have He : Hid (pk (sbM b) (nms b.bs) k = movesS b) := Hout.out (.inl (by omega))
      clear Hout Hno
      go_wp2_with fail
      go_ret
      exact ⟨⟨_, rfl, by rw [← He.out]; exact own_low hown hz1⟩, up_trans hB1 hB⟩
    go_wp2_with fail
    refine (specBook_any b _ _ (hk.up hB)).mono ?_
    rintro e w4 ⟨rfl, hb4⟩
    have hB4 := up_trans hB hb4
    have hown4 := hown.up hb4
    clear f0 f1 hB hb4 hown
    cases hq : bookB b with
    | false =>
      have He : Hid (pk (sbM b) (nms b.bs) k = movesS b) := Hout.out (.inr (by rw [OkM, hq]; simp))
      clear Hout Hno hq
      go_wp2_with fail
      go_ret
      exact ⟨⟨_, rfl, by rw [← He.out]; exact own_low hown4 hz1⟩, up_trans hB1 hB4⟩
    | true =>
      have Hm : Hid (OkM b) := hq
      have h5 : b.bs.length ≤ 5 := (pB_iff.1 hq).2.1
      clear hq Hout Hno g2
      have f0 := (hB4.cell (p := ⟨w.heap.size, 0, none⟩) hlt).trans e0
      have f1 := (hB4.cell (p := ⟨w.heap.size, 1, none⟩) hlt).trans e1
      have ho5 := ownT_lit0 w4
      have hb5 := (Below.refl w4.heap.size w4).alloc (Nat.le_refl _) (.cells #[] 9)
      have hown5 := hown4.up hb5
      have hB5 := up_trans hB4 hb5
      have Hsb : Hid (sbM b k = pB (Can b.bs k [])) := rfl
      go_upto_region 5 with fail
      go_wp2_with fail
      generalize w4.alloc (.cells #[] 9) = w5 at *
      refine (can12_any b _ _ k [] _ (hk.up hB5) (ho5.lst.ls (fun s hs => by simp at hs)) hp).mono ?_
      rintro e w6 ⟨rfl, hb6⟩
      have hB6 := up_trans hB5 hb6
      have hown6 := hown5.up hb6
      clear f0 f1 ho5 hb5 hown5 hB5 hown4 hB4 hb6
      have f1 := (hB6.cell (p := ⟨w.heap.size, 1, none⟩) hlt).trans e1
      obtain ⟨bb, o, rfl, hS, hb⟩ := hpos (by omega)
      obtain ⟨a3, d3, a4, d4, c3, -, -, -, -, z0⟩ := ((hS.at hp).up hB6 hb).cells
      have Hn : Hid ((nms b.bs).getD k ByteArray.empty = (b.bs[k]).nm) := by
        show _ = _
        rw [List.getD_eq_getElem?_getD, nms_at (List.getElem?_eq_getElem hp)]; rfl
      generalize b.bs[k] = x0 at *
      clear hS
      have Hl := pk_length (sbM b) (nms b.bs) k
      cases hs : pB (Can b.bs k []) with
      | false =>
        have Hpk : Hid (pk (sbM b) (nms b.bs) (k + 1) = pk (sbM b) (nms b.bs) k) := by
          show _ = _
          rw [pk, Hsb.out, hs]; simp
        clear Hsb Hn hs
        go_wp2_with fail
        go_roundw
        case rel => exact ⟨k + 1, by omega, by go_num, fun h => absurd Hm.out h, by rw [Hpk.out]; exact hown6, hB6⟩
        case measure => simp [intOf]; omega
      | true =>
        have Hpk : Hid (pk (sbM b) (nms b.bs) (k + 1) = pk (sbM b) (nms b.bs) k ++ [x0.nm]) := by
          show _ = _
          rw [pk, Hsb.out, hs, if_pos rfl, Hn.out]
        clear Hsb Hn hs
        generalize pk (sbM b) (nms b.bs) k = pl at *
        have hownA := own_up hown6 ((Below.refl w6.heap.size w6).alloc (Nat.le_refl _) (.cells #[.string x0.nm] 9))
        have hBA := hB6.alloc hB6.size (.cells #[.string x0.nm] 9)
        go_wp2_with (at_builtin; refine wpList_append_own _ rfl _ _ 23 rfl W1.heap.size 9 ii _ 1 16 Tryz.underlying23 hi iz0 iz1 iz2 rfl (by decide) _ _ _ rfl hownA ⟨w6.heap.size, 0, none⟩ 1 1 [.string x0.nm] rfl rfl (one_new _ _ _) (oneV _) (by unfold maxLen; omega) (by omega) hBA.size ?_)
        intro v1 w7 hown7 hgr7 _
        have HB7 : Hid (Below W1.heap.size W1 w7) := below_own hBA hownA hgr7 (Nat.le_refl _)
        have Ho7 : Hid (OwnT w7 W1.heap.size v1 (pk (sbM b) (nms b.bs) (k + 1))) := by
          show OwnT _ _ _ _
          rw [Hpk.out]; unfold OwnT; rw [List.length_append, List.map_append]; exact hown7
        clear hownA hBA hown7 hgr7 hB6 f1 c3 hown6
        go_wp2_with fail
        go_roundw
        case rel => exact ⟨k + 1, by omega, by go_num, fun h => absurd Hm.out h, Ho7.out, HB7.out⟩
        case measure => simp [intOf]; omega
end Go.Proofs.YtnojjmkmkelbgaaGreat

/- The specification's walk of ShareWaits (chapter 14). -/
namespace Go.Proofs.YtnojjmkmkelbgaaGreat
open Go.RowKit

/-- Whether batch j has something of what batch own needs. -/
def sbW (b : Bk) (own j : Nat) : Bool := j != own && shareB ((b.bs[j]?.map (·.has)).getD []) ((b.bs[own]?.map (·.needs)).getD [])
def OkW (b : Bk) (nm : ByteArray) : Prop := bookB b = true ∧ memS (nms b.bs) nm = true
open Classical in
noncomputable def waitsS (b : Bk) (nm : ByteArray) : List ByteArray := if OkW b nm then pk (sbW b (idxI (nms b.bs) nm).toNat) (nms b.bs) b.bs.length else []
theorem idxI_some {bs : List Ba} {s : ByteArray} (h : memS (nms bs) s = true) : ∃ p : Nat, idxI (nms bs) s = (p : Int) ∧ p < bs.length := by
  obtain ⟨k, h1, h2, _⟩ := idxI_at (l := nms bs) (s := s) (by have := idxI_mem (nms bs) s; rw [h, decide_eq_true_eq] at this; exact this)
  exact ⟨k, h1, by rwa [nms_length] at h2⟩

set_option maxRecDepth 20000 in
set_option maxHeartbeats 4000000 in
theorem specWaits_any (b : Bk) (v : Value) (nm : ByteArray) (w : World) (h : BkV w v b) :
    Calls Tryz.prog 15 #[v, .string nm] w fun e w' => (∃ u, e = .returned u ∧ OwnT w' w.heap.size u (waitsS b nm)) ∧ Below w.heap.size w w' := by
  obtain ⟨a1, c1, a2, c2, rfl, h1, h2⟩ := h.parts
  have g2 := h2.at.1
  unfold maxLen at g2
  obtain ⟨W1, hW1, kA, hB1, hs1⟩ : ∃ W1, w.alloc (.cells #[.slice a1 (b).things.length c1, .slice a2 (b).bs.length c2] 26) = W1 ∧ CB W1 w.heap.size [.slice a1 b.things.length c1, .slice a2 b.bs.length c2] ∧ Below w.heap.size w W1 ∧ W1.heap.size = w.heap.size + 1 := ⟨_, rfl, cb1 w _ _⟩
  have hz1 := hB1.size
  clear hs1
  obtain ⟨ii, hi, iz0, iz1, iz2⟩ := info_parts infoStr
  go_enter Tryz.func15, Tryz.ntmps15
  go_upto_region 1 with fail
  try rw [hW1]
  clear hW1
  have hk := h.up hB1
  have l2 := h2.up hB1
  obtain ⟨e0, e1⟩ := kA.c2'
  have hlt := kA.2.2
  obtain ⟨-, hpos⟩ := l2.at
  clear h h1 h2
  have ho2 := ownT_lit0 W1
  have hb2 := (Below.refl W1.heap.size W1).alloc (Nat.le_refl _) (.cells #[] 9)
  go_upto_region 2 with fail
  generalize W1.alloc (.cells #[] 9) = W2 at *
  have f0 := (hb2.cell (p := ⟨w.heap.size, 0, none⟩) hlt).trans e0
  have f1 := (hb2.cell (p := ⟨w.heap.size, 1, none⟩) hlt).trans e1
  go_wp2_with fail
  refine (at11_any b _ nm _ (hk.up hb2)).mono ?_
  rintro e w3 ⟨rfl, hb3⟩
  have hB3 := up_trans hb2 hb3
  have ho3 := ho2.up hb3
  clear f0 f1 hb3 ho2 hb2
  obtain ⟨ix, hix⟩ : ∃ ix, idxI (nms b.bs) nm = ix := ⟨_, rfl⟩
  have Hix : Hid (idxI (nms b.bs) nm = ix) := hix
  rw [hix]
  clear hix
  go_wp2_with fail
  go_loopw [5, 7] (fun u i w' => ∃ k : Nat, k ≤ b.bs.length ∧ i = .int .i64 k ∧ (¬ OkW b nm → k = 0) ∧ OwnT w' W1.heap.size u (pk (sbW b ix.toNat) (nms b.bs) k) ∧ Below W1.heap.size W1 w') (fun _ i _ => b.bs.length - (intOf i).toNat)
  case atStart => exact ⟨0, by omega, rfl, fun _ => rfl, ho3, hB3⟩
  case round =>
    clear hB3 ho3
    obtain ⟨k, hkl, rfl, hno, hown, hB⟩ := hrel
    have Hno : Hid (¬ OkW b nm → k = 0) := hno
    clear hno
    have Hout : Hid (k = b.bs.length ∨ ¬ OkW b nm → pk (sbW b ix.toNat) (nms b.bs) k = waitsS b nm) := fun hor => by
      by_cases hy : OkW b nm
      · rcases hor with rfl | hor
        · rw [waitsS, if_pos hy, Hix.out]
        · exact absurd hy hor
      · rw [waitsS, if_neg hy, Hno.out hy]; rfl
    have f0 := (hB.cell (p := ⟨w.heap.size, 0, none⟩) hlt).trans e0
    have f1 := (hB.cell (p := ⟨w.heap.size, 1, none⟩) hlt).trans e1
    by_cases hp : k < b.bs.length
    case neg =>
      have He : Hid (pk (sbW b ix.toNat) (nms b.bs) k = waitsS b nm) := Hout.out (.inl (by omega))
      clear Hout Hno
      go_wp2_with fail
      go_ret
      exact ⟨⟨_, rfl, by rw [← He.out]; exact own_low hown hz1⟩, up_trans hB1 hB⟩
    cases hm : memS (nms b.bs) nm with
    | false =>
      have He : Hid (pk (sbW b ix.toNat) (nms b.bs) k = waitsS b nm) := Hout.out (.inr (by rw [OkW, hm]; simp))
      obtain rfl : -1 = ix := by rw [← Hix.out, idxI_none hm]
      clear Hout Hno hm Hix
      go_wp2_with fail
      go_ret
      exact ⟨⟨_, rfl, by rw [← He.out]; exact own_low hown hz1⟩, up_trans hB1 hB⟩
    | true =>
      obtain ⟨p, hpi, hpl⟩ := idxI_some hm
      obtain rfl : (p : Int) = ix := by rw [← Hix.out, hpi]
      clear hpi
      go_wp2_with fail
      refine (specBook_any b _ _ (hk.up hB)).mono ?_
      rintro e w4 ⟨rfl, hb4⟩
      have hB4 := up_trans hB hb4
      have hown4 := hown.up hb4
      clear f0 f1 hB hb4 hown
      cases hq : bookB b with
      | false =>
        have He : Hid (pk (sbW b (p : Int).toNat) (nms b.bs) k = waitsS b nm) := Hout.out (.inr (by rw [OkW, hq]; simp))
        clear Hout Hno hm Hix hq
        go_wp2_with fail
        go_ret
        exact ⟨⟨_, rfl, by rw [← He.out]; exact own_low hown4 hz1⟩, up_trans hB1 hB4⟩
      | true =>
        have Hm : Hid (OkW b nm) := ⟨hq, hm⟩
        have h5 : b.bs.length ≤ 5 := (pB_iff.1 hq).2.1
        clear hm hq Hout Hno g2
        have f1 := (hB4.cell (p := ⟨w.heap.size, 1, none⟩) hlt).trans e1
        obtain ⟨bb, o, rfl, hS, hb⟩ := hpos (by omega)
        by_cases hkp : k = p
        · subst hkp
          have Hpk : Hid (pk (sbW b (k : Int).toNat) (nms b.bs) (k + 1) = pk (sbW b (k : Int).toNat) (nms b.bs) k) := by
            show _ = _
            rw [pk]; simp [sbW]
          go_wp2_with fail
          go_quiet (fail)
          go_wp2_with fail
          go_roundw
          case rel => exact ⟨k + 1, by omega, by go_num, fun h => absurd Hm.out h, by rw [Hpk.out]; exact hown4, below_drewN hB4 _⟩
          case measure => simp [intOf]; omega
        · have hkb : ((k : Int) != (p : Int)) = true := by rw [bne_iff_ne]; omega
          obtain ⟨a3, d3, a4, d4, c3, c4, -, l3, -, z0⟩ := ((hS.at hp).up hB4 hb).cells
          obtain ⟨a5, d5, a6, d6, -, -, c8, -, l6, -⟩ := ((hS.at hpl).up hB4 hb).cells
          have Hsb : Hid (sbW b (p : Int).toNat k = shareB (b.bs[k]).has (b.bs[p]).needs) := by
            show _ = _
            have : (k != p) = true := by simpa using hkp
            rw [Int.toNat_natCast, sbW, this, List.getElem?_eq_getElem hp, List.getElem?_eq_getElem hpl]; rfl
          have Hn : Hid ((nms b.bs).getD k ByteArray.empty = (b.bs[k]).nm) := by
            show _ = _
            rw [List.getD_eq_getElem?_getD, nms_at (List.getElem?_eq_getElem hp)]; rfl
          have R2 : Hid (∀ n, Calls Tryz.prog 27 #[.slice a3 (b.bs[k]).has.length d3, .slice a6 (b.bs[p]).needs.length d6] (w4.drewN n) fun e w'' => e = .returned (.bool (shareB (b.bs[k]).has (b.bs[p]).needs)) ∧ ∃ m, w'' = w4.drewN m) := fun n => Calls.quiet_of_same (share11_any _ _ _ _ _ l3 l6)
          clear l3 l6 hS
          generalize b.bs[k] = x0 at *
          generalize b.bs[p] = y0 at *
          obtain ⟨hv, hhv⟩ : ∃ hv, Value.slice a3 x0.has.length d3 = hv := ⟨_, rfl⟩
          obtain ⟨nv, hnv⟩ : ∃ nv, Value.slice a6 y0.needs.length d6 = nv := ⟨_, rfl⟩
          rw [hhv] at c4 R2
          rw [hnv] at c8 R2
          clear hhv hnv
          have Hl := pk_length (sbW b (p : Int).toNat) (nms b.bs) k
          cases hs : shareB x0.has y0.needs with
          | false =>
            have Hpk : Hid (pk (sbW b (p : Int).toNat) (nms b.bs) (k + 1) = pk (sbW b (p : Int).toNat) (nms b.bs) k) := by
              show _ = _
              rw [pk, Hsb.out, hs]; simp
            have Q2 : Hid (∀ n, Calls Tryz.prog 27 #[hv, nv] (w4.drewN n) fun e w'' => e = .returned (.bool false) ∧ ∃ m, w'' = w4.drewN m) := by have := R2.out; rw [hs] at this; exact this
            have q2 := Q2.out
            clear Q2 R2 Hsb Hn hs
            go_wp2_with fail
            go_quiet ((go_at_call 27; exact q2 _))
            go_wp2_with fail
            go_roundw
            case rel => exact ⟨k + 1, by omega, by go_num, fun h => absurd Hm.out h, by rw [Hpk.out]; exact hown4, below_drewN hB4 _⟩
            case measure => simp [intOf]; omega
          | true =>
            have Hpk : Hid (pk (sbW b (p : Int).toNat) (nms b.bs) (k + 1) = pk (sbW b (p : Int).toNat) (nms b.bs) k ++ [x0.nm]) := by
              show _ = _
              rw [pk, Hsb.out, hs, if_pos rfl, Hn.out]
            have Q2 : Hid (∀ n, Calls Tryz.prog 27 #[hv, nv] (w4.drewN n) fun e w'' => e = .returned (.bool true) ∧ ∃ m, w'' = w4.drewN m) := by have := R2.out; rw [hs] at this; exact this
            have q2 := Q2.out
            clear Q2 R2 Hsb Hn hs
            go_wp2_with fail
            go_quiet ((go_at_call 27; exact q2 _))
            clear q2
            obtain ⟨w5, hw5⟩ : ∃ w5, w4.drewN nq = w5 := ⟨_, rfl⟩
            have f5 : w5.cell? ⟨w.heap.size, 1, none⟩ = some (.slice (some ⟨bb, o, none⟩) b.bs.length c2) := by rw [← hw5]; exact f1
            have c5 : w5.cell? ⟨bb, o + k * 3, none⟩ = some (.string x0.nm) := by rw [← hw5]; exact c3
            have hown5 : OwnT w5 W1.heap.size u5 (pk (sbW b (p : Int).toNat) (nms b.bs) k) := by rw [← hw5]; exact hown4
            have hB5 : Below W1.heap.size W1 w5 := by rw [← hw5]; exact below_drewN hB4 _
            rw [hw5]
            clear hw5 f1 c3 c4 c8 hown4 hB4
            generalize pk (sbW b (p : Int).toNat) (nms b.bs) k = pl at *
            have hownA := own_up hown5 ((Below.refl w5.heap.size w5).alloc (Nat.le_refl _) (.cells #[.string x0.nm] 9))
            have hBA := hB5.alloc hB5.size (.cells #[.string x0.nm] 9)
            go_wp2_with (at_builtin; refine wpList_append_own _ rfl _ _ 23 rfl W1.heap.size 9 ii _ 1 16 Tryz.underlying23 hi iz0 iz1 iz2 rfl (by decide) _ _ _ rfl hownA ⟨w5.heap.size, 0, none⟩ 1 1 [.string x0.nm] rfl rfl (one_new _ _ _) (oneV _) (by unfold maxLen; omega) (by omega) hBA.size ?_)
            intro v1 w6 hown6 hgr6 _
            have HB6 : Hid (Below W1.heap.size W1 w6) := below_own hBA hownA hgr6 (Nat.le_refl _)
            have Ho6 : Hid (OwnT w6 W1.heap.size v1 (pk (sbW b (p : Int).toNat) (nms b.bs) (k + 1))) := by
              show OwnT _ _ _ _
              rw [Hpk.out]; unfold OwnT; rw [List.length_append, List.map_append]; exact hown6
            clear hownA hBA hown6 hgr6 hB5 f5 c5 hown5
            go_wp2_with fail
            go_roundw
            case rel => exact ⟨k + 1, by omega, by go_num, fun h => absurd Hm.out h, Ho6.out, HB6.out⟩
            case measure => simp [intOf]; omega
end Go.Proofs.YtnojjmkmkelbgaaGreat

/- The program's chapter 13: looking for a name. -/
namespace Go.Proofs.YtnojjmkmkelbgaaGreat
open Go.RowKit

/-- Where a name is, or would come in. -/
def lowN (ss : List ByteArray) (s : ByteArray) : Nat := (ss.takeWhile fun x => ltS x s).length
def LowTo (ss : List ByteArray) (s : ByteArray) (i : Nat) : Prop := ∀ (k : Nat) (x : ByteArray), k < i → ss[k]? = some x → ltS x s = true
def HighFrom (ss : List ByteArray) (s : ByteArray) (j : Nat) : Prop := ∀ (k : Nat) (x : ByteArray), j ≤ k → ss[k]? = some x → ltS x s = false
theorem lowN_at {ss : List ByteArray} {s : ByteArray} {i : Nat} (hi : i ≤ ss.length) (hl : LowTo ss s i) (hh : HighFrom ss s i) : lowN ss s = i :=
  tw_len _ _ _ hi hl (fun x hx => hh i x (Nat.le_refl _) hx)
theorem low_step {ss : List ByteArray} {s : ByteArray} {i h : Nat} (ha : Asc ss) (_ : LowTo ss s i) (hh : h < ss.length) (hs : ltS ss[h] s = true) : LowTo ss s (h + 1) := fun k x hk hx => by
  by_cases e : k = h
  · subst e
    rw [List.getElem?_eq_getElem hh] at hx
    obtain rfl := Option.some.inj hx
    exact hs
  · exact ltS_trans (asc_lt ha (h - k - 1) k x _ hx (by rw [show k + 1 + (h - k - 1) = h by omega]; exact List.getElem?_eq_getElem hh)) hs
theorem high_step {ss : List ByteArray} {s : ByteArray} {h : Nat} (ha : Asc ss) (hh : h < ss.length) (hs : ltS ss[h] s = false) : HighFrom ss s h := fun k x hk hx => by
  by_cases e : k = h
  · subst e
    rw [List.getElem?_eq_getElem hh] at hx
    obtain rfl := Option.some.inj hx
    exact hs
  · cases hq : ltS x s
    · rfl
    · have := ltS_trans (asc_lt ha (k - h - 1) h _ x (List.getElem?_eq_getElem hh) (by rw [show h + 1 + (k - h - 1) = k by omega]; exact hx)) hq
      rw [hs] at this; cases this
/-- It is there just if it is at that place. -/
theorem low_mem {ss : List ByteArray} {s : ByteArray} {i : Nat} (hl : LowTo ss s i) (hh : HighFrom ss s i) (ha : Asc ss) (hi : i < ss.length) : memS ss s = ((ss[i]).toList == s.toList) := by
  cases hq : ((ss[i]).toList == s.toList)
  · rw [memS_no]
    intro hm
    obtain ⟨k, hk, rfl⟩ := List.getElem_of_mem hm
    rcases Nat.lt_trichotomy k i with h1 | h1 | h1
    · have := hl k _ h1 (List.getElem?_eq_getElem hk)
      rw [ltS_irrefl] at this; cases this
    · subst h1; simp at hq
    · have h2 := asc_lt ha (k - i - 1) i _ _ (List.getElem?_eq_getElem hi) (by rw [show i + 1 + (k - i - 1) = k by omega]; exact List.getElem?_eq_getElem hk)
      have h3 := hh i _ (Nat.le_refl _) (List.getElem?_eq_getElem hi)
      rw [h2] at h3; cases h3
  · exact memS_found hi hq
theorem low_none {ss : List ByteArray} {s : ByteArray} {i : Nat} (hl : LowTo ss s i) (hi : ¬ i < ss.length) : memS ss s = false := by
  rw [memS_no]
  intro hm
  obtain ⟨k, hk, rfl⟩ := List.getElem_of_mem hm
  have := hl k _ (by omega) (List.getElem?_eq_getElem hk)
  rw [ltS_irrefl] at this; cases this
theorem isNaN_any (s : ByteArray) (w : World) : Calls Tryz.prog 66 #[.string s] w fun e w' => e = .returned (.bool false) ∧ w' = w := by
  go_enter Tryz.func66, Tryz.ntmps66
  go_wp2
  go_ret
  exact ⟨rfl, rfl⟩
theorem cmpNaN_any (s : ByteArray) (w : World) : Calls Tryz.prog 98 #[.string s] w fun e w' => e = .returned (.bool false) ∧ w' = w := by
  go_enter Tryz.func98, Tryz.ntmps98
  go_wp2
  go_ret
  exact ⟨rfl, rfl⟩
theorem cmpLess_any (a b : ByteArray) (w : World) : Calls Tryz.prog 65 #[.string a, .string b] w fun e w' => e = .returned (.bool (ltS a b)) ∧ w' = w := by
  have Hl : Hid (ltS a b = Op.bytesLess a.toList b.toList) := rfl
  go_enter Tryz.func65, Tryz.ntmps65
  go_wp2_with (go_at_call 98; refine (cmpNaN_any _ _).mono ?_; rintro e w' ⟨rfl, hw⟩; obtain rfl := hw.symm; clear hw)
  go_ret
  exact ⟨ret_bool Hl.out.symm, rfl⟩
theorem ret_find {i j : Nat} {a b : Bool} (h1 : i = j) (h2 : a = b) : Ending.returned (.tuple #[.int .i64 (i : Int), .bool a]) = .returned (.tuple #[.int .i64 (j : Int), .bool b]) := by rw [h1, h2]
set_option maxRecDepth 20000 in
set_option maxHeartbeats 2000000 in
theorem bsearch_any (ss : List ByteArray) (v : Value) (s : ByteArray) (w : World) (h : Ls w v ss) (ha : Asc ss) (hn : ss.length ≤ 1000) :
    Calls Tryz.prog 44 #[v, .string s] w fun e w' => e = .returned (.tuple #[.int .i64 (lowN ss s : Int), .bool (memS ss s)]) ∧ w' = w := by
  obtain ⟨a, c, rfl, -, -, hpos⟩ := h
  have Ha : Hid (Asc ss) := ha
  clear ha
  go_enter Tryz.func44, Tryz.ntmps44
  go_wp2_with fail
  go_loopw [7, 8, 9] (fun vi vj _ w' => ∃ i j : Nat, i ≤ j ∧ j ≤ ss.length ∧ vi = .int .i64 i ∧ vj = .int .i64 j ∧ LowTo ss s i ∧ HighFrom ss s j ∧ w' = w) (fun vi vj _ _ => (intOf vj).toNat - (intOf vi).toNat)
  case atStart => exact ⟨0, ss.length, by omega, by omega, rfl, rfl, fun k x hk => by omega, fun k x hk hx => by have := (List.getElem?_eq_some_iff.1 hx).1; omega, rfl⟩
  case round =>
    obtain ⟨i, j, hij, hjn, rfl, rfl, hlo, hhi, hw⟩ := hrel
    obtain rfl := hw.symm
    clear hw
    have HL : Hid (LowTo ss s i) := hlo
    have HH : Hid (HighFrom ss s j) := hhi
    clear hlo hhi
    by_cases hp : i < j
    · have hp' : (i : Int) < (j : Int) := by omega
      obtain ⟨b, o, rfl, hS, hb⟩ := hpos (by omega)
      have hm : (i + j) / 2 < ss.length := by omega
      have c0 := hS.cell hm
      have HY : Hid (ltS ss[(i + j) / 2] s = true → LowTo ss s ((i + j) / 2 + 1)) := fun hq => low_step Ha.out HL.out hm hq
      have HN : Hid (ltS ss[(i + j) / 2] s = false → HighFrom ss s ((i + j) / 2)) := fun hq => high_step Ha.out hm hq
      generalize ss[(i + j) / 2] = s0 at *
      obtain ⟨m, hmm, hm1, hm2⟩ : ∃ m : Nat, (i + j) / 2 = m ∧ i ≤ m ∧ m < j := ⟨_, rfl, by omega, by omega⟩
      rw [hmm] at c0 HY HN
      have hI : ((i : Int) + (j : Int)) / 2 = (m : Int) := by omega
      have hml : m < ss.length := by omega
      go_upto_region 5 with fail
      try rw [hI]
      clear hI hmm hm
      go_wp2_with fail
      refine (cmpLess_any s0 s _).mono ?_
      rintro e w' ⟨rfl, hw⟩
      obtain rfl := hw.symm
      clear hw
      cases hq : ltS s0 s
      · have Hq : Hid (HighFrom ss s m) := HN.out hq
        go_wp2_with fail
        go_roundw
        case rel => exact ⟨i, m, by omega, by omega, rfl, rfl, HL.out, Hq.out, by first | rfl | trivial⟩
        case measure => simp [intOf]; omega
      · have Hq : Hid (LowTo ss s (m + 1)) := HY.out hq
        go_wp2_with fail
        go_roundw
        case rel => exact ⟨m + 1, j, by omega, by omega, by go_num, rfl, Hq.out, HH.out, by first | rfl | trivial⟩
        case measure => simp [intOf]; omega
    · obtain rfl : i = j := by omega
      have hp' : ¬ (i : Int) < (i : Int) := by omega
      have HI : Hid (lowN ss s = i) := lowN_at hjn HL.out HH.out
      by_cases he : i < ss.length
      · have he' : (i : Int) < (ss.length : Int) := by omega
        obtain ⟨b, o, rfl, hS, hb⟩ := hpos (by omega)
        have c0 := hS.cell he
        have HM : Hid (memS ss s = ((ss[i]).toList == s.toList)) := low_mem HL.out HH.out Ha.out he
        generalize ss[i] = s0 at *
        cases hq : (s0.toList == s.toList)
        · have Hm : Hid (memS ss s = false) := by show _ = _; rw [HM.out, hq]
          go_wp2_with (go_at_call 66; refine (isNaN_any _ _).mono ?_; rintro e w' ⟨rfl, hw⟩; obtain rfl := hw.symm; clear hw)
          go_returns
          exact ⟨ret_find HI.out.symm Hm.out.symm, rfl⟩
        · have Hm : Hid (memS ss s = true) := by show _ = _; rw [HM.out, hq]
          go_wp2_with fail
          go_returns
          exact ⟨ret_find HI.out.symm Hm.out.symm, rfl⟩
      · have he' : ¬ (i : Int) < (ss.length : Int) := by omega
        have Hm : Hid (memS ss s = false) := low_none HL.out he
        go_wp2_with fail
        go_returns
        exact ⟨ret_find HI.out.symm Hm.out.symm, rfl⟩
/-- The place of the batch of a name, or where it would come in. -/
theorem find_any (b : Bk) (v : Value) (nm : ByteArray) (w : World) (h : BkV w v b) (hok : BookOk b) :
    Calls Tryz.prog 28 #[v, .string nm] w fun e w' => e = .returned (.tuple #[.int .i64 (lowN (nms b.bs) nm : Int), .bool (memS (nms b.bs) nm)]) ∧ Below w.heap.size w w' := by
  obtain ⟨a1, c1, a2, c2, rfl, -, h2⟩ := h.parts
  obtain ⟨W1, hW1, kA, hB1, hs1⟩ : ∃ W1, w.alloc (.cells #[.slice a1 (b).things.length c1, .slice a2 (b).bs.length c2] 26) = W1 ∧ CB W1 w.heap.size [.slice a1 b.things.length c1, .slice a2 b.bs.length c2] ∧ Below w.heap.size w W1 ∧ W1.heap.size = w.heap.size + 1 := ⟨_, rfl, cb1 w _ _⟩
  have hn5 : b.bs.length ≤ 5 := hok.2.1
  have Ha : Hid (Asc (nms b.bs)) := hok.2.2.2.1
  go_enter Tryz.func28, Tryz.ntmps28
  go_upto_region 1 with fail
  try rw [hW1]
  clear hW1 hs1
  obtain ⟨e0, e1⟩ := kA.c2'
  go_wp2_with fail
  refine (batchNames_any b.bs _ _ (h2.up hB1) (by omega)).mono ?_
  rintro e w2 ⟨⟨u, rfl, -, hl⟩, hb2⟩
  obtain ⟨ax, cx, rfl, -⟩ := id hl
  have hB2 := up_trans hB1 hb2
  clear e0 e1
  go_wp2_with fail
  refine (bsearch_any (nms b.bs) _ nm _ hl Ha.out (by rw [nms_length]; omega)).mono ?_
  rintro e w3 ⟨rfl, hw⟩
  obtain rfl := hw.symm
  go_wp2_with fail
  go_returns
  exact ⟨rfl, hB2⟩
end Go.Proofs.YtnojjmkmkelbgaaGreat
