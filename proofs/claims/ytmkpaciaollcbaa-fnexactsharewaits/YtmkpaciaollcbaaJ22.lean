/- What opening an argument leans on: lists, cells, texts and numbers that can be read. -/
import Derived.Test.YtmkpaciaollcbaaRows
import Derived.Test.YtmkpaciaollcbaaJ0
import Derived.ProofKit
import Derived.OpenShut
import Derived.OpenVars
import Derived.LaidLaws
import Derived.Lib.LaidTab
import Derived.ChangeBears2
import Derived.Deep.DeepHandedRow
import Derived.Test.YtmkpaciaollcbaaJ4
import Derived.Test.YtmkpaciaollcbaaJ14
import Derived.Test.YtmkpaciaollcbaaKs2
import Derived.Test.YtmkpaciaollcbaaJ7
import Derived.Test.YtmkpaciaollcbaaPk1
namespace Go.Proofs.Ytmkpaciaollcbaa
open Go.ChangeShapes Go.WideShapes Go.ChangeAt Go.RowKit

theorem own : ownKnob Try.prog.godebug = none := by kernel_rfl
theorem laidOut : laidOutB Try.prog = true := by kernel_rfl
theorem cellsString : Try.prog.cellsOf 9 = 1 := by kernel_rfl
theorem cellsInt : Try.prog.cellsOf 3 = 1 := by kernel_rfl
theorem str_of_trod {H : Type} {enc : TypeId × Value → H} {w : World} {base : Nat} {sp : Nat → Bool} {held : Bool} {fuel : Nat} {c : Value} {y : DataW H × List MemPlace}
    (h : DataW.trod enc Try.prog w base sp held fuel 9 [c] = some y) : ∃ s : ByteArray, c = .string s ∧ y = (.lit (.string s.data.toList), []) ∧ s.size ≤ maxLen := by
  obtain ⟨s, hc, hy, hs⟩ := DataW.trod_string Try.underlying9 h
  simp only [List.cons.injEq, and_true] at hc
  exact ⟨s, hc, hy, hs⟩
theorem int_of_trod {H : Type} {enc : TypeId × Value → H} {w : World} {base : Nat} {sp : Nat → Bool} {held : Bool} {fuel : Nat} {c : Value} {y : DataW H × List MemPlace}
    (h : DataW.trod enc Try.prog w base sp held fuel 3 [c] = some y) : ∃ n : Int, c = .int .i64 n ∧ y = (.lit (.int .i64 n), []) ∧ (Lit.int .i64 n).wf = true := by
  obtain ⟨s, hc, hy, hs⟩ := DataW.trod_int Try.underlying3 h
  simp only [List.cons.injEq, and_true] at hc
  exact ⟨s, hc, hy, hs⟩
theorem ba_of_list {s : ByteArray} {l : List UInt8} (h : s.data.toList = l) : s = ⟨l.toArray⟩ := by cases s; simp_all [← h]
theorem one_var {H : Type} {enc : TypeId × Value → H} {W : World} {sp : Nat → Bool} {n : String} {gs : List (DataW H)} {q : List MemPlace} (h : DataW.TrodVars enc Try.prog W sp [n] gs q) : ∃ g, gs = [g] := by
  match gs, h with
  | [], h => exact h.elim
  | [g], _ => exact ⟨g, rfl⟩
  | _ :: _ :: _, ⟨_, _, _, _, _, _, _, _, _, _, h, _⟩ => exact h.elim
theorem list_of {α : Type} (n : Nat) (Q : Nat → α → Prop) (h : ∀ i, i < n → ∃ p, Q i p) : ∃ ps : List α, ps.length = n ∧ ∀ (i : Nat) (p : α), ps[i]? = some p → Q i p := by
  induction n with
  | zero => exact ⟨[], rfl, fun i p hp => by simp at hp⟩
  | succ n ih =>
    obtain ⟨ps, hl, hq⟩ := ih fun i hi => h i (by omega)
    obtain ⟨p, hp⟩ := h n (by omega)
    refine ⟨ps ++ [p], by simp [hl], fun i q hq' => ?_⟩
    rw [List.getElem?_append] at hq'
    split at hq'
    · exact hq i q hq'
    · rename_i hi
      have : i = n := by
        rcases Nat.lt_or_ge (i - ps.length) 1 with h1 | h1
        · omega
        · rw [List.getElem?_eq_none (by simpa using h1)] at hq'; cases hq'
      subst this
      rw [hl, Nat.sub_self] at hq'
      obtain rfl : p = q := by simpa using hq'
      exact hp
theorem rangeAt_of_cells {w : World} {base b o n : Nat} {cs : List Value} (h : w.cells? base ⟨b, o, none⟩ n = some cs) : w.rangeAt b o cs := by
  unfold World.cells? at h
  split at h
  · intro j v hv
    have hl : cs.length = n := by simpa using Lib.mapM_length h
    have hj : j < n := by rw [← hl]; exact (List.getElem?_eq_some_iff.1 hv).1
    obtain ⟨x, hx, hc⟩ := Lib.mapM_at h j j (by simp [hj])
    rw [hv] at hx
    obtain rfl := Option.some.inj hx
    rwa [Addr.add_mid] at hc
  · cases h
theorem cellsBool : Try.prog.cellsOf 4 = 1 := by kernel_rfl
theorem list3 {α : Type} {l : List α} (h : l.length = 3) : ∃ c0 c1 c2, l = [c0, c1, c2] := by
  match l, h with
  | [c0, c1, c2], _ => exact ⟨c0, c1, c2, rfl⟩
theorem list2 {α : Type} {l : List α} (h : l.length = 2) : ∃ c0 c1, l = [c0, c1] := by
  match l, h with
  | [c0, c1], _ => exact ⟨c0, c1, rfl⟩
theorem bool_of_trod {H : Type} {enc : TypeId × Value → H} {w : World} {base : Nat} {sp : Nat → Bool} {held : Bool} {fuel : Nat} {c : Value} {y : DataW H × List MemPlace}
    (h : DataW.trod enc Try.prog w base sp held fuel 4 [c] = some y) : ∃ b : Bool, c = .bool b ∧ y = (.lit (.bool b), []) := by
  obtain ⟨s, hc, hy⟩ := DataW.trod_bool Try.underlying4 h
  simp only [List.cons.injEq, and_true] at hc
  exact ⟨s, hc, hy⟩
theorem list8 {α : Type} {l : List α} (h : l.length = 8) : ∃ c0 c1 c2 c3 c4 c5 c6 c7, l = [c0, c1, c2, c3, c4, c5, c6, c7] := by
  match l, h with
  | [c0, c1, c2, c3, c4, c5, c6, c7], _ => exact ⟨c0, c1, c2, c3, c4, c5, c6, c7, rfl⟩
end Go.Proofs.Ytmkpaciaollcbaa

/- A list of texts that can be read: opened. -/
namespace Go.Proofs.Ytmkpaciaollcbaa
open Go.ChangeShapes Go.WideShapes Go.ChangeAt Go.RowKit

theorem cellsStrS : Try.prog.cellsOf 22 = 1 := by kernel_rfl

theorem spot_none {W : World} {base n : Nat} {a : Addr} {cs : List Value} (hn : 0 < n) (h : W.cells? base a n = some cs) : a.spot = none := by
  unfold World.cells? at h
  split at h
  · obtain ⟨x, _, hc⟩ := Lib.mapM_at h 0 0 (by simp [hn])
    simpa [Addr.add] using World.cell?_spot hc
  · cases h

theorem ls_of_trod {H : Type} {enc : TypeId × Value → H} {W : World} {base : Nat} {sp : Nat → Bool} {held : Bool} {fuel : Nat} {v : Value} {x : DataW H × List MemPlace}
    (h : DataW.trod enc Try.prog W base sp held fuel 22 [v] = some x) : ∃ ss, Ls W v ss := by
  rcases DataW.trod_slice Try.underlying22 h with ⟨hcs, _⟩ | ⟨a, len, cap, elems, rest, n, _, hcs, _, hb, hl, hm, hlen, hel, _, _⟩
  · obtain rfl : v = .slice none 0 0 := by simpa using hcs
    exact ⟨[], Ls.nil _ _ _⟩
  · obtain rfl : v = .slice (some a) len cap := by simpa using hcs
    clear hcs h
    rw [cellsString] at hel
    have each : ∀ i, i < len → ∃ q : ByteArray, W.cells? base (a.add (i * 1)) 1 = some [.string q] ∧ q.size ≤ maxLen := by
      intro i hi
      have h1 := hel i hi
      rw [List.getElem?_eq_getElem (by omega)] at h1
      obtain ⟨cs, hc, ht⟩ := Option.bind_eq_some_iff.1 h1
      obtain ⟨s, rfl, -, hs⟩ := DataW.trod_string Try.underlying9 ht
      exact ⟨s, hc, hs⟩
    obtain ⟨ss, hpl, hps⟩ := list_of len _ each
    rcases Nat.eq_zero_or_pos len with h0 | h0
    · subst h0
      exact ⟨[], Ls.nil _ _ _⟩
    · obtain ⟨b, o, spot⟩ := a
      have hs : spot = none := by
        obtain ⟨q, hq, _⟩ := each 0 h0
        simpa [Addr.add] using spot_none (by omega) hq
      subst hs
      have hra : StrsAt W b o ss := by
        intro i q hq
        have := (hps i q hq).1
        rw [Addr.add_mid, Nat.mul_one] at this
        exact rangeAt_of_cells this 0 _ rfl
      subst hpl
      refine ⟨ss, _, cap, rfl, by omega, fun s hs => ?_, fun _ => ⟨b, o, rfl, hra, ?_⟩⟩
      · obtain ⟨i, hi, rfl⟩ := List.getElem_of_mem hs
        exact (hps i ss[i] (by simp [hi])).2
      · exact World.block_lt_of_cell? W _ (hra 0 ss[0] (by simp [h0]))
end Go.Proofs.Ytmkpaciaollcbaa

/- The specification's walk of ShareWaits (chapter 14). -/
namespace Go.Proofs.Ytmkpaciaollcbaa
open Go.RowKit

/-- Whether batch j has something of what batch own needs. -/
def sbW (b : Bk) (own j : Nat) : Bool := j != own && shareB ((b.bs[j]?.map (·.has)).getD []) ((b.bs[own]?.map (·.needs)).getD [])
def OkW (b : Bk) (nm : ByteArray) : Prop := bookB b = true ∧ memS (nms b.bs) nm = true
open Classical in
noncomputable def waitsS (b : Bk) (nm : ByteArray) : List ByteArray := if OkW b nm then pk (sbW b (idxI (nms b.bs) nm).toNat) (nms b.bs) b.bs.length else []
theorem idxI_some {bs : List Ba} {s : ByteArray} (h : memS (nms bs) s = true) : ∃ p : Nat, idxI (nms bs) s = (p : Int) ∧ p < bs.length := by
  obtain ⟨k, h1, h2, _⟩ := idxI_at (l := nms bs) (s := s) (by have := idxI_mem (nms bs) s; rw [h, decide_eq_true_eq] at this; exact this)
  exact ⟨k, h1, by rwa [nms_length] at h2⟩

set_option maxRecDepth 20000 in
set_option maxHeartbeats 4000000 in
theorem specWaits_any (b : Bk) (v : Value) (nm : ByteArray) (w : World) (h : BkV w v b) :
    Calls Try.prog 14 #[v, .string nm] w fun e w' => (∃ u, e = .returned u ∧ OwnT w' w.heap.size u (waitsS b nm)) ∧ Below w.heap.size w w' := by
  obtain ⟨a1, c1, a2, c2, rfl, h1, h2⟩ := h.parts
  have g2 := h2.at.1
  unfold maxLen at g2
  obtain ⟨W1, hW1, kA, hB1, hs1⟩ : ∃ W1, w.alloc (.cells #[.slice a1 (b).things.length c1, .slice a2 (b).bs.length c2] 30) = W1 ∧ CB W1 w.heap.size [.slice a1 b.things.length c1, .slice a2 b.bs.length c2] ∧ Below w.heap.size w W1 ∧ W1.heap.size = w.heap.size + 1 := ⟨_, rfl, cb1 w _ _⟩
  have hz1 := hB1.size
  clear hs1
  obtain ⟨ii, hi, iz0, iz1, iz2⟩ := info_parts infoStr
  go_enter Try.func14, Try.ntmps14
  go_upto_region 1 with fail
  try rw [hW1]
  clear hW1
  have hk := h.up hB1
  have l2 := h2.up hB1
  obtain ⟨e0, e1⟩ := kA.c2'
  have hlt := kA.2.2
  obtain ⟨-, hpos⟩ := l2.at
  clear h h1 h2
  have ho2 := ownT_lit0 W1
  have hb2 := (Below.refl W1.heap.size W1).alloc (Nat.le_refl _) (.cells #[] 9)
  go_upto_region 2 with fail
  generalize W1.alloc (.cells #[] 9) = W2 at *
  have f0 := (hb2.cell (p := ⟨w.heap.size, 0, none⟩) hlt).trans e0
  have f1 := (hb2.cell (p := ⟨w.heap.size, 1, none⟩) hlt).trans e1
  go_wp2_with fail
  refine (at11_any b _ nm _ (hk.up hb2)).mono ?_
  rintro e w3 ⟨rfl, hb3⟩
  have hB3 := up_trans hb2 hb3
  have ho3 := ho2.up hb3
  clear f0 f1 hb3 ho2 hb2
  obtain ⟨ix, hix⟩ : ∃ ix, idxI (nms b.bs) nm = ix := ⟨_, rfl⟩
  have Hix : Hid (idxI (nms b.bs) nm = ix) := hix
  rw [hix]
  clear hix
  go_wp2_with fail
  go_loopw [5, 7] (fun u i w' => ∃ k : Nat, k ≤ b.bs.length ∧ i = .int .i64 k ∧ (¬ OkW b nm → k = 0) ∧ OwnT w' W1.heap.size u (pk (sbW b ix.toNat) (nms b.bs) k) ∧ Below W1.heap.size W1 w') (fun _ i _ => b.bs.length - (intOf i).toNat)
  case atStart => exact ⟨0, by omega, rfl, fun _ => rfl, ho3, hB3⟩
  case round =>
    clear hB3 ho3
    obtain ⟨k, hkl, rfl, hno, hown, hB⟩ := hrel
    have Hno : Hid (¬ OkW b nm → k = 0) := hno
    clear hno
    have Hout : Hid (k = b.bs.length ∨ ¬ OkW b nm → pk (sbW b ix.toNat) (nms b.bs) k = waitsS b nm) := fun hor => by
      by_cases hy : OkW b nm
      · rcases hor with rfl | hor
        · rw [waitsS, if_pos hy, Hix.out]
        · exact absurd hy hor
      · rw [waitsS, if_neg hy, Hno.out hy]; rfl
    have f0 := (hB.cell (p := ⟨w.heap.size, 0, none⟩) hlt).trans e0
    have f1 := (hB.cell (p := ⟨w.heap.size, 1, none⟩) hlt).trans e1
    by_cases hp : k < b.bs.length
    case neg =>
      have He : Hid (pk (sbW b ix.toNat) (nms b.bs) k = waitsS b nm) := Hout.out (.inl (by omega))
      clear Hout Hno
      go_wp2_with fail
      go_ret
      exact ⟨⟨_, rfl, by rw [← He.out]; exact own_low hown hz1⟩, up_trans hB1 hB⟩
    cases hm : memS (nms b.bs) nm with
    | false =>
      have He : Hid (pk (sbW b ix.toNat) (nms b.bs) k = waitsS b nm) := Hout.out (.inr (by rw [OkW, hm]; simp))
      obtain rfl : -1 = ix := by rw [← Hix.out, idxI_none hm]
      clear Hout Hno hm Hix
      go_wp2_with fail
      go_ret
      exact ⟨⟨_, rfl, by rw [← He.out]; exact own_low hown hz1⟩, up_trans hB1 hB⟩
    | true =>
      obtain ⟨p, hpi, hpl⟩ := idxI_some hm
      obtain rfl : (p : Int) = ix := by rw [← Hix.out, hpi]
      clear hpi
      go_wp2_with fail
      refine (specBook_any b _ _ (hk.up hB)).mono ?_
      rintro e w4 ⟨rfl, hb4⟩
      have hB4 := up_trans hB hb4
      have hown4 := hown.up hb4
      clear f0 f1 hB hb4 hown
      cases hq : bookB b with
      | false =>
        have He : Hid (pk (sbW b (p : Int).toNat) (nms b.bs) k = waitsS b nm) := Hout.out (.inr (by rw [OkW, hq]; simp))
        clear Hout Hno hm Hix hq
        go_wp2_with fail
        go_ret
        exact ⟨⟨_, rfl, by rw [← He.out]; exact own_low hown4 hz1⟩, up_trans hB1 hB4⟩
      | true =>
        have Hm : Hid (OkW b nm) := ⟨hq, hm⟩
        have h5 : b.bs.length ≤ 5 := (pB_iff.1 hq).2.1
        clear hm hq Hout Hno g2
        have f1 := (hB4.cell (p := ⟨w.heap.size, 1, none⟩) hlt).trans e1
        obtain ⟨bb, o, rfl, hS, hb⟩ := hpos (by omega)
        by_cases hkp : k = p
        · subst hkp
          have Hpk : Hid (pk (sbW b (k : Int).toNat) (nms b.bs) (k + 1) = pk (sbW b (k : Int).toNat) (nms b.bs) k) := by
            show _ = _
            rw [pk]; simp [sbW]
          go_wp2_with fail
          go_quiet (fail)
          go_wp2_with fail
          go_roundw
          case rel => exact ⟨k + 1, by omega, by go_num, fun h => absurd Hm.out h, by rw [Hpk.out]; exact hown4, below_drewN hB4 _⟩
          case measure => simp [intOf]; omega
        · have hkb : ((k : Int) != (p : Int)) = true := by rw [bne_iff_ne]; omega
          obtain ⟨a3, d3, a4, d4, c3, c4, -, l3, -, z0⟩ := ((hS.at hp).up hB4 hb).cells
          obtain ⟨a5, d5, a6, d6, -, -, c8, -, l6, -⟩ := ((hS.at hpl).up hB4 hb).cells
          have Hsb : Hid (sbW b (p : Int).toNat k = shareB (b.bs[k]).has (b.bs[p]).needs) := by
            show _ = _
            have : (k != p) = true := by simpa using hkp
            rw [Int.toNat_natCast, sbW, this, List.getElem?_eq_getElem hp, List.getElem?_eq_getElem hpl]; rfl
          have Hn : Hid ((nms b.bs).getD k ByteArray.empty = (b.bs[k]).nm) := by
            show _ = _
            rw [List.getD_eq_getElem?_getD, nms_at (List.getElem?_eq_getElem hp)]; rfl
          have R2 : Hid (∀ n, Calls Try.prog 30 #[.slice a3 (b.bs[k]).has.length d3, .slice a6 (b.bs[p]).needs.length d6] (w4.drewN n) fun e w'' => e = .returned (.bool (shareB (b.bs[k]).has (b.bs[p]).needs)) ∧ ∃ m, w'' = w4.drewN m) := fun n => Calls.quiet_of_same (share11_any _ _ _ _ _ l3 l6)
          clear l3 l6 hS
          generalize b.bs[k] = x0 at *
          generalize b.bs[p] = y0 at *
          obtain ⟨hv, hhv⟩ : ∃ hv, Value.slice a3 x0.has.length d3 = hv := ⟨_, rfl⟩
          obtain ⟨nv, hnv⟩ : ∃ nv, Value.slice a6 y0.needs.length d6 = nv := ⟨_, rfl⟩
          rw [hhv] at c4 R2
          rw [hnv] at c8 R2
          clear hhv hnv
          have Hl := pk_length (sbW b (p : Int).toNat) (nms b.bs) k
          cases hs : shareB x0.has y0.needs with
          | false =>
            have Hpk : Hid (pk (sbW b (p : Int).toNat) (nms b.bs) (k + 1) = pk (sbW b (p : Int).toNat) (nms b.bs) k) := by
              show _ = _
              rw [pk, Hsb.out, hs]; simp
            have Q2 : Hid (∀ n, Calls Try.prog 30 #[hv, nv] (w4.drewN n) fun e w'' => e = .returned (.bool false) ∧ ∃ m, w'' = w4.drewN m) := by have := R2.out; rw [hs] at this; exact this
            have q2 := Q2.out
            clear Q2 R2 Hsb Hn hs
            go_wp2_with fail
            go_quiet ((go_at_call 30; exact q2 _))
            go_wp2_with fail
            go_roundw
            case rel => exact ⟨k + 1, by omega, by go_num, fun h => absurd Hm.out h, by rw [Hpk.out]; exact hown4, below_drewN hB4 _⟩
            case measure => simp [intOf]; omega
          | true =>
            have Hpk : Hid (pk (sbW b (p : Int).toNat) (nms b.bs) (k + 1) = pk (sbW b (p : Int).toNat) (nms b.bs) k ++ [x0.nm]) := by
              show _ = _
              rw [pk, Hsb.out, hs, if_pos rfl, Hn.out]
            have Q2 : Hid (∀ n, Calls Try.prog 30 #[hv, nv] (w4.drewN n) fun e w'' => e = .returned (.bool true) ∧ ∃ m, w'' = w4.drewN m) := by have := R2.out; rw [hs] at this; exact this
            have q2 := Q2.out
            clear Q2 R2 Hsb Hn hs
            go_wp2_with fail
            go_quiet ((go_at_call 30; exact q2 _))
            clear q2
            obtain ⟨w5, hw5⟩ : ∃ w5, w4.drewN nq = w5 := ⟨_, rfl⟩
            have f5 : w5.cell? ⟨w.heap.size, 1, none⟩ = some (.slice (some ⟨bb, o, none⟩) b.bs.length c2) := by rw [← hw5]; exact f1
            have c5 : w5.cell? ⟨bb, o + k * 3, none⟩ = some (.string x0.nm) := by rw [← hw5]; exact c3
            have hown5 : OwnT w5 W1.heap.size u5 (pk (sbW b (p : Int).toNat) (nms b.bs) k) := by rw [← hw5]; exact hown4
            have hB5 : Below W1.heap.size W1 w5 := by rw [← hw5]; exact below_drewN hB4 _
            rw [hw5]
            clear hw5 f1 c3 c4 c8 hown4 hB4
            generalize pk (sbW b (p : Int).toNat) (nms b.bs) k = pl at *
            have hownA := own_up hown5 ((Below.refl w5.heap.size w5).alloc (Nat.le_refl _) (.cells #[.string x0.nm] 9))
            have hBA := hB5.alloc hB5.size (.cells #[.string x0.nm] 9)
            go_wp2_with (at_builtin; refine wpList_append_own _ rfl _ _ 22 rfl W1.heap.size 9 ii _ 1 16 Try.underlying22 hi iz0 iz1 iz2 rfl (by decide) _ _ _ rfl hownA ⟨w5.heap.size, 0, none⟩ 1 1 [.string x0.nm] rfl rfl (one_new _ _ _) (oneV _) (by unfold maxLen; omega) (by omega) hBA.size ?_)
            intro v1 w6 hown6 hgr6 _
            have HB6 : Hid (Below W1.heap.size W1 w6) := below_own hBA hownA hgr6 (Nat.le_refl _)
            have Ho6 : Hid (OwnT w6 W1.heap.size v1 (pk (sbW b (p : Int).toNat) (nms b.bs) (k + 1))) := by
              show OwnT _ _ _ _
              rw [Hpk.out]; unfold OwnT; rw [List.length_append, List.map_append]; exact hown6
            clear hownA hBA hown6 hgr6 hB5 f5 c5 hown5
            go_wp2_with fail
            go_roundw
            case rel => exact ⟨k + 1, by omega, by go_num, fun h => absurd Hm.out h, Ho6.out, HB6.out⟩
            case measure => simp [intOf]; omega
end Go.Proofs.Ytmkpaciaollcbaa
