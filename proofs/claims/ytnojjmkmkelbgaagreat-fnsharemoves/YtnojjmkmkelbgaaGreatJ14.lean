/- The specification's walks of l12Next and ShareOrder (chapter 12). -/
import Derived.Test.YtnojjmkmkelbgaaGreatJ11
import Derived.Test.YtnojjmkmkelbgaaGreatJ6
import Derived.Test.YtnojjmkmkelbgaaGreatJ4
import Derived.Test.YtnojjmkmkelbgaaGreatJ1
import Derived.Laws.IdiomStrings
import Derived.Deep.RegionWith
namespace Go.Proofs.YtnojjmkmkelbgaaGreat
open Go.RowKit

set_option maxHeartbeats 2000000 in
theorem next12_any (b : Bk) (v gv : Value) (gone : List ByteArray) (w : World) (h : BkV w v b) (hg : Ls w gv gone) :
    Calls Tryz.prog 109 #[v, gv] w fun e w' => (∃ n : Int, e = .returned (.int .i64 n) ∧ NextIs b.bs gone n) ∧ Below w.heap.size w w' := by
  obtain ⟨a1, c1, a2, c2, rfl, h1, h2⟩ := h.parts
  obtain ⟨ag, cg, rfl, -⟩ := id hg
  have hC : CB (w.alloc (.cells #[.slice a1 (b).things.length c1, .slice a2 (b).bs.length c2] 26)) w.heap.size [.slice a1 b.things.length c1, .slice a2 b.bs.length c2] := cb_alloc w _ _
  have hB0 := (Below.refl w.heap.size w).alloc (Nat.le_refl _) (.cells #[.slice a1 (b).things.length c1, .slice a2 (b).bs.length c2] 26)
  have g2 := h2.at.1
  unfold maxLen at g2
  go_enter Tryz.func109, Tryz.ntmps109
  go_upto_region 1 with fail
  generalize w.alloc (.cells #[.slice a1 (b).things.length c1, .slice a2 (b).bs.length c2] 26) = W1 at *
  have l2 := h2.up hB0
  have hk := h.up hB0
  have lg := hg.up hB0
  clear h h1 h2 hg
  obtain ⟨e0, e1⟩ := hC.c2'
  have hlt := hC.2.2
  obtain ⟨-, hpos⟩ := l2.at
  have hB : Below W1.heap.size W1 W1 := Below.refl _ _
  go_wp2_with fail
  go_loopw [5] (fun i w' => ∃ k : Nat, k ≤ b.bs.length ∧ i = .int .i64 k ∧ (∀ j, j < k → ¬ Good b.bs gone j) ∧ Below W1.heap.size W1 w') (fun i _ => b.bs.length - (intOf i).toNat)
  case atStart => exact ⟨0, by omega, rfl, fun j hj => by omega, hB⟩
  case round =>
    clear hB
    obtain ⟨k, hkl, rfl, hal, hB⟩ := hrel
    have Hal : Hid (∀ j, j < k → ¬ Good b.bs gone j) := hal
    clear hal
    have f0 := (hB.cell (p := ⟨w.heap.size, 0, none⟩) hlt).trans e0
    have f1 := (hB.cell (p := ⟨w.heap.size, 1, none⟩) hlt).trans e1
    by_cases hp : k < b.bs.length
    · obtain ⟨bb, o, rfl, hS, hb⟩ := hpos (by omega)
      obtain ⟨a3, d3, a4, d4, c3, c4, c5, -, -, -⟩ := ((hS.at hp).up hB hb).cells
      have HI : Hid (Good b.bs gone k ↔ memS gone (b.bs[k]).nm = false ∧ Can b.bs k gone) := good_iff hp
      generalize b.bs[k] = x0 at *
      clear hS
      go_wp2_with fail
      refine (has11_any gone _ x0.nm _ (lg.up hB)).mono ?_
      rintro e w' ⟨rfl, hw⟩
      obtain rfl := hw.symm
      clear hw
      cases hm : memS gone x0.nm
      case true =>
        have Hs : Hid (∀ j, j < k + 1 → ¬ Good b.bs gone j) := goodTo_step Hal.out fun h => by rw [(HI.out.1 h).1] at hm; cases hm
        clear HI
        go_wp2_with fail
        go_roundw
        case rel => exact ⟨k + 1, by omega, by go_num, Hs.out, hB⟩
        case measure => simp [intOf]; omega
      go_wp2_with fail
      refine (can12_any b _ _ k gone _ (hk.up hB) (lg.up hB) hp).mono ?_
      rintro e w2 ⟨rfl, hb2⟩
      have hB2 := up_trans hB hb2
      clear f0 f1 hB hb2 c3 c4 c5
      cases hcn : pB (Can b.bs k gone)
      · have Hs : Hid (∀ j, j < k + 1 → ¬ Good b.bs gone j) := goodTo_step Hal.out fun h => pB_not.1 hcn (HI.out.1 h).2
        clear HI
        go_wp2_with fail
        go_roundw
        case rel => exact ⟨k + 1, by omega, by go_num, Hs.out, hB2⟩
        case measure => simp [intOf]; omega
      · have Hs : Hid (NextIs b.bs gone (k : Int)) := .inr ⟨k, rfl, hp, HI.out.2 ⟨hm, pB_iff.1 hcn⟩, Hal.out⟩
        clear HI
        go_wp2_with fail
        go_ret
        exact ⟨⟨_, rfl, Hs.out⟩, up_trans hB0 hB2⟩
    · have Hs : Hid (NextIs b.bs gone (-1)) := .inl ⟨rfl, fun j hj => Hal.out j (by omega)⟩
      go_wp2_with fail
      go_ret
      exact ⟨⟨_, rfl, Hs.out⟩, up_trans hB0 hB⟩

def lenV : Value → Nat
  | .slice _ n _ => n
  | _ => 0

set_option maxHeartbeats 2000000 in
theorem specOrder_any (b : Bk) (v : Value) (w : World) (h : BkV w v b) :
    Calls Tryz.prog 108 #[v] w fun e w' => (∃ u ss ok, e = .returned (.tuple #[u, .bool ok]) ∧ OrderIs b ss ok ∧ OwnT w' w.heap.size u ss ∧ ∀ s ∈ ss, s.size ≤ maxLen) ∧ Below w.heap.size w w' := by
  obtain ⟨a1, c1, a2, c2, rfl, h1, h2⟩ := h.parts
  obtain ⟨W1, hW1, kA, hB1, hs1⟩ : ∃ W1, w.alloc (.cells #[.slice a1 (b).things.length c1, .slice a2 (b).bs.length c2] 26) = W1 ∧ CB W1 w.heap.size [.slice a1 b.things.length c1, .slice a2 b.bs.length c2] ∧ Below w.heap.size w W1 ∧ W1.heap.size = w.heap.size + 1 := ⟨_, rfl, cb1 w _ _⟩
  have hz1 := hB1.size
  clear hs1
  obtain ⟨ii, hi, iz0, iz1, iz2⟩ := info_parts infoStr
  go_enter Tryz.func108, Tryz.ntmps108
  go_upto_region 1 with fail
  try rw [hW1]
  clear hW1
  have hk := h.up hB1
  have l2 := h2.up hB1
  obtain ⟨e0, e1⟩ := kA.c2'
  have hlt := kA.2.2
  obtain ⟨-, hpos⟩ := l2.at
  clear h h1 h2
  have ho2 := ownT_lit0 W1
  have hb2 := (Below.refl W1.heap.size W1).alloc (Nat.le_refl _) (.cells #[] 9)
  go_upto_region 2 with fail
  generalize W1.alloc (.cells #[] 9) = W2 at *
  have f0 := (hb2.cell (p := ⟨w.heap.size, 0, none⟩) hlt).trans e0
  have f1 := (hb2.cell (p := ⟨w.heap.size, 1, none⟩) hlt).trans e1
  go_wp2_with fail
  refine (specBook_any b _ _ (hk.up hb2)).mono ?_
  rintro e w3 ⟨rfl, hb3⟩
  have hB3 := up_trans hb2 hb3
  have ho3 := ho2.up hb3
  clear f0 f1 hb3 ho2 hb2
  cases hq : bookB b
  · have Hq : Hid (OrderIs b [] false) := .inr ⟨rfl, rfl, .inl (pB_not.1 hq)⟩
    go_wp2_with fail
    go_returns
    exact ⟨⟨_, [], false, rfl, Hq.out, own_low ho3 (by omega), fun s hs => by simp at hs⟩, up_trans hB1 hB3⟩
  have Hok : Hid (BookOk b) := pB_iff.1 hq
  have h5 : b.bs.length ≤ 5 := Hok.out.2.1
  clear hq
  go_wp2_with fail
  go_loopw [4, 5] (fun u _ w' => ∃ (n : Nat) (gone : List ByteArray), n ≤ b.bs.length ∧ GoesB b.bs n gone ∧ OwnT w' W1.heap.size u gone ∧ (∀ s ∈ gone, s.size ≤ maxLen) ∧ Below W1.heap.size W1 w') (fun u _ _ => b.bs.length - lenV u)
  case atStart => exact ⟨0, [], by omega, .none, ho3, fun s hs => by simp at hs, hB3⟩
  case round =>
    clear hB3 ho3
    obtain ⟨n, gone, hnl, hgo, hown, hsz, hB⟩ := hrel
    have Hgo : Hid (GoesB b.bs n gone) := hgo
    have Hlen : Hid (gone.length = n) := hgo.length
    have lgo := hown.lst.ls hsz
    obtain ⟨ag, cg, rfl⟩ := hown.lst.shape
    have Hsz : Hid (∀ s ∈ gone, s.size ≤ maxLen) := hsz
    clear hgo hsz
    have hgl : gone.length ≤ b.bs.length := by rw [Hlen.out]; exact hnl
    have f0 := (hB.cell (p := ⟨w.heap.size, 0, none⟩) hlt).trans e0
    have f1 := (hB.cell (p := ⟨w.heap.size, 1, none⟩) hlt).trans e1
    by_cases hp : gone.length < b.bs.length
    · go_wp2_with fail
      refine (next12_any b _ _ gone _ (hk.up hB) lgo).mono ?_
      rintro e w4 ⟨⟨nx, rfl, hnx⟩, hb4⟩
      have hB4 := up_trans hB hb4
      have hown4 := hown.up hb4
      have Hnx : Hid (NextIs b.bs gone nx) := hnx
      clear f0 f1 hB hb4 hown lgo
      rcases hnx with ⟨rfl, -⟩ | ⟨k, rfl, hkl, -, -⟩
      · have Hs : Hid (OrderIs b [] false) := .inr ⟨rfl, rfl, .inr ⟨n, gone, by have := Hlen.out; omega, Hgo.out, Hnx.out⟩⟩
        have ho5 := ownT_lit0 w4
        have hb5 := (Below.refl w4.heap.size w4).alloc (Nat.le_refl _) (.cells #[] 9)
        have hz4 := hB4.size
        go_wp2_with fail
        go_returns
        exact ⟨⟨_, [], false, rfl, Hs.out, own_low ho5 (by omega), fun s hs => by simp at hs⟩, up_trans hB1 (up_trans hB4 hb5)⟩
      · obtain ⟨bb, o, rfl, hS, hb⟩ := hpos (by omega)
        have f1 := (hB4.cell (p := ⟨w.heap.size, 1, none⟩) hlt).trans e1
        obtain ⟨a3, d3, a4, d4, c3, -, -, -, -, z0⟩ := ((hS.at hkl).up hB4 hb).cells
        have Hs : Hid (GoesB b.bs (n + 1) (gone ++ [(b.bs[k]).nm])) := .more Hgo.out Hnx.out (List.getElem?_eq_getElem hkl)
        generalize b.bs[k] = x0 at *
        have hnb : decide ((k : Int) < 0) = false := by simp
        have hownA := own_up hown4 ((Below.refl w4.heap.size w4).alloc (Nat.le_refl _) (.cells #[.string x0.nm] 9))
        have hBA := hB4.alloc hB4.size (.cells #[.string x0.nm] 9)
        clear hS
        go_wp2_with (at_builtin; refine wpList_append_own _ rfl _ _ 23 rfl W1.heap.size 9 ii _ 1 16 Tryz.underlying23 hi iz0 iz1 iz2 rfl (by decide) _ _ _ rfl hownA ⟨w4.heap.size, 0, none⟩ 1 1 [.string x0.nm] rfl rfl (one_new _ _ _) (oneV _) (by unfold maxLen; omega) (by omega) hBA.size ?_)
        intro v1 w5 hown5 hgr5 _
        have hB5 := below_own hBA hownA hgr5 (Nat.le_refl _)
        have ho5 : OwnT w5 W1.heap.size v1 (gone ++ [x0.nm]) := by unfold OwnT; rw [List.length_append, List.map_append]; exact hown5
        have hl5 : ∃ a c, v1 = .slice a (gone.length + 1) c := by
          have := ho5.lst.shape
          simpa using this
        obtain ⟨a5, c5, rfl⟩ := hl5
        clear hownA hBA hown5 hgr5 hown4 hB4 f1 c3
        go_wp2_with fail
        go_roundw
        case rel =>
          refine ⟨n + 1, _, by have := Hlen.out; omega, Hs.out, ho5, fun s hs => ?_, hB5⟩
          rcases List.mem_append.1 hs with h | h
          · exact Hsz.out s h
          · obtain rfl : s = x0.nm := by simpa using h
            exact z0
        case measure => simp [lenV]; omega
    · have Hs : Hid (OrderIs b gone true) := .inl ⟨rfl, Hok.out, by
        have e : b.bs.length = n := by have := Hlen.out; omega
        rw [e]; exact Hgo.out⟩
      go_wp2_with fail
      go_returns
      exact ⟨⟨_, gone, true, rfl, Hs.out, own_low hown (by omega), Hsz.out⟩, up_trans hB1 hB⟩
end Go.Proofs.YtnojjmkmkelbgaaGreat

/- Drawing: a number in decimals. -/
namespace Go.Proofs.YtnojjmkmkelbgaaGreat
open Go.RowKit

theorem digit_str (w : World) (n : Int) (h0 : 0 ≤ n) (h1 : n < 10) :
    (convert 22 9 (.slice (some ⟨w.heap.size, 0, none⟩) 1 1)).run Tryz.prog (w.alloc (.cells #[.int .u8 (48 + n)] 5)) = .ok (.string ⟨#[UInt8.ofNat (48 + n).toNat]⟩) (w.alloc (.cells #[.int .u8 (48 + n)] 5)) := by
  refine run_convert_bytes_back (P := Tryz.prog) (w.alloc (.cells #[.int .u8 (48 + n)] 5)) 22 9 5 ⟨w.heap.size, 0, none⟩ 1 [UInt8.ofNat (48 + n).toNat] Tryz.underlying22 Tryz.underlying5 Tryz.underlying9 (fun j hj => ?_)
  obtain rfl : j = 0 := by simpa using hj
  have e : ((UInt8.ofNat (48 + n).toNat).toNat : Int) = 48 + n := by
    rw [UInt8.toNat_ofNat']; omega
  simp only [List.getElem_cons_zero, e]
  simp [go_sem, Addr.add]

theorem dec1_any (n : Int) (w : World) (h0 : 0 ≤ n) (h1 : n < 10) :
    Calls Tryz.prog 74 #[.int .i64 n] w
      fun e w' => (∃ s : ByteArray, e = .returned (.string s) ∧ s.size ≤ 10) ∧ Below w.heap.size w w' := by
  have hcv := digit_str w n h0 h1
  go_enter Tryz.func74, Tryz.ntmps74
  go_wp2_with fail
  go_ret
  exact ⟨⟨_, rfl, by show 1 ≤ 10; omega⟩, by go_grown⟩

theorem digit_str2 (W : World) (g : Nat) (x : Int) (h0 : 0 ≤ x) (h1 : x < 256) (hc : W.cell? ⟨g, 0, none⟩ = some (.int .u8 x)) :
    (convert 22 9 (.slice (some ⟨g, 0, none⟩) 1 1)).run Tryz.prog W = .ok (.string ⟨#[UInt8.ofNat x.toNat]⟩) W := by
  refine run_convert_bytes_back (P := Tryz.prog) W 22 9 5 ⟨g, 0, none⟩ 1 [UInt8.ofNat x.toNat] Tryz.underlying22 Tryz.underlying5 Tryz.underlying9 (fun j hj => ?_)
  obtain rfl : j = 0 := by simpa using hj
  have e : ((UInt8.ofNat x.toNat).toNat : Int) = x := by
    rw [UInt8.toNat_ofNat']; omega
  simp only [List.getElem_cons_zero, e]
  exact hc

theorem size_add1 (s : ByteArray) (b : UInt8) (h : s.size ≤ 10) : (s ++ ⟨#[b]⟩ : ByteArray).size ≤ 20 := by
  rw [ByteArray.size_append]; show s.size + 1 ≤ 20; omega
theorem digA {w w1 : World} {x : Int} {t : TypeId} (h : Below (w.alloc (.cells #[.int .u8 x] t)).drew.heap.size (w.alloc (.cells #[.int .u8 x] t)).drew w1) : w1.cell? ⟨w.heap.size, 0, none⟩ = some (.int .u8 x) :=
  (h.cell (p := ⟨w.heap.size, 0, none⟩) (by simp)).trans (by simp [go_sem])
set_option maxRecDepth 20000 in
theorem dec2_any (n : Int) (w : World) (h0 : 10 ≤ n) (h1 : n < 100) :
    Calls Tryz.prog 74 #[.int .i64 n] w
      fun e w' => (∃ s : ByteArray, e = .returned (.string s) ∧ s.size ≤ 20) ∧ Below w.heap.size w w' := by
  have hq : Hid (IntKind.i64.wrap (n.tdiv 10) = n / 10) := by
    show _ = _; rw [IntKind.wrap_i64, Int.tdiv_eq_ediv_of_nonneg (by omega)]; omega
  have hX : Hid (0 ≤ IntKind.u8.wrap (IntKind.i64.wrap (48 + n.tmod 10)) ∧ IntKind.u8.wrap (IntKind.i64.wrap (48 + n.tmod 10)) < 256) := by
    show _ ∧ _
    generalize IntKind.i64.wrap (48 + n.tmod 10) = y
    rw [IntKind.wrap_u8]; omega
  go_enter Tryz.func74, Tryz.ntmps74
  go_wp2_with fail
  have hcv0 := digit_str2 (w.alloc (.cells #[.int .u8 (IntKind.u8.wrap (IntKind.i64.wrap (48 + n.tmod 10)))] 5)).drew w.heap.size _ hX.out.1 hX.out.2 (by simp [go_sem])
  go_region_with
    (go_at_call 74; refine (dec1_any _ _ (by rw [hq.out]; omega) (by rw [hq.out]; omega)).mono ?_; rintro e w1 ⟨⟨s, rfl, hs⟩, hB1⟩; first
      | (have hd := digA hB1; have hcv2 := digit_str2 w1 w.heap.size _ hX.out.1 hX.out.2 hd; clear hd)
      | have hcv1 := digit_str2 (w1.alloc (.cells #[.int .u8 (IntKind.u8.wrap (IntKind.i64.wrap (48 + n.tmod 10)))] 5)) w1.heap.size _ hX.out.1 hX.out.2 (by simp [go_sem]))
  all_goals
    go_wp2_with fail
    go_ret
    refine ⟨⟨_, rfl, size_add1 _ _ hs⟩, ?_⟩
    first
      | exact up_trans (Below.refl _ _).drew (up_trans hB1 ((Below.refl _ _).alloc (Nat.le_refl _) _))
      | exact up_trans (((Below.refl _ _).alloc (Nat.le_refl _) _).drew) hB1

theorem dec_any (n : Int) (w : World) (h0 : 0 ≤ n) (h1 : n < 100) :
    Calls Tryz.prog 74 #[.int .i64 n] w
      fun e w' => (∃ s : ByteArray, e = .returned (.string s) ∧ s.size ≤ 20) ∧ Below w.heap.size w w' := by
  by_cases h : n < 10
  · refine (dec1_any n w h0 h).mono ?_
    rintro e w' ⟨⟨s, rfl, hs⟩, hB⟩
    exact ⟨⟨s, rfl, by omega⟩, hB⟩
  · exact dec2_any n w (by omega) h1
end Go.Proofs.YtnojjmkmkelbgaaGreat
