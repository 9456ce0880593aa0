/- The specification's ShareEnter. -/
import Derived.Test.YtnojjmkmkelbgaaGreatJ15
namespace Go.Proofs.YtnojjmkmkelbgaaGreat
open Go.RowKit


/-- A list without elements appended. -/
theorem step_append_zero {P : Program} {ops : Array Oper} {o : Oper} {a : Act} {w : World} {K : Act → World → Prop} {Q : Exit → Act → World → Prop} {E : Prop}
    (hg : o.guard = none) (s x : Operand) (t : TypeId) (hop : o.op = Op.call { callee := Callee.builtin Builtin.append, args := #[s, x], argTypes := #[t, t] })
    (base : Nat) (e : TypeId) (i : TypeInfo) (size : Nat) (ht : P.underlying t = some (.slice e)) (hi : P.info? e = some i) (v : Value) (n : Nat) (xs : List Value) (hs : a.eval s = v) (hown : w.ownsRow base e size v n xs)
    (ad : Option Addr) (c : Nat) (hx : a.eval x = .slice ad 0 c) (hK : K (a.put o.dst v) w) : if Region.wanted o (yielded ops a.tmps) = true then Oper.wp P o a w K Q else E := by
  have hw : Region.wanted o (yielded ops a.tmps) = true := by simp [Region.wanted, hg]
  rw [if_pos hw]
  have hr := run_append_zero (P := P) base t o.type e i size ht hi v n xs hown ad c
  unfold Oper.wp
  simp [execOp, hop, resolve, invoke, builtin, hs, hx, hr, Result.andThen]
  exact hK

set_option maxRecDepth 20000 in
set_option maxHeartbeats 4000000 in
theorem specEnter_any (b : Bk) (v nv : Value) (nm : ByteArray) (needs : List ByteArray) (w : World) (h : BkV w v b) (hN : Ls w nv needs) (hnm : nm.size ≤ maxLen) (hnn : needs.length ≤ 1048576) :
    Calls Tryz.prog 69 #[v, .string nm, nv] w fun e w' => (∃ v', e = .returned (.tuple #[v', .int .i64 (enterC b nm needs)]) ∧ BkW w' w.heap.size v' (enterB b nm needs)) ∧ Below w.heap.size w w' := by
  have hsz := h.szb
  obtain ⟨a1, c1, a2, c2, rfl, t1, -⟩ := h.parts
  obtain ⟨a9, c9, rfl, -, hNz, -⟩ := id hN
  obtain ⟨ii, hi, iz0, iz1, iz2⟩ := info_parts infoBat1
  obtain ⟨W1, hW1, kA, kR, hB1, hs1⟩ : ∃ W1, (w.alloc (.cells #[.slice a1 (b).things.length c1, .slice a2 (b).bs.length c2] 26)).alloc (.cells #[.slice none 0 0, .slice none 0 0] 26) = W1 ∧ CB W1 w.heap.size [.slice a1 b.things.length c1, .slice a2 b.bs.length c2] ∧ CB W1 (w.heap.size + 1) [.slice none 0 0, .slice none 0 0] ∧ Below w.heap.size w W1 ∧ W1.heap.size = w.heap.size + 2 := ⟨_, rfl, cb2 w _ _ _ _⟩
  go_enter Tryz.func69, Tryz.ntmps69
  go_upto_region 1 with fail
  try rw [hW1]
  clear hW1
  have hk := h.up hB1
  have hN := hN.up hB1
  have t1 := t1.up hB1
  clear h
  obtain ⟨e0, e1⟩ := kA.c2'
  go_wp2_with fail
  refine (specBook_any b _ _ hk).mono ?_
  rintro e w2 ⟨rfl, hb2⟩
  have hz2 := hb2.size
  have kA := kA.up hb2 (by omega)
  have kR := kR.up hb2 (by omega)
  have hk := hk.up hb2
  have hN := hN.up hb2
  have t1 := t1.up hb2
  have hB := up_trans hB1 hb2
  clear e0 e1 hB1 hb2
  cases hok : bookB b
  · obtain ⟨⟨y0, y1⟩, f0, f1⟩ := kR.c2
    have HC : Hid (enterC b nm needs = 1 ∧ enterB b nm needs = nobody) := enter_no hok
    go_wp2_with fail
    refine end_cb2b Tryz.results69 Tryz.underlying26 rfl sizeBk1 kR rfl rfl ?_
    exact ⟨⟨_, ret_pair HC.out.1.symm, by rw [HC.out.2]; exact bkW_none _ _⟩, below_set2 hB (Nat.le_succ _) _ _⟩
  obtain ⟨e0, e1⟩ := kA.c2'
  go_wp2_with fail
  refine (copyW_any b _ _ hk (book_ok hok)).mono ?_
  rintro e w3 ⟨⟨xv, rfl, hX⟩, hb3⟩
  obtain ⟨a3, c3, a4, c4, ps, rfl, x1, x2, x3⟩ := hX.parts
  have hz3 := hb3.size
  have kA := kA.up hb3 (by omega)
  have kR := kR.up hb3 (by omega)
  have hk := hk.up hb3
  have hN := hN.up hb3
  have t1 := t1.up hb3
  have hB := up_trans hB hb3
  clear e0 e1 hb3 hX
  go_upto_region 4 with fail
  obtain ⟨W4, hW4, kX, hb4, hs4⟩ : ∃ W4, w3.alloc (.cells #[.slice a3 b.things.length c3, .slice a4 b.bs.length c4] 26) = W4 ∧ CB W4 w3.heap.size [.slice a3 b.things.length c3, .slice a4 b.bs.length c4] ∧ Below w3.heap.size w3 W4 ∧ W4.heap.size = w3.heap.size + 1 := ⟨_, rfl, cb1 w3 _ _⟩
  rw [hW4]
  clear hW4
  have kA := kA.up hb4 (by omega)
  have kR := kR.up hb4 (by omega)
  have hk := hk.up hb4
  have hN := hN.up hb4
  have t1 := t1.up hb4
  have hB := up_trans hB hb4
  have X1 := x1
  have X2 := x2
  have hL := hb4
  clear hb4 x1 x2
  go_wp2_with fail
  refine (name11_any nm _ hnm).mono ?_
  rintro e w' ⟨rfl, hw⟩; obtain rfl := hw.symm; clear hw
  have HOK : Hid (bookB b = true) := hok
  have back : ∀ (W : World) (cd : Int), Below W4.heap.size W4 W → enterC b nm needs = cd ∧ enterB b nm needs = b → ∃ v', (Ending.returned (.tuple #[.agg #[.slice a3 b.things.length c3, .slice a4 b.bs.length c4], .int .i64 cd]) = Ending.returned (.tuple #[v', .int .i64 (enterC b nm needs)])) ∧
      BkW ((W.setCell ⟨w.heap.size + 1, 0, none⟩ (.slice a3 b.things.length c3)).setCell ⟨w.heap.size + 1, 1, none⟩ (.slice a4 b.bs.length c4)) w.heap.size v' (enterB b nm needs) := fun W cd hb hc => by
    have hl := up_trans hL hb
    refine ⟨_, ret_pair hc.1.symm, ?_⟩
    rw [hc.2]
    exact ((BkW.set (BkW.set ⟨_, _, ps, rfl, X1.up hl, X2.up hl, x3⟩ (by omega)) (by omega)).low (by omega))
  have Hback : Hid (∀ (W : World) (cd : Int), Below W4.heap.size W4 W → enterC b nm needs = cd ∧ enterB b nm needs = b → ∃ v', (Ending.returned (.tuple #[.agg #[.slice a3 b.things.length c3, .slice a4 b.bs.length c4], .int .i64 cd]) = Ending.returned (.tuple #[v', .int .i64 (enterC b nm needs)])) ∧
      BkW ((W.setCell ⟨w.heap.size + 1, 0, none⟩ (.slice a3 b.things.length c3)).setCell ⟨w.heap.size + 1, 1, none⟩ (.slice a4 b.bs.length c4)) w.heap.size v' (enterB b nm needs)) := back
  clear back
  cases hnb : nameB nm
  · have HC : Hid (enterC b nm needs = 2 ∧ enterB b nm needs = b) := enter_two hok (by rw [hnb]; rfl)
    obtain ⟨⟨y0, y1⟩, f0, f1⟩ := kR.c2
    obtain ⟨⟨z0, z1⟩, -⟩ := kX.c2
    go_wp2_with fail
    refine end_cb2b Tryz.results69 Tryz.underlying26 rfl sizeBk1 kR rfl rfl ?_
    exact ⟨Hback.out _ _ (Below.refl _ _) HC.out, below_set2 hB (Nat.le_succ _) _ _⟩
  obtain ⟨e0, e1⟩ := kA.c2'
  go_wp2_with fail
  refine (namesOk11_any needs b.things _ _ _ hN t1).mono ?_
  rintro e w5 ⟨rfl, md, hmd⟩
  have hb5 : Below W4.heap.size W4 w5 := by rw [hmd]; exact below_drewN (Below.refl _ _) md
  have hz5 := hb5.size
  have kA := kA.up hb5 (by omega)
  have kR := kR.up hb5 (by omega)
  have kX := kX.up hb5 (by omega)
  have hk := hk.up hb5
  have hN := hN.up hb5
  have hB := up_trans hB hb5
  clear hmd e0 e1
  cases hpt : pB (PartOk needs b.things)
  · have HC : Hid (enterC b nm needs = 2 ∧ enterB b nm needs = b) := enter_two hok (by rw [hnb, hpt]; rfl)
    obtain ⟨⟨y0, y1⟩, f0, f1⟩ := kR.c2
    obtain ⟨⟨z0, z1⟩, -⟩ := kX.c2
    go_wp2_with fail
    refine end_cb2b Tryz.results69 Tryz.underlying26 rfl sizeBk1 kR rfl rfl ?_
    exact ⟨Hback.out _ _ hb5 HC.out, below_set2 hB (Nat.le_succ _) _ _⟩
  have h2 : (nameB nm && pB (PartOk needs b.things)) = true := by rw [hnb, hpt]; rfl
  have H2 : Hid ((nameB nm && pB (PartOk needs b.things)) = true) := h2
  have Hpart : Hid (PartOk needs b.things) := pB_iff.1 hpt
  clear h2 hpt hnb
  obtain ⟨e0, e1⟩ := kA.c2'
  go_wp2_with fail
  refine (at11_any b _ nm _ hk).mono ?_
  rintro e w6 ⟨rfl, hb6⟩
  have hb6' := up_trans hb5 hb6
  have hz6 := hb6.size
  have kA := kA.up hb6 (by omega)
  have kR := kR.up hb6 (by omega)
  have kX := kX.up hb6 (by omega)
  have hN := hN.up hb6
  have hB := up_trans hB hb6
  clear e0 e1 hb5 hb6 hk
  cases hm : memS (nms b.bs) nm
  case true =>
    have HC : Hid (enterC b nm needs = 3 ∧ enterB b nm needs = b) := enter_three HOK.out H2.out hm
    obtain ⟨hidx, -⟩ := plN_lt hm
    rw [hidx]
    obtain ⟨⟨y0, y1⟩, f0, f1⟩ := kR.c2
    obtain ⟨⟨z0, z1⟩, -⟩ := kX.c2
    go_wp2_with fail
    refine end_cb2b Tryz.results69 Tryz.underlying26 rfl sizeBk1 kR rfl rfl ?_
    exact ⟨Hback.out _ _ hb6' HC.out, below_set2 hB (Nat.le_succ _) _ _⟩
  rw [idxI_none hm]
  have Hm : Hid (memS (nms b.bs) nm = false) := hm
  clear hm
  by_cases h5 : 5 ≤ b.bs.length
  · have HC : Hid (enterC b nm needs = 4 ∧ enterB b nm needs = b) := enter_four HOK.out H2.out Hm.out h5
    obtain ⟨e0, e1⟩ := kA.c2'
    obtain ⟨⟨y0, y1⟩, f0, f1⟩ := kR.c2
    obtain ⟨⟨z0, z1⟩, -⟩ := kX.c2
    go_wp2_with fail
    refine end_cb2b Tryz.results69 Tryz.underlying26 rfl sizeBk1 kR rfl rfl ?_
    exact ⟨Hback.out _ _ hb6' HC.out, below_set2 hB (Nat.le_succ _) _ _⟩
  have HC : Hid (enterC b nm needs = 0 ∧ enterB b nm needs = ⟨b.things, b.bs.take (inN b nm) ++ ⟨nm, [], needs⟩ :: b.bs.drop (inN b nm)⟩) := enter_yes HOK.out H2.out Hm.out h5
  clear Hback
  have hL6 := up_trans hL hb6'
  have hps : ps.length = b.bs.length := by rw [← x3, List.length_map]
  obtain ⟨e0, e1⟩ := kA.c2'
  obtain ⟨⟨z0, z1⟩, -⟩ := kX.c2
  have hBs := (X2.up hL6).bs x3 hsz.2
  obtain ⟨-, hpos⟩ := hBs.at
  have hrow0 := (X2.up hL6).1
  rw [hps] at hrow0
  have Hrow : Hid (w6.ownsRow w2.heap.size 32 3 (.slice a4 b.bs.length c4) b.bs.length (rowsB ps)) := hrow0
  clear hrow0
  go_wp2_with fail
  go_loop [9] (fun i => ∃ k : Nat, k ≤ b.bs.length ∧ i = .int .i64 k ∧ lowB b nm k) (fun i => b.bs.length - (intOf i).toNat)
  case atStart => exact ⟨0, by omega, rfl, fun j x hj => by omega⟩
  case round =>
    obtain ⟨k, hk, rfl, hlow⟩ := hrel
    have Hlow : Hid (lowB b nm k) := hlow
    clear hlow
    by_cases hp : k < b.bs.length
    case' pos =>
      obtain ⟨g, o, rfl, hS, hgl⟩ := hpos (by omega)
      obtain ⟨_, _, _, _, q3, -, -, -, -, -⟩ := (hS.at hp).cells
      cases hl : Op.bytesLess (b.bs[k]).nm.toList nm.toList
      case true =>
        have Hl : Hid (lowB b nm (k + 1)) := fun j x hj hx => by
          by_cases e : j = k
          · subst e
            rw [List.getElem?_eq_getElem hp] at hx
            obtain rfl := Option.some.inj hx
            exact hl
          · exact Hlow.out j x (by omega) hx
        go_wp2_with fail
        go_round
        case rel => exact ⟨k + 1, by omega, by go_num, Hl.out⟩
        case measure => simp [intOf]; omega
      have HI : Hid (inN b nm = k) := inN_at hk Hlow.out (fun x hx => by
        rw [List.getElem?_eq_getElem hp] at hx
        obtain rfl := Option.some.inj hx
        exact hl)
      go_wp2_with fail
      clear q3 hl hS
      obtain ⟨gx, cx, hgx⟩ := own_ptr2 Hrow.out (by omega)
      obtain ⟨hga, -, rfl⟩ := Value.slice.inj hgx
      obtain ⟨rfl, rfl, -⟩ := Addr.mk.inj (Option.some.inj hga)
      clear hgx hga
    case' neg =>
      have HI : Hid (inN b nm = k) := inN_at hk Hlow.out (fun x hx => by
        have := (List.getElem?_eq_some_iff.1 hx).1; omega)
      go_wp2_with fail
      rcases Hrow.out.2 with ⟨hnil, hn0⟩ | ⟨g, cx, curx, hgx, -⟩
      case inl =>
        obtain ⟨rfl, -, rfl⟩ := Value.slice.inj hnil
        clear hnil
        have hk0 : k = 0 := by omega
        have hps0 : ps = [] := List.length_eq_zero_iff.1 (by omega)
        rw [hn0] at z1
        have hS1 : World.cell? w6.drew ⟨w3.heap.size, 1, none⟩ = some (.slice none 0 0) := z1
        clear z0 z1 e0 e1
        refine wp_region_x 18 (fun w' => World.cell? w' ⟨w3.heap.size, 1, none⟩ = some (.slice none 0 0)) (by kernel_rfl) ?_
        refine tkx 1 rfl hS1 ?_
        refine tkx 2 rfl hS1 ?_
        refine tkx 3 rfl hS1 ?_
        refine tkx 4 rfl hS1 ?_
        refine tkx 6 rfl hS1 ?_
        refine tkx 7 rfl hS1 ?_
        refine tkx 12 rfl hS1 ?_
        refine tkx 13 rfl hS1 ?_
        refine tkx 14 rfl hS1 ?_
        refine tkx 15 rfl hS1 ?_

        have hown0 : (w6.drew.alloc (.cells #[] 32)).ownsRow w6.heap.size 32 3 (.slice (some ⟨w6.heap.size, 0, none⟩) 0 0) 0 [] := World.ownsRow_lit w6.drew #[] 0 (Nat.le_refl _) (by unfold maxLen; omega) rfl
        have hb0 : Below w6.heap.size w6 (w6.drew.alloc (.cells #[] 32)) := ((Below.refl w6.heap.size w6).drew).alloc (Nat.le_refl _) _
        have hxl : w3.heap.size < w6.heap.size := by omega
        have mk : ∀ W, Below w6.heap.size w6 W → World.cell? W ⟨w3.heap.size, 1, none⟩ = some (.slice none 0 0) := fun W hb => (hb.cell (p := ⟨w3.heap.size, 1, none⟩) hxl).trans hS1
        have hSl := mk _ hb0
        refine onx 0 rfl (fun K hK => ?_)
        go_simp
        refine gox hK hSl ?_; clear hK K
        have hown7 := hown0
        have hb7 := hb0
        have hS7 := hSl
        have hww : w6.drew.alloc (.cells #[] 32) = (w6.alloc (.cells #[] 32)).drew := rfl
        rw [hww] at hown7 hb7 hS7
        clear hww hown0 hb0 hSl
        generalize (w6.alloc (.cells #[] 32)).drew = w7 at *
        refine onx 5 rfl (fun K hK => ?_)
        refine step_append_zero rfl _ _ 24 rfl w6.heap.size 32 ii 3 Tryz.underlying24 hi _ _ _ rfl hown7 none 0 rfl ?_
        refine gox hK hS7 ?_; clear hK K
        refine onx 8 rfl (fun K hK => ?_)
        go_simp
        go_wp2_with (go_at_call 73; refine (names11_any needs _ _ (hN.up hb7) hnn).mono ?_; rintro e w8 ⟨⟨nu, rfl, hon, -⟩, hb8⟩; have hb68 := up_trans hb7 hb8; obtain ⟨an, cn, rfl⟩ := hon.lst.shape; have hS8 := mk _ hb68)
        refine gox hK hS8 ?_; clear hK K
        refine tkx 9 rfl hS8 ?_
        have hown8 := (own_up hown7 hb8).alloc (.cells #[.string nm, .slice none 0 0, .slice an needs.length cn] 32)
        have hb8a : Below w6.heap.size w6 (w8.alloc (.cells #[.string nm, .slice none 0 0, .slice an needs.length cn] 32)) := hb68.alloc hb68.size _
        have hSA := mk _ hb8a
        refine onx 10 rfl (fun K hK => ?_)
        go_simp
        refine gox hK hSA ?_; clear hK K
        refine onx 11 rfl (fun K hK => ?_)
        refine step_append_own rfl _ _ 24 rfl w6.heap.size 32 ii _ 3 64 Tryz.underlying24 hi iz0 iz1 iz2 rfl (by decide) _ _ _ rfl hown8 ⟨w8.heap.size, 0, none⟩ 1 1 [.string nm, .slice none 0 0, .slice an needs.length cn] rfl rfl (fun j u hj => hnew3 _ _ _ _ _ hj) (by simp [Value.oneCell']) (by unfold maxLen; omega) (by omega) hb8a.size ?_
        intro v2 w9 hown9 hgr9
        have hb9 := below_own hb8a hown8 hgr9 (Nat.le_refl _)
        have hon8 : OwnT w8 w6.heap.size (.slice an needs.length cn) needs := own_low hon (by have := hb7.size; omega)
        have hon9 := own_step (hon8.up ((Below.refl w8.heap.size w8).alloc (Nat.le_refl _) (.cells #[.string nm, .slice none 0 0, .slice an needs.length cn] 32))) hown8 hgr9
        have hS9 := mk _ hb9
        clear hgr9 hown8 hb8a hSA hS8 hon
        refine gox hK hS9 ?_; clear hK K

        refine onx 16 rfl (fun K hK => ?_)
        refine step_append_zero rfl _ _ 24 rfl w6.heap.size 32 ii 3 Tryz.underlying24 hi _ _ _ rfl hown9 none 0 rfl ?_
        have hb10 := hb9
        have hon10 := hon9
        have hS10 := hS9
        have hW10 : w9.ownsRow w6.heap.size 32 3 v2 (ps.take k ++ ((⟨nm, [], needs⟩, .slice none 0 0, .slice an needs.length cn) : Bv) :: ps.drop k).length (rowsB (ps.take k ++ ((⟨nm, [], needs⟩, .slice none 0 0, .slice an needs.length cn) : Bv) :: ps.drop k)) := by
          have e1 : 0 + 1 = (ps.take k ++ ((⟨nm, [], needs⟩, .slice none 0 0, .slice an needs.length cn) : Bv) :: ps.drop k).length := by rw [hps0]; simp
          have e2 : [] ++ [.string nm, .slice none 0 0, .slice an needs.length cn] = rowsB (ps.take k ++ ((⟨nm, [], needs⟩, .slice none 0 0, .slice an needs.length cn) : Bv) :: ps.drop k) := by rw [hps0]; simp [rowsB, rowB]
          rw [← e1, ← e2]; exact hown9
        have Hn0 : Hid (b.bs.length = 0) := hn0
        clear hown9 hon9 hS9 hb9 hn0 hk0 hps0
        generalize w9 = w10 at *
        refine gox hK hS10 ?_; clear hK K
        have HM : Hid ((ps.take k ++ ((⟨nm, [], needs⟩, .slice none 0 0, .slice an needs.length cn) : Bv) :: ps.drop k).map (·.1) = b.bs.take k ++ ⟨nm, [], needs⟩ :: b.bs.drop k) := by
          show _ = _
          rw [← x3, List.map_append, List.map_cons, List.map_take, List.map_drop]
        have Hmem : Hid (∀ q ∈ ps.take k ++ ((⟨nm, [], needs⟩, .slice none 0 0, .slice an needs.length cn) : Bv) :: ps.drop k, q ∈ ps ∨ q = ((⟨nm, [], needs⟩, .slice none 0 0, .slice an needs.length cn) : Bv)) := fun q hq => by
          rcases List.mem_append.1 hq with h | h
          · exact .inl (List.mem_of_mem_take h)
          · rcases List.mem_cons.1 h with h | h
            · exact .inr h
            · exact .inl (List.mem_of_mem_drop h)
        have hlN : (ps.take k ++ ((⟨nm, [], needs⟩, .slice none 0 0, .slice an needs.length cn) : Bv) :: ps.drop k).length = b.bs.length + 1 := by simp; omega
        generalize (ps.take k ++ ((⟨nm, [], needs⟩, .slice none 0 0, .slice an needs.length cn) : Bv) :: ps.drop k) = qs at *
        have HlN : Hid (b.bs.length + 1 = qs.length) := hlN.symm
        rw [hlN] at hW10
        clear hlN
        obtain ⟨a10, c10, rfl⟩ := own_shape hW10
        have kX10 := kX.up hb10 (by omega)
        have kR10 := kR.up hb10 (by omega)
        obtain ⟨⟨j0, j1⟩, m0, m1⟩ := kX10.c2
        refine tkx 17 rfl hS10 ?_
        refine onx 18 rfl (fun K hK => ?_)
        go_simp
        refine finx hK ?_
        clear hK K
        refine anyX_done (by kernel_rfl) ?_ _
        clear hS1 hS7 hS10 j0 j1 m0 m1 mk
        have kX11 : CB (w10.setCell ⟨w3.heap.size, 1, none⟩ (.slice a10 (b.bs.length + 1) c10)) w3.heap.size [.slice a3 b.things.length c3, .slice a10 (b.bs.length + 1) c10] := kX10.set (j := 1) (by simp)
        have kR11 : CB (w10.setCell ⟨w3.heap.size, 1, none⟩ (.slice a10 (b.bs.length + 1) c10)) (w.heap.size + 1) [.slice none 0 0, .slice none 0 0] := kR10.other (by omega)
        have hL11 : Below w3.heap.size w3 (w10.setCell ⟨w3.heap.size, 1, none⟩ (.slice a10 (b.bs.length + 1) c10)) := (hL6.trans (hb10.mono (by omega))).setCell (p := ⟨w3.heap.size, 1, none⟩) (Nat.le_refl _) _
        have hB11 : Below w.heap.size w (w10.setCell ⟨w3.heap.size, 1, none⟩ (.slice a10 (b.bs.length + 1) c10)) := (up_trans hB hb10).setCell (p := ⟨w3.heap.size, 1, none⟩) (by show _ ≤ w3.heap.size; omega) _
        have hrow11 : (w10.setCell ⟨w3.heap.size, 1, none⟩ (.slice a10 (b.bs.length + 1) c10)).ownsRow w6.heap.size 32 3 (.slice a10 (b.bs.length + 1) c10) (b.bs.length + 1) (rowsB qs) := own_grown hW10 (grown_setCell (grown_refl _ _) _) hxl
        have hon11 : OwnT (w10.setCell ⟨w3.heap.size, 1, none⟩ (.slice a10 (b.bs.length + 1) c10)) w6.heap.size (.slice an needs.length cn) needs := own_grown hon10 (grown_setCell (grown_refl _ _) _) hxl
        have x11 := X1.up hL11
        have hW11 : BsW (w10.setCell ⟨w3.heap.size, 1, none⟩ (.slice a10 (b.bs.length + 1) c10)) w2.heap.size (.slice a10 (b.bs.length + 1) c10) qs := bsW_mk (own_low hrow11 (by omega)) rfl HlN.out (fun q hq => by
          rcases Hmem.out q hq with h | rfl
          · obtain ⟨q1, q2, q3⟩ := X2.2 q h
            exact ⟨q1.up hL11, q2.up hL11, q3⟩
          · exact ⟨World.ownsRow_nil _ _ _ _, own_low hon11 (by omega), hnm⟩)
        clear kX10 kR10 hW10 hon10 hrow11 hon11 X1 X2 hL11 hb10 hB
        generalize w10.setCell ⟨w3.heap.size, 1, none⟩ (.slice a10 (b.bs.length + 1) c10) = W11 at *
        have hbk' : BkW W11 w2.heap.size (.agg #[.slice a3 b.things.length c3, .slice a10 (b.bs.length + 1) c10]) ⟨b.things, b.bs.take k ++ ⟨nm, [], needs⟩ :: b.bs.drop k⟩ := ⟨_, _, qs, rfl, x11, hW11, HM.out⟩
        have hmem' : ∀ y ∈ b.bs.take k ++ (⟨nm, [], needs⟩ : Ba) :: b.bs.drop k, y ∈ b.bs ∨ y = ⟨nm, [], needs⟩ := fun q hq => by
          rcases List.mem_append.1 hq with h | h
          · exact .inl (List.mem_of_mem_take h)
          · rcases List.mem_cons.1 h with h | h
            · exact .inr h
            · exact .inl (List.mem_of_mem_drop h)
        have hbv := hbk'.bk ⟨hsz.1, fun y hy => by
          rcases hmem' y hy with h | rfl
          · exact hsz.2 y h
          · exact ⟨fun s hs => by simp at hs, hNz⟩⟩
        obtain ⟨s1, s2, s3⟩ := ok_small (book_ok HOK.out)
        have hpn := part_short Hpart.out
        have Hcopy : Hid (∀ (v : Value) (w : World), BkV w v ⟨b.things, b.bs.take k ++ ⟨nm, [], needs⟩ :: b.bs.drop k⟩ → Calls Tryz.prog 49 #[v] w fun e w' => (∃ v', e = .returned v' ∧ BkW w' w.heap.size v' ⟨b.things, b.bs.take k ++ ⟨nm, [], needs⟩ :: b.bs.drop k⟩) ∧ Below w.heap.size w w') := fun v w h => copyS_any _ v w h (by show b.things.length ≤ 100; omega) (by show (b.bs.take k ++ (⟨nm, [], needs⟩ : Ba) :: b.bs.drop k).length ≤ 100; simp; omega) (fun y hy => by
          rcases hmem' y hy with h | rfl
          · have := s3 y h; omega
          · simp; omega)
        have HC2 : Hid (enterC b nm needs = 0 ∧ enterB b nm needs = ⟨b.things, b.bs.take k ++ ⟨nm, [], needs⟩ :: b.bs.drop k⟩) := by show _ ∧ _; rw [← HI.out]; exact HC.out
        clear hmem' s1 s2 s3 hpn HM Hmem hW11 x11 HC HI hbk'
        generalize (⟨b.things, b.bs.take k ++ ⟨nm, [], needs⟩ :: b.bs.drop k⟩ : Bk) = b' at *
        obtain ⟨⟨z0, z1⟩, -⟩ := kX11.c2
        go_wp2_with fail
        refine (Hcopy.out _ _ hbv).mono ?_
        rintro e w12 ⟨⟨v', rfl, hV⟩, hb12⟩
        obtain ⟨a5, c5, a6, c6, qs', rfl, -⟩ := hV.parts
        have kR12 := kR11.up hb12 kR11.2.2
        have hrl := kR11.2.2
        have hB12 := up_trans hB11 hb12
        clear z0 z1
        obtain ⟨⟨y0, y1⟩, f0, f1⟩ := kR12.c2
        go_wp2_with fail
        refine end_cb2b Tryz.results69 Tryz.underlying26 rfl sizeBk1 kR12 rfl rfl ?_
        refine ⟨⟨_, ret_pair HC2.out.1.symm, ?_⟩, below_set2 hB12 (Nat.le_succ _) _ _⟩
        rw [HC2.out.2]
        exact ((BkW.set (BkW.set hV hrl) hrl).low (by omega))
      case' inr =>
        obtain ⟨rfl, -, rfl⟩ := Value.slice.inj hgx
        clear hgx
    all_goals
      have hrow := Hrow.out
      obtain ⟨hc4, hc9⟩ := own_cap2 hrow
      have hgl := hrow.lt g rfl
      unfold maxLen at hc9
      have hkc : k ≤ c4 := by omega
      have hw4 : ¬ (b.bs.length : Int) < (k : Int) := by omega
      obtain ⟨o2, ho2, hq2⟩ : ∃ o2 : Nat, (if c4 = k then some (⟨g, 0, none⟩ : Addr) else some ⟨g, k * 3, none⟩) = some ⟨g, o2, none⟩ ∧ (b.bs.length - k ≠ 0 → o2 = k * 3) := by
        by_cases h7 : c4 = k
        · exact ⟨0, by rw [if_pos h7], fun h => by omega⟩
        · exact ⟨k * 3, by rw [if_neg h7], fun _ => rfl⟩

      have hS1 : World.cell? w6.drew ⟨w3.heap.size, 1, none⟩ = some (.slice (some ⟨g, 0, none⟩) b.bs.length c4) := z1
      clear z0 z1 e0 e1
      refine wp_region_x 18 (fun w' => World.cell? w' ⟨w3.heap.size, 1, none⟩ = some (.slice (some ⟨g, 0, none⟩) b.bs.length c4)) (by kernel_rfl) ?_
      refine tkx 1 rfl hS1 ?_
      refine tkx 2 rfl hS1 ?_
      refine tkx 3 rfl hS1 ?_
      refine tkx 4 rfl hS1 ?_
      refine tkx 6 rfl hS1 ?_
      refine tkx 7 rfl hS1 ?_
      refine tkx 12 rfl hS1 ?_
      refine tkx 13 rfl hS1 ?_
      refine tkx 14 rfl hS1 ?_
      refine tkx 15 rfl hS1 ?_
      have hown0 : (w6.drew.alloc (.cells #[] 32)).ownsRow w6.heap.size 32 3 (.slice (some ⟨w6.heap.size, 0, none⟩) 0 0) 0 [] := World.ownsRow_lit w6.drew #[] 0 (Nat.le_refl _) (by unfold maxLen; omega) rfl
      have hb0 : Below w6.heap.size w6 (w6.drew.alloc (.cells #[] 32)) := ((Below.refl w6.heap.size w6).drew).alloc (Nat.le_refl _) _
      have hxl : w3.heap.size < w6.heap.size := by omega
      have mk : ∀ W, Below w6.heap.size w6 W → World.cell? W ⟨w3.heap.size, 1, none⟩ = some (.slice (some ⟨g, 0, none⟩) b.bs.length c4) := fun W hb => (hb.cell (p := ⟨w3.heap.size, 1, none⟩) hxl).trans hS1
      have hSl := mk _ hb0
      refine onx 0 rfl (fun K hK => ?_)
      go_simp
      refine gox hK hSl ?_; clear hK K
      have hsrc1 := rows_cells (own_up hrow hb0) 0 (ps.take k) (take_at ps k)
      have hone1 := X2.one (ps.take k) (fun q hq => List.mem_of_mem_take hq)
      have hone2 := X2.one (ps.drop k) (fun q hq => List.mem_of_mem_drop hq)
      have hlen1 : (rowsB (ps.take k)).length = k * 3 := by rw [rowsB_length, List.length_take]; omega
      have hlen2 : (rowsB (ps.drop k)).length = (b.bs.length - k) * 3 := by rw [rowsB_length, List.length_drop]; omega
      refine onx 5 rfl (fun K hK => ?_)
      refine step_append_own rfl _ _ 24 rfl w6.heap.size 32 ii _ 3 64 Tryz.underlying24 hi iz0 iz1 iz2 rfl (by decide) _ 0 [] rfl hown0 ⟨g, 0, none⟩ k c4 (rowsB (ps.take k)) rfl hlen1 hsrc1 hone1 (by unfold maxLen; omega) (by omega) hb0.size ?_
      intro v1 w7 hown7 hgr7
      have hb7 := below_own hb0 hown0 hgr7 (Nat.le_refl _)
      have hS7 := mk _ hb7
      clear hgr7 hown0 hsrc1 hone1 hSl
      refine gox hK hS7 ?_; clear hK K
      refine onx 8 rfl (fun K hK => ?_)
      go_simp
      go_wp2_with (go_at_call 73; refine (names11_any needs _ _ (hN.up hb7) hnn).mono ?_; rintro e w8 ⟨⟨nu, rfl, hon, -⟩, hb8⟩; have hb68 := up_trans hb7 hb8; obtain ⟨an, cn, rfl⟩ := hon.lst.shape; have hS8 := mk _ hb68)
      refine gox hK hS8 ?_; clear hK K
      refine tkx 9 rfl hS8 ?_
      have hown8 := (own_up hown7 hb8).alloc (.cells #[.string nm, .slice none 0 0, .slice an needs.length cn] 32)
      have hb8a : Below w6.heap.size w6 (w8.alloc (.cells #[.string nm, .slice none 0 0, .slice an needs.length cn] 32)) := hb68.alloc hb68.size _
      have hSA := mk _ hb8a
      refine onx 10 rfl (fun K hK => ?_)
      go_simp
      refine gox hK hSA ?_; clear hK K
      refine onx 11 rfl (fun K hK => ?_)
      refine step_append_own rfl _ _ 24 rfl w6.heap.size 32 ii _ 3 64 Tryz.underlying24 hi iz0 iz1 iz2 rfl (by decide) _ _ _ rfl hown8 ⟨w8.heap.size, 0, none⟩ 1 1 [.string nm, .slice none 0 0, .slice an needs.length cn] rfl rfl (fun j u hj => hnew3 _ _ _ _ _ hj) (by simp [Value.oneCell']) (by unfold maxLen; omega) (by omega) hb8a.size ?_
      intro v2 w9 hown9 hgr9
      have hb9 := below_own hb8a hown8 hgr9 (Nat.le_refl _)
      have hon8 : OwnT w8 w6.heap.size (.slice an needs.length cn) needs := own_low hon (by have := hb7.size; omega)
      have hon9 := own_step (hon8.up ((Below.refl w8.heap.size w8).alloc (Nat.le_refl _) (.cells #[.string nm, .slice none 0 0, .slice an needs.length cn] 32))) hown8 hgr9
      have hS9 := mk _ hb9
      clear hgr9 hown8 hb8a hSA hS8 hon
      refine gox hK hS9 ?_; clear hK K
      have hrow9 := own_up hrow hb9
      have hsrc2 : ∀ (j : Nat) (u : Value), (rowsB (ps.drop k))[j]? = some u → w9.cell? ((⟨g, o2, none⟩ : Addr).add j) = some u := fun j u hu => by
        have hj := (List.getElem?_eq_some_iff.1 hu).1
        rw [hq2 (by omega)]
        exact rows_cells hrow9 k (ps.drop k) (drop_at ps k) j u hu
      refine onx 16 rfl (fun K hK => ?_)
      refine step_append_own rfl _ _ 24 rfl w6.heap.size 32 ii _ 3 64 Tryz.underlying24 hi iz0 iz1 iz2 rfl (by decide) _ _ _ rfl hown9 ⟨g, o2, none⟩ (b.bs.length - k) _ (rowsB (ps.drop k)) rfl hlen2 hsrc2 hone2 (by unfold maxLen; omega) (by omega) hb9.size ?_
      intro v3 w10 hown10 hgr10
      have hb10 := below_own hb9 hown9 hgr10 (Nat.le_refl _)
      have hon10 := own_step hon9 hown9 hgr10
      have hS10 := mk _ hb10
      have hW10 : w10.ownsRow w6.heap.size 32 3 v3 (ps.take k ++ ((⟨nm, [], needs⟩, .slice none 0 0, .slice an needs.length cn) : Bv) :: ps.drop k).length (rowsB (ps.take k ++ ((⟨nm, [], needs⟩, .slice none 0 0, .slice an needs.length cn) : Bv) :: ps.drop k)) := by
        have e1 : 0 + k + 1 + (b.bs.length - k) = (ps.take k ++ ((⟨nm, [], needs⟩, .slice none 0 0, .slice an needs.length cn) : Bv) :: ps.drop k).length := by simp; omega
        have e2 : [] ++ rowsB (ps.take k) ++ [.string nm, .slice none 0 0, .slice an needs.length cn] ++ rowsB (ps.drop k) = rowsB (ps.take k ++ ((⟨nm, [], needs⟩, .slice none 0 0, .slice an needs.length cn) : Bv) :: ps.drop k) := by rw [rowsB_append, rowsB]; simp [rowB]
        rw [← e1, ← e2]; exact hown10
      clear hgr10 hown10 hrow9 hsrc2 hown9 hon9 hS9 hone2 hlen1 hlen2 hb9
      refine gox hK hS10 ?_; clear hK K
      have HM : Hid ((ps.take k ++ ((⟨nm, [], needs⟩, .slice none 0 0, .slice an needs.length cn) : Bv) :: ps.drop k).map (·.1) = b.bs.take k ++ ⟨nm, [], needs⟩ :: b.bs.drop k) := by
        show _ = _
        rw [← x3, List.map_append, List.map_cons, List.map_take, List.map_drop]
      have Hmem : Hid (∀ q ∈ ps.take k ++ ((⟨nm, [], needs⟩, .slice none 0 0, .slice an needs.length cn) : Bv) :: ps.drop k, q ∈ ps ∨ q = ((⟨nm, [], needs⟩, .slice none 0 0, .slice an needs.length cn) : Bv)) := fun q hq => by
        rcases List.mem_append.1 hq with h | h
        · exact .inl (List.mem_of_mem_take h)
        · rcases List.mem_cons.1 h with h | h
          · exact .inr h
          · exact .inl (List.mem_of_mem_drop h)
      have hlN : (ps.take k ++ ((⟨nm, [], needs⟩, .slice none 0 0, .slice an needs.length cn) : Bv) :: ps.drop k).length = b.bs.length + 1 := by simp; omega
      generalize (ps.take k ++ ((⟨nm, [], needs⟩, .slice none 0 0, .slice an needs.length cn) : Bv) :: ps.drop k) = qs at *
      have HlN : Hid (b.bs.length + 1 = qs.length) := hlN.symm
      rw [hlN] at hW10
      clear hlN
      obtain ⟨a10, c10, rfl⟩ := own_shape hW10
      have kX10 := kX.up hb10 (by omega)
      have kR10 := kR.up hb10 (by omega)
      obtain ⟨⟨j0, j1⟩, m0, m1⟩ := kX10.c2
      refine tkx 17 rfl hS10 ?_
      refine onx 18 rfl (fun K hK => ?_)
      go_simp
      refine finx hK ?_
      clear hK K
      refine anyX_done (by kernel_rfl) ?_ _
      clear hS1 hS7 hS10 j0 j1 m0 m1 mk
      have kX11 : CB (w10.setCell ⟨w3.heap.size, 1, none⟩ (.slice a10 (b.bs.length + 1) c10)) w3.heap.size [.slice a3 b.things.length c3, .slice a10 (b.bs.length + 1) c10] := kX10.set (j := 1) (by simp)
      have kR11 : CB (w10.setCell ⟨w3.heap.size, 1, none⟩ (.slice a10 (b.bs.length + 1) c10)) (w.heap.size + 1) [.slice none 0 0, .slice none 0 0] := kR10.other (by omega)
      have hL11 : Below w3.heap.size w3 (w10.setCell ⟨w3.heap.size, 1, none⟩ (.slice a10 (b.bs.length + 1) c10)) := (hL6.trans (hb10.mono (by omega))).setCell (p := ⟨w3.heap.size, 1, none⟩) (Nat.le_refl _) _
      have hB11 : Below w.heap.size w (w10.setCell ⟨w3.heap.size, 1, none⟩ (.slice a10 (b.bs.length + 1) c10)) := (up_trans hB hb10).setCell (p := ⟨w3.heap.size, 1, none⟩) (by show _ ≤ w3.heap.size; omega) _
      have hrow11 : (w10.setCell ⟨w3.heap.size, 1, none⟩ (.slice a10 (b.bs.length + 1) c10)).ownsRow w6.heap.size 32 3 (.slice a10 (b.bs.length + 1) c10) (b.bs.length + 1) (rowsB qs) := own_grown hW10 (grown_setCell (grown_refl _ _) _) hxl
      have hon11 : OwnT (w10.setCell ⟨w3.heap.size, 1, none⟩ (.slice a10 (b.bs.length + 1) c10)) w6.heap.size (.slice an needs.length cn) needs := own_grown hon10 (grown_setCell (grown_refl _ _) _) hxl
      have x11 := X1.up hL11
      have hW11 : BsW (w10.setCell ⟨w3.heap.size, 1, none⟩ (.slice a10 (b.bs.length + 1) c10)) w2.heap.size (.slice a10 (b.bs.length + 1) c10) qs := bsW_mk (own_low hrow11 (by omega)) rfl HlN.out (fun q hq => by
        rcases Hmem.out q hq with h | rfl
        · obtain ⟨q1, q2, q3⟩ := X2.2 q h
          exact ⟨q1.up hL11, q2.up hL11, q3⟩
        · exact ⟨World.ownsRow_nil _ _ _ _, own_low hon11 (by omega), hnm⟩)
      clear kX10 kR10 hW10 hon10 hrow11 hon11 X1 X2 hL11 hb10 hB
      generalize w10.setCell ⟨w3.heap.size, 1, none⟩ (.slice a10 (b.bs.length + 1) c10) = W11 at *
      have hbk' : BkW W11 w2.heap.size (.agg #[.slice a3 b.things.length c3, .slice a10 (b.bs.length + 1) c10]) ⟨b.things, b.bs.take k ++ ⟨nm, [], needs⟩ :: b.bs.drop k⟩ := ⟨_, _, qs, rfl, x11, hW11, HM.out⟩
      have hmem' : ∀ y ∈ b.bs.take k ++ (⟨nm, [], needs⟩ : Ba) :: b.bs.drop k, y ∈ b.bs ∨ y = ⟨nm, [], needs⟩ := fun q hq => by
        rcases List.mem_append.1 hq with h | h
        · exact .inl (List.mem_of_mem_take h)
        · rcases List.mem_cons.1 h with h | h
          · exact .inr h
          · exact .inl (List.mem_of_mem_drop h)
      have hbv := hbk'.bk ⟨hsz.1, fun y hy => by
        rcases hmem' y hy with h | rfl
        · exact hsz.2 y h
        · exact ⟨fun s hs => by simp at hs, hNz⟩⟩
      obtain ⟨s1, s2, s3⟩ := ok_small (book_ok HOK.out)
      have hpn := part_short Hpart.out
      have Hcopy : Hid (∀ (v : Value) (w : World), BkV w v ⟨b.things, b.bs.take k ++ ⟨nm, [], needs⟩ :: b.bs.drop k⟩ → Calls Tryz.prog 49 #[v] w fun e w' => (∃ v', e = .returned v' ∧ BkW w' w.heap.size v' ⟨b.things, b.bs.take k ++ ⟨nm, [], needs⟩ :: b.bs.drop k⟩) ∧ Below w.heap.size w w') := fun v w h => copyS_any _ v w h (by show b.things.length ≤ 100; omega) (by show (b.bs.take k ++ (⟨nm, [], needs⟩ : Ba) :: b.bs.drop k).length ≤ 100; simp; omega) (fun y hy => by
        rcases hmem' y hy with h | rfl
        · have := s3 y h; omega
        · simp; omega)
      have HC2 : Hid (enterC b nm needs = 0 ∧ enterB b nm needs = ⟨b.things, b.bs.take k ++ ⟨nm, [], needs⟩ :: b.bs.drop k⟩) := by show _ ∧ _; rw [← HI.out]; exact HC.out
      clear hmem' s1 s2 s3 hpn HM Hmem hW11 x11 HC HI hbk'
      generalize (⟨b.things, b.bs.take k ++ ⟨nm, [], needs⟩ :: b.bs.drop k⟩ : Bk) = b' at *
      obtain ⟨⟨z0, z1⟩, -⟩ := kX11.c2
      go_wp2_with fail
      refine (Hcopy.out _ _ hbv).mono ?_
      rintro e w12 ⟨⟨v', rfl, hV⟩, hb12⟩
      obtain ⟨a5, c5, a6, c6, qs', rfl, -⟩ := hV.parts
      have kR12 := kR11.up hb12 kR11.2.2
      have hrl := kR11.2.2
      have hB12 := up_trans hB11 hb12
      clear z0 z1
      obtain ⟨⟨y0, y1⟩, f0, f1⟩ := kR12.c2
      go_wp2_with fail
      refine end_cb2b Tryz.results69 Tryz.underlying26 rfl sizeBk1 kR12 rfl rfl ?_
      refine ⟨⟨_, ret_pair HC2.out.1.symm, ?_⟩, below_set2 hB12 (Nat.le_succ _) _ _⟩
      rw [HC2.out.2]
      exact ((BkW.set (BkW.set hV hrl) hrl).low (by omega))
end Go.Proofs.YtnojjmkmkelbgaaGreat
