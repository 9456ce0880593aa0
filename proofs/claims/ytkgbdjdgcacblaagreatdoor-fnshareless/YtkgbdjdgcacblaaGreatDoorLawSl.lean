/- The law of promise 12: its walk. -/
import Derived.Test.YtkgbdjdgcacblaaGreatDoorDne
import Derived.Test.YtkgbdjdgcacblaaGreatDoorSb
import Derived.Test.YtkgbdjdgcacblaaGreatDoorJ41
import Derived.Test.YtkgbdjdgcacblaaGreatDoorJ45
import Derived.Test.YtkgbdjdgcacblaaGreatDoorJ48
namespace Go.Proofs.YtkgbdjdgcacblaaGreatDoor
open Go.RowKit

section
variable {P : Program} {ops : Array Oper} {Q : Exit → Act → World → Prop} {md : Region.Mode} {S : World → Prop} {L : Nat}
/-- A take that is told its slot. -/
theorem takeD (d : Option Tmp) {i : Nat} {oi : Oper} {v : Value} {fuel : Nat} {listed : Array Bool} {a : Act} {w : World} (hi : ops[i]? = some oi) (hd : oi.dst = d)
    (hs : Region.noSelect ops = true) (hf : Region.free md ops listed i = true) (hr : (Region.ready md ops listed).contains i = true) (hw : waitsB md ops L i = true)
    (hQ : ∀ c a w, Q (.panic c) (a.put d v) w → Q (.panic c) a w) (hg : Region.wanted oi (yielded ops a.tmps) = true) (hS : S w) (hy : ∀ w, S w → (execOp a.eval oi).run P w = .ok (.value v) w)
    (h : AnyX P md ops Q S L fuel (listed.setIfInBounds i true) (a.put d v) w) : AnyX P md ops Q S L (fuel + 1) listed a w := by
  subst hd
  exact anyX_take hi hs hf hr hw hQ hg hS hy h
theorem skipD (d : Option Tmp) {i : Nat} {oi : Oper} {fuel : Nat} {listed : Array Bool} {a : Act} {w : World} (hi : ops[i]? = some oi) (hd : oi.dst = d)
    (hs : Region.noSelect ops = true) (hf : Region.free md ops listed i = true) (hr : (Region.ready md ops listed).contains i = true) (hw : waitsB md ops L i = true)
    (hQ : ∀ c a w, Q (.panic c) (a.put d undef) w → Q (.panic c) a w) (hg : Region.wanted oi (yielded ops a.tmps) = false) (hS : S w)
    (h : AnyX P md ops Q S L fuel (listed.setIfInBounds i true) (a.put d undef) w) : AnyX P md ops Q S L (fuel + 1) listed a w := by
  subst hd
  exact anyX_skip hi hs hf hr hw hQ hg hS h
end
theorem BkW.two {w : World} {base : Nat} {v : Value} {b : Bk} (h : BkW w base v b) : ∃ a1 c1 a2 c2, v = .agg #[.slice a1 b.things.length c1, .slice a2 b.bs.length c2] := by
  obtain ⟨a1, c1, a2, c2, -, e, -⟩ := h.parts
  exact ⟨a1, c1, a2, c2, e⟩
theorem lessC_rng (b : Bk) (nm : ByteArray) (ls : List ByteArray) : lsnC b nm ls = 0 ∨ lsnC b nm ls = 1 ∨ 1 < lsnC b nm ls := by
  cases hb : bookB b
  · rw [(less_no hb).1]; omega
  cases hm : memS (nms b.bs) nm
  · rw [(less_none hb hm).1]; omega
  cases hp : pB (PartOk ls (needsAt b nm))
  · rw [(less_two hb hm hp).1]; omega
  · rw [(less_yes hb hm hp).1]; omega
theorem enterC_rng (b : Bk) (nm : ByteArray) (ls : List ByteArray) : enterC b nm ls = 0 ∨ enterC b nm ls = 1 ∨ 1 < enterC b nm ls := by
  unfold enterC
  repeat' split
  all_goals omega

/-- The first part: needing less. -/
def LessAt (b : Bk) (nm : ByteArray) (list : List ByteArray) : Prop := (∀ ss ss' ok', lsnC b nm list = 0 → OrderIs b ss true → OrderIs (lsnB b nm list) ss' ok' → ok' = true) ∧ (1 < lsnC b nm list → lsnB b nm list = b)
set_option maxRecDepth 20000 in
set_option maxHeartbeats 8000000 in
theorem lawShareLess_any (a : Option Addr) (n cap : Nat) (a' : Option Addr) (n' cap' : Nat) (w : World) (hE : ErrT w) (h : BytesAt w w.heap.size (.slice a n cap) n) (hcap : n ≤ cap) (hbig : cap ≤ maxLen) (h' : BytesAt w w.heap.size (.slice a' n' cap') n') (hcap' : n' ≤ cap') (hbig' : cap' ≤ maxLen) :
    Calls Tryz.prog 3 #[.slice a n cap, .slice a' n' cap'] w fun e' w' => e' = .returned (.bool true) ∧ Below w.heap.size w w' := by
  by_cases hn : 1048576 < n
  · go_enter Tryz.func3, Tryz.ntmps3
    go_wp2_with fail
    go_ret
    exact ⟨rfl, Below.refl _ _⟩
  by_cases hn' : 1048576 < n'
  · go_enter Tryz.func3, Tryz.ntmps3
    go_wp2_with fail
    go_ret
    exact ⟨rfl, Below.refl _ _⟩
  go_enter Tryz.func3, Tryz.ntmps3
  go_wp2_with fail
  refine (drawLess_any a n cap _ h hcap hbig).mono ?_
  rintro e w1 ⟨⟨u, b, nm, al, cl, list, rfl, hD, hnz, hol, hlz, hll⟩, hB1⟩
  obtain ⟨a1, c1, a2, c2, rfl⟩ := hD.parts
  have hz1 := hB1.size
  go_upto_region 4 with fail
  obtain ⟨W2, hW2, kX, hb2, hs2⟩ : ∃ W2, w1.alloc (.cells #[.slice a1 b.things.length c1, .slice a2 b.bs.length c2] 26) = W2 ∧ CB W2 w1.heap.size [.slice a1 b.things.length c1, .slice a2 b.bs.length c2] ∧ Below w1.heap.size w1 W2 ∧ W2.heap.size = w1.heap.size + 1 := ⟨_, rfl, cb1 w1 _ _⟩
  try rw [hW2]
  have hB2 := up_trans hB1 hb2
  have hk := hD.bk.up hb2
  have hL := (hol.lst.ls hlz).up hb2
  have Hsl : Hid (Szb (lsnB b nm list)) := szb_less hD.2.1 hlz
  have Hsv : Hid (Szb (leaveB b nm)) := szb_leave hD.2.1
  have hb50 : b.bs.length ≤ 50 := hD.2.2.2.1
  clear hW2 hb2 hs2 hD hB1 hol hlz
  generalize w1.heap.size = q at *
  obtain ⟨z0, z1⟩ := kX.c2'
  go_wp2_with fail
  refine (lessP_any b _ nm _ list _ hk hL (hE.up hB2)).mono ?_
  rintro e w3 ⟨⟨ux, rfl, hX⟩, hb3⟩
  obtain ⟨i1, j1, i2, j2, rfl⟩ := hX.shape
  have hXk := hX.bk Hsl.out
  have hB3 := up_trans hB2 hb3
  have kX := kX.up hb3 kX.2.2
  have hk := hk.up hb3
  have hL := hL.up hb3
  clear z0 z1 hb3 hB2 hX
  go_upto_region 5 with fail
  obtain ⟨W4, hW4, kG, hb4, hs4⟩ : ∃ W4, w3.alloc (.cells #[.slice i1 (lsnB b nm list).things.length j1, .slice i2 (lsnB b nm list).bs.length j2] 26) = W4 ∧ CB W4 w3.heap.size [.slice i1 (lsnB b nm list).things.length j1, .slice i2 (lsnB b nm list).bs.length j2] ∧ Below w3.heap.size w3 W4 ∧ W4.heap.size = w3.heap.size + 1 := ⟨_, rfl, cb1 w3 _ _⟩
  try rw [hW4]
  have hB4 := up_trans hB3 hb4
  have kX := kX.up hb4 kX.2.2
  have hk := hk.up hb4
  have hL := hL.up hb4
  have hXk := hXk.up hb4
  clear hW4 hb4 hs4 hB3
  generalize w3.heap.size = r at *
  obtain ⟨z0, z1⟩ := kX.c2'
  go_wp2_with fail
  refine (specLess_any b _ _ nm list _ hk hL (by omega)).mono ?_
  rintro e w5 ⟨⟨uy, rfl, hY⟩, hb5⟩
  obtain ⟨e1, f1, e2, f2, rfl⟩ := hY.two
  have hYk := hY.bk Hsl.out
  have hB5 := up_trans hB4 hb5
  have kX := kX.up hb5 kX.2.2
  have kG := kG.up hb5 kG.2.2
  have hk := hk.up hb5
  have hXk := hXk.up hb5
  clear z0 z1 hb5 hB4 hY hL
  go_upto_region 6 with fail
  obtain ⟨W6, hW6, kY, hb6, hs6⟩ : ∃ W6, w5.alloc (.cells #[.slice e1 (lsnB b nm list).things.length f1, .slice e2 (lsnB b nm list).bs.length f2] 26) = W6 ∧ CB W6 w5.heap.size [.slice e1 (lsnB b nm list).things.length f1, .slice e2 (lsnB b nm list).bs.length f2] ∧ Below w5.heap.size w5 W6 ∧ W6.heap.size = w5.heap.size + 1 := ⟨_, rfl, cb1 w5 _ _⟩
  try rw [hW6]
  have hB6 := up_trans hB5 hb6
  have kX := kX.up hb6 kX.2.2
  have kG := kG.up hb6 kG.2.2
  have hk := hk.up hb6
  have hXk := hXk.up hb6
  have hYk := hYk.up hb6
  clear hW6 hb6 hs6 hB5
  generalize w5.heap.size = s at *
  go_cut [82] (fun v82 wc => v82 = .bool false ∧ Below W6.heap.size W6 wc)
  case first =>
    obtain ⟨x0, x1⟩ := kX.c2'
    obtain ⟨g0, g1⟩ := kG.c2'
    obtain ⟨y0, y1⟩ := kY.c2'
    go_wp2_with fail
    refine (whBook_any (lsnB b nm list) _ _ _ hXk hYk).mono ?_
    rintro e w7 ⟨rfl, hb7⟩
    have kX := kX.up hb7 kX.2.2
    have kG := kG.up hb7 kG.2.2
    have hk := hk.up hb7
    have hXk := hXk.up hb7
    clear x0 x1 g0 g1 y0 y1 kY hYk
    obtain ⟨x0, x1⟩ := kX.c2'
    obtain ⟨g0, g1⟩ := kG.c2'
    have HF : Hid (∀ ss ss' ok', lsnC b nm list = 0 → OrderIs b ss true → OrderIs (lsnB b nm list) ss' ok' → ok' = true) := fun ss ss' ok' c o o' => safe_less c o o'
    have HS : Hid (1 < lsnC b nm list → lsnB b nm list = b) := less_stays
    rcases lessC_rng b nm list with hc | hc | hc
    · have hc0 : (lsnC b nm list == 0) = true := by simp [hc]
      have hc1 : ¬ 1 < lsnC b nm list := by omega
      have HF' : Hid (∀ ss ss' ok', OrderIs b ss true → OrderIs (lsnB b nm list) ss' ok' → ok' = true) := fun ss ss' ok' => HF.out ss ss' ok' hc
      clear HF HS hc
      go_wp2_with fail
      refine (safe_any b _ _ hk).mono ?_
      rintro e w8 ⟨⟨ss, ok, rfl, ho⟩, hb8⟩
      have kG := kG.up hb8 kG.2.2
      have hXk := hXk.up hb8
      have hb8 := up_trans hb7 hb8
      clear x0 x1 g0 g1
      obtain ⟨g0, g1⟩ := kG.c2'
      cases ok
      · go_wp2_with fail
        go_meet
        case rel => exact ⟨rfl, hb8⟩
      · go_wp2_with fail
        refine (safe_any (lsnB b nm list) _ _ hXk).mono ?_
        rintro e w9 ⟨⟨ss', ok', rfl, ho'⟩, hb9⟩
        obtain rfl := HF'.out ss ss' ok' ho ho'
        have hb9 := up_trans hb8 hb9
        go_wp2_with fail
        go_meet
        case rel => exact ⟨rfl, hb9⟩
    · have hc0 : (lsnC b nm list == 0) = false := by simp [hc]
      have hc1 : ¬ 1 < lsnC b nm list := by omega
      clear HF HS hc
      go_wp2_with fail
      go_meet
      case rel => exact ⟨rfl, hb7⟩
    · have hc0 : (lsnC b nm list == 0) = false := by simp; omega
      have hc1 : ¬ lsnC b nm list = 0 := by omega
      have hXb : BkV w7 (.agg #[.slice i1 (lsnB b nm list).things.length j1, .slice i2 (lsnB b nm list).bs.length j2]) b := by have := hXk; rwa [show lsnB b nm list = b from HS.out hc] at this ⊢
      go_wp2_with fail
      refine (whBook_any b _ _ _ hXb hk).mono ?_
      rintro e w8 ⟨rfl, hb8⟩
      have hb8 := up_trans hb7 hb8
      go_wp2_with fail
      go_meet
      case rel => exact ⟨rfl, hb8⟩
  case rest =>
  obtain ⟨rfl, hbc⟩ := hcut
  have hBc := up_trans hB6 hbc
  have kX := kX.up hbc kX.2.2
  have hk := hk.up hbc
  clear hB6 hbc hXk hYk kG kY
  obtain ⟨z0, z1⟩ := kX.c2'
  go_wp2_with fail
  refine (leaveP_any b _ nm _ hk (hE.up hBc)).mono ?_
  rintro e w3 ⟨⟨ux, rfl, hX⟩, hb3⟩
  obtain ⟨k1, l1, k2, l2, rfl⟩ := hX.shape
  have hXk := hX.bk Hsv.out
  have hB3 := up_trans hBc hb3
  have kX := kX.up hb3 kX.2.2
  have hk := hk.up hb3
  clear z0 z1 hb3 hBc hX
  go_upto_region 9 with fail
  obtain ⟨W4, hW4, kG, hb4, hs4⟩ : ∃ W4, w3.alloc (.cells #[.slice k1 (leaveB b nm).things.length l1, .slice k2 (leaveB b nm).bs.length l2] 26) = W4 ∧ CB W4 w3.heap.size [.slice k1 (leaveB b nm).things.length l1, .slice k2 (leaveB b nm).bs.length l2] ∧ Below w3.heap.size w3 W4 ∧ W4.heap.size = w3.heap.size + 1 := ⟨_, rfl, cb1 w3 _ _⟩
  try rw [hW4]
  have hB4 := up_trans hB3 hb4
  have kX := kX.up hb4 kX.2.2
  have hk := hk.up hb4
  have hXk := hXk.up hb4
  clear hW4 hb4 hs4 hB3
  generalize w3.heap.size = r2 at *
  obtain ⟨z0, z1⟩ := kX.c2'
  go_wp2_with fail
  refine (specLeave_any b _ nm _ hk).mono ?_
  rintro e w5 ⟨⟨uy, rfl, hY⟩, hb5⟩
  obtain ⟨m1, n1, m2, n2, rfl⟩ := hY.two
  have hYk := hY.bk Hsv.out
  have hB5 := up_trans hB4 hb5
  have kX := kX.up hb5 kX.2.2
  have kG := kG.up hb5 kG.2.2
  have hk := hk.up hb5
  have hXk := hXk.up hb5
  clear z0 z1 hb5 hB4 hY
  go_upto_region 10 with fail
  obtain ⟨W6, hW6, kY, hb6, hs6⟩ : ∃ W6, w5.alloc (.cells #[.slice m1 (leaveB b nm).things.length n1, .slice m2 (leaveB b nm).bs.length n2] 26) = W6 ∧ CB W6 w5.heap.size [.slice m1 (leaveB b nm).things.length n1, .slice m2 (leaveB b nm).bs.length n2] ∧ Below w5.heap.size w5 W6 ∧ W6.heap.size = w5.heap.size + 1 := ⟨_, rfl, cb1 w5 _ _⟩
  try rw [hW6]
  have hB6 := up_trans hB5 hb6
  have kX := kX.up hb6 kX.2.2
  have kG := kG.up hb6 kG.2.2
  have hk := hk.up hb6
  have hXk := hXk.up hb6
  have hYk := hYk.up hb6
  clear hW6 hb6 hs6 hB5
  generalize w5.heap.size = s2 at *
  go_cut [126] (fun v126 wd => v126 = .bool false ∧ Below W6.heap.size W6 wd)
  case first =>
    obtain ⟨x0, x1⟩ := kX.c2'
    obtain ⟨g0, g1⟩ := kG.c2'
    obtain ⟨y0, y1⟩ := kY.c2'
    go_wp2_with fail
    refine (whBook_any (leaveB b nm) _ _ _ hXk hYk).mono ?_
    rintro e w7 ⟨rfl, hb7⟩
    have kX := kX.up hb7 kX.2.2
    have kG := kG.up hb7 kG.2.2
    have hk := hk.up hb7
    have hXk := hXk.up hb7
    clear x0 x1 g0 g1 y0 y1 kY hYk
    obtain ⟨x0, x1⟩ := kX.c2'
    obtain ⟨g0, g1⟩ := kG.c2'
    by_cases hc : leaveC b nm = 0
    · have HF : Hid (∀ ss ss' ok', OrderIs b ss true → OrderIs (leaveB b nm) ss' ok' → ok' = true) := fun ss ss' ok' o o' => safe_leave hc o o'
      have Hlen : Hid ((leaveB b nm).bs.length + 1 = b.bs.length) := leave_less hc
      have hlm : (((leaveB b nm).bs.length : Int) != (b.bs.length : Int) - 1) = false := by have := Hlen.out; simp; omega
      have hc0 : (leaveC b nm == 0) = true := by simp [hc]
      clear hc
      go_wp2_with fail
      refine (safe_any b _ _ hk).mono ?_
      rintro e w8 ⟨⟨ss, ok, rfl, ho⟩, hb8⟩
      have kG := kG.up hb8 kG.2.2
      have hXk := hXk.up hb8
      have hb8 := up_trans hb7 hb8
      clear x0 x1 g0 g1
      obtain ⟨g0, g1⟩ := kG.c2'
      cases ok
      · go_wp2_with fail
        go_meet
        case rel => exact ⟨rfl, hb8⟩
      · go_wp2_with fail
        refine (safe_any (leaveB b nm) _ _ hXk).mono ?_
        rintro e w9 ⟨⟨ss', ok', rfl, ho'⟩, hb9⟩
        obtain rfl := HF.out ss ss' ok' ho ho'
        have hb9 := up_trans hb8 hb9
        go_wp2_with fail
        go_meet
        case rel => exact ⟨rfl, hb9⟩
    · have hc0 : (leaveC b nm == 0) = false := by simpa using hc
      go_wp2_with fail
      go_meet
      case rel => exact ⟨rfl, hb7⟩
  case rest =>
  obtain ⟨rfl, hbc⟩ := hcut
  have hBd := up_trans hB6 hbc
  clear hB6 hbc hXk hYk kG kY kX hk Hsl Hsv hb50 hll hnz
  go_wp2_with fail
  refine (drawEnter_any a' n' cap' _ (h'.up hBd hBd.size) hcap' hbig').mono ?_
  rintro e w1 ⟨⟨u, d, nn, al', cl', lst, rfl, hD, hnz, hol, hlz, hll⟩, hb1⟩
  obtain ⟨a3, c3, a4, c4, rfl⟩ := hD.parts
  have hB1 := up_trans hBd hb1
  clear hBd hb1
  go_upto_region 13 with fail
  obtain ⟨W2, hW2, kX, hb2, hs2⟩ : ∃ W2, w1.alloc (.cells #[.slice a3 d.things.length c3, .slice a4 d.bs.length c4] 26) = W2 ∧ CB W2 w1.heap.size [.slice a3 d.things.length c3, .slice a4 d.bs.length c4] ∧ Below w1.heap.size w1 W2 ∧ W2.heap.size = w1.heap.size + 1 := ⟨_, rfl, cb1 w1 _ _⟩
  try rw [hW2]
  have hB2 := up_trans hB1 hb2
  have hk := hD.bk.up hb2
  have hL := (hol.lst.ls hlz).up hb2
  have Hse : Hid (Szb (enterB d nn lst)) := szb_enter hD.2.1 hlz
  have hb50 : d.bs.length ≤ 50 := hD.2.2.2.1
  clear hW2 hb2 hs2 hD hB1 hol hlz
  generalize w1.heap.size = q at *
  obtain ⟨z0, z1⟩ := kX.c2'
  go_wp2_with fail
  refine (enterP_any d _ nn _ lst _ hk hL hnz (hE.up hB2)).mono ?_
  rintro e w3 ⟨⟨ux, rfl, hX⟩, hb3⟩
  obtain ⟨i3, j3, i4, j4, rfl⟩ := hX.shape
  have hXk := hX.bk Hse.out
  have hB3 := up_trans hB2 hb3
  have kX := kX.up hb3 kX.2.2
  have hk := hk.up hb3
  have hL := hL.up hb3
  clear z0 z1 hb3 hB2 hX
  go_upto_region 14 with fail
  obtain ⟨W4, hW4, kG, hb4, hs4⟩ : ∃ W4, w3.alloc (.cells #[.slice i3 (enterB d nn lst).things.length j3, .slice i4 (enterB d nn lst).bs.length j4] 26) = W4 ∧ CB W4 w3.heap.size [.slice i3 (enterB d nn lst).things.length j3, .slice i4 (enterB d nn lst).bs.length j4] ∧ Below w3.heap.size w3 W4 ∧ W4.heap.size = w3.heap.size + 1 := ⟨_, rfl, cb1 w3 _ _⟩
  try rw [hW4]
  have hB4 := up_trans hB3 hb4
  have kX := kX.up hb4 kX.2.2
  have hk := hk.up hb4
  have hL := hL.up hb4
  have hXk := hXk.up hb4
  clear hW4 hb4 hs4 hB3
  generalize w3.heap.size = r at *
  obtain ⟨z0, z1⟩ := kX.c2'
  go_wp2_with fail
  refine (specEnter_any d _ _ nn lst _ hk hL hnz (by omega)).mono ?_
  rintro e w5 ⟨⟨uy, rfl, hY⟩, hb5⟩
  obtain ⟨e3, f3, e4, f4, rfl⟩ := hY.two
  have hYk := hY.bk Hse.out
  have hB5 := up_trans hB4 hb5
  have kX := kX.up hb5 kX.2.2
  have kG := kG.up hb5 kG.2.2
  have hk := hk.up hb5
  have hXk := hXk.up hb5
  clear z0 z1 hb5 hB4 hY hL
  go_upto_region 15 with fail
  obtain ⟨W6, hW6, kY, hb6, hs6⟩ : ∃ W6, w5.alloc (.cells #[.slice e3 (enterB d nn lst).things.length f3, .slice e4 (enterB d nn lst).bs.length f4] 26) = W6 ∧ CB W6 w5.heap.size [.slice e3 (enterB d nn lst).things.length f3, .slice e4 (enterB d nn lst).bs.length f4] ∧ Below w5.heap.size w5 W6 ∧ W6.heap.size = w5.heap.size + 1 := ⟨_, rfl, cb1 w5 _ _⟩
  try rw [hW6]
  have hB6 := up_trans hB5 hb6
  have kX := kX.up hb6 kX.2.2
  have kG := kG.up hb6 kG.2.2
  have hk := hk.up hb6
  have hXk := hXk.up hb6
  have hYk := hYk.up hb6
  clear hW6 hb6 hs6 hB5
  generalize w5.heap.size = t at *
  have Mk : Hid (∀ X, Below W6.heap.size W6 X → (World.cell? X ⟨q, 0, none⟩ = some (.slice a3 d.things.length c3) ∧ World.cell? X ⟨q, 1, none⟩ = some (.slice a4 d.bs.length c4) ∧ World.cell? X ⟨r, 0, none⟩ = some (.slice i3 (enterB d nn lst).things.length j3) ∧ World.cell? X ⟨r, 1, none⟩ = some (.slice i4 (enterB d nn lst).bs.length j4) ∧ World.cell? X ⟨t, 0, none⟩ = some (.slice e3 (enterB d nn lst).things.length f3) ∧ World.cell? X ⟨t, 1, none⟩ = some (.slice e4 (enterB d nn lst).bs.length f4))) := fun X hX =>
    ⟨(kX.up hX kX.2.2).c2'.1, (kX.up hX kX.2.2).c2'.2, (kG.up hX kG.2.2).c2'.1, (kG.up hX kG.2.2).c2'.2, (kY.up hX kY.2.2).c2'.1, (kY.up hX kY.2.2).c2'.2⟩
  have hbd : Below W6.heap.size W6 W6.drew := (Below.refl _ _).drew
  have hS1 := Mk.out W6.drew hbd
  have HF : Hid (∀ ss ss' ok ok', enterC d nn lst = 0 → OrderIs d ss ok → OrderIs (enterB d nn lst) ss' ok' → ok' = ok ∧ (enterB d nn lst).bs.length = d.bs.length + 1) := fun ss ss' ok ok' c o o' => safe_enter c o o'
  have HS : Hid (1 < enterC d nn lst → BkV W6 (.agg #[.slice i3 (enterB d nn lst).things.length j3, .slice i4 (enterB d nn lst).bs.length j4]) d) := fun hc => by have := hXk; rwa [show enterB d nn lst = d from enter_stays hc] at this ⊢
  have Hr : Hid (enterC d nn lst = 0 ∨ enterC d nn lst = 1 ∨ 1 < enterC d nn lst) := enterC_rng d nn lst
  generalize enterC d nn lst = cc at *
  clear kX kG kY
  go_cut [4] (fun v4 wc => v4 = .bool true ∧ Below W6.heap.size W6 wc)
  case rest =>
    obtain ⟨rfl, hbc⟩ := hcut
    go_wp2_with fail
    go_ret
    exact ⟨rfl, up_trans hB6 hbc⟩
  case first =>
  rcases Hr.out with hc | hc | hc
  · subst hc
    refine wp_region_x 99 (fun w' => (World.cell? w' ⟨q, 0, none⟩ = some (.slice a3 d.things.length c3) ∧ World.cell? w' ⟨q, 1, none⟩ = some (.slice a4 d.bs.length c4) ∧ World.cell? w' ⟨r, 0, none⟩ = some (.slice i3 (enterB d nn lst).things.length j3) ∧ World.cell? w' ⟨r, 1, none⟩ = some (.slice i4 (enterB d nn lst).bs.length j4) ∧ World.cell? w' ⟨t, 0, none⟩ = some (.slice e3 (enterB d nn lst).things.length f3) ∧ World.cell? w' ⟨t, 1, none⟩ = some (.slice e4 (enterB d nn lst).bs.length f4))) (by kernel_rfl) ?_
    refine takeD (some 147) (i := 0) (v := ?_) rfl rfl (by kernel_rfl) (by kernel_rfl) (by kernel_rfl) (by kernel_rfl) (fun _ _ _ h => h) (by kernel_rfl) hS1 ?_ ?_; rotate_left; focus (intro w hSw; (try dsimp only at hSw); go_simp; try with_reducible rfl); (try simp only [Act.put, List.setIfInBounds_toArray, List.set_cons_zero, List.set_cons_succ])
    refine takeD (some 148) (i := 1) (v := ?_) rfl rfl (by kernel_rfl) (by kernel_rfl) (by kernel_rfl) (by kernel_rfl) (fun _ _ _ h => h) (by kernel_rfl) hS1 ?_ ?_; rotate_left; focus (intro w hSw; (try dsimp only at hSw); go_simp; try with_reducible rfl); (try simp only [Act.put, List.setIfInBounds_toArray, List.set_cons_zero, List.set_cons_succ])
    refine takeD (some 149) (i := 2) (v := ?_) rfl rfl (by kernel_rfl) (by kernel_rfl) (by kernel_rfl) (by kernel_rfl) (fun _ _ _ h => h) (by kernel_rfl) hS1 ?_ ?_; rotate_left; focus (intro w hSw; (try dsimp only at hSw); go_simp; try with_reducible rfl); (try simp only [Act.put, List.setIfInBounds_toArray, List.set_cons_zero, List.set_cons_succ])
    try rw [beq_self_eq_true]
    refine takeD (some 150) (i := 3) (v := ?_) rfl rfl (by kernel_rfl) (by kernel_rfl) (by kernel_rfl) (by kernel_rfl) (fun _ _ _ h => h) (by kernel_rfl) hS1 ?_ ?_; rotate_left; focus (intro w hSw; (try dsimp only at hSw); go_simp; try with_reducible rfl); (try simp only [Act.put, List.setIfInBounds_toArray, List.set_cons_zero, List.set_cons_succ])
    refine takeD (some 151) (i := 4) (v := ?_) rfl rfl (by kernel_rfl) (by kernel_rfl) (by kernel_rfl) (by kernel_rfl) (fun _ _ _ h => h) (by kernel_rfl) hS1 ?_ ?_; rotate_left; focus (intro w hSw; (try dsimp only at hSw); go_simp; try with_reducible rfl); (try simp only [Act.put, List.setIfInBounds_toArray, List.set_cons_zero, List.set_cons_succ])
    refine takeD (some 152) (i := 5) (v := ?_) rfl rfl (by kernel_rfl) (by kernel_rfl) (by kernel_rfl) (by kernel_rfl) (fun _ _ _ h => h) (by kernel_rfl) hS1 ?_ ?_; rotate_left; focus (intro w hSw; (try dsimp only at hSw); go_simp; try with_reducible rfl); (try simp only [Act.put, List.setIfInBounds_toArray, List.set_cons_zero, List.set_cons_succ])
    refine anyX_one (i := 6) (by kernel_rfl) rfl (fun K hK => ?_)
    go_simp
    go_wp2_with (go_at_call 7; refine (whBook_any (enterB d nn lst) _ _ _ (hXk.up hbd) (hYk.up hbd)).mono ?_; rintro e w7 ⟨rfl, hb7⟩; have hb7 := up_trans hbd hb7; have hS7 := Mk.out _ hb7)
    refine hK.out _ _ (fun _ => hS7) ?_; clear hK K; (try simp only [Act.put, List.setIfInBounds_toArray, List.set_cons_zero, List.set_cons_succ])
    refine takeD (some 154) (i := 7) (v := ?_) rfl rfl (by kernel_rfl) (by kernel_rfl) (by kernel_rfl) (by kernel_rfl) (fun _ _ _ h => h) (by kernel_rfl) hS7 ?_ ?_; rotate_left; focus (intro w hSw; (try dsimp only at hSw); go_simp; try with_reducible rfl); (try simp only [Act.put, List.setIfInBounds_toArray, List.set_cons_zero, List.set_cons_succ])
    refine takeD (some 155) (i := 8) (v := ?_) rfl rfl (by kernel_rfl) (by kernel_rfl) (by kernel_rfl) (by kernel_rfl) (fun _ _ _ h => h) (by kernel_rfl) hS7 ?_ ?_; rotate_left; focus (intro w hSw; (try dsimp only at hSw); go_simp; try with_reducible rfl); (try simp only [Act.put, List.setIfInBounds_toArray, List.set_cons_zero, List.set_cons_succ])
    refine takeD (some 156) (i := 9) (v := ?_) rfl rfl (by kernel_rfl) (by kernel_rfl) (by kernel_rfl) (by kernel_rfl) (fun _ _ _ h => h) (by kernel_rfl) hS7 ?_ ?_; rotate_left; focus (intro w hSw; (try dsimp only at hSw); go_simp; try with_reducible rfl); (try simp only [Act.put, List.setIfInBounds_toArray, List.set_cons_zero, List.set_cons_succ])
    refine takeD (some 157) (i := 10) (v := ?_) rfl rfl (by kernel_rfl) (by kernel_rfl) (by kernel_rfl) (by kernel_rfl) (fun _ _ _ h => h) (by kernel_rfl) hS7 ?_ ?_; rotate_left; focus (intro w hSw; (try dsimp only at hSw); go_simp; try with_reducible rfl); (try simp only [Act.put, List.setIfInBounds_toArray, List.set_cons_zero, List.set_cons_succ])
    refine takeD (some 158) (i := 11) (v := ?_) rfl rfl (by kernel_rfl) (by kernel_rfl) (by kernel_rfl) (by kernel_rfl) (fun _ _ _ h => h) (by kernel_rfl) hS7 ?_ ?_; rotate_left; focus (intro w hSw; (try dsimp only at hSw); go_simp; try with_reducible rfl); (try simp only [Act.put, List.setIfInBounds_toArray, List.set_cons_zero, List.set_cons_succ])
    refine takeD (some 159) (i := 12) (v := ?_) rfl rfl (by kernel_rfl) (by kernel_rfl) (by kernel_rfl) (by kernel_rfl) (fun _ _ _ h => h) (by kernel_rfl) hS7 ?_ ?_; rotate_left; focus (intro w hSw; (try dsimp only at hSw); go_simp; try with_reducible rfl); (try simp only [Act.put, List.setIfInBounds_toArray, List.set_cons_zero, List.set_cons_succ])
    refine takeD (some 161) (i := 14) (v := ?_) rfl rfl (by kernel_rfl) (by kernel_rfl) (by kernel_rfl) (by kernel_rfl) (fun _ _ _ h => h) (by kernel_rfl) hS7 ?_ ?_; rotate_left; focus (intro w hSw; (try dsimp only at hSw); go_simp; try with_reducible rfl); (try simp only [Act.put, List.setIfInBounds_toArray, List.set_cons_zero, List.set_cons_succ])
    refine anyX_one (i := 13) (by kernel_rfl) rfl (fun K hK => ?_)
    go_simp
    go_wp2_with (go_at_call 8; refine (safe_any (enterB d nn lst) _ _ (hXk.up hb7)).mono ?_; rintro e w8 ⟨⟨ss', ok', rfl, ho'⟩, hb8⟩; have hb8 := up_trans hb7 hb8; have hS8 := Mk.out _ hb8)
    refine hK.out _ _ (fun _ => hS8) ?_; clear hK K; (try simp only [Act.put, List.setIfInBounds_toArray, List.set_cons_zero, List.set_cons_succ])
    refine anyX_one (i := 15) (by kernel_rfl) rfl (fun K hK => ?_)
    go_simp
    go_wp2_with (go_at_call 8; refine (safe_any d _ _ (hk.up hb8)).mono ?_; rintro e w9 ⟨⟨ss, ok, rfl, ho⟩, hb9⟩; have hb9 := up_trans hb8 hb9; have hS9 := Mk.out _ hb9)
    obtain ⟨rfl, hlen⟩ := HF.out ss ss' ok ok' (by first | rfl | trivial) ho ho'
    have Hlen : Hid ((enterB d nn lst).bs.length = d.bs.length + 1) := hlen
    clear hlen
    have hlm : (((enterB d nn lst).bs.length : Int) == (d.bs.length : Int) + 1) = true := by have := Hlen.out; simp; omega
    have hwr : IntKind.i64.wrap ((d.bs.length : Int) + 1) = (d.bs.length : Int) + 1 := IntWalk.i64_in _ (by omega)
    refine hK.out _ _ (fun _ => hS9) ?_; clear hK K; (try simp only [Act.put, List.setIfInBounds_toArray, List.set_cons_zero, List.set_cons_succ])
    refine takeD (some 163) (i := 16) (v := ?_) rfl rfl (by kernel_rfl) (by kernel_rfl) (by kernel_rfl) (by kernel_rfl) (fun _ _ _ h => h) (by kernel_rfl) hS9 ?_ ?_; rotate_left; focus (intro w hSw; (try dsimp only at hSw); go_simp; try with_reducible rfl); (try simp only [Act.put, List.setIfInBounds_toArray, List.set_cons_zero, List.set_cons_succ])
    try rw [beq_self_eq_true]
    refine takeD (some 164) (i := 17) (v := ?_) rfl rfl (by kernel_rfl) (by kernel_rfl) (by kernel_rfl) (by kernel_rfl) (fun _ _ _ h => h) (by kernel_rfl) hS9 ?_ ?_; rotate_left; focus (intro w hSw; (try dsimp only at hSw); go_simp; try with_reducible rfl); (try simp only [Act.put, List.setIfInBounds_toArray, List.set_cons_zero, List.set_cons_succ])
    refine takeD (some 165) (i := 18) (v := ?_) rfl rfl (by kernel_rfl) (by kernel_rfl) (by kernel_rfl) (by kernel_rfl) (fun _ _ _ h => h) (by kernel_rfl) hS9 ?_ ?_; rotate_left; focus (intro w hSw; (try dsimp only at hSw); go_simp; try with_reducible rfl); (try simp only [Act.put, List.setIfInBounds_toArray, List.set_cons_zero, List.set_cons_succ])
    refine takeD (some 166) (i := 19) (v := ?_) rfl rfl (by kernel_rfl) (by kernel_rfl) (by kernel_rfl) (by kernel_rfl) (fun _ _ _ h => h) (by kernel_rfl) hS9 ?_ ?_; rotate_left; focus (intro w hSw; (try dsimp only at hSw); go_simp; try with_reducible rfl); (try simp only [Act.put, List.setIfInBounds_toArray, List.set_cons_zero, List.set_cons_succ])
    refine takeD (some 167) (i := 20) (v := ?_) rfl rfl (by kernel_rfl) (by kernel_rfl) (by kernel_rfl) (by kernel_rfl) (fun _ _ _ h => h) (by kernel_rfl) hS9 ?_ ?_; rotate_left; focus (intro w hSw; (try dsimp only at hSw); go_simp; try with_reducible rfl); (try simp only [Act.put, List.setIfInBounds_toArray, List.set_cons_zero, List.set_cons_succ])
    refine takeD (some 168) (i := 21) (v := ?_) rfl rfl (by kernel_rfl) (by kernel_rfl) (by kernel_rfl) (by kernel_rfl) (fun _ _ _ h => h) (by kernel_rfl) hS9 ?_ ?_; rotate_left; focus (intro w hSw; (try dsimp only at hSw); go_simp; try with_reducible rfl); (try simp only [Act.put, List.setIfInBounds_toArray, List.set_cons_zero, List.set_cons_succ])
    refine takeD (some 169) (i := 22) (v := ?_) rfl rfl (by kernel_rfl) (by kernel_rfl) (by kernel_rfl) (by kernel_rfl) (fun _ _ _ h => h) (by kernel_rfl) hS9 ?_ ?_; rotate_left; focus (intro w hSw; (try dsimp only at hSw); go_simp; try with_reducible rfl); (try simp only [Act.put, List.setIfInBounds_toArray, List.set_cons_zero, List.set_cons_succ])
    refine takeD (some 170) (i := 23) (v := ?_) rfl rfl (by kernel_rfl) (by kernel_rfl) (by kernel_rfl) (by kernel_rfl) (fun _ _ _ h => h) (by kernel_rfl) hS9 ?_ ?_; rotate_left; focus (intro w hSw; (try dsimp only at hSw); go_simp; try with_reducible rfl); (try simp only [Act.put, List.setIfInBounds_toArray, List.set_cons_zero, List.set_cons_succ])
    refine takeD (some 171) (i := 24) (v := ?_) rfl rfl (by kernel_rfl) (by kernel_rfl) (by kernel_rfl) (by kernel_rfl) (fun _ _ _ h => h) (by kernel_rfl) hS9 ?_ ?_; rotate_left; focus (intro w hSw; (try dsimp only at hSw); go_simp; try with_reducible rfl); (try simp only [Act.put, List.setIfInBounds_toArray, List.set_cons_zero, List.set_cons_succ])
    try rw [hwr]
    refine takeD (some 172) (i := 25) (v := ?_) rfl rfl (by kernel_rfl) (by kernel_rfl) (by kernel_rfl) (by kernel_rfl) (fun _ _ _ h => h) (by kernel_rfl) hS9 ?_ ?_; rotate_left; focus (intro w hSw; (try dsimp only at hSw); go_simp; try with_reducible rfl); (try simp only [Act.put, List.setIfInBounds_toArray, List.set_cons_zero, List.set_cons_succ])
    try rw [hlm]
    refine takeD (some 173) (i := 26) (v := ?_) rfl rfl (by kernel_rfl) (by kernel_rfl) (by kernel_rfl) (by kernel_rfl) (fun _ _ _ h => h) (by kernel_rfl) hS9 ?_ ?_; rotate_left; focus (intro w hSw; (try dsimp only at hSw); go_simp; try with_reducible rfl); (try simp only [Act.put, List.setIfInBounds_toArray, List.set_cons_zero, List.set_cons_succ])
    refine takeD (some 174) (i := 27) (v := ?_) rfl rfl (by kernel_rfl) (by kernel_rfl) (by kernel_rfl) (by kernel_rfl) (fun _ _ _ h => h) (by kernel_rfl) hS9 ?_ ?_; rotate_left; focus (intro w hSw; (try dsimp only at hSw); go_simp; try with_reducible rfl); (try simp only [Act.put, List.setIfInBounds_toArray, List.set_cons_zero, List.set_cons_succ])
    refine takeD (some 175) (i := 28) (v := ?_) rfl rfl (by kernel_rfl) (by kernel_rfl) (by kernel_rfl) (by kernel_rfl) (fun _ _ _ h => h) (by kernel_rfl) hS9 ?_ ?_; rotate_left; focus (intro w hSw; (try dsimp only at hSw); go_simp; try with_reducible rfl); (try simp only [Act.put, List.setIfInBounds_toArray, List.set_cons_zero, List.set_cons_succ])
    refine takeD (some 176) (i := 29) (v := ?_) rfl rfl (by kernel_rfl) (by kernel_rfl) (by kernel_rfl) (by kernel_rfl) (fun _ _ _ h => h) (by kernel_rfl) hS9 ?_ ?_; rotate_left; focus (intro w hSw; (try dsimp only at hSw); go_simp; try with_reducible rfl); (try simp only [Act.put, List.setIfInBounds_toArray, List.set_cons_zero, List.set_cons_succ])
    refine takeD (some 177) (i := 30) (v := ?_) rfl rfl (by kernel_rfl) (by kernel_rfl) (by kernel_rfl) (by kernel_rfl) (fun _ _ _ h => h) (by kernel_rfl) hS9 ?_ ?_; rotate_left; focus (intro w hSw; (try dsimp only at hSw); go_simp; try with_reducible rfl); (try simp only [Act.put, List.setIfInBounds_toArray, List.set_cons_zero, List.set_cons_succ])
    refine takeD (some 178) (i := 31) (v := ?_) rfl rfl (by kernel_rfl) (by kernel_rfl) (by kernel_rfl) (by kernel_rfl) (fun _ _ _ h => h) (by kernel_rfl) hS9 ?_ ?_; rotate_left; focus (intro w hSw; (try dsimp only at hSw); go_simp; try with_reducible rfl); (try simp only [Act.put, List.setIfInBounds_toArray, List.set_cons_zero, List.set_cons_succ])
    refine takeD (some 179) (i := 32) (v := ?_) rfl rfl (by kernel_rfl) (by kernel_rfl) (by kernel_rfl) (by kernel_rfl) (fun _ _ _ h => h) (by kernel_rfl) hS9 ?_ ?_; rotate_left; focus (intro w hSw; (try dsimp only at hSw); go_simp; try with_reducible rfl); (try simp only [Act.put, List.setIfInBounds_toArray, List.set_cons_zero, List.set_cons_succ])
    refine skipD (some 180) (i := 33) rfl rfl (by kernel_rfl) (by kernel_rfl) (by kernel_rfl) (by kernel_rfl) (fun _ _ _ h => h) (by kernel_rfl) hS9 ?_; (try simp only [Act.put, List.setIfInBounds_toArray, List.set_cons_zero, List.set_cons_succ])
    refine skipD (some 181) (i := 34) rfl rfl (by kernel_rfl) (by kernel_rfl) (by kernel_rfl) (by kernel_rfl) (fun _ _ _ h => h) (by kernel_rfl) hS9 ?_; (try simp only [Act.put, List.setIfInBounds_toArray, List.set_cons_zero, List.set_cons_succ])
    refine skipD (some 182) (i := 35) rfl rfl (by kernel_rfl) (by kernel_rfl) (by kernel_rfl) (by kernel_rfl) (fun _ _ _ h => h) (by kernel_rfl) hS9 ?_; (try simp only [Act.put, List.setIfInBounds_toArray, List.set_cons_zero, List.set_cons_succ])
    refine takeD (some 183) (i := 36) (v := ?_) rfl rfl (by kernel_rfl) (by kernel_rfl) (by kernel_rfl) (by kernel_rfl) (fun _ _ _ h => h) (by kernel_rfl) hS9 ?_ ?_; rotate_left; focus (intro w hSw; (try dsimp only at hSw); go_simp; try with_reducible rfl); (try simp only [Act.put, List.setIfInBounds_toArray, List.set_cons_zero, List.set_cons_succ])
    refine takeD (some 184) (i := 37) (v := ?_) rfl rfl (by kernel_rfl) (by kernel_rfl) (by kernel_rfl) (by kernel_rfl) (fun _ _ _ h => h) (by kernel_rfl) hS9 ?_ ?_; rotate_left; focus (intro w hSw; (try dsimp only at hSw); go_simp; try with_reducible rfl); (try simp only [Act.put, List.setIfInBounds_toArray, List.set_cons_zero, List.set_cons_succ])
    refine anyX_one (i := 38) (by kernel_rfl) rfl (fun K hK => ?_)
    go_simp
    refine hK.out _ _ (fun _ => hS9) ?_
    clear hK K
    refine anyX_done (by kernel_rfl) ?_ _
    go_wp2_with fail
    go_meet
    case rel => exact ⟨rfl, hb9⟩
  · subst hc
    refine wp_region_x 99 (fun w' => (World.cell? w' ⟨q, 0, none⟩ = some (.slice a3 d.things.length c3) ∧ World.cell? w' ⟨q, 1, none⟩ = some (.slice a4 d.bs.length c4) ∧ World.cell? w' ⟨r, 0, none⟩ = some (.slice i3 (enterB d nn lst).things.length j3) ∧ World.cell? w' ⟨r, 1, none⟩ = some (.slice i4 (enterB d nn lst).bs.length j4) ∧ World.cell? w' ⟨t, 0, none⟩ = some (.slice e3 (enterB d nn lst).things.length f3) ∧ World.cell? w' ⟨t, 1, none⟩ = some (.slice e4 (enterB d nn lst).bs.length f4))) (by kernel_rfl) ?_
    refine takeD (some 147) (i := 0) (v := ?_) rfl rfl (by kernel_rfl) (by kernel_rfl) (by kernel_rfl) (by kernel_rfl) (fun _ _ _ h => h) (by kernel_rfl) hS1 ?_ ?_; rotate_left; focus (intro w hSw; (try dsimp only at hSw); go_simp; try with_reducible rfl); (try simp only [Act.put, List.setIfInBounds_toArray, List.set_cons_zero, List.set_cons_succ])
    refine takeD (some 148) (i := 1) (v := ?_) rfl rfl (by kernel_rfl) (by kernel_rfl) (by kernel_rfl) (by kernel_rfl) (fun _ _ _ h => h) (by kernel_rfl) hS1 ?_ ?_; rotate_left; focus (intro w hSw; (try dsimp only at hSw); go_simp; try with_reducible rfl); (try simp only [Act.put, List.setIfInBounds_toArray, List.set_cons_zero, List.set_cons_succ])
    refine takeD (some 149) (i := 2) (v := ?_) rfl rfl (by kernel_rfl) (by kernel_rfl) (by kernel_rfl) (by kernel_rfl) (fun _ _ _ h => h) (by kernel_rfl) hS1 ?_ ?_; rotate_left; focus (intro w hSw; (try dsimp only at hSw); go_simp; try with_reducible rfl); (try simp only [Act.put, List.setIfInBounds_toArray, List.set_cons_zero, List.set_cons_succ])
    try rw [beq_self_eq_true]
    refine takeD (some 150) (i := 3) (v := ?_) rfl rfl (by kernel_rfl) (by kernel_rfl) (by kernel_rfl) (by kernel_rfl) (fun _ _ _ h => h) (by kernel_rfl) hS1 ?_ ?_; rotate_left; focus (intro w hSw; (try dsimp only at hSw); go_simp; try with_reducible rfl); (try simp only [Act.put, List.setIfInBounds_toArray, List.set_cons_zero, List.set_cons_succ])
    refine takeD (some 151) (i := 4) (v := ?_) rfl rfl (by kernel_rfl) (by kernel_rfl) (by kernel_rfl) (by kernel_rfl) (fun _ _ _ h => h) (by kernel_rfl) hS1 ?_ ?_; rotate_left; focus (intro w hSw; (try dsimp only at hSw); go_simp; try with_reducible rfl); (try simp only [Act.put, List.setIfInBounds_toArray, List.set_cons_zero, List.set_cons_succ])
    refine takeD (some 152) (i := 5) (v := ?_) rfl rfl (by kernel_rfl) (by kernel_rfl) (by kernel_rfl) (by kernel_rfl) (fun _ _ _ h => h) (by kernel_rfl) hS1 ?_ ?_; rotate_left; focus (intro w hSw; (try dsimp only at hSw); go_simp; try with_reducible rfl); (try simp only [Act.put, List.setIfInBounds_toArray, List.set_cons_zero, List.set_cons_succ])
    refine anyX_one (i := 6) (by kernel_rfl) rfl (fun K hK => ?_)
    go_simp
    go_wp2_with (go_at_call 7; refine (whBook_any (enterB d nn lst) _ _ _ (hXk.up hbd) (hYk.up hbd)).mono ?_; rintro e w7 ⟨rfl, hb7⟩; have hb7 := up_trans hbd hb7; have hS7 := Mk.out _ hb7)
    refine hK.out _ _ (fun _ => hS7) ?_; clear hK K; (try simp only [Act.put, List.setIfInBounds_toArray, List.set_cons_zero, List.set_cons_succ])
    refine takeD (some 154) (i := 7) (v := ?_) rfl rfl (by kernel_rfl) (by kernel_rfl) (by kernel_rfl) (by kernel_rfl) (fun _ _ _ h => h) (by kernel_rfl) hS7 ?_ ?_; rotate_left; focus (intro w hSw; (try dsimp only at hSw); go_simp; try with_reducible rfl); (try simp only [Act.put, List.setIfInBounds_toArray, List.set_cons_zero, List.set_cons_succ])
    refine takeD (some 155) (i := 8) (v := ?_) rfl rfl (by kernel_rfl) (by kernel_rfl) (by kernel_rfl) (by kernel_rfl) (fun _ _ _ h => h) (by kernel_rfl) hS7 ?_ ?_; rotate_left; focus (intro w hSw; (try dsimp only at hSw); go_simp; try with_reducible rfl); (try simp only [Act.put, List.setIfInBounds_toArray, List.set_cons_zero, List.set_cons_succ])
    refine takeD (some 156) (i := 9) (v := ?_) rfl rfl (by kernel_rfl) (by kernel_rfl) (by kernel_rfl) (by kernel_rfl) (fun _ _ _ h => h) (by kernel_rfl) hS7 ?_ ?_; rotate_left; focus (intro w hSw; (try dsimp only at hSw); go_simp; try with_reducible rfl); (try simp only [Act.put, List.setIfInBounds_toArray, List.set_cons_zero, List.set_cons_succ])
    refine takeD (some 157) (i := 10) (v := ?_) rfl rfl (by kernel_rfl) (by kernel_rfl) (by kernel_rfl) (by kernel_rfl) (fun _ _ _ h => h) (by kernel_rfl) hS7 ?_ ?_; rotate_left; focus (intro w hSw; (try dsimp only at hSw); go_simp; try with_reducible rfl); (try simp only [Act.put, List.setIfInBounds_toArray, List.set_cons_zero, List.set_cons_succ])
    refine takeD (some 158) (i := 11) (v := ?_) rfl rfl (by kernel_rfl) (by kernel_rfl) (by kernel_rfl) (by kernel_rfl) (fun _ _ _ h => h) (by kernel_rfl) hS7 ?_ ?_; rotate_left; focus (intro w hSw; (try dsimp only at hSw); go_simp; try with_reducible rfl); (try simp only [Act.put, List.setIfInBounds_toArray, List.set_cons_zero, List.set_cons_succ])
    refine skipD (some 159) (i := 12) rfl rfl (by kernel_rfl) (by kernel_rfl) (by kernel_rfl) (by kernel_rfl) (fun _ _ _ h => h) (by kernel_rfl) hS7 ?_; (try simp only [Act.put, List.setIfInBounds_toArray, List.set_cons_zero, List.set_cons_succ])
    refine skipD (some 160) (i := 13) rfl rfl (by kernel_rfl) (by kernel_rfl) (by kernel_rfl) (by kernel_rfl) (fun _ _ _ h => h) (by kernel_rfl) hS7 ?_; (try simp only [Act.put, List.setIfInBounds_toArray, List.set_cons_zero, List.set_cons_succ])
    refine skipD (some 161) (i := 14) rfl rfl (by kernel_rfl) (by kernel_rfl) (by kernel_rfl) (by kernel_rfl) (fun _ _ _ h => h) (by kernel_rfl) hS7 ?_; (try simp only [Act.put, List.setIfInBounds_toArray, List.set_cons_zero, List.set_cons_succ])
    refine skipD (some 162) (i := 15) rfl rfl (by kernel_rfl) (by kernel_rfl) (by kernel_rfl) (by kernel_rfl) (fun _ _ _ h => h) (by kernel_rfl) hS7 ?_; (try simp only [Act.put, List.setIfInBounds_toArray, List.set_cons_zero, List.set_cons_succ])
    refine skipD (some 163) (i := 16) rfl rfl (by kernel_rfl) (by kernel_rfl) (by kernel_rfl) (by kernel_rfl) (fun _ _ _ h => h) (by kernel_rfl) hS7 ?_; (try simp only [Act.put, List.setIfInBounds_toArray, List.set_cons_zero, List.set_cons_succ])
    refine skipD (some 164) (i := 17) rfl rfl (by kernel_rfl) (by kernel_rfl) (by kernel_rfl) (by kernel_rfl) (fun _ _ _ h => h) (by kernel_rfl) hS7 ?_; (try simp only [Act.put, List.setIfInBounds_toArray, List.set_cons_zero, List.set_cons_succ])
    refine skipD (some 165) (i := 18) rfl rfl (by kernel_rfl) (by kernel_rfl) (by kernel_rfl) (by kernel_rfl) (fun _ _ _ h => h) (by kernel_rfl) hS7 ?_; (try simp only [Act.put, List.setIfInBounds_toArray, List.set_cons_zero, List.set_cons_succ])
    refine skipD (some 166) (i := 19) rfl rfl (by kernel_rfl) (by kernel_rfl) (by kernel_rfl) (by kernel_rfl) (fun _ _ _ h => h) (by kernel_rfl) hS7 ?_; (try simp only [Act.put, List.setIfInBounds_toArray, List.set_cons_zero, List.set_cons_succ])
    refine skipD (some 167) (i := 20) rfl rfl (by kernel_rfl) (by kernel_rfl) (by kernel_rfl) (by kernel_rfl) (fun _ _ _ h => h) (by kernel_rfl) hS7 ?_; (try simp only [Act.put, List.setIfInBounds_toArray, List.set_cons_zero, List.set_cons_succ])
    refine skipD (some 168) (i := 21) rfl rfl (by kernel_rfl) (by kernel_rfl) (by kernel_rfl) (by kernel_rfl) (fun _ _ _ h => h) (by kernel_rfl) hS7 ?_; (try simp only [Act.put, List.setIfInBounds_toArray, List.set_cons_zero, List.set_cons_succ])
    refine skipD (some 169) (i := 22) rfl rfl (by kernel_rfl) (by kernel_rfl) (by kernel_rfl) (by kernel_rfl) (fun _ _ _ h => h) (by kernel_rfl) hS7 ?_; (try simp only [Act.put, List.setIfInBounds_toArray, List.set_cons_zero, List.set_cons_succ])
    refine skipD (some 170) (i := 23) rfl rfl (by kernel_rfl) (by kernel_rfl) (by kernel_rfl) (by kernel_rfl) (fun _ _ _ h => h) (by kernel_rfl) hS7 ?_; (try simp only [Act.put, List.setIfInBounds_toArray, List.set_cons_zero, List.set_cons_succ])
    refine skipD (some 171) (i := 24) rfl rfl (by kernel_rfl) (by kernel_rfl) (by kernel_rfl) (by kernel_rfl) (fun _ _ _ h => h) (by kernel_rfl) hS7 ?_; (try simp only [Act.put, List.setIfInBounds_toArray, List.set_cons_zero, List.set_cons_succ])
    refine skipD (some 172) (i := 25) rfl rfl (by kernel_rfl) (by kernel_rfl) (by kernel_rfl) (by kernel_rfl) (fun _ _ _ h => h) (by kernel_rfl) hS7 ?_; (try simp only [Act.put, List.setIfInBounds_toArray, List.set_cons_zero, List.set_cons_succ])
    refine skipD (some 173) (i := 26) rfl rfl (by kernel_rfl) (by kernel_rfl) (by kernel_rfl) (by kernel_rfl) (fun _ _ _ h => h) (by kernel_rfl) hS7 ?_; (try simp only [Act.put, List.setIfInBounds_toArray, List.set_cons_zero, List.set_cons_succ])
    refine takeD (some 174) (i := 27) (v := ?_) rfl rfl (by kernel_rfl) (by kernel_rfl) (by kernel_rfl) (by kernel_rfl) (fun _ _ _ h => h) (by kernel_rfl) hS7 ?_ ?_; rotate_left; focus (intro w hSw; (try dsimp only at hSw); go_simp; try with_reducible rfl); (try simp only [Act.put, List.setIfInBounds_toArray, List.set_cons_zero, List.set_cons_succ])
    refine takeD (some 175) (i := 28) (v := ?_) rfl rfl (by kernel_rfl) (by kernel_rfl) (by kernel_rfl) (by kernel_rfl) (fun _ _ _ h => h) (by kernel_rfl) hS7 ?_ ?_; rotate_left; focus (intro w hSw; (try dsimp only at hSw); go_simp; try with_reducible rfl); (try simp only [Act.put, List.setIfInBounds_toArray, List.set_cons_zero, List.set_cons_succ])
    refine takeD (some 176) (i := 29) (v := ?_) rfl rfl (by kernel_rfl) (by kernel_rfl) (by kernel_rfl) (by kernel_rfl) (fun _ _ _ h => h) (by kernel_rfl) hS7 ?_ ?_; rotate_left; focus (intro w hSw; (try dsimp only at hSw); go_simp; try with_reducible rfl); (try simp only [Act.put, List.setIfInBounds_toArray, List.set_cons_zero, List.set_cons_succ])
    refine takeD (some 177) (i := 30) (v := ?_) rfl rfl (by kernel_rfl) (by kernel_rfl) (by kernel_rfl) (by kernel_rfl) (fun _ _ _ h => h) (by kernel_rfl) hS7 ?_ ?_; rotate_left; focus (intro w hSw; (try dsimp only at hSw); go_simp; try with_reducible rfl); (try simp only [Act.put, List.setIfInBounds_toArray, List.set_cons_zero, List.set_cons_succ])
    refine takeD (some 178) (i := 31) (v := ?_) rfl rfl (by kernel_rfl) (by kernel_rfl) (by kernel_rfl) (by kernel_rfl) (fun _ _ _ h => h) (by kernel_rfl) hS7 ?_ ?_; rotate_left; focus (intro w hSw; (try dsimp only at hSw); go_simp; try with_reducible rfl); (try simp only [Act.put, List.setIfInBounds_toArray, List.set_cons_zero, List.set_cons_succ])
    refine takeD (some 179) (i := 32) (v := ?_) rfl rfl (by kernel_rfl) (by kernel_rfl) (by kernel_rfl) (by kernel_rfl) (fun _ _ _ h => h) (by kernel_rfl) hS7 ?_ ?_; rotate_left; focus (intro w hSw; (try dsimp only at hSw); go_simp; try with_reducible rfl); (try simp only [Act.put, List.setIfInBounds_toArray, List.set_cons_zero, List.set_cons_succ])
    refine skipD (some 180) (i := 33) rfl rfl (by kernel_rfl) (by kernel_rfl) (by kernel_rfl) (by kernel_rfl) (fun _ _ _ h => h) (by kernel_rfl) hS7 ?_; (try simp only [Act.put, List.setIfInBounds_toArray, List.set_cons_zero, List.set_cons_succ])
    refine skipD (some 181) (i := 34) rfl rfl (by kernel_rfl) (by kernel_rfl) (by kernel_rfl) (by kernel_rfl) (fun _ _ _ h => h) (by kernel_rfl) hS7 ?_; (try simp only [Act.put, List.setIfInBounds_toArray, List.set_cons_zero, List.set_cons_succ])
    refine skipD (some 182) (i := 35) rfl rfl (by kernel_rfl) (by kernel_rfl) (by kernel_rfl) (by kernel_rfl) (fun _ _ _ h => h) (by kernel_rfl) hS7 ?_; (try simp only [Act.put, List.setIfInBounds_toArray, List.set_cons_zero, List.set_cons_succ])
    refine takeD (some 183) (i := 36) (v := ?_) rfl rfl (by kernel_rfl) (by kernel_rfl) (by kernel_rfl) (by kernel_rfl) (fun _ _ _ h => h) (by kernel_rfl) hS7 ?_ ?_; rotate_left; focus (intro w hSw; (try dsimp only at hSw); go_simp; try with_reducible rfl); (try simp only [Act.put, List.setIfInBounds_toArray, List.set_cons_zero, List.set_cons_succ])
    refine takeD (some 184) (i := 37) (v := ?_) rfl rfl (by kernel_rfl) (by kernel_rfl) (by kernel_rfl) (by kernel_rfl) (fun _ _ _ h => h) (by kernel_rfl) hS7 ?_ ?_; rotate_left; focus (intro w hSw; (try dsimp only at hSw); go_simp; try with_reducible rfl); (try simp only [Act.put, List.setIfInBounds_toArray, List.set_cons_zero, List.set_cons_succ])
    refine anyX_one (i := 38) (by kernel_rfl) rfl (fun K hK => ?_)
    go_simp
    refine hK.out _ _ (fun _ => hS7) ?_
    clear hK K
    refine anyX_done (by kernel_rfl) ?_ _
    go_wp2_with fail
    go_meet
    case rel => exact ⟨rfl, hb7⟩
  · have hXd := HS.out hc
    have hcn : (cc != 0) = true := by simp; omega
    have hcl : decide (cc < 2) = false := by simp; omega
    refine wp_region_x 99 (fun w' => (World.cell? w' ⟨q, 0, none⟩ = some (.slice a3 d.things.length c3) ∧ World.cell? w' ⟨q, 1, none⟩ = some (.slice a4 d.bs.length c4) ∧ World.cell? w' ⟨r, 0, none⟩ = some (.slice i3 (enterB d nn lst).things.length j3) ∧ World.cell? w' ⟨r, 1, none⟩ = some (.slice i4 (enterB d nn lst).bs.length j4) ∧ World.cell? w' ⟨t, 0, none⟩ = some (.slice e3 (enterB d nn lst).things.length f3) ∧ World.cell? w' ⟨t, 1, none⟩ = some (.slice e4 (enterB d nn lst).bs.length f4))) (by kernel_rfl) ?_
    refine takeD (some 147) (i := 0) (v := ?_) rfl rfl (by kernel_rfl) (by kernel_rfl) (by kernel_rfl) (by kernel_rfl) (fun _ _ _ h => h) (by kernel_rfl) hS1 ?_ ?_; rotate_left; focus (intro w hSw; (try dsimp only at hSw); go_simp; try with_reducible rfl); (try simp only [Act.put, List.setIfInBounds_toArray, List.set_cons_zero, List.set_cons_succ])
    refine takeD (some 148) (i := 1) (v := ?_) rfl rfl (by kernel_rfl) (by kernel_rfl) (by kernel_rfl) (by kernel_rfl) (fun _ _ _ h => h) (by kernel_rfl) hS1 ?_ ?_; rotate_left; focus (intro w hSw; (try dsimp only at hSw); go_simp; try with_reducible rfl); (try simp only [Act.put, List.setIfInBounds_toArray, List.set_cons_zero, List.set_cons_succ])
    refine takeD (some 149) (i := 2) (v := ?_) rfl rfl (by kernel_rfl) (by kernel_rfl) (by kernel_rfl) (by kernel_rfl) (fun _ _ _ h => h) (by kernel_rfl) hS1 ?_ ?_; rotate_left; focus (intro w hSw; (try dsimp only at hSw); go_simp; try with_reducible rfl); (try simp only [Act.put, List.setIfInBounds_toArray, List.set_cons_zero, List.set_cons_succ])
    try rw [beq_self_eq_true]
    refine takeD (some 150) (i := 3) (v := ?_) rfl rfl (by kernel_rfl) (by kernel_rfl) (by kernel_rfl) (by kernel_rfl) (fun _ _ _ h => h) (by kernel_rfl) hS1 ?_ ?_; rotate_left; focus (intro w hSw; (try dsimp only at hSw); go_simp; try with_reducible rfl); (try simp only [Act.put, List.setIfInBounds_toArray, List.set_cons_zero, List.set_cons_succ])
    refine takeD (some 151) (i := 4) (v := ?_) rfl rfl (by kernel_rfl) (by kernel_rfl) (by kernel_rfl) (by kernel_rfl) (fun _ _ _ h => h) (by kernel_rfl) hS1 ?_ ?_; rotate_left; focus (intro w hSw; (try dsimp only at hSw); go_simp; try with_reducible rfl); (try simp only [Act.put, List.setIfInBounds_toArray, List.set_cons_zero, List.set_cons_succ])
    refine takeD (some 152) (i := 5) (v := ?_) rfl rfl (by kernel_rfl) (by kernel_rfl) (by kernel_rfl) (by kernel_rfl) (fun _ _ _ h => h) (by kernel_rfl) hS1 ?_ ?_; rotate_left; focus (intro w hSw; (try dsimp only at hSw); go_simp; try with_reducible rfl); (try simp only [Act.put, List.setIfInBounds_toArray, List.set_cons_zero, List.set_cons_succ])
    refine anyX_one (i := 6) (by kernel_rfl) rfl (fun K hK => ?_)
    go_simp
    go_wp2_with (go_at_call 7; refine (whBook_any (enterB d nn lst) _ _ _ (hXk.up hbd) (hYk.up hbd)).mono ?_; rintro e w7 ⟨rfl, hb7⟩; have hb7 := up_trans hbd hb7; have hS7 := Mk.out _ hb7)
    refine hK.out _ _ (fun _ => hS7) ?_; clear hK K; (try simp only [Act.put, List.setIfInBounds_toArray, List.set_cons_zero, List.set_cons_succ])
    refine takeD (some 154) (i := 7) (v := ?_) rfl rfl (by kernel_rfl) (by kernel_rfl) (by kernel_rfl) (by kernel_rfl) (fun _ _ _ h => h) (by kernel_rfl) hS7 ?_ ?_; rotate_left; focus (intro w hSw; (try dsimp only at hSw); go_simp; try with_reducible rfl); (try simp only [Act.put, List.setIfInBounds_toArray, List.set_cons_zero, List.set_cons_succ])
    refine takeD (some 155) (i := 8) (v := ?_) rfl rfl (by kernel_rfl) (by kernel_rfl) (by kernel_rfl) (by kernel_rfl) (fun _ _ _ h => h) (by kernel_rfl) hS7 ?_ ?_; rotate_left; focus (intro w hSw; (try dsimp only at hSw); go_simp; try with_reducible rfl); (try simp only [Act.put, List.setIfInBounds_toArray, List.set_cons_zero, List.set_cons_succ])
    refine takeD (some 156) (i := 9) (v := ?_) rfl rfl (by kernel_rfl) (by kernel_rfl) (by kernel_rfl) (by kernel_rfl) (fun _ _ _ h => h) (by kernel_rfl) hS7 ?_ ?_; rotate_left; focus (intro w hSw; (try dsimp only at hSw); go_simp; try with_reducible rfl); (try simp only [Act.put, List.setIfInBounds_toArray, List.set_cons_zero, List.set_cons_succ])
    refine takeD (some 157) (i := 10) (v := ?_) rfl rfl (by kernel_rfl) (by kernel_rfl) (by kernel_rfl) (by kernel_rfl) (fun _ _ _ h => h) (by kernel_rfl) hS7 ?_ ?_; rotate_left; focus (intro w hSw; (try dsimp only at hSw); go_simp; try with_reducible rfl); (try simp only [Act.put, List.setIfInBounds_toArray, List.set_cons_zero, List.set_cons_succ])
    try rw [hcn]
    refine takeD (some 158) (i := 11) (v := ?_) rfl rfl (by kernel_rfl) (by kernel_rfl) (by kernel_rfl) (by kernel_rfl) (fun _ _ _ h => h) (by kernel_rfl) hS7 ?_ ?_; rotate_left; focus (intro w hSw; (try dsimp only at hSw); go_simp; try with_reducible rfl); (try simp only [Act.put, List.setIfInBounds_toArray, List.set_cons_zero, List.set_cons_succ])
    refine skipD (some 159) (i := 12) rfl rfl (by kernel_rfl) (by kernel_rfl) (by kernel_rfl) (by kernel_rfl) (fun _ _ _ h => h) (by kernel_rfl) hS7 ?_; (try simp only [Act.put, List.setIfInBounds_toArray, List.set_cons_zero, List.set_cons_succ])
    refine skipD (some 160) (i := 13) rfl rfl (by kernel_rfl) (by kernel_rfl) (by kernel_rfl) (by kernel_rfl) (fun _ _ _ h => h) (by kernel_rfl) hS7 ?_; (try simp only [Act.put, List.setIfInBounds_toArray, List.set_cons_zero, List.set_cons_succ])
    refine skipD (some 161) (i := 14) rfl rfl (by kernel_rfl) (by kernel_rfl) (by kernel_rfl) (by kernel_rfl) (fun _ _ _ h => h) (by kernel_rfl) hS7 ?_; (try simp only [Act.put, List.setIfInBounds_toArray, List.set_cons_zero, List.set_cons_succ])
    refine skipD (some 162) (i := 15) rfl rfl (by kernel_rfl) (by kernel_rfl) (by kernel_rfl) (by kernel_rfl) (fun _ _ _ h => h) (by kernel_rfl) hS7 ?_; (try simp only [Act.put, List.setIfInBounds_toArray, List.set_cons_zero, List.set_cons_succ])
    refine skipD (some 163) (i := 16) rfl rfl (by kernel_rfl) (by kernel_rfl) (by kernel_rfl) (by kernel_rfl) (fun _ _ _ h => h) (by kernel_rfl) hS7 ?_; (try simp only [Act.put, List.setIfInBounds_toArray, List.set_cons_zero, List.set_cons_succ])
    refine skipD (some 164) (i := 17) rfl rfl (by kernel_rfl) (by kernel_rfl) (by kernel_rfl) (by kernel_rfl) (fun _ _ _ h => h) (by kernel_rfl) hS7 ?_; (try simp only [Act.put, List.setIfInBounds_toArray, List.set_cons_zero, List.set_cons_succ])
    refine skipD (some 165) (i := 18) rfl rfl (by kernel_rfl) (by kernel_rfl) (by kernel_rfl) (by kernel_rfl) (fun _ _ _ h => h) (by kernel_rfl) hS7 ?_; (try simp only [Act.put, List.setIfInBounds_toArray, List.set_cons_zero, List.set_cons_succ])
    refine skipD (some 166) (i := 19) rfl rfl (by kernel_rfl) (by kernel_rfl) (by kernel_rfl) (by kernel_rfl) (fun _ _ _ h => h) (by kernel_rfl) hS7 ?_; (try simp only [Act.put, List.setIfInBounds_toArray, List.set_cons_zero, List.set_cons_succ])
    refine skipD (some 167) (i := 20) rfl rfl (by kernel_rfl) (by kernel_rfl) (by kernel_rfl) (by kernel_rfl) (fun _ _ _ h => h) (by kernel_rfl) hS7 ?_; (try simp only [Act.put, List.setIfInBounds_toArray, List.set_cons_zero, List.set_cons_succ])
    refine skipD (some 168) (i := 21) rfl rfl (by kernel_rfl) (by kernel_rfl) (by kernel_rfl) (by kernel_rfl) (fun _ _ _ h => h) (by kernel_rfl) hS7 ?_; (try simp only [Act.put, List.setIfInBounds_toArray, List.set_cons_zero, List.set_cons_succ])
    refine skipD (some 169) (i := 22) rfl rfl (by kernel_rfl) (by kernel_rfl) (by kernel_rfl) (by kernel_rfl) (fun _ _ _ h => h) (by kernel_rfl) hS7 ?_; (try simp only [Act.put, List.setIfInBounds_toArray, List.set_cons_zero, List.set_cons_succ])
    refine skipD (some 170) (i := 23) rfl rfl (by kernel_rfl) (by kernel_rfl) (by kernel_rfl) (by kernel_rfl) (fun _ _ _ h => h) (by kernel_rfl) hS7 ?_; (try simp only [Act.put, List.setIfInBounds_toArray, List.set_cons_zero, List.set_cons_succ])
    refine skipD (some 171) (i := 24) rfl rfl (by kernel_rfl) (by kernel_rfl) (by kernel_rfl) (by kernel_rfl) (fun _ _ _ h => h) (by kernel_rfl) hS7 ?_; (try simp only [Act.put, List.setIfInBounds_toArray, List.set_cons_zero, List.set_cons_succ])
    refine skipD (some 172) (i := 25) rfl rfl (by kernel_rfl) (by kernel_rfl) (by kernel_rfl) (by kernel_rfl) (fun _ _ _ h => h) (by kernel_rfl) hS7 ?_; (try simp only [Act.put, List.setIfInBounds_toArray, List.set_cons_zero, List.set_cons_succ])
    refine skipD (some 173) (i := 26) rfl rfl (by kernel_rfl) (by kernel_rfl) (by kernel_rfl) (by kernel_rfl) (fun _ _ _ h => h) (by kernel_rfl) hS7 ?_; (try simp only [Act.put, List.setIfInBounds_toArray, List.set_cons_zero, List.set_cons_succ])
    refine takeD (some 174) (i := 27) (v := ?_) rfl rfl (by kernel_rfl) (by kernel_rfl) (by kernel_rfl) (by kernel_rfl) (fun _ _ _ h => h) (by kernel_rfl) hS7 ?_ ?_; rotate_left; focus (intro w hSw; (try dsimp only at hSw); go_simp; try with_reducible rfl); (try simp only [Act.put, List.setIfInBounds_toArray, List.set_cons_zero, List.set_cons_succ])
    refine takeD (some 175) (i := 28) (v := ?_) rfl rfl (by kernel_rfl) (by kernel_rfl) (by kernel_rfl) (by kernel_rfl) (fun _ _ _ h => h) (by kernel_rfl) hS7 ?_ ?_; rotate_left; focus (intro w hSw; (try dsimp only at hSw); go_simp; try with_reducible rfl); (try simp only [Act.put, List.setIfInBounds_toArray, List.set_cons_zero, List.set_cons_succ])
    refine takeD (some 176) (i := 29) (v := ?_) rfl rfl (by kernel_rfl) (by kernel_rfl) (by kernel_rfl) (by kernel_rfl) (fun _ _ _ h => h) (by kernel_rfl) hS7 ?_ ?_; rotate_left; focus (intro w hSw; (try dsimp only at hSw); go_simp; try with_reducible rfl); (try simp only [Act.put, List.setIfInBounds_toArray, List.set_cons_zero, List.set_cons_succ])
    refine takeD (some 177) (i := 30) (v := ?_) rfl rfl (by kernel_rfl) (by kernel_rfl) (by kernel_rfl) (by kernel_rfl) (fun _ _ _ h => h) (by kernel_rfl) hS7 ?_ ?_; rotate_left; focus (intro w hSw; (try dsimp only at hSw); go_simp; try with_reducible rfl); (try simp only [Act.put, List.setIfInBounds_toArray, List.set_cons_zero, List.set_cons_succ])
    refine takeD (some 178) (i := 31) (v := ?_) rfl rfl (by kernel_rfl) (by kernel_rfl) (by kernel_rfl) (by kernel_rfl) (fun _ _ _ h => h) (by kernel_rfl) hS7 ?_ ?_; rotate_left; focus (intro w hSw; (try dsimp only at hSw); go_simp; try with_reducible rfl); (try simp only [Act.put, List.setIfInBounds_toArray, List.set_cons_zero, List.set_cons_succ])
    try rw [hcl]
    refine takeD (some 179) (i := 32) (v := ?_) rfl rfl (by kernel_rfl) (by kernel_rfl) (by kernel_rfl) (by kernel_rfl) (fun _ _ _ h => h) (by kernel_rfl) hS7 ?_ ?_; rotate_left; focus (intro w hSw; (try dsimp only at hSw); go_simp; try with_reducible rfl); (try simp only [Act.put, List.setIfInBounds_toArray, List.set_cons_zero, List.set_cons_succ])
    refine takeD (some 180) (i := 33) (v := ?_) rfl rfl (by kernel_rfl) (by kernel_rfl) (by kernel_rfl) (by kernel_rfl) (fun _ _ _ h => h) (by kernel_rfl) hS7 ?_ ?_; rotate_left; focus (intro w hSw; (try dsimp only at hSw); go_simp; try with_reducible rfl); (try simp only [Act.put, List.setIfInBounds_toArray, List.set_cons_zero, List.set_cons_succ])
    refine takeD (some 181) (i := 34) (v := ?_) rfl rfl (by kernel_rfl) (by kernel_rfl) (by kernel_rfl) (by kernel_rfl) (fun _ _ _ h => h) (by kernel_rfl) hS7 ?_ ?_; rotate_left; focus (intro w hSw; (try dsimp only at hSw); go_simp; try with_reducible rfl); (try simp only [Act.put, List.setIfInBounds_toArray, List.set_cons_zero, List.set_cons_succ])
    refine anyX_one (i := 35) (by kernel_rfl) rfl (fun K hK => ?_)
    go_simp
    go_wp2_with (go_at_call 7; refine (whBook_any d _ _ _ (hXd.up hb7) (hk.up hb7)).mono ?_; rintro e w8 ⟨rfl, hb8⟩; have hb8 := up_trans hb7 hb8; have hS8 := Mk.out _ hb8)
    refine hK.out _ _ (fun _ => hS8) ?_; clear hK K; (try simp only [Act.put, List.setIfInBounds_toArray, List.set_cons_zero, List.set_cons_succ])
    refine takeD (some 183) (i := 36) (v := ?_) rfl rfl (by kernel_rfl) (by kernel_rfl) (by kernel_rfl) (by kernel_rfl) (fun _ _ _ h => h) (by kernel_rfl) hS8 ?_ ?_; rotate_left; focus (intro w hSw; (try dsimp only at hSw); go_simp; try with_reducible rfl); (try simp only [Act.put, List.setIfInBounds_toArray, List.set_cons_zero, List.set_cons_succ])
    refine takeD (some 184) (i := 37) (v := ?_) rfl rfl (by kernel_rfl) (by kernel_rfl) (by kernel_rfl) (by kernel_rfl) (fun _ _ _ h => h) (by kernel_rfl) hS8 ?_ ?_; rotate_left; focus (intro w hSw; (try dsimp only at hSw); go_simp; try with_reducible rfl); (try simp only [Act.put, List.setIfInBounds_toArray, List.set_cons_zero, List.set_cons_succ])
    refine anyX_one (i := 38) (by kernel_rfl) rfl (fun K hK => ?_)
    go_simp
    refine hK.out _ _ (fun _ => hS8) ?_
    clear hK K
    refine anyX_done (by kernel_rfl) ?_ _
    go_wp2_with fail
    go_meet
    case rel => exact ⟨rfl, hb8⟩
end Go.Proofs.YtkgbdjdgcacblaaGreatDoor
