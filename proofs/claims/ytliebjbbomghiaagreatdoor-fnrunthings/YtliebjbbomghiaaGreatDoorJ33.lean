/- The specification's l23Late (chapter 23): those that are late go on, from the last one back. -/
import Derived.Test.YtliebjbbomghiaaGreatDoorC6
import Derived.Test.YtliebjbbomghiaaGreatDoorJ20
import Derived.Test.YtliebjbbomghiaaGreatDoorKs1
namespace Go.Proofs.YtliebjbbomghiaaGreatDoor
open Go.RowKit

theorem cut20_len {l : List Done} (h : l.length ≤ 21) : (cut20 l).length ≤ 20 := by
  unfold cut20
  split
  · rw [List.length_drop]; omega
  · omega
theorem on_facts {h : House} {k : Nat} {nm : ByteArray} (hk : k < h.bs.length) : (onH h k nm).now = h.now ∧ (onH h k nm).last = h.last ∧ (h.ds.length ≤ 20 → (onH h k nm).ds.length ≤ 20) ∧ k ≤ (onH h k nm).bs.length ∧ (onH h k nm).bs.length ≤ h.bs.length ∧ ∀ j, j < k → (onH h k nm).bs[j]? = h.bs[j]? := by
  unfold onH
  rw [List.getElem?_eq_getElem hk]
  dsimp only
  split
  · refine ⟨rfl, rfl, fun h => h, ?_, ?_, fun j hj => ?_⟩
    · rw [List.length_set]; omega
    · rw [List.length_set]; omega
    · rw [List.getElem?_set_ne (by omega)]
  · refine ⟨rfl, rfl, fun h => cut20_len (by rw [List.length_append, List.length_singleton]; omega), ?_, ?_, fun j hj => ?_⟩
    · rw [List.length_append, List.length_take, List.length_drop]; omega
    · rw [List.length_append, List.length_take, List.length_drop]; omega
    · rw [List.getElem?_append_left (by rw [List.length_take]; omega), List.getElem?_take_of_lt hj]
/-- An own row stays where its block does. -/
theorem own_of_block {w w' : World} {base e k n : Nat} {v : Value} {xs : List Value} (h : w.ownsRow base e k v n xs) (hb : ∀ g, v.ownBlock = some g → w'.heap[g]? = w.heap[g]?) : w'.ownsRow base e k v n xs := by
  refine ⟨h.1, ?_⟩
  rcases h.2 with ⟨rfl, rfl⟩ | ⟨g, cap, cur, rfl, h1, h2, h3⟩
  · exact .inl ⟨rfl, rfl⟩
  · exact .inr ⟨g, cap, cur, rfl, h1, by rw [hb g rfl]; exact h2, h3⟩
theorem row_g2 {w w' : World} {base b2 b3 e k n n2 n3 : Nat} {v p : Value} {q : Value} {xs x2 : List Value} {ds : List Done} (h : w.ownsRow base e k v n xs) (hg : G2 w w' p.ownBlock q.ownBlock) (hp : w.ownsRow b2 26 n2 p n3 x2) (hq : DnsW w b3 q ds) (h1 : e ≠ 26) (h2 : e ≠ 186) : w'.ownsRow base e k v n xs := by
  obtain ⟨gd, cap, pre, rfl, h3, -⟩ := hq
  exact own_of_block h fun g e => hg.block g (h.lt g e).2 (fun e2 => own_apart2 h hp h1 g e e2) (fun e2 => own_apart2 h h3 h2 g e e2)
theorem on23_any (h : House) (tv bv xv dv : Value) (base k : Nat) (x : Rb) (nm : ByteArray) (w : World) (H : HW w base h tv bv xv dv) (hbase : base ≤ w.heap.size) (hT : Tiny h.sh) (hk : h.bs[k]? = some x) (hrec : recB x.ps = true) (hnb : h.bs.length ≤ 1048576) (hnd : h.ds.length ≤ 1048576) :
    Calls Tryz.prog 115 #[.agg #[.int .i64 h.now, .int .i64 h.last, tv, bv, xv, dv], .int .i64 k, .string nm] w fun e w' => (∃ tu bu xu du, e = .returned (.agg #[.int .i64 h.now, .int .i64 h.last, tu, bu, xu, du]) ∧ Tiny (onH h k nm).sh ∧ HW w' base (onH h k nm) tu bu xu du ∧ Where w xv xu ∧ Where w dv du) ∧ G2 w w' xv.ownBlock dv.ownBlock := by
  by_cases he : endN nm = 0
  · refine (onGo_any h tv bv xv dv base k x nm w H hbase hT hk hrec he).mono ?_
    rintro e w' ⟨⟨tu, bu, rfl, h1, h2⟩, hg⟩
    exact ⟨⟨tu, bu, _, _, rfl, h1, h2, Where.refl _ _, Where.refl _ _⟩, .of1 hg _⟩
  · refine (onEnd_any h tv bv xv dv base k x nm w H hbase hT hk he hnb hnd).mono ?_
    rintro e w' ⟨⟨tu, bu, xu, du, rfl, h1, h2, h3, h4⟩, hg⟩
    exact ⟨⟨tu, bu, xu, du, rfl, h1, h2, h3, h4⟩, .of2 hg _⟩
theorem late_no {h : House} {k : Nat} {x : Rb} (hx : h.bs[k]? = some x) (hl : ¬ (phOf x.ps x.ad).wi ≤ x.si) : lateAt h k = h := by
  unfold lateAt
  rw [hx]
  dsimp only
  rw [if_neg hl]
theorem late_yes {h : House} {k : Nat} {x : Rb} (hx : h.bs[k]? = some x) (hl : (phOf x.ps x.ad).wi ≤ x.si) : lateAt h k = onH h k (phOf x.ps x.ad).e := by
  unfold lateAt
  rw [hx]
  dsimp only
  rw [if_pos hl]
/-- Each of the first k batches is at a phase of an ok recipe. -/
def AtOk (h : House) (k : Nat) : Prop := ∀ (j : Nat) (x : Rb), j < k → h.bs[j]? = some x → recB x.ps = true ∧ hasB x.ps x.ad = true

set_option maxRecDepth 20000 in
set_option maxHeartbeats 8000000 in
theorem late23_any (h : House) (tv bv xv dv : Value) (base : Nat) (w : World) (H : HW w base h tv bv xv dv) (hbase : base ≤ w.heap.size) (hT : Tiny h.sh) (hok : AtOk h h.bs.length) (hnb : h.bs.length ≤ 1048576) (hnd : h.ds.length ≤ 20) :
    Calls Tryz.prog 116 #[.agg #[.int .i64 h.now, .int .i64 h.last, tv, bv, xv, dv]] w fun e w' => (∃ tu bu xu du, e = .returned (.agg #[.int .i64 h.now, .int .i64 h.last, tu, bu, xu, du]) ∧ Tiny (lateTo h h.bs.length).sh ∧ HW w' base (lateTo h h.bs.length) tu bu xu du ∧ Where w xv xu ∧ Where w dv du) ∧ G2 w w' xv.ownBlock dv.ownBlock := by
  obtain ⟨a1, c1, a2, c2, a3, c3, a4, c4, rfl, rfl, rfl, rfl⟩ := H.v.shapes
  obtain ⟨W1, hW1, kA, kR, hB1⟩ : ∃ W1, (w.alloc (.cells #[.int .i64 h.now, .int .i64 h.last, .slice a1 h.sh.things.length c1, .slice a2 h.sh.bs.length c2, .slice a3 h.bs.length c3, .slice a4 h.ds.length c4] 99)).alloc (.cells #[.int .i64 0, .int .i64 0, .slice none 0 0, .slice none 0 0, .slice none 0 0, .slice none 0 0] 99) = W1 ∧ W1.ownsRow w.heap.size 99 6 (.slice (some ⟨w.heap.size, 0, none⟩) 1 1) 1 [.int .i64 h.now, .int .i64 h.last, .slice a1 h.sh.things.length c1, .slice a2 h.sh.bs.length c2, .slice a3 h.bs.length c3, .slice a4 h.ds.length c4] ∧ W1.ownsRow w.heap.size 99 6 (.slice (some ⟨w.heap.size + 1, 0, none⟩) 1 1) 1 [.int .i64 0, .int .i64 0, .slice none 0 0, .slice none 0 0, .slice none 0 0, .slice none 0 0] ∧ Below w.heap.size w W1 := ⟨_, rfl, two_rows w [.int .i64 h.now, .int .i64 h.last, .slice a1 h.sh.things.length c1, .slice a2 h.sh.bs.length c2, .slice a3 h.bs.length c3, .slice a4 h.ds.length c4] [.int .i64 0, .int .i64 0, .slice none 0 0, .slice none 0 0, .slice none 0 0, .slice none 0 0] rfl rfl⟩
  go_enter Tryz.func116, Tryz.ntmps116
  go_upto_region 1 with fail
  try rw [hW1]
  clear hW1
  have H1 := H.up hB1
  have hG1 : G2 w W1 (Value.slice a3 h.bs.length c3).ownBlock (Value.slice a4 h.ds.length c4).ownBlock := .of_below hB1 _ _
  obtain ⟨e0, e1, e2, e3, e4, e5⟩ := (cb_of_rowK kA).c6
  have hw0 : IntKind.i64.wrap ((h.bs.length : Int) - 1) = (h.bs.length : Int) - 1 := by rw [IntKind.wrap_i64]; omega
  go_upto_region 2 with fail
  clear e0 e1 e2 e3 e4 e5
  go_loopw [3] (fun i w' => ∃ (k : Nat) (hk : House) (tu bu xu du : Value), i = .int .i64 ((k : Int) - 1) ∧ lateTo hk k = lateTo h h.bs.length ∧ k ≤ hk.bs.length ∧ hk.bs.length ≤ 1048576 ∧ hk.ds.length ≤ 20 ∧ AtOk hk k ∧ hk.now = h.now ∧ hk.last = h.last ∧ Tiny hk.sh ∧ w'.ownsRow w.heap.size 99 6 (.slice (some ⟨w.heap.size, 0, none⟩) 1 1) 1 [.int .i64 h.now, .int .i64 h.last, tu, bu, xu, du] ∧ w'.ownsRow w.heap.size 99 6 (.slice (some ⟨w.heap.size + 1, 0, none⟩) 1 1) 1 [.int .i64 0, .int .i64 0, .slice none 0 0, .slice none 0 0, .slice none 0 0, .slice none 0 0] ∧ HW w' base hk tu bu xu du ∧ Where w (.slice a3 h.bs.length c3) xu ∧ Where w (.slice a4 h.ds.length c4) du ∧ G2 w w' (Value.slice a3 h.bs.length c3).ownBlock (Value.slice a4 h.ds.length c4).ownBlock) (fun i _ => (intOf i + 1).toNat)
  case atStart => exact ⟨h.bs.length, h, _, _, _, _, by first | rfl | rw [hw0], rfl, Nat.le_refl _, hnb, hnd, hok, rfl, rfl, hT, kA, kR, H1, Where.refl _ _, Where.refl _ _, hG1⟩
  case round =>
    clear kA kR H1 hG1 hB1 H hT hok hnb hnd hw0
    obtain ⟨k, hk, tu, bu, xu, du, rfl, hlate, hkl, hnb, hnd, hok, hnow, hlast, hT, kA, kR, HH, hwx, hwd, hG⟩ := hrel
    have HL : Hid (lateTo hk k = lateTo h h.bs.length) := hlate
    have HO : Hid (AtOk hk k) := hok
    have HN : Hid (hk.now = h.now ∧ hk.last = h.last) := ⟨hnow, hlast⟩
    have Hx : Hid (Where w (.slice a3 h.bs.length c3) xu ∧ Where w (.slice a4 h.ds.length c4) du) := ⟨hwx, hwd⟩
    clear hlate hok hnow hlast hwx hwd
    obtain ⟨e0, e1, e2, e3, e4, e5⟩ := (cb_of_rowK kA).c6
    by_cases hk0 : k = 0
    · subst hk0
      have HE : Hid (lateTo h h.bs.length = hk) := HL.out.symm
      obtain ⟨y0, y1, y2, y3, y4, y5⟩ := (cb_of_rowK kR).c6
      obtain ⟨f0, f1, f2, f3, f4, f5⟩ := (cb_of_rowK kR).f6
      obtain ⟨t1, d1, t2, d2, qs, e9, -⟩ := HH.k.parts
      simp only [Value.agg.injEq, Array.mk.injEq, List.cons.injEq, and_true] at e9
      obtain ⟨rfl, rfl⟩ := e9
      obtain ⟨ax, nx, cx, rfl⟩ : ∃ a n c, xu = .slice a n c := by
        obtain ⟨ps, hW, -⟩ := HH.x
        obtain ⟨a, c, e⟩ := own_shape hW.1
        exact ⟨a, _, c, e⟩
      obtain ⟨ad, nd, cd, rfl⟩ : ∃ a n c, du = .slice a n c := by
        obtain ⟨g, c, pre, e, -⟩ := HH.d
        exact ⟨_, _, _, e⟩
      clear HL
      go_wp2_with fail
      refine end_cb6 Tryz.results116 Tryz.underlying99 rfl sizeHouseS (cb_of_rowK kR) rfl ?_
      have hg9 := grown_set6 wr (w.heap.size + 1) (.int .i64 h.now) (.int .i64 h.last) (.slice t1 hk.sh.things.length d1) (.slice t2 hk.sh.bs.length d2) (.slice ax nx cx) (.slice ad nd cd)
      rw [HE.out]
      refine ⟨⟨_, _, _, _, rfl, hT, HH.box kR hg9, Hx.out.1, Hx.out.2⟩, ?_⟩
      exact ⟨hg9.os.trans hG.os, hg9.tape.trans hG.tape, hg9.output.trans hG.output, Nat.le_trans hG.size hg9.size, fun i hi h1 h2 => (hg9.block i (Nat.lt_of_lt_of_le hi hG.size) (by simp; omega)).trans (hG.block i hi h1 h2)⟩
    · obtain ⟨m, rfl⟩ : ∃ m, k = m + 1 := ⟨k - 1, by omega⟩
      have ei : (((m + 1 : Nat) : Int)) - 1 = (m : Int) := by omega
      rw [ei]
      clear ei
      have hw0 : IntKind.i64.wrap ((m : Int) - 1) = (m : Int) - 1 := by rw [IntKind.wrap_i64]; omega
      obtain ⟨ps, hW, hm⟩ := HH.x
      have hpl : ps.length = hk.bs.length := by have := congrArg List.length hm; rwa [List.length_map] at this
      obtain ⟨g, cap, rfl⟩ := own_ptr2 hW.1 (by omega)
      obtain ⟨⟨x0, ru, su⟩, hpk⟩ : ∃ p, ps[m]? = some p := ⟨ps[m]'(by omega), List.getElem?_eq_getElem _⟩
      have hx0 : hk.bs[m]? = some x0 := by rw [← hm, List.getElem?_map, hpk]; rfl
      have Hx0 : Hid (hk.bs[m]? = some x0) := hx0
      have hrc := hW.2 _ (List.mem_of_getElem? hpk)
      have hv : RbV wr x0 ru su := hrc.v
      obtain ⟨b, o, c, rfl, hr, hb, -, -⟩ := hv.r
      obtain ⟨gs, qs, d, rfl, -, -⟩ := hv.s
      have hcl := own_rows rowR_len hW.1 hpk
      have q0 : World.cell? wr ⟨g, m * 6, none⟩ = some (.string x0.nm) := hcl 0 _ rfl
      have q1 : World.cell? wr ⟨g, m * 6 + 1, none⟩ = some (.slice (some ⟨b, o, none⟩) x0.ps.length c) := hcl 1 _ rfl
      have q2 : World.cell? wr ⟨g, m * 6 + 2, none⟩ = some (.slice (some ⟨gs, qs, none⟩) x0.sl.length d) := hcl 2 _ rfl
      have q3 : World.cell? wr ⟨g, m * 6 + 3, none⟩ = some (.string x0.ad) := hcl 3 _ rfl
      have q4 : World.cell? wr ⟨g, m * 6 + 4, none⟩ = some (.int .i64 x0.si) := hcl 4 _ rfl
      have q5 : World.cell? wr ⟨g, m * 6 + 5, none⟩ = some (.int .i64 x0.st) := hcl 5 _ rfl
      obtain ⟨hrec, hhas⟩ := HO.out m x0 (by omega) hx0
      obtain ⟨j, hj, hja⟩ := hasB_at hhas
      have Hph : Hid (phOf x0.ps x0.ad = x0.ps[j]) := phOf_at hj hja
      have np := hv.np
      have hat := fun W (hW : RecAt W b o x0.ps) => at_any x0.ps b o c x0.ad W hW np
      rw [hja] at hat
      have Hat : Hid (∀ W, RecAt W b o x0.ps → Calls Tryz.prog 30 #[.slice (some ⟨b, o, none⟩) x0.ps.length c, .string x0.ad] W fun e w' => e = .returned (.int .i64 (j : Int)) ∧ w' = W) := hat
      have Hrow : Hid (wr.ownsRow base 26 6 (.slice (some ⟨g, 0, none⟩) ps.length cap) ps.length (rowsF rowR ps)) := hW.1
      have hlm : m < ps.length := by omega
      have Hpl : Hid (ps.length = hk.bs.length) := hpl
      clear hcl hpk hrc hm hat hja hhas hx0 hW hpl
      go_upto_region 5 with fail
      obtain ⟨W2, hW2, kL, hB2⟩ : ∃ W2, wr.alloc (.cells #[.string x0.nm, .slice (some ⟨b, o, none⟩) x0.ps.length c, .slice (some ⟨gs, qs, none⟩) x0.sl.length d, .string x0.ad, .int .i64 x0.si, .int .i64 x0.st] 26) = W2 ∧ CB W2 wr.heap.size [.string x0.nm, .slice (some ⟨b, o, none⟩) x0.ps.length c, .slice (some ⟨gs, qs, none⟩) x0.sl.length d, .string x0.ad, .int .i64 x0.si, .int .i64 x0.st] ∧ Below wr.heap.size wr W2 := ⟨_, rfl, cb_alloc wr _ _, (Below.refl _ _).alloc (Nat.le_refl _) _⟩
      try rw [hW2]
      clear hW2 q0 q1 q2 q3 q4 q5
      have Hr : Hid (RecAt W2 b o x0.ps) := hr.up hB2 hb
      have hb2 : b < W2.heap.size := Nat.lt_of_lt_of_le hb hB2.size
      have hlt2 : wr.heap.size < W2.heap.size := kL.2.2
      obtain ⟨r0, r1, r2, r3, r4, r5, r6, r7⟩ := Hr.out.cells j hj
      generalize x0.ps[j] = p at *
      have mk : ∀ w', Below W2.heap.size W2 w' → Below W2.heap.size W2 w' ∧ World.cell? w' ⟨wr.heap.size, 1, none⟩ = some (.slice (some ⟨b, o, none⟩) x0.ps.length c) ∧ World.cell? w' ⟨wr.heap.size, 3, none⟩ = some (.string x0.ad) ∧ World.cell? w' ⟨b, o + j * 8, none⟩ = some (.string p.nm) ∧ World.cell? w' ⟨b, o + j * 8 + 1, none⟩ = some (.int .i64 p.k) ∧ World.cell? w' ⟨b, o + j * 8 + 2, none⟩ = some (.string p.a) ∧ World.cell? w' ⟨b, o + j * 8 + 3, none⟩ = some (.string p.b) ∧ World.cell? w' ⟨b, o + j * 8 + 4, none⟩ = some (.int .i64 p.n) ∧ World.cell? w' ⟨b, o + j * 8 + 5, none⟩ = some (.int .i64 p.wi) ∧ World.cell? w' ⟨b, o + j * 8 + 6, none⟩ = some (.string p.t) ∧ World.cell? w' ⟨b, o + j * 8 + 7, none⟩ = some (.string p.e) := fun w' hb' => by
        obtain ⟨z0, z1, z2, z3, z4, z5⟩ := (kL.up hb' hlt2).c6
        exact ⟨hb', z1, z3, (hb'.cell (p := ⟨b, o + j * 8, none⟩) hb2).trans r0, (hb'.cell (p := ⟨b, o + j * 8 + 1, none⟩) hb2).trans r1, (hb'.cell (p := ⟨b, o + j * 8 + 2, none⟩) hb2).trans r2, (hb'.cell (p := ⟨b, o + j * 8 + 3, none⟩) hb2).trans r3, (hb'.cell (p := ⟨b, o + j * 8 + 4, none⟩) hb2).trans r4, (hb'.cell (p := ⟨b, o + j * 8 + 5, none⟩) hb2).trans r5, (hb'.cell (p := ⟨b, o + j * 8 + 6, none⟩) hb2).trans r6, (hb'.cell (p := ⟨b, o + j * 8 + 7, none⟩) hb2).trans r7⟩
      have Mk : Hid (∀ w', Below W2.heap.size W2 w' → Below W2.heap.size W2 w' ∧ World.cell? w' ⟨wr.heap.size, 1, none⟩ = some (.slice (some ⟨b, o, none⟩) x0.ps.length c) ∧ World.cell? w' ⟨wr.heap.size, 3, none⟩ = some (.string x0.ad) ∧ World.cell? w' ⟨b, o + j * 8, none⟩ = some (.string p.nm) ∧ World.cell? w' ⟨b, o + j * 8 + 1, none⟩ = some (.int .i64 p.k) ∧ World.cell? w' ⟨b, o + j * 8 + 2, none⟩ = some (.string p.a) ∧ World.cell? w' ⟨b, o + j * 8 + 3, none⟩ = some (.string p.b) ∧ World.cell? w' ⟨b, o + j * 8 + 4, none⟩ = some (.int .i64 p.n) ∧ World.cell? w' ⟨b, o + j * 8 + 5, none⟩ = some (.int .i64 p.wi) ∧ World.cell? w' ⟨b, o + j * 8 + 6, none⟩ = some (.string p.t) ∧ World.cell? w' ⟨b, o + j * 8 + 7, none⟩ = some (.string p.e)) := mk
      clear mk r0 r1 r2 r3 r4 r5 r6 r7 e0 e1 e2 e3 e4 e5
      go_cut [5] (fun v5 wc => ∃ Y : Nat, v5 = .pointer (some ⟨Y, 0, none⟩) ∧ CB wc Y [.string p.nm, .int .i64 p.k, .string p.a, .string p.b, .int .i64 p.n, .int .i64 p.wi, .string p.t, .string p.e] ∧ Below W2.heap.size W2 wc)
      case first =>
        have hC : Below W2.heap.size W2 W2.drew := (Below.refl _ _).drew
        refine wp_region_x 99 (fun w' => Below W2.heap.size W2 w' ∧ World.cell? w' ⟨wr.heap.size, 1, none⟩ = some (.slice (some ⟨b, o, none⟩) x0.ps.length c) ∧ World.cell? w' ⟨wr.heap.size, 3, none⟩ = some (.string x0.ad) ∧ World.cell? w' ⟨b, o + j * 8, none⟩ = some (.string p.nm) ∧ World.cell? w' ⟨b, o + j * 8 + 1, none⟩ = some (.int .i64 p.k) ∧ World.cell? w' ⟨b, o + j * 8 + 2, none⟩ = some (.string p.a) ∧ World.cell? w' ⟨b, o + j * 8 + 3, none⟩ = some (.string p.b) ∧ World.cell? w' ⟨b, o + j * 8 + 4, none⟩ = some (.int .i64 p.n) ∧ World.cell? w' ⟨b, o + j * 8 + 5, none⟩ = some (.int .i64 p.wi) ∧ World.cell? w' ⟨b, o + j * 8 + 6, none⟩ = some (.string p.t) ∧ World.cell? w' ⟨b, o + j * 8 + 7, none⟩ = some (.string p.e)) (by kernel_rfl) ?_
        generalize W2.drew = X1 at hC ⊢
        have hX : W2.heap.size ≤ X1.heap.size := hC.size
        have hS1 := Mk.out _ hC
        refine tkx 0 rfl hS1 ?_
        refine tkx 1 rfl hS1 ?_
        refine tkx 2 rfl hS1 ?_
        refine tkx 3 rfl hS1 ?_
        refine tkx 4 rfl hS1 ?_
        refine tkx 5 rfl hS1 ?_
        clear hS1
        refine anyX_two (i := 6) (j := 9) (by kernel_rfl) rfl rfl (fun K hK => ?_) (fun K hK => ?_)
        · (go_simp; go_wp2_with (go_at_call 30; refine (Hat.out _ (Hr.out.up hC hb2)).mono ?_; rintro e X2 ⟨rfl, hw⟩; obtain rfl := hw.symm; clear hw); refine hK.out _ _ (fun _ => (Mk.out _ hC)) ?_; clear hK K; (refine tkx 7 rfl (Mk.out _ hC) ?_); (refine tkx 8 rfl (Mk.out _ hC) ?_))
          refine anyX_one (i := 9) (by kernel_rfl) rfl (fun K hK => ?_)
          (go_simp; have kY := cb_alloc X1 [.string ⟨#[]⟩, .int .i64 0, .string ⟨#[]⟩, .string ⟨#[]⟩, .int .i64 0, .int .i64 0, .string ⟨#[]⟩, .string ⟨#[]⟩] 34; replace hC : Below W2.heap.size W2 (X1.alloc (.cells #[.string ⟨#[]⟩, .int .i64 0, .string ⟨#[]⟩, .string ⟨#[]⟩, .int .i64 0, .int .i64 0, .string ⟨#[]⟩, .string ⟨#[]⟩] 34)) := hC.alloc hC.size _; have hy := hX; refine hK.out _ _ (fun _ => (Mk.out _ hC)) ?_; clear hK K; have kY : CB (X1.alloc (.cells #[.string ⟨#[]⟩, .int .i64 0, .string ⟨#[]⟩, .string ⟨#[]⟩, .int .i64 0, .int .i64 0, .string ⟨#[]⟩, .string ⟨#[]⟩] 34)) X1.heap.size [.string ⟨#[]⟩, .int .i64 0, .string ⟨#[]⟩, .string ⟨#[]⟩, .int .i64 0, .int .i64 0, .string ⟨#[]⟩, .string ⟨#[]⟩] := kY; generalize X1.alloc (.cells #[.string ⟨#[]⟩, .int .i64 0, .string ⟨#[]⟩, .string ⟨#[]⟩, .int .i64 0, .int .i64 0, .string ⟨#[]⟩, .string ⟨#[]⟩] 34) = X4 at hC kY ⊢)
          (obtain ⟨⟨j0, j1, j2, j3, j4, j5, j6, j7⟩, m0, m1, m2, m3, m4, m5, m6, m7⟩ := kY.c8; have kF := kY.copy8 (.string p.nm) (.int .i64 p.k) (.string p.a) (.string p.b) (.int .i64 p.n) (.int .i64 p.wi) (.string p.t) (.string p.e); have hF := below_set8 hC hy (.string p.nm) (.int .i64 p.k) (.string p.a) (.string p.b) (.int .i64 p.n) (.int .i64 p.wi) (.string p.t) (.string p.e); refine anyX_one (i := 10) (by kernel_rfl) rfl (fun K hK => ?_); go_simp; refine hK.out _ _ (fun _ => Mk.out _ hF) ?_; clear hK K j0 j1 j2 j3 j4 j5 j6 j7 m0 m1 m2 m3 m4 m5 m6 m7 kY; (try simp only [Act.put, List.setIfInBounds_toArray, List.set_cons_zero, List.set_cons_succ]); refine anyX_done (by kernel_rfl) ?_ _; go_wp2_with fail; go_meet; exact ⟨_, rfl, kF, hF⟩)
        · (go_simp; have kY := cb_alloc X1 [.string ⟨#[]⟩, .int .i64 0, .string ⟨#[]⟩, .string ⟨#[]⟩, .int .i64 0, .int .i64 0, .string ⟨#[]⟩, .string ⟨#[]⟩] 34; replace hC : Below W2.heap.size W2 (X1.alloc (.cells #[.string ⟨#[]⟩, .int .i64 0, .string ⟨#[]⟩, .string ⟨#[]⟩, .int .i64 0, .int .i64 0, .string ⟨#[]⟩, .string ⟨#[]⟩] 34)) := hC.alloc hC.size _; have hy := hX; refine hK.out _ _ (fun _ => (Mk.out _ hC)) ?_; clear hK K; have kY : CB (X1.alloc (.cells #[.string ⟨#[]⟩, .int .i64 0, .string ⟨#[]⟩, .string ⟨#[]⟩, .int .i64 0, .int .i64 0, .string ⟨#[]⟩, .string ⟨#[]⟩] 34)) X1.heap.size [.string ⟨#[]⟩, .int .i64 0, .string ⟨#[]⟩, .string ⟨#[]⟩, .int .i64 0, .int .i64 0, .string ⟨#[]⟩, .string ⟨#[]⟩] := kY; generalize X1.alloc (.cells #[.string ⟨#[]⟩, .int .i64 0, .string ⟨#[]⟩, .string ⟨#[]⟩, .int .i64 0, .int .i64 0, .string ⟨#[]⟩, .string ⟨#[]⟩] 34) = X4 at hC kY ⊢)
          refine anyX_one (i := 6) (by kernel_rfl) rfl (fun K hK => ?_)
          (go_simp; go_wp2_with (go_at_call 30; refine (Hat.out _ (Hr.out.up hC hb2)).mono ?_; rintro e X2 ⟨rfl, hw⟩; obtain rfl := hw.symm; clear hw); refine hK.out _ _ (fun _ => (Mk.out _ hC)) ?_; clear hK K; (refine tkx 7 rfl (Mk.out _ hC) ?_); (refine tkx 8 rfl (Mk.out _ hC) ?_))
          (obtain ⟨⟨j0, j1, j2, j3, j4, j5, j6, j7⟩, m0, m1, m2, m3, m4, m5, m6, m7⟩ := kY.c8; have kF := kY.copy8 (.string p.nm) (.int .i64 p.k) (.string p.a) (.string p.b) (.int .i64 p.n) (.int .i64 p.wi) (.string p.t) (.string p.e); have hF := below_set8 hC hy (.string p.nm) (.int .i64 p.k) (.string p.a) (.string p.b) (.int .i64 p.n) (.int .i64 p.wi) (.string p.t) (.string p.e); refine anyX_one (i := 10) (by kernel_rfl) rfl (fun K hK => ?_); go_simp; refine hK.out _ _ (fun _ => Mk.out _ hF) ?_; clear hK K j0 j1 j2 j3 j4 j5 j6 j7 m0 m1 m2 m3 m4 m5 m6 m7 kY; (try simp only [Act.put, List.setIfInBounds_toArray, List.set_cons_zero, List.set_cons_succ]); refine anyX_done (by kernel_rfl) ?_ _; go_wp2_with fail; go_meet; exact ⟨_, rfl, kF, hF⟩)
      case rest =>
        obtain ⟨Y, rfl, kY, hBc⟩ := hcut
        have hBwc : Below wr.heap.size wr wc := up_trans hB2 hBc
        have HHc := HH.up hBwc
        have kAc := own_up kA hBwc
        have kRc := own_up kR hBwc
        have hrowc := own_up Hrow.out hBwc
        have hGc : G2 w wc (Value.slice a3 h.bs.length c3).ownBlock (Value.slice a4 h.ds.length c4).ownBlock := hG.trans (.of_below hBwc none none) (fun k _ h => by cases h) (fun k _ h => by cases h)
        obtain ⟨-, -, -, -, l4, -⟩ := (kL.up hBc hlt2).c6
        obtain ⟨⟨-, -, -, -, -, z5, -, z7⟩, -⟩ := kY.c8
        have hkm : m < hk.bs.length := by omega
        clear Mk Hat Hr kL hBc hB2 HH kA kR Hrow hG kY hr hv
        by_cases hlt : p.wi ≤ x0.si
        · have HL2 : Hid (lateTo (onH hk m p.e) m = lateTo h h.bs.length) := by
            have e1 := HL.out
            have e2 := late_yes Hx0.out (by rw [Hph.out]; exact hlt)
            rw [Hph.out] at e2
            show _ = _
            rw [← e2]; exact e1
          have HF : Hid _ := on_facts (nm := p.e) hkm
          have HO2 : Hid (AtOk (onH hk m p.e) m) := fun j x hj hx => HO.out j x (by omega) (by rw [← HF.out.2.2.2.2.2 j hj]; exact hx)
          have hcall := on23_any hk _ _ _ _ base m x0 p.e wc HHc (Nat.le_trans hbase hGc.size) hT Hx0.out hrec hnb (by omega)
          rw [HN.out.1, HN.out.2] at hcall
          obtain ⟨e0, e1, e2, e3, e4, e5⟩ := (cb_of_rowK kAc).c6
          have Hd : Hid (DnsW wc base du hk.ds) := HHc.d
          go_upto_region 3 with (go_at_call 115; refine hcall.mono ?_; rintro e w5 ⟨⟨tn, bn, xn, dn, rfl, hT5, HH5, hwx5, hwd5⟩, hG5⟩; have kA5 := row_g2 kAc hG5 hrowc Hd.out (by decide) (by decide); have kR5 := row_g2 kRc hG5 hrowc Hd.out (by decide) (by decide); clear e0 e1 e2 e3 e4 e5; obtain ⟨e0, e1, e2, e3, e4, e5⟩ := (cb_of_rowK kA5).c6; obtain ⟨f0, f1, f2, f3, f4, f5⟩ := (cb_of_rowK kA5).f6; obtain ⟨t1, d1, t2, d2, qs9, e9, -⟩ := HH5.k.parts; simp only [Value.agg.injEq, Array.mk.injEq, List.cons.injEq, and_true] at e9; obtain ⟨rfl, rfl⟩ := e9; obtain ⟨ax, nx, cx, rfl⟩ : ∃ a n c, xn = .slice a n c := (by obtain ⟨ps, hW, -⟩ := HH5.x; obtain ⟨a, c, e⟩ := own_shape hW.1; exact ⟨a, _, c, e⟩); obtain ⟨ad, nd, cd, rfl⟩ : ∃ a n c, dn = .slice a n c := (by obtain ⟨g, c, pre, e, -⟩ := HH5.d; exact ⟨_, _, _, e⟩))
          have b0 := box_put (j := 0) kA5 (.int .i64 h.now)
          have b1 := box_put (j := 1) b0.1 (.int .i64 h.last)
          have b2 := box_put (j := 2) b1.1 (.slice t1 (onH hk m p.e).sh.things.length d1)
          have b3 := box_put (j := 3) b2.1 (.slice t2 (onH hk m p.e).sh.bs.length d2)
          have b4 := box_put (j := 4) b3.1 (.slice ax nx cx)
          have b5 := box_put (j := 5) b4.1 (.slice ad nd cd)
          have hg8 := grown_set6 w5 w.heap.size (.int .i64 h.now) (.int .i64 h.last) (.slice t1 (onH hk m p.e).sh.things.length d1) (.slice t2 (onH hk m p.e).sh.bs.length d2) (.slice ax nx cx) (.slice ad nd cd)
          have HH8 := HH5.box kA5 hg8
          have kR8 := own_keep2 kR5 hg8 (by simp [Value.ownBlock])
          have kA8 := b5.1
          have hG8 : G2 w w5 (Value.slice a3 h.bs.length c3).ownBlock (Value.slice a4 h.ds.length c4).ownBlock := hGc.trans hG5 (fun k hk e => .inl (Hx.out.1.old k hk e)) (fun k hk e => .inr (Hx.out.2.old k hk e))
          have hG9 := hG8.trans (.of1 hg8 none) (fun k hk e => by cases e; omega) (fun k hk e => by cases e)
          have Hx2 : Hid (Where w (.slice a3 h.bs.length c3) (.slice ax nx cx) ∧ Where w (.slice a4 h.ds.length c4) (.slice ad nd cd)) := ⟨Hx.out.1.trans hGc.size hwx5, Hx.out.2.trans hGc.size hwd5⟩
          clear e0 e1 e2 e3 e4 e5 f0 f1 f2 f3 f4 f5 b0 b1 b2 b3 b4 b5 hg8 HH5 kA5 kR5 kAc kRc HHc hrowc hG8 hG5 hGc hcall hwx5 hwd5 Hd l4 z5 z7
          generalize (((((w5.setCell ⟨w.heap.size, 0, none⟩ (.int .i64 h.now)).setCell ⟨w.heap.size, 1, none⟩ (.int .i64 h.last)).setCell ⟨w.heap.size, 2, none⟩ (.slice t1 (onH hk m p.e).sh.things.length d1)).setCell ⟨w.heap.size, 3, none⟩ (.slice t2 (onH hk m p.e).sh.bs.length d2)).setCell ⟨w.heap.size, 4, none⟩ (.slice ax nx cx)).setCell ⟨w.heap.size, 5, none⟩ (.slice ad nd cd) = W8 at *
          clear HO HL hkl
          go_wp2_with fail
          go_roundw
          case rel =>
            obtain ⟨g1, g2, g3, g4, g5, -⟩ := HF.out
            exact ⟨m, onH hk m p.e, _, _, _, _, by first | rfl | rw [hw0], HL2.out, g4, by omega, g3 hnd, HO2.out, g1.trans HN.out.1, g2.trans HN.out.2, hT5, kA8, kR8, HH8, Hx2.out.1, Hx2.out.2, hG9⟩
          case measure => simp [intOf]
        · have HL2 : Hid (lateTo hk m = lateTo h h.bs.length) := by
            have e1 := HL.out
            have e2 := late_no Hx0.out (by rw [Hph.out]; exact hlt)
            show _ = _
            rw [lateTo, e2] at e1; exact e1
          have HO2 : Hid (AtOk hk m) := fun j x hj hx => HO.out j x (by omega) hx
          clear HO HL hkl
          go_wp2_with fail
          go_roundw
          case rel => exact ⟨m, hk, tu, bu, _, du, by first | rfl | rw [hw0], HL2.out, Nat.le_of_lt hkm, hnb, hnd, HO2.out, HN.out.1, HN.out.2, hT, kAc, kRc, HHc, Hx.out.1, Hx.out.2, hGc⟩
          case measure => simp [intOf]
end Go.Proofs.YtliebjbbomghiaaGreatDoor

/- The specification's helpers of chapter 22: lists alike, part of another one; the place of a batch; those that ended. -/
namespace Go.Proofs.YtliebjbbomghiaaGreatDoor
open Go.RowKit

set_option maxHeartbeats 2000000 in
theorem alikeS_at (sa sb : List ByteArray) (n m : Nat) (a1 a2 : Option Addr) (c1 c2 : Nat) (w : World) (Hn : Hid (sa.length = n)) (Hm : Hid (sb.length = m)) (hn9 : n ≤ maxLen) (hpa : 0 < n → ∃ b o, a1 = some ⟨b, o, none⟩ ∧ StrsAt w b o sa ∧ b < w.heap.size) (hpb : 0 < m → ∃ b o, a2 = some ⟨b, o, none⟩ ∧ StrsAt w b o sb ∧ b < w.heap.size) :
    Calls Tryz.prog 129 #[.slice a1 n c1, .slice a2 m c2] w fun e w' => e = .returned (.bool (pB (sa = sb))) ∧ Below w.heap.size w w' := by
  unfold maxLen at hn9
  by_cases hll : n = m
  case neg =>
    have HN : Hid (pB (sa = sb) = false) := pB_no fun e => hll (by rw [← Hn.out, ← Hm.out, e])
    go_enter Tryz.func129, Tryz.ntmps129
    go_wp2_with fail
    go_ret
    exact ⟨ret_bool HN.out.symm, Below.refl _ _⟩
  subst hll
  go_enter Tryz.func129, Tryz.ntmps129
  go_wp2_with fail
  go_loopw [5] (fun i w' => ∃ k : Nat, k ≤ n ∧ i = .int .i64 k ∧ (∀ i, i < k → sa[i]? = sb[i]?) ∧ Below w.heap.size w w') (fun i _ => n - (intOf i).toNat)
  case atStart => exact ⟨0, by omega, rfl, fun i hi => by omega, Below.refl _ _⟩
  case round =>
    obtain ⟨k, hk, rfl, hal, hB⟩ := hrel
    have Hal : Hid (∀ i, i < k → sa[i]? = sb[i]?) := hal
    clear hal
    by_cases hp : k < n
    · obtain ⟨b1, o1, rfl, hS1, hb1⟩ := hpa (by omega)
      obtain ⟨b2, o2, rfl, hS2, hb2⟩ := hpb (by omega)
      have h1 : k < sa.length := by have := Hn.out; omega
      have h2 : k < sb.length := by have := Hm.out; omega
      have e1 := (hB.cell (p := ⟨b1, o1 + k, none⟩) hb1).trans (hS1 k sa[k] (List.getElem?_eq_getElem h1))
      have e2 := (hB.cell (p := ⟨b2, o2 + k, none⟩) hb2).trans (hS2 k sb[k] (List.getElem?_eq_getElem h2))
      have N1 : Hid (((sa[k]).toList == (sb[k]).toList) = false → ¬ sa = sb) := fun hq e => by
        subst e; simp at hq
      have N2 : Hid (((sa[k]).toList == (sb[k]).toList) = true → ∀ i, i < k + 1 → sa[i]? = sb[i]?) := fun hq i hi => by
        rcases Nat.lt_or_ge i k with h' | h'
        · exact Hal.out i h'
        · obtain rfl : i = k := by omega
          have e : sa[i] = sb[i] := toL_eq (by simpa using hq)
          rw [List.getElem?_eq_getElem h1, List.getElem?_eq_getElem h2, e]
      generalize sa[k] = s1 at *
      generalize sb[k] = s2 at *
      clear hS1 hS2
      cases hq : (s1.toList == s2.toList)
      · have HN : Hid (pB (sa = sb) = false) := pB_no (N1.out hq)
        go_wp2_with fail
        go_quiet (fail)
        go_wp2_with fail
        go_ret
        exact ⟨ret_bool HN.out.symm, below_drewN hB _⟩
      · have HY : Hid (∀ i, i < k + 1 → sa[i]? = sb[i]?) := N2.out hq
        go_wp2_with fail
        go_quiet (fail)
        go_wp2_with fail
        go_roundw
        case rel => exact ⟨k + 1, by omega, by go_num, HY.out, below_drewN hB _⟩
        case measure => simp [intOf]; omega
    · have HY : Hid (pB (sa = sb) = true) := pB_yes (List.ext_getElem? fun i => by
        by_cases hi : i < k
        · exact Hal.out i hi
        · rw [List.getElem?_eq_none (by have := Hn.out; omega), List.getElem?_eq_none (by have := Hm.out; omega)])
      go_wp2_with fail
      go_ret
      exact ⟨ret_bool HY.out.symm, hB⟩
theorem alikeS_any (sa sb : List ByteArray) (va vb : Value) (w : World) (ha : Ls w va sa) (hb : Ls w vb sb) :
    Calls Tryz.prog 129 #[va, vb] w fun e w' => e = .returned (.bool (pB (sa = sb))) ∧ Below w.heap.size w w' := by
  obtain ⟨a1, c1, rfl, hn1, -, hp1⟩ := ha
  obtain ⟨a2, c2, rfl, -, -, hp2⟩ := hb
  exact alikeS_at sa sb _ _ a1 a2 c1 c2 w rfl rfl hn1 hp1 hp2

theorem all22_any (sa sb : List ByteArray) (va vb : Value) (w : World) (ha : Ls w va sa) (hb : Ls w vb sb) :
    Calls Tryz.prog 130 #[va, vb] w fun e w' => e = .returned (.bool (pB (Part sa sb))) ∧ w' = w := by
  obtain ⟨a, c, rfl, hn, hz, hpos⟩ := ha
  obtain ⟨a2, c2, rfl, -⟩ := id hb
  unfold maxLen at hn
  go_enter Tryz.func130, Tryz.ntmps130
  go_wp2_with fail
  go_loop [5] (fun i => ∃ k : Nat, k ≤ sa.length ∧ i = .int .i64 k ∧ PartTo sa sb k) (fun i => sa.length - (intOf i).toNat)
  case atStart => exact ⟨0, by omega, rfl, PartTo.zero _ _⟩
  case round =>
    obtain ⟨k, hk, rfl, hal⟩ := hrel
    have Hal : Hid (PartTo sa sb k) := hal
    clear hal
    by_cases hp : k < sa.length
    · obtain ⟨b, o, rfl, hS, hb'⟩ := hpos (by omega)
      have c0 := hS.cell hp
      cases hq : memS sb sa[k]
      · have Hq : Hid (¬ Part sa sb) := fun h => by rw [part_at h hp] at hq; cases hq
        go_wp2_with (go_at_call 119; refine (has11_any sb _ _ _ hb).mono ?_; rintro e w' ⟨rfl, hw⟩; obtain rfl := hw.symm; clear hw)
        go_ret
        exact ⟨ret_bool (pB_no Hq.out).symm, rfl⟩
      · have Hq : Hid (PartTo sa sb (k + 1)) := Hal.out.step hp hq
        go_wp2_with (go_at_call 119; refine (has11_any sb _ _ _ hb).mono ?_; rintro e w' ⟨rfl, hw⟩; obtain rfl := hw.symm; clear hw)
        go_round
        case rel => exact ⟨k + 1, by omega, by go_num, Hq.out⟩
        case measure => simp [intOf]; omega
    · have Hq : Hid (Part sa sb) := part_end Hal.out hp
      go_wp2_with fail
      go_ret
      exact ⟨ret_bool (pB_yes Hq.out).symm, rfl⟩

theorem of22_any (h : House) (tv bv xv dv : Value) (s : ByteArray) (w : World) (H : HV w h tv bv xv dv) :
    Calls Tryz.prog 114 #[.agg #[.int .i64 h.now, .int .i64 h.last, tv, bv, xv, dv], .string s] w fun e w' => e = .returned (.int .i64 (idxI (rnms h.bs) s)) ∧ Below w.heap.size w w' := by
  obtain ⟨a1, c1, a2, c2, a3, c3, a4, c4, rfl, rfl, rfl, rfl⟩ := H.shapes
  obtain ⟨hmax, hpos⟩ := H.x.inv rfl
  unfold maxLen at hmax
  clear H
  have hB0 := (Below.refl w.heap.size w).alloc (Nat.le_refl _) (.cells #[.int .i64 h.now, .int .i64 h.last, .slice a1 h.sh.things.length c1, .slice a2 h.sh.bs.length c2, .slice a3 h.bs.length c3, .slice a4 h.ds.length c4] 99)
  have hC : CB (w.alloc (.cells #[.int .i64 h.now, .int .i64 h.last, .slice a1 h.sh.things.length c1, .slice a2 h.sh.bs.length c2, .slice a3 h.bs.length c3, .slice a4 h.ds.length c4] 99)) w.heap.size [.int .i64 h.now, .int .i64 h.last, .slice a1 h.sh.things.length c1, .slice a2 h.sh.bs.length c2, .slice a3 h.bs.length c3, .slice a4 h.ds.length c4] := cb_alloc w _ _
  go_enter Tryz.func114, Tryz.ntmps114
  go_upto_region 1 with fail
  generalize w.alloc (.cells #[.int .i64 h.now, .int .i64 h.last, .slice a1 h.sh.things.length c1, .slice a2 h.sh.bs.length c2, .slice a3 h.bs.length c3, .slice a4 h.ds.length c4] 99) = W1 at *
  obtain ⟨-, -, -, -, d4, -⟩ := hC.c6
  go_wp2_with fail
  go_loop [5] (fun i => ∃ k : Nat, k ≤ h.bs.length ∧ i = .int .i64 k ∧ memS ((rnms h.bs).take k) s = false) (fun i => h.bs.length - (intOf i).toNat)
  case atStart => exact ⟨0, by omega, rfl, rfl⟩
  case round =>
    obtain ⟨k, hk, rfl, hal⟩ := hrel
    have Hal : Hid (memS ((rnms h.bs).take k) s = false) := hal
    clear hal
    by_cases hp : k < h.bs.length
    · obtain ⟨b, o, ha3, hS, hb⟩ := hpos (by omega)
      subst ha3
      have hkr : k < (rnms h.bs).length := by rw [rnms_length]; exact hp
      have hg : (rnms h.bs)[k] = (h.bs[k]).nm := by simp [rnms]
      have hin := ((hS.at hp).up hB0 hb).open
      obtain ⟨p, q, c, g, r, d, ⟨e0, -⟩, -⟩ := hin
      have N1 : Hid (((h.bs[k]).nm.toList == s.toList) = false → memS ((rnms h.bs).take (k + 1)) s = false) := fun hq => memS_take hkr Hal.out (by rw [hg]; exact hq)
      have N2 : Hid (((h.bs[k]).nm.toList == s.toList) = true → idxI (rnms h.bs) s = (k : Int)) := fun hq => idxI_found hkr Hal.out (by rw [hg]; exact hq)
      clear hS hg
      generalize h.bs[k] = x0 at *
      cases hq : (x0.nm.toList == s.toList)
      · have HY : Hid (memS ((rnms h.bs).take (k + 1)) s = false) := N1.out hq
        go_wp2_with fail
        go_round
        case rel => exact ⟨k + 1, by omega, by go_num, HY.out⟩
        case measure => simp [intOf]; omega
      · have HY : Hid (idxI (rnms h.bs) s = (k : Int)) := N2.out hq
        go_wp2_with fail
        go_ret
        exact ⟨ret_int HY.out.symm, hB0⟩
    · have HY : Hid (idxI (rnms h.bs) s = -1) := idxI_none (memS_all (by rw [rnms_length]; exact hp) Hal.out)
      go_wp2_with fail
      go_ret
      exact ⟨ret_int HY.out.symm, hB0⟩

set_option maxRecDepth 20000 in
set_option maxHeartbeats 8000000 in
theorem donesS_any (h : House) (tv bv xv dv : Value) (w : World) (H : HV w h tv bv xv dv) :
    Calls Tryz.prog 121 #[.agg #[.int .i64 h.now, .int .i64 h.last, tv, bv, xv, dv]] w fun e w' => e = .returned (.bool (pB (DonesOk h))) ∧ Below w.heap.size w w' := by
  obtain ⟨-, -, -, a4', c4', e4', -, hpos⟩ := id H
  obtain ⟨a1, c1, a2, c2, a3, c3, a4, c4, rfl, rfl, rfl, rfl⟩ := H.shapes
  simp only [Value.slice.injEq] at e4'
  obtain ⟨rfl, -, rfl⟩ := e4'
  clear H
  have hB0 := (Below.refl w.heap.size w).alloc (Nat.le_refl _) (.cells #[.int .i64 h.now, .int .i64 h.last, .slice a1 h.sh.things.length c1, .slice a2 h.sh.bs.length c2, .slice a3 h.bs.length c3, .slice a4 h.ds.length c4] 99)
  have hC : CB (w.alloc (.cells #[.int .i64 h.now, .int .i64 h.last, .slice a1 h.sh.things.length c1, .slice a2 h.sh.bs.length c2, .slice a3 h.bs.length c3, .slice a4 h.ds.length c4] 99)) w.heap.size [.int .i64 h.now, .int .i64 h.last, .slice a1 h.sh.things.length c1, .slice a2 h.sh.bs.length c2, .slice a3 h.bs.length c3, .slice a4 h.ds.length c4] := cb_alloc w _ _
  go_enter Tryz.func121, Tryz.ntmps121
  go_upto_region 1 with fail
  generalize w.alloc (.cells #[.int .i64 h.now, .int .i64 h.last, .slice a1 h.sh.things.length c1, .slice a2 h.sh.bs.length c2, .slice a3 h.bs.length c3, .slice a4 h.ds.length c4] 99) = W1 at *
  have hlt := hC.2.2
  obtain ⟨d0, d1, d2, d3, d4, d5⟩ := hC.c6
  by_cases h20 : 20 < h.ds.length
  · have HN : Hid (pB (DonesOk h) = false) := pB_no fun t => by have := t.1; omega
    go_wp2_with fail
    go_ret
    exact ⟨ret_bool HN.out.symm, hB0⟩
  go_wp2_with fail
  go_loopw [3, 4] (fun i _ w' => ∃ k : Nat, k ≤ h.ds.length ∧ i = .int .i64 k ∧ DonesTo h.ds h.now k ∧ Below W1.heap.size W1 w') (fun i _ _ => h.ds.length - (intOf i).toNat)
  case atStart => exact ⟨0, by omega, rfl, fun i d hi => by omega, Below.refl _ _⟩
  case round =>
    obtain ⟨k, hk, rfl, hinv, hB⟩ := hrel
    have HI : Hid (DonesTo h.ds h.now k) := hinv
    clear hinv d0 d1 d2 d3 d4 d5
    obtain ⟨d0, d1, d2, d3, d4, d5⟩ := (hC.up hB hlt).c6
    by_cases hp : k < h.ds.length
    · obtain ⟨b, o, ha, hD, hb⟩ := hpos (by omega)
      subst ha
      have hB01 := up_trans hB0 hB
      have hD1 := hD.up hB01 hb
      obtain ⟨hrg, zn⟩ := hD1 k _ (List.getElem?_eq_getElem hp)
      have c0 := hrg 0 _ rfl
      have c1' := hrg 1 _ rfl
      have c2' := hrg 2 _ rfl
      simp only [Nat.add_zero] at c0
      have NO : Hid (¬ DoneOk h.ds h.now k h.ds[k] → pB (DonesOk h) = false) := fun hn => pB_no fun t => hn (t.2 k _ hp (List.getElem?_eq_getElem hp))
      have YES : Hid (DoneOk h.ds h.now k h.ds[k] → DonesTo h.ds h.now (k + 1)) := fun hy => to_step (P := DoneOk h.ds h.now) HI.out hp hy
      have HP : Hid (0 < k → ∃ p : Done, h.ds[k - 1]? = some p ∧ wr.cell? ⟨b, o + (k - 1) * 3 + 2, none⟩ = some (.int .i64 p.t) ∧ (¬ p.t ≤ (h.ds[k]).t → ¬ DoneOk h.ds h.now k h.ds[k]) ∧ (p.t ≤ (h.ds[k]).t → ∀ (j : Nat) (p' : Done), j + 1 = k → h.ds[j]? = some p' → p'.t ≤ (h.ds[k]).t)) := fun h0 => by
        have hk1 : k - 1 < h.ds.length := by omega
        refine ⟨h.ds[k - 1], List.getElem?_eq_getElem hk1, (hD1 (k - 1) _ (List.getElem?_eq_getElem hk1)).1 2 _ rfl, fun hn hd => hn (hd.2.2.2.2.2 (k - 1) _ (by omega) (List.getElem?_eq_getElem hk1)), fun hle j p' hj hp' => ?_⟩
        obtain rfl : j = k - 1 := by omega
        rw [List.getElem?_eq_getElem hk1] at hp'
        obtain rfl := Option.some.inj hp'
        exact hle
      generalize h.ds[k] = x0 at *
      have hB1 := hB.alloc hB.size (.cells #[.string (x0).nm, .int .i64 (x0).e, .int .i64 (x0).t] 186)
      have hX : CB (wr.alloc (.cells #[.string (x0).nm, .int .i64 (x0).e, .int .i64 (x0).t] 186)) wr.heap.size [.string x0.nm, .int .i64 x0.e, .int .i64 x0.t] := cb_alloc wr _ _
      have hal := (Below.refl wr.heap.size wr).alloc (Nat.le_refl _) (.cells #[.string (x0).nm, .int .i64 (x0).e, .int .i64 (x0).t] 186)
      have hbw : b < wr.heap.size := Nat.lt_of_lt_of_le hb hB01.size
      have hqw : w.heap.size < wr.heap.size := Nat.lt_of_lt_of_le hlt hB.size
      have g0 := (hal.cell (p := ⟨w.heap.size, 0, none⟩) hqw).trans d0
      have g5 := (hal.cell (p := ⟨w.heap.size, 5, none⟩) hqw).trans d5
      have HP2 : Hid (0 < k → ∃ p : Done, h.ds[k - 1]? = some p ∧ (wr.alloc (.cells #[.string (x0).nm, .int .i64 (x0).e, .int .i64 (x0).t] 186)).cell? ⟨b, o + (k - 1) * 3 + 2, none⟩ = some (.int .i64 p.t) ∧ (¬ p.t ≤ x0.t → ¬ DoneOk h.ds h.now k x0) ∧ (p.t ≤ x0.t → ∀ (j : Nat) (p' : Done), j + 1 = k → h.ds[j]? = some p' → p'.t ≤ x0.t)) := fun h0 => by
        obtain ⟨p, e1, e2, e3, e4⟩ := HP.out h0
        exact ⟨p, e1, (hal.cell (p := ⟨b, o + (k - 1) * 3 + 2, none⟩) hbw).trans e2, e3, e4⟩
      go_upto_region 7 with fail
      generalize wr.alloc (.cells #[.string (x0).nm, .int .i64 (x0).e, .int .i64 (x0).t] 186) = W2 at *
      obtain ⟨⟨f0, f1, f2⟩, -⟩ := hX.c3
      have hB02 := up_trans hB0 hB1
      clear c0 c1' c2' d0 d1 d2 d3 d4 d5 hrg hD1 hal
      cases q1 : nameB x0.nm
      · have HN : Hid (pB (DonesOk h) = false) := NO.out fun t => by rw [t.1] at q1; cases q1
        go_wp2_with fail
        go_quiet ((first | (go_at_call 27; exact Calls.quiet_of_same (specName_any _ _ zn)) | (go_at_call 31; exact Calls.quiet_of_same (in_any _ _ _ _))))
        go_wp2_with fail
        go_ret
        exact ⟨ret_bool HN.out.symm, below_drewN hB02 _⟩
      cases q2 : inB x0.e 1 3
      · have HN : Hid (pB (DonesOk h) = false) := NO.out fun t => (inB_no _ _ _).1 q2 ⟨t.2.1, t.2.2.1⟩
        go_wp2_with fail
        go_quiet ((first | (go_at_call 27; exact Calls.quiet_of_same (specName_any _ _ zn)) | (go_at_call 31; exact Calls.quiet_of_same (in_any _ _ _ _))))
        go_wp2_with fail
        go_ret
        exact ⟨ret_bool HN.out.symm, below_drewN hB02 _⟩
      cases q3 : inB x0.t 0 h.now
      · have HN : Hid (pB (DonesOk h) = false) := NO.out fun t => (inB_no _ _ _).1 q3 ⟨t.2.2.2.1, t.2.2.2.2.1⟩
        go_wp2_with fail
        go_quiet ((first | (go_at_call 27; exact Calls.quiet_of_same (specName_any _ _ zn)) | (go_at_call 31; exact Calls.quiet_of_same (in_any _ _ _ _))))
        go_wp2_with fail
        go_ret
        exact ⟨ret_bool HN.out.symm, below_drewN hB02 _⟩
      have e2 := (inB_iff _ _ _).1 q2
      have e3 := (inB_iff _ _ _).1 q3
      rcases Nat.eq_zero_or_pos k with h0 | h0
      · have HY : Hid (DonesTo h.ds h.now (0 + 1)) := by
          have := YES.out ⟨q1, e2.1, e2.2, e3.1, e3.2, fun j p hj => by omega⟩
          rwa [h0] at this
        subst h0
        go_wp2_with fail
        go_quiet ((first | (go_at_call 27; exact Calls.quiet_of_same (specName_any _ _ zn)) | (go_at_call 31; exact Calls.quiet_of_same (in_any _ _ _ _))))
        go_wp2_with fail
        go_roundw
        case rel => exact ⟨0 + 1, by omega, by go_num, HY.out, below_drewN hB1 _⟩
        case measure => simp [intOf]; omega
      · obtain ⟨p, -, cp, p1, p2⟩ := HP2.out h0
        by_cases q4 : p.t ≤ x0.t
        · have HY : Hid (DonesTo h.ds h.now (k + 1)) := YES.out ⟨q1, e2.1, e2.2, e3.1, e3.2, p2 q4⟩
          clear p1 p2
          generalize p.t = pt at *
          go_wp2_with fail
          go_quiet ((first | (go_at_call 27; exact Calls.quiet_of_same (specName_any _ _ zn)) | (go_at_call 31; exact Calls.quiet_of_same (in_any _ _ _ _))))
          go_wp2_with fail
          go_roundw
          case rel => exact ⟨k + 1, by omega, by go_num, HY.out, below_drewN hB1 _⟩
          case measure => simp [intOf]; omega
        · have HN : Hid (pB (DonesOk h) = false) := NO.out (p1 q4)
          clear p1 p2
          generalize p.t = pt at *
          go_wp2_with fail
          go_quiet ((first | (go_at_call 27; exact Calls.quiet_of_same (specName_any _ _ zn)) | (go_at_call 31; exact Calls.quiet_of_same (in_any _ _ _ _))))
          go_wp2_with fail
          go_ret
          exact ⟨ret_bool HN.out.symm, below_drewN hB02 _⟩
    · have HY : Hid (pB (DonesOk h) = true) := pB_yes ⟨by omega, by
        have := HI.out
        rwa [show k = h.ds.length by omega] at this⟩
      go_wp2_with fail
      go_ret
      exact ⟨ret_bool HY.out.symm, up_trans hB0 hB⟩
end Go.Proofs.YtliebjbbomghiaaGreatDoor
