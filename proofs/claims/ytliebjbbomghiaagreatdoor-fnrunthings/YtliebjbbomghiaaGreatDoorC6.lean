/- The specification's l23On (chapter 23): a batch goes on to an end. -/
import Derived.Test.YtliebjbbomghiaaGreatDoorC5
import Derived.Test.YtliebjbbomghiaaGreatDoorKt6
namespace Go.Proofs.YtliebjbbomghiaaGreatDoor
open Go.RowKit

/-- What lies where while a batch ends. -/
structure EV (w : World) (base : Nat) (dvb : Option Nat) (X : World) (cs : List Value) (bk : Value) (B' : Bk) (ps : List Rv) (xv : Value) (rs : List Rv) (du : Value) (es : List Done) : Prop where
  A : X.ownsRow w.heap.size 99 6 (.slice (some ⟨w.heap.size, 0, none⟩) 1 1) 1 cs
  R : X.ownsRow w.heap.size 99 6 (.slice (some ⟨w.heap.size + 1, 0, none⟩) 1 1) 1 [.int .i64 0, .int .i64 0, .slice none 0 0, .slice none 0 0, .slice none 0 0, .slice none 0 0]
  K : BkW X base bk B'
  P : ∀ p ∈ ps, RcW X base p
  M : X.ownsRow base 26 6 xv rs.length (rowsF rowR rs)
  D : DnsW X base du es
  G : w.grownBy X dvb
theorem EV.up {w : World} {base : Nat} {dvb : Option Nat} {X X' : World} {cs : List Value} {bk : Value} {B' : Bk} {ps : List Rv} {xv : Value} {rs : List Rv} {du : Value} {es : List Done} (H : EV w base dvb X cs bk B' ps xv rs du es) (hb : Below X.heap.size X X') : EV w base dvb X' cs bk B' ps xv rs du es :=
  ⟨own_up H.A hb, own_up H.R hb, H.K.up hb, fun p hp => (H.P p hp).up hb, own_up H.M hb, H.D.up hb, ⟨hb.os.trans H.G.os, hb.tape.trans H.G.tape, hb.output.trans H.G.output, Nat.le_trans H.G.size hb.size, fun i hi hne => (hb.block i (Nat.lt_of_lt_of_le hi H.G.size)).trans (H.G.block i hi hne)⟩⟩
theorem EV.put {w : World} {base : Nat} {dvb : Option Nat} {X : World} {cs : List Value} {bk : Value} {B' : Bk} {ps : List Rv} {xv : Value} {rs : List Rv} {du : Value} {es : List Done} (H : EV w base dvb X cs bk B' ps xv rs du es) (j : Nat) (u : Value) : EV w base dvb (X.setCell ⟨w.heap.size, j, none⟩ u) (cs.set j u) bk B' ps xv rs du es := by
  obtain ⟨h1, hg⟩ := box_put (j := j) H.A u
  exact ⟨h1, own_keep2 H.R hg (by simp [Value.ownBlock]), H.K.step H.A (by decide) (by decide) hg, fun p hp => (H.P p hp).step H.A (by decide) (by decide) hg, own_keep2 H.M hg (own_apart2 H.M H.A (by decide)), H.D.step H.A (by decide) hg, grown_setNew H.G (Nat.le_refl _) _⟩
theorem EV.book {w : World} {base : Nat} {dvb : Option Nat} {X : World} {cs : List Value} {bk bk2 : Value} {B' B2 : Bk} {ps : List Rv} {xv : Value} {rs : List Rv} {du : Value} {es : List Done} (H : EV w base dvb X cs bk B' ps xv rs du es) (hk : BkW X base bk2 B2) : EV w base dvb X cs bk2 B2 ps xv rs du es := { H with K := hk }
theorem EV.rows {w : World} {base : Nat} {dvb : Option Nat} {X : World} {cs : List Value} {bk : Value} {B' : Bk} {ps : List Rv} {xv x2 : Value} {rs r2 : List Rv} {du : Value} {es : List Done} (H : EV w base dvb X cs bk B' ps xv rs du es) (hm : X.ownsRow base 26 6 x2 r2.length (rowsF rowR r2)) : EV w base dvb X cs bk B' ps x2 r2 du es := { H with M := hm }
theorem EV.dn {w : World} {base : Nat} {dvb : Option Nat} {X X' : World} {cs : List Value} {bk : Value} {B' : Bk} {ps : List Rv} {xv : Value} {rs : List Rv} {du u2 : Value} {es e2 : List Done} (H : EV w base dvb X cs bk B' ps xv rs du es) (hd : DnsW X' base u2 e2) (hg : X.grownBy X' du.ownBlock) (hw : du.ownBlock = dvb) : EV w base dvb X' cs bk B' ps xv rs u2 e2 := by
  obtain ⟨g, cap, pre, rfl, h1, -⟩ := id H.D
  have hg' : X.grownBy X' (Value.slice (some ⟨g, 0, none⟩) (pre.length + es.length) (pre.length + cap)).ownBlock := hg
  refine ⟨own_keep2 H.A hg' (own_apart2 H.A h1 (by decide)), own_keep2 H.R hg' (own_apart2 H.R h1 (by decide)), H.K.step h1 (by decide) (by decide) hg', fun p hp => (H.P p hp).step h1 (by decide) (by decide) hg', own_keep2 H.M hg' (own_apart2 H.M h1 (by decide)), hd, ?_⟩
  subst hw
  exact grown_trans H.G hg
theorem EV.cut {w : World} {base : Nat} {dvb : Option Nat} {X : World} {cs : List Value} {bk : Value} {B' : Bk} {ps : List Rv} {xv : Value} {rs : List Rv} {du u2 : Value} {es e2 : List Done} (H : EV w base dvb X cs bk B' ps xv rs du es) (hd : DnsW X base u2 e2) : EV w base dvb X cs bk B' ps xv rs u2 e2 := { H with D := hd }
theorem EV.hw {w : World} {base : Nat} {dvb : Option Nat} {X : World} {cs : List Value} {tu bu : Value} {B' : Bk} {ps : List Rv} {xv : Value} {rs : List Rv} {du : Value} {es : List Done} (H : EV w base dvb X cs (.agg #[tu, bu]) B' ps xv rs du es) (hz : Szb B') (hs : ∀ p ∈ rs, p ∈ ps) (h : House) (h1 : h.sh = B') (h2 : h.bs = rs.map (·.1)) (h3 : h.ds = es) : HW X base h tu bu xv du :=
  ⟨by rw [h1]; exact H.K, by rw [h1]; exact hz, ⟨rs, ⟨H.M, fun p hp => H.P p (hs p hp)⟩, h2.symm⟩, by rw [h3]; exact H.D⟩
theorem rows_src {w : World} {base g n cap : Nat} {ps : List Rv} (h : w.ownsRow base 26 6 (.slice (some ⟨g, 0, none⟩) n cap) n (rowsF rowR ps)) (k : Nat) (qs : List Rv) (hq : ∀ i p, qs[i]? = some p → ps[k + i]? = some p) : ∀ (j : Nat) (u : Value), (rowsF rowR qs)[j]? = some u → w.cell? ((⟨g, k * 6, none⟩ : Addr).add j) = some u :=
  news_rows (by decide) rowR_len fun i p hp => by
    have := own_rows rowR_len h (hq i p hp)
    rw [Nat.add_mul] at this
    exact this
theorem takeR_at (ps : List Rv) (k : Nat) : ∀ (i : Nat) (q : Rv), (ps.take k)[i]? = some q → ps[0 + i]? = some q := fun i q hq => by
  rw [List.getElem?_take] at hq
  split at hq
  · rw [Nat.zero_add]; exact hq
  · cases hq
theorem dropR_at (ps : List Rv) (k : Nat) : ∀ (i : Nat) (q : Rv), (ps.drop k)[i]? = some q → ps[k + i]? = some q := fun i q hq => by rwa [List.getElem?_drop] at hq
theorem rowsR_one {w : World} {base : Nat} {ps qs : List Rv} (h : ∀ p ∈ ps, RcW w base p) (hq : ∀ p ∈ qs, p ∈ ps) : ∀ u ∈ rowsF rowR qs, u.oneCell' = true := rowsF_one qs fun p hp => rowR_one (h p (hq p hp))

theorem EV.L {w : World} {base b2 : Nat} {dvb : Option Nat} {X : World} {cs c2 : List Value} {bk v : Value} {B' : Bk} {ps : List Rv} {xv : Value} {rs : List Rv} {du : Value} {es : List Done} (H : EV w base dvb X cs bk B' ps xv rs du es) (hl : X.ownsRow b2 26 6 v 1 c2) (j : Nat) (u : Value) : (X.setCell ⟨w.heap.size, j, none⟩ u).ownsRow b2 26 6 v 1 c2 :=
  own_keep2 hl (box_put H.A u).2 (own_apart2 hl H.A (by decide))
set_option maxRecDepth 20000 in
set_option maxHeartbeats 8000000 in
theorem onEnd_any (h : House) (tv bv xv dv : Value) (base k : Nat) (x : Rb) (nm : ByteArray) (w : World) (H : HW w base h tv bv xv dv) (hbase : base ≤ w.heap.size) (hT : Tiny h.sh) (hk : h.bs[k]? = some x) (hend : endN nm ≠ 0) (hnb : h.bs.length ≤ 1048576) (hnd : h.ds.length ≤ 1048576) :
    Calls Tryz.prog 115 #[.agg #[.int .i64 h.now, .int .i64 h.last, tv, bv, xv, dv], .int .i64 k, .string nm] w fun e w' => (∃ tu bu xu du, e = .returned (.agg #[.int .i64 h.now, .int .i64 h.last, tu, bu, xu, du]) ∧ Tiny (onH h k nm).sh ∧ HW w' base (onH h k nm) tu bu xu du ∧ Where w xv xu ∧ Where w dv du) ∧ w.grownBy w' dv.ownBlock := by
  have HON : Hid (onH h k nm = { h with sh := leaveB h.sh x.nm, bs := h.bs.take k ++ h.bs.drop (k + 1), ds := cut20 (h.ds ++ [⟨x.nm, endN nm, h.now⟩]) }) := by show _ = _; simp [onH, hk, hend]
  have Hsz : Hid (Szb h.sh) := H.z
  have Hdk : Hid (Szb (leaveB h.sh x.nm) ∧ Tiny (leaveB h.sh x.nm)) := leave_dk H.z hT
  obtain ⟨a1, c1, a2, c2, a3, c3, a4, c4, rfl, rfl, rfl, rfl⟩ := H.v.shapes
  obtain ⟨ps, hW, hm⟩ := H.x
  have hpl : ps.length = h.bs.length := by have := congrArg List.length hm; rwa [List.length_map] at this
  have hkl : k < h.bs.length := (List.getElem?_eq_some_iff.1 hk).1
  obtain ⟨g, cap, eg⟩ := own_ptr2 hW.1 (by omega)
  simp only [Value.slice.injEq] at eg
  obtain ⟨rfl, -, rfl⟩ := eg
  obtain ⟨gd, od, ed⟩ : ∃ gd od, a4 = some ⟨gd, od, none⟩ := by
    obtain ⟨gd, cap, pre, e, -⟩ := H.d
    simp only [Value.slice.injEq] at e
    exact ⟨gd, _, e.1⟩
  subst ed
  obtain ⟨⟨y, ru, su⟩, hpk⟩ : ∃ p, ps[k]? = some p := ⟨ps[k]'(by omega), List.getElem?_eq_getElem _⟩
  obtain rfl : x = y := by
    have e := hk
    rw [← hm, List.getElem?_map, hpk] at e
    simpa using e.symm
  have hrc := hW.2 _ (List.mem_of_getElem? hpk)
  have hnr : NN ru := hrc.nr
  have hns : NN su := hrc.ns
  obtain ⟨g3, n3, m3, rfl⟩ := hnr
  obtain ⟨g4, n4, m4, rfl⟩ := hns
  have Hm : Hid (ps.map (·.1) = h.bs) := hm
  have Hzn : Hid (x.nm.size ≤ maxLen) := hrc.zn
  have Hpl : Hid (ps.length = h.bs.length) := hpl
  obtain ⟨W1, hW1, kA, kR, hB1⟩ : ∃ W1, (w.alloc (.cells #[.int .i64 h.now, .int .i64 h.last, .slice a1 h.sh.things.length c1, .slice a2 h.sh.bs.length c2, .slice (some ⟨g, 0, none⟩) h.bs.length c3, .slice (some ⟨gd, od, none⟩) h.ds.length c4] 99)).alloc (.cells #[.int .i64 0, .int .i64 0, .slice none 0 0, .slice none 0 0, .slice none 0 0, .slice none 0 0] 99) = W1 ∧ W1.ownsRow w.heap.size 99 6 (.slice (some ⟨w.heap.size, 0, none⟩) 1 1) 1 [.int .i64 h.now, .int .i64 h.last, .slice a1 h.sh.things.length c1, .slice a2 h.sh.bs.length c2, .slice (some ⟨g, 0, none⟩) h.bs.length c3, .slice (some ⟨gd, od, none⟩) h.ds.length c4] ∧ W1.ownsRow w.heap.size 99 6 (.slice (some ⟨w.heap.size + 1, 0, none⟩) 1 1) 1 [.int .i64 0, .int .i64 0, .slice none 0 0, .slice none 0 0, .slice none 0 0, .slice none 0 0] ∧ Below w.heap.size w W1 := ⟨_, rfl, two_rows w [.int .i64 h.now, .int .i64 h.last, .slice a1 h.sh.things.length c1, .slice a2 h.sh.bs.length c2, .slice (some ⟨g, 0, none⟩) h.bs.length c3, .slice (some ⟨gd, od, none⟩) h.ds.length c4] [.int .i64 0, .int .i64 0, .slice none 0 0, .slice none 0 0, .slice none 0 0, .slice none 0 0] rfl rfl⟩
  have hE1 : EV w base (Value.slice (some ⟨gd, od, none⟩) h.ds.length c4).ownBlock W1 [.int .i64 h.now, .int .i64 h.last, .slice a1 h.sh.things.length c1, .slice a2 h.sh.bs.length c2, .slice (some ⟨g, 0, none⟩) h.bs.length c3, .slice (some ⟨gd, od, none⟩) h.ds.length c4] (.agg #[.slice a1 h.sh.things.length c1, .slice a2 h.sh.bs.length c2]) h.sh ps (.slice (some ⟨g, 0, none⟩) h.bs.length c3) ps (.slice (some ⟨gd, od, none⟩) h.ds.length c4) h.ds :=
    ⟨kA, kR, H.k.up hB1, fun p hp => (hW.2 p hp).up hB1, own_up hW.1 hB1, H.d.up hB1, ⟨hB1.os, hB1.tape, hB1.output, hB1.size, fun i hi _ => hB1.block i hi⟩⟩
  go_enter Tryz.func115, Tryz.ntmps115
  go_upto_region 1 with fail
  try rw [hW1]
  clear hW1
  have hrow1 : W1.ownsRow base 26 6 (.slice (some ⟨g, 0, none⟩) h.bs.length c3) h.bs.length (rowsF rowR ps) := by have := hE1.M; rw [hpl] at this; exact this
  have hcl := own_rows rowR_len hrow1 hpk
  have q0 : World.cell? W1 ⟨g, k * 6, none⟩ = some (.string x.nm) := hcl 0 _ rfl
  have q1 : World.cell? W1 ⟨g, k * 6 + 1, none⟩ = some (.slice (some ⟨g3, 0, none⟩) n3 m3) := hcl 1 _ rfl
  have q2 : World.cell? W1 ⟨g, k * 6 + 2, none⟩ = some (.slice (some ⟨g4, 0, none⟩) n4 m4) := hcl 2 _ rfl
  have q3 : World.cell? W1 ⟨g, k * 6 + 3, none⟩ = some (.string x.ad) := hcl 3 _ rfl
  have q4 : World.cell? W1 ⟨g, k * 6 + 4, none⟩ = some (.int .i64 x.si) := hcl 4 _ rfl
  have q5 : World.cell? W1 ⟨g, k * 6 + 5, none⟩ = some (.int .i64 x.st) := hcl 5 _ rfl
  have e4 := (cb_of_rowK kA).c6.2.2.2.2.1
  clear hcl hk hm hpk hpl hrow1 H hW hrc
  go_upto_region 2 with fail
  obtain ⟨W2, hW2, kL, hB2⟩ : ∃ W2, W1.alloc (.cells #[.string x.nm, .slice (some ⟨g3, 0, none⟩) n3 m3, .slice (some ⟨g4, 0, none⟩) n4 m4, .string x.ad, .int .i64 x.si, .int .i64 x.st] 26) = W2 ∧ W2.ownsRow W1.heap.size 26 6 (.slice (some ⟨W1.heap.size, 0, none⟩) 1 1) 1 [.string x.nm, .slice (some ⟨g3, 0, none⟩) n3 m3, .slice (some ⟨g4, 0, none⟩) n4 m4, .string x.ad, .int .i64 x.si, .int .i64 x.st] ∧ Below W1.heap.size W1 W2 := ⟨_, rfl, World.ownsRow_lit W1 _ 1 (Nat.le_refl _) (by unfold maxLen; omega) rfl, (Below.refl _ _).alloc (Nat.le_refl _) _⟩
  try rw [hW2]
  clear hW2 q0 q1 q2 q3 q4 q5 e4 kA kR
  have hE2 := hE1.up hB2
  clear hE1 hB2 hB1
  obtain ⟨l0, -⟩ := (cb_of_rowK kL).c6
  obtain ⟨-, -, e2, e3, -⟩ := (cb_of_rowK hE2.A).c6
  have hbk2 : BkV W2 (.agg #[.slice a1 h.sh.things.length c1, .slice a2 h.sh.bs.length c2]) h.sh := hE2.K.bk Hsz.out
  have hz2 : base ≤ W2.heap.size := Nat.le_trans hbase hE2.G.size
  go_upto_region 10 with ((go_at_call 54; refine (specEnd_any nm _).mono ?_; rintro e w' ⟨rfl, hw⟩; obtain rfl := hw.symm; clear hw))
  go_upto_region 11 with (go_at_call 127; refine (specLeave_any h.sh _ x.nm _ hbk2).mono ?_; rintro e w3 ⟨⟨v8, rfl, hk8⟩, hb3⟩; obtain ⟨t1, d1, t2, d2, qs8, rfl, -⟩ := hk8.parts)
  generalize leaveB h.sh x.nm = B' at *
  obtain ⟨W4, hW4, kY, hB4⟩ : ∃ W4, w3.alloc (.cells #[.slice t1 B'.things.length d1, .slice t2 B'.bs.length d2] 95) = W4 ∧ CB W4 w3.heap.size [.slice t1 B'.things.length d1, .slice t2 B'.bs.length d2] ∧ Below w3.heap.size w3 W4 := ⟨_, rfl, cb_alloc w3 _ _, (Below.refl _ _).alloc (Nat.le_refl _) _⟩
  try rw [hW4]
  clear hW4 l0 e2 e3 hbk2
  have hE4 := ((hE2.up hb3).up hB4).book ((hk8.up hB4).low hz2)
  have kL4 := own_up (own_up kL hb3) hB4
  clear hE2 kL hk8 hb3 hB4
  obtain ⟨v0, v1⟩ := kY.c2'
  obtain ⟨e0, e1, e2, e3, e4, e5⟩ := (cb_of_rowK hE4.A).c6
  obtain ⟨f0, f1, f2, f3, f4, f5⟩ := (cb_of_rowK hE4.A).f6
  obtain ⟨W5, hW5, hE5, kL5⟩ : ∃ W5, (W4.setCell ⟨w.heap.size, 2, none⟩ (.slice t1 B'.things.length d1)).setCell ⟨w.heap.size, 3, none⟩ (.slice t2 B'.bs.length d2) = W5 ∧ EV w base (Value.slice (some ⟨gd, od, none⟩) h.ds.length c4).ownBlock W5 [.int .i64 h.now, .int .i64 h.last, .slice t1 B'.things.length d1, .slice t2 B'.bs.length d2, .slice (some ⟨g, 0, none⟩) h.bs.length c3, .slice (some ⟨gd, od, none⟩) h.ds.length c4] (.agg #[.slice t1 B'.things.length d1, .slice t2 B'.bs.length d2]) B' ps (.slice (some ⟨g, 0, none⟩) h.bs.length c3) ps (.slice (some ⟨gd, od, none⟩) h.ds.length c4) h.ds ∧ W5.ownsRow W1.heap.size 26 6 (.slice (some ⟨W1.heap.size, 0, none⟩) 1 1) 1 [.string x.nm, .slice (some ⟨g3, 0, none⟩) n3 m3, .slice (some ⟨g4, 0, none⟩) n4 m4, .string x.ad, .int .i64 x.si, .int .i64 x.st] := ⟨_, rfl, (hE4.put 2 _).put 3 _, (hE4.put 2 _).L (hE4.L kL4 2 _) 3 _⟩
  go_upto_region 12 with fail
  try rw [hW5]
  clear hW5 v0 v1 e0 e1 e2 e3 e4 e5 f0 f1 f2 f3 f4 f5 hE4 kL4 kY
  have hrow5 : W5.ownsRow base 26 6 (.slice (some ⟨g, 0, none⟩) h.bs.length c3) h.bs.length (rowsF rowR ps) := by have := hE5.M; rw [Hpl.out] at this; exact this
  obtain ⟨hc4, hc9⟩ := own_cap2 hrow5
  unfold maxLen at hc9
  have hgl := hrow5.lt g rfl
  have hpc : k ≤ c3 := by omega
  have hp1 : k + 1 ≤ h.bs.length := hkl
  have hw1 : IntKind.i64.wrap ((k : Int) + 1) = (k : Int) + 1 := by rw [IntKind.wrap_i64]; omega
  have hw2 : (k : Int) + 1 ≤ (h.bs.length : Int) := by omega
  have hw3 : 0 ≤ (k : Int) + 1 := by omega
  have hw4 : ¬ (h.bs.length : Int) < (k : Int) + 1 := by omega
  obtain ⟨o2, ho2, hq2⟩ : ∃ o2 : Nat, (if c3 = k + 1 then some (⟨g, 0, none⟩ : Addr) else some ⟨g, (k + 1) * 6, none⟩) = some ⟨g, o2, none⟩ ∧ (h.bs.length - (k + 1) ≠ 0 → o2 = (k + 1) * 6) := by
    by_cases h7 : c3 = k + 1
    · exact ⟨0, by rw [if_pos h7], fun h => by omega⟩
    · exact ⟨(k + 1) * 6, by rw [if_neg h7], fun _ => rfl⟩
  obtain ⟨irb, hirb, r0, r1, r2⟩ := info_parts infoRbR
  have hE6 := hE5.up (Below.refl _ _).drew
  have kL6 : W5.drew.ownsRow W1.heap.size 26 6 (.slice (some ⟨W1.heap.size, 0, none⟩) 1 1) 1 [.string x.nm, .slice (some ⟨g3, 0, none⟩) n3 m3, .slice (some ⟨g4, 0, none⟩) n4 m4, .string x.ad, .int .i64 x.si, .int .i64 x.st] := own_drew kL5
  have hrow6 : W5.drew.ownsRow base 26 6 (.slice (some ⟨g, 0, none⟩) h.bs.length c3) h.bs.length (rowsF rowR ps) := own_drew hrow5
  refine wp_region_x 13 (fun w' => World.cell? w' ⟨w.heap.size, 4, none⟩ = some (.slice (some ⟨g, 0, none⟩) h.bs.length c3)) (by kernel_rfl) ?_
  generalize W5.drew = X0 at hE6 kL6 hrow6 ⊢
  clear hE5 kL5 hrow5 hgl
  have hS1 : World.cell? X0 ⟨w.heap.size, 4, none⟩ = some (.slice (some ⟨g, 0, none⟩) h.bs.length c3) := (cb_of_rowK hE6.A).c6.2.2.2.2.1
  refine tkx 1 rfl hS1 ?_
  refine tkx 2 rfl hS1 ?_
  refine tkx 3 rfl hS1 ?_
  refine tkx 4 rfl hS1 ?_
  refine tkx 6 rfl hS1 ?_
  refine tkx 7 rfl hS1 ?_
  refine tkx 8 rfl hS1 ?_
  refine tkx 9 rfl hS1 ?_
  refine tkx 10 rfl hS1 ?_
  have ho1 : (X0.alloc (.cells #[] 26)).ownsRow X0.heap.size 26 6 (.slice (some ⟨X0.heap.size, 0, none⟩) 0 0) 0 [] := ownT_lit X0 _ _
  have hb1 : Below X0.heap.size X0 (X0.alloc (.cells #[] 26)) := (Below.refl _ _).alloc (Nat.le_refl _) _
  have hbx : ∀ X', Below X0.heap.size X0 X' → World.cell? X' ⟨w.heap.size, 4, none⟩ = some (.slice (some ⟨g, 0, none⟩) h.bs.length c3) := fun X' hb => (hb.cell (p := ⟨w.heap.size, 4, none⟩) (hE6.A.lt _ rfl).2).trans hS1
  have Hbx : Hid (∀ X', Below X0.heap.size X0 X' → World.cell? X' ⟨w.heap.size, 4, none⟩ = some (.slice (some ⟨g, 0, none⟩) h.bs.length c3)) := hbx
  clear hbx
  have hr1 := own_up hrow6 hb1
  have hsrc1 := rows_src hr1 0 (ps.take k) (takeR_at ps k)
  rw [Nat.zero_mul] at hsrc1
  have hone1 := rowsR_one hE6.P (qs := ps.take k) (fun q hq => List.mem_of_mem_take hq)
  have hone2 := rowsR_one hE6.P (qs := ps.drop (k + 1)) (fun q hq => List.mem_of_mem_drop hq)
  have hpl := Hpl.out
  have hlen1 : (rowsF rowR (ps.take k)).length = k * 6 := by rw [rowsF_length rowR_len, List.length_take]; omega
  have hlen2 : (rowsF rowR (ps.drop (k + 1))).length = (h.bs.length - (k + 1)) * 6 := by rw [rowsF_length rowR_len, List.length_drop, hpl]
  clear hpl
  refine anyX_one (i := 0) (by kernel_rfl) rfl (fun K hK => ?_)
  go_simp
  refine hK.out _ _ (fun _ => (Hbx.out _ hb1)) ?_; clear hK K
  clear hS1
  generalize X0.alloc (.cells #[] 26) = X1 at ho1 hb1 hr1 hsrc1 ⊢
  refine anyX_one (i := 5) (by kernel_rfl) rfl (fun K hK => ?_)
  refine step_append_both rfl _ _ 96 rfl X0.heap.size 26 irb _ 6 96 Tryz.underlying96 hirb r0 r1 r2 rfl (by decide) _ 0 [] rfl ho1 (some ⟨g, 0, none⟩) k c3 (rowsF rowR (ps.take k)) rfl hlen1 (fun _ => ⟨_, rfl, hsrc1⟩) hone1 (by unfold maxLen; omega) (by omega) hb1.size ?_
  intro v1 X2 hown2 hgr2 hnn2
  have hb2 : Below X0.heap.size X0 X2 := below_ownB hb1 hb1.size ho1 hgr2 (Nat.le_refl _)
  have hr2 := own_up hrow6 hb2
  have hsrc2 : 0 < h.bs.length - (k + 1) → ∃ d : Addr, (some ⟨g, o2, none⟩ : Option Addr) = some d ∧ ∀ (j : Nat) (u : Value), (rowsF rowR (ps.drop (k + 1)))[j]? = some u → X2.cell? (d.add j) = some u := fun hp => by
    refine ⟨_, rfl, fun j u hu => ?_⟩
    rw [hq2 (by omega)]
    exact rows_src hr2 (k + 1) (ps.drop (k + 1)) (dropR_at ps (k + 1)) j u hu
  have hn2 := hnn2 ⟨_, _, _, rfl⟩
  clear hsrc1 hgr2 hr1 hr2 ho1 hb1 hnn2
  refine hK.out _ _ (fun _ => (Hbx.out _ hb2)) ?_; clear hK K
  refine anyX_one (i := 11) (by kernel_rfl) rfl (fun K hK => ?_)
  refine step_append_both rfl _ _ 96 rfl X0.heap.size 26 irb _ 6 96 Tryz.underlying96 hirb r0 r1 r2 rfl (by decide) v1 _ _ rfl hown2 (some ⟨g, o2, none⟩) (h.bs.length - (k + 1)) _ (rowsF rowR (ps.drop (k + 1))) rfl hlen2 hsrc2 hone2 (by unfold maxLen; omega) (by omega) hb2.size ?_
  intro v2 X3 hown3 hgr3 hnn3
  have hb3 : Below X0.heap.size X0 X3 := below_ownB hb2 hb2.size hown2 hgr3 (Nat.le_refl _)
  obtain ⟨g7, n7, c7, rfl⟩ := hnn3 hn2
  have hz0 : base ≤ X0.heap.size := Nat.le_trans hbase hE6.G.size
  have HWx : Hid (Where w (.slice (some ⟨g, 0, none⟩) h.bs.length c3) (.slice (some ⟨g7, 0, none⟩) n7 c7)) := fun q hq => .inr (Nat.le_trans hE6.G.size (hown3.lt q hq).1)
  have hM : X3.ownsRow base 26 6 (.slice (some ⟨g7, 0, none⟩) n7 c7) (ps.take k ++ ps.drop (k + 1)).length (rowsF rowR (ps.take k ++ ps.drop (k + 1))) := by
    have e1 : (ps.take k ++ ps.drop (k + 1)).length = 0 + k + (h.bs.length - (k + 1)) := by rw [List.length_append, List.length_take, List.length_drop, Hpl.out]; omega
    rw [e1, rowsF_append]
    exact own_low hown3 hz0
  have hE9 := (hE6.up hb3).rows hM
  have kL9 := own_up kL6 hb3
  clear hgr3 hown2 hown3 hM hE6 kL6 hrow6 hnn3 hn2 hsrc2
  obtain ⟨e0, e1, e2, e3, e4, e5⟩ := (cb_of_rowK hE9.A).c6
  obtain ⟨f0, f1, f2, f3, f4, f5⟩ := (cb_of_rowK hE9.A).f6
  refine hK.out _ _ (fun _ => (Hbx.out _ hb3)) ?_; clear hK K
  refine tkx 12 rfl (Hbx.out _ hb3) ?_
  refine anyX_one (i := 13) (by kernel_rfl) rfl (fun K hK => ?_)
  go_simp
  refine hK.out _ _ (fun h => absurd rfl h) ?_
  clear hK K
  refine anyX_done (by kernel_rfl) ?_ _
  clear e0 e1 e2 e3 e4 e5 f0 f1 f2 f3 f4 f5 Hbx hb2 hb3 hone1 hone2 hlen1 hlen2
  obtain ⟨W7, hW7, hE7, kL7⟩ : ∃ W7, X3.setCell ⟨w.heap.size, 4, none⟩ (.slice (some ⟨g7, 0, none⟩) n7 c7) = W7 ∧ EV w base (Value.slice (some ⟨gd, od, none⟩) h.ds.length c4).ownBlock W7 [.int .i64 h.now, .int .i64 h.last, .slice t1 B'.things.length d1, .slice t2 B'.bs.length d2, .slice (some ⟨g7, 0, none⟩) n7 c7, .slice (some ⟨gd, od, none⟩) h.ds.length c4] (.agg #[.slice t1 B'.things.length d1, .slice t2 B'.bs.length d2]) B' ps (.slice (some ⟨g7, 0, none⟩) n7 c7) (ps.take k ++ ps.drop (k + 1)) (.slice (some ⟨gd, od, none⟩) h.ds.length c4) h.ds ∧ W7.ownsRow W1.heap.size 26 6 (.slice (some ⟨W1.heap.size, 0, none⟩) 1 1) 1 [.string x.nm, .slice (some ⟨g3, 0, none⟩) n3 m3, .slice (some ⟨g4, 0, none⟩) n4 m4, .string x.ad, .int .i64 x.si, .int .i64 x.st] := ⟨_, rfl, hE9.put 4 _, hE9.L kL9 4 _⟩
  try rw [hW7]
  clear hW7 hE9 kL9
  go_upto_region 13 with fail
  obtain ⟨idn, hidn, n0, n1, n2⟩ := info_parts infoDnR
  obtain ⟨l0, -⟩ := (cb_of_rowK kL7).c6
  obtain ⟨e0, -, -, -, -, e5⟩ := (cb_of_rowK hE7.A).c6
  have hA7 : w.heap.size < W7.heap.size := (hE7.A.lt _ rfl).2
  have hL7 : W1.heap.size < W7.heap.size := (kL7.lt _ rfl).2
  obtain ⟨W8, hW8, hb8, hnw8⟩ : ∃ W8, W7.alloc (.cells #[.string x.nm, .int .i64 (endN nm), .int .i64 h.now] 186) = W8 ∧ Below W7.heap.size W7 W8 ∧ ∀ (j : Nat) (u : Value), (Done.cells ⟨x.nm, endN nm, h.now⟩)[j]? = some u → W8.cell? ((⟨W7.heap.size, 0, none⟩ : Addr).add j) = some u := ⟨_, rfl, (Below.refl _ _).alloc (Nat.le_refl _) _, fun j u hj => hnew3 _ _ _ _ _ hj⟩
  have hE8 := hE7.up hb8
  obtain ⟨u9, W9, hr9, hd9, hg9, hw9⟩ := append_dn (P := Tryz.prog) W8 base 97 97 idn _ Tryz.underlying97 hidn n0 n1 n2 rfl _ h.ds ⟨x.nm, endN nm, h.now⟩ hE8.D ⟨W7.heap.size, 0, none⟩ 1 hnw8 hnd Hzn.out (Nat.le_trans hbase hE8.G.size)
  have hE9 := hE8.dn hd9 hg9 rfl
  have HWd : Hid (Where w (.slice (some ⟨gd, od, none⟩) h.ds.length c4) u9) := fun q hq => by
    rcases hw9 q hq with h1 | h1
    · exact .inl h1
    · exact .inr (Nat.le_trans hE8.G.size h1)
  obtain ⟨g9, o9, c9, rfl⟩ : ∃ g9 o9 c9, u9 = .slice (some ⟨g9, o9, none⟩) (h.ds.length + 1) c9 := by
    obtain ⟨g9, c9, pre, e, -⟩ := hd9
    exact ⟨g9, _, c9, by simpa using e⟩
  clear hd9 hg9 hw9 hE7 hnw8
  go_upto_region 14 with (at_builtin; (try rw [hW8]); refine wpList_append_run _ rfl _ _ 97 rfl _ _ rfl rfl (.slice (some ⟨g9, o9, none⟩) (h.ds.length + 1) c9) W9 hr9 ?_; obtain ⟨e0, e1, e2, e3, e4, e5⟩ := (cb_of_rowK hE9.A).c6; obtain ⟨f0, f1, f2, f3, f4, f5⟩ := (cb_of_rowK hE9.A).f6)
  obtain ⟨WA, hWA, hEA⟩ : ∃ WA, W9.setCell ⟨w.heap.size, 5, none⟩ (.slice (some ⟨g9, o9, none⟩) (h.ds.length + 1) c9) = WA ∧ EV w base (Value.slice (some ⟨gd, od, none⟩) h.ds.length c4).ownBlock WA [.int .i64 h.now, .int .i64 h.last, .slice t1 B'.things.length d1, .slice t2 B'.bs.length d2, .slice (some ⟨g7, 0, none⟩) n7 c7, .slice (some ⟨g9, o9, none⟩) (h.ds.length + 1) c9] (.agg #[.slice t1 B'.things.length d1, .slice t2 B'.bs.length d2]) B' ps (.slice (some ⟨g7, 0, none⟩) n7 c7) (ps.take k ++ ps.drop (k + 1)) (.slice (some ⟨g9, o9, none⟩) (h.ds.length + 1) c9) (h.ds ++ [⟨x.nm, endN nm, h.now⟩]) := ⟨_, rfl, hE9.put 5 _⟩
  try rw [hWA]
  clear hWA hE9 hE8 hr9 hW8
  have Hbs : Hid (h.bs.take k ++ h.bs.drop (k + 1) = (ps.take k ++ ps.drop (k + 1)).map (·.1)) := by show _ = _; rw [← Hm.out, List.map_append, List.map_take, List.map_drop]
  have hsub : ∀ p ∈ ps.take k ++ ps.drop (k + 1), p ∈ ps := fun p hp => by
    rcases List.mem_append.1 hp with h1 | h1
    · exact List.mem_of_mem_take h1
    · exact List.mem_of_mem_drop h1
  have Hsub : Hid (∀ p ∈ ps.take k ++ ps.drop (k + 1), p ∈ ps) := hsub
  clear hsub kL7
  obtain ⟨e0, e1, e2, e3, e4, e5⟩ := (cb_of_rowK hEA.A).c6
  obtain ⟨f0, f1, f2, f3, f4, f5⟩ := (cb_of_rowK hEA.A).f6
  have hll : (h.ds ++ [(⟨x.nm, endN nm, h.now⟩ : Done)]).length = h.ds.length + 1 := by simp
  by_cases hc : 20 < h.ds.length + 1
  · obtain ⟨d0, dr, hdr⟩ : ∃ d0 dr, h.ds ++ [(⟨x.nm, endN nm, h.now⟩ : Done)] = d0 :: dr := by
      cases hh : h.ds ++ [(⟨x.nm, endN nm, h.now⟩ : Done)] with
      | nil => simp at hh
      | cons a b => exact ⟨a, b, rfl⟩
    have HC : Hid (cut20 (h.ds ++ [⟨x.nm, endN nm, h.now⟩]) = dr) := by show _ = _; rw [cut20, if_pos (by rw [hll]; exact hc), hdr]; rfl
    have hD := hEA.D
    rw [hdr] at hD
    obtain ⟨hDt, -, hcap⟩ := hD.tail
    have hc1 : ¬ c9 = 1 := by omega
    have hc2 : 1 ≤ c9 := by omega
    rw [Nat.add_sub_cancel] at hDt
    have HWd2 : Hid (Where w (.slice (some ⟨gd, od, none⟩) h.ds.length c4) (.slice (some ⟨g9, o9 + 3, none⟩) h.ds.length (c9 - 1))) := fun q hq => HWd.out q hq
    clear hll hD hdr
    go_upto_region 16 with fail
    have hEB := (hEA.cut hDt).put 5 (.slice (some ⟨g9, o9 + 3, none⟩) h.ds.length (c9 - 1))
    clear e0 e1 e2 e3 e4 e5 f0 f1 f2 f3 f4 f5 hEA hDt
    generalize WA.setCell ⟨w.heap.size, 5, none⟩ (.slice (some ⟨g9, o9 + 3, none⟩) h.ds.length (c9 - 1)) = WB at *
    obtain ⟨e0, e1, e2, e3, e4, e5⟩ := (cb_of_rowK hEB.A).c6
    obtain ⟨y0, y1, y2, y3, y4, y5⟩ := (cb_of_rowK hEB.R).c6
    obtain ⟨z0, z1, z2, z3, z4, z5⟩ := (cb_of_rowK hEB.R).f6
    go_wp2_with fail
    refine end_cb6 Tryz.results115 Tryz.underlying99 rfl sizeHouseS (cb_of_rowK hEB.R) rfl ?_
    have hgR := grown_set6 WB (w.heap.size + 1) (.int .i64 h.now) (.int .i64 h.last) (.slice t1 B'.things.length d1) (.slice t2 B'.bs.length d2) (.slice (some ⟨g7, 0, none⟩) n7 c7) (.slice (some ⟨g9, o9 + 3, none⟩) h.ds.length (c9 - 1))
    refine ⟨⟨_, _, _, _, rfl, by rw [HON.out]; exact Hdk.out.2, (hEB.hw Hdk.out.1 Hsub.out (onH h k nm) (by rw [HON.out]) (by rw [HON.out]; exact Hbs.out) (by rw [HON.out]; exact HC.out)).box hEB.R hgR, HWx.out, HWd2.out⟩, ?_⟩
    have hG := hEB.G
    exact ⟨hgR.os.trans hG.os, hgR.tape.trans hG.tape, hgR.output.trans hG.output, Nat.le_trans hG.size hgR.size, fun i hi hne => (hgR.block i (Nat.lt_of_lt_of_le hi hG.size) (by simp; omega)).trans (hG.block i hi hne)⟩
  · have HC : Hid (cut20 (h.ds ++ [⟨x.nm, endN nm, h.now⟩]) = h.ds ++ [⟨x.nm, endN nm, h.now⟩]) := by show _ = _; rw [cut20, if_neg (by rw [hll]; exact hc)]
    obtain ⟨y0, y1, y2, y3, y4, y5⟩ := (cb_of_rowK hEA.R).c6
    obtain ⟨z0, z1, z2, z3, z4, z5⟩ := (cb_of_rowK hEA.R).f6
    clear hll
    go_wp2_with fail
    refine end_cb6 Tryz.results115 Tryz.underlying99 rfl sizeHouseS (cb_of_rowK hEA.R) rfl ?_
    have hgR := grown_set6 WA (w.heap.size + 1) (.int .i64 h.now) (.int .i64 h.last) (.slice t1 B'.things.length d1) (.slice t2 B'.bs.length d2) (.slice (some ⟨g7, 0, none⟩) n7 c7) (.slice (some ⟨g9, o9, none⟩) (h.ds.length + 1) c9)
    refine ⟨⟨_, _, _, _, rfl, by rw [HON.out]; exact Hdk.out.2, (hEA.hw Hdk.out.1 Hsub.out (onH h k nm) (by rw [HON.out]) (by rw [HON.out]; exact Hbs.out) (by rw [HON.out]; exact HC.out)).box hEA.R hgR, HWx.out, HWd.out⟩, ?_⟩
    have hG := hEA.G
    exact ⟨hgR.os.trans hG.os, hgR.tape.trans hG.tape, hgR.output.trans hG.output, Nat.le_trans hG.size hgR.size, fun i hi hne => (hgR.block i (Nat.lt_of_lt_of_le hi hG.size) (by simp; omega)).trans (hG.block i hi hne)⟩
end Go.Proofs.YtliebjbbomghiaaGreatDoor
