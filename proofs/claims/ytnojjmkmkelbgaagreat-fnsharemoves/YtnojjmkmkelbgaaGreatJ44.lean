/- Drawing for the share: the draws of promises 14 and 15. -/
import Derived.Test.YtnojjmkmkelbgaaGreatJ41
import Derived.Test.YtnojjmkmkelbgaaGreatJ36
import Derived.Test.YtnojjmkmkelbgaaGreatJ4
import Derived.Test.YtnojjmkmkelbgaaGreatJ1
namespace Go.Proofs.YtnojjmkmkelbgaaGreat
open Go.RowKit


set_option maxRecDepth 20000 in
set_option maxHeartbeats 4000000 in
theorem drawMoves_any (a : Option Addr) (n cap : Nat) (w : World) (h : BytesAt w w.heap.size (.slice a n cap) n) (hcap : n ≤ cap) (hbig : cap ≤ maxLen) :
    Calls Tryz.prog 4 #[.slice a n cap] w
      fun e w' => (∃ (u : Value) (b : Bk), e = .returned u ∧ DkL w' w.heap.size u b) ∧ Below w.heap.size w w' := by
  go_enter Tryz.func4, Tryz.ntmps4
  go_upto_region 1 with fail
  obtain ⟨W1, hW1, kR, hB1, hs1⟩ : ∃ W1, w.alloc (.cells #[.slice none 0 0, .slice none 0 0] 26) = W1 ∧ CB W1 w.heap.size [.slice none 0 0, .slice none 0 0] ∧ Below w.heap.size w W1 ∧ W1.heap.size = w.heap.size + 1 := ⟨_, rfl, cb1 w _ _⟩
  rw [hW1]
  clear hW1
  go_wp2_with fail
  refine (open15_any a n cap _ (h.up hB1 (by omega)) hcap hbig).mono ?_
  rintro e w2 ⟨⟨rb, len, v, rfl, hR2, hrb⟩, hb2⟩
  have kR := kR.up hb2 (by omega)
  have hB2 := up_trans hB1 hb2
  have hrb' : w.heap.size + 1 ≤ rb := by omega
  have hrl := hR2.lt
  clear hB1 hb2 hs1 hrb
  go_wp2_with fail
  refine (any15_any rb len 0 v _ hR2 (by omega)).mono ?_
  rintro e w3 ⟨⟨u, b, rfl, hD⟩, hR3, hg3⟩
  have kR := kR.kept hg3 (by simp; omega)
  have hB3 := below_gr hB2 hg3 (by omega)
  obtain ⟨a1, c1, a2, c2, rfl⟩ := hD.parts
  clear hB2 hg3 hR2
  obtain ⟨⟨y0, y1⟩, g0, g1⟩ := kR.c2
  go_wp2_with fail
  refine end_cb2 Tryz.results4 Tryz.underlying26 rfl sizeBk1 kR rfl ?_
  exact ⟨⟨_, b, rfl, ((hD.1.set (by omega)).set (by omega)).low (by omega), hD.2⟩, below_set2 hB3 (Nat.le_refl _) _ _⟩

set_option maxRecDepth 20000 in
set_option maxHeartbeats 4000000 in
theorem drawWaits_any (a : Option Addr) (n cap : Nat) (w : World) (h : BytesAt w w.heap.size (.slice a n cap) n) (hcap : n ≤ cap) (hbig : cap ≤ maxLen) :
    Calls Tryz.prog 14 #[.slice a n cap] w fun e w' => (∃ (u : Value) (b : Bk) (s : ByteArray), e = .returned (.tuple #[u, .string s]) ∧ DkL w' w.heap.size u b ∧ s.size ≤ maxLen) ∧ Below w.heap.size w w' := by
  go_enter Tryz.func14, Tryz.ntmps14
  go_upto_region 1 with fail
  obtain ⟨W1, hW1, kR, hB1, hs1⟩ : ∃ W1, w.alloc (.cells #[.slice none 0 0, .slice none 0 0] 26) = W1 ∧ CB W1 w.heap.size [.slice none 0 0, .slice none 0 0] ∧ Below w.heap.size w W1 ∧ W1.heap.size = w.heap.size + 1 := ⟨_, rfl, cb1 w _ _⟩
  rw [hW1]
  clear hW1
  go_wp2_with fail
  refine (asks15_any a n cap _ (h.up hB1 (by omega)) hcap hbig).mono ?_
  rintro e w2 ⟨⟨u, b, nm, al, cl, list, rfl, hD, hnz, -, -, -⟩, hb2⟩
  have hz2 := hb2.size
  have kR := kR.up hb2 (by omega)
  have hB2 := up_trans hB1 hb2
  obtain ⟨a1, c1, a2, c2, rfl⟩ := hD.parts
  clear hB1 hb2
  go_upto_region 2 with fail
  obtain ⟨W4, hW4, kX, hb4, hs4⟩ : ∃ W4, w2.alloc (.cells #[.slice a1 b.things.length c1, .slice a2 b.bs.length c2] 26) = W4 ∧ CB W4 w2.heap.size [.slice a1 b.things.length c1, .slice a2 b.bs.length c2] ∧ Below w2.heap.size w2 W4 ∧ W4.heap.size = w2.heap.size + 1 := ⟨_, rfl, cb1 w2 _ _⟩
  try rw [hW4]
  have kR := kR.up hb4 kR.2.2
  have hB4 := up_trans hB2 hb4
  have hD4 := hD.up hb4
  clear hW4 hB2 hb4 hD
  obtain ⟨z0, z1⟩ := kX.c2'
  obtain ⟨⟨y0, y1⟩, g0, g1⟩ := kR.c2
  go_wp2_with fail
  refine end_cb2b Tryz.results14 Tryz.underlying26 rfl sizeBk1 kR rfl rfl ?_
  exact ⟨⟨_, b, nm, rfl, ⟨((hD4.1.set (by omega)).set (by omega)).low (by omega), hD4.2⟩, hnz⟩, below_set2 hB4 (Nat.le_refl _) _ _⟩
end Go.Proofs.YtnojjmkmkelbgaaGreat

/- The law of promises 14 and 15, 0: its text in pieces; up to the first call that goes. -/
namespace Go.Proofs.YtnojjmkmkelbgaaGreat
open Go.RowKit

def nthC : Code → Nat → Code
  | .seq r _, 0 => r
  | .seq _ c, n + 1 => nthC c n
  | _, _ => .skip
def tailC : Code → Nat → Code
  | c, 0 => c
  | .seq _ c, n + 1 => tailC c n
  | _, _ => .skip
noncomputable def bodyLS : Code := Tryz.f3.body.getD .skip
noncomputable def pL (i : Nat) : Code := nthC bodyLS i
noncomputable def tL (i : Nat) : Code := tailC bodyLS i
def slL (v0 v1 : Value) : Array Value := #[v0, v1, undef, undef, undef, undef, undef, undef, undef, undef, undef, undef, undef, undef, undef, undef, undef, undef, undef, undef, undef, undef, undef, undef, undef, undef, undef, undef, undef, undef, undef, undef, undef, undef, undef, undef, undef, undef, undef, undef, undef, undef, undef, undef, undef, undef, undef, undef, undef, undef, undef, undef, undef, undef, undef, undef, undef, undef, undef, undef, undef, undef, undef, undef, undef, undef, undef, undef, undef, undef, undef, undef, undef, undef, undef, undef, undef, undef, undef, undef, undef, undef, undef, undef, undef, undef, undef, undef, undef, undef, undef, undef, undef, undef, undef, undef]
theorem lconsL {α : Type} {l : List α} {n : Nat} (h : l.length = n + 1) : ∃ a l', l = a :: l' ∧ l'.length = n := by
  cases l with
  | nil => simp at h
  | cons a l' => exact ⟨a, l', rfl, by simpa using h⟩
theorem array96 (T : Array Value) (h : T.size = 96) : ∃ v0 v1 v2 v3 v4 v5 v6 v7 v8 v9 v10 v11 v12 v13 v14 v15 v16 v17 v18 v19 v20 v21 v22 v23 v24 v25 v26 v27 v28 v29 v30 v31 v32 v33 v34 v35 v36 v37 v38 v39 v40 v41 v42 v43 v44 v45 v46 v47 v48 v49 v50 v51 v52 v53 v54 v55 v56 v57 v58 v59 v60 v61 v62 v63 v64 v65 v66 v67 v68 v69 v70 v71 v72 v73 v74 v75 v76 v77 v78 v79 v80 v81 v82 v83 v84 v85 v86 v87 v88 v89 v90 v91 v92 v93 v94 v95 : Value, T = #[v0, v1, v2, v3, v4, v5, v6, v7, v8, v9, v10, v11, v12, v13, v14, v15, v16, v17, v18, v19, v20, v21, v22, v23, v24, v25, v26, v27, v28, v29, v30, v31, v32, v33, v34, v35, v36, v37, v38, v39, v40, v41, v42, v43, v44, v45, v46, v47, v48, v49, v50, v51, v52, v53, v54, v55, v56, v57, v58, v59, v60, v61, v62, v63, v64, v65, v66, v67, v68, v69, v70, v71, v72, v73, v74, v75, v76, v77, v78, v79, v80, v81, v82, v83, v84, v85, v86, v87, v88, v89, v90, v91, v92, v93, v94, v95] := by
  obtain ⟨l⟩ := T
  simp only [List.size_toArray] at h
  obtain ⟨v0, l1, rfl, h1⟩ := lconsL h
  obtain ⟨v1, l2, rfl, h2⟩ := lconsL h1
  obtain ⟨v2, l3, rfl, h3⟩ := lconsL h2
  obtain ⟨v3, l4, rfl, h4⟩ := lconsL h3
  obtain ⟨v4, l5, rfl, h5⟩ := lconsL h4
  obtain ⟨v5, l6, rfl, h6⟩ := lconsL h5
  obtain ⟨v6, l7, rfl, h7⟩ := lconsL h6
  obtain ⟨v7, l8, rfl, h8⟩ := lconsL h7
  obtain ⟨v8, l9, rfl, h9⟩ := lconsL h8
  obtain ⟨v9, l10, rfl, h10⟩ := lconsL h9
  obtain ⟨v10, l11, rfl, h11⟩ := lconsL h10
  obtain ⟨v11, l12, rfl, h12⟩ := lconsL h11
  obtain ⟨v12, l13, rfl, h13⟩ := lconsL h12
  obtain ⟨v13, l14, rfl, h14⟩ := lconsL h13
  obtain ⟨v14, l15, rfl, h15⟩ := lconsL h14
  obtain ⟨v15, l16, rfl, h16⟩ := lconsL h15
  obtain ⟨v16, l17, rfl, h17⟩ := lconsL h16
  obtain ⟨v17, l18, rfl, h18⟩ := lconsL h17
  obtain ⟨v18, l19, rfl, h19⟩ := lconsL h18
  obtain ⟨v19, l20, rfl, h20⟩ := lconsL h19
  obtain ⟨v20, l21, rfl, h21⟩ := lconsL h20
  obtain ⟨v21, l22, rfl, h22⟩ := lconsL h21
  obtain ⟨v22, l23, rfl, h23⟩ := lconsL h22
  obtain ⟨v23, l24, rfl, h24⟩ := lconsL h23
  obtain ⟨v24, l25, rfl, h25⟩ := lconsL h24
  obtain ⟨v25, l26, rfl, h26⟩ := lconsL h25
  obtain ⟨v26, l27, rfl, h27⟩ := lconsL h26
  obtain ⟨v27, l28, rfl, h28⟩ := lconsL h27
  obtain ⟨v28, l29, rfl, h29⟩ := lconsL h28
  obtain ⟨v29, l30, rfl, h30⟩ := lconsL h29
  obtain ⟨v30, l31, rfl, h31⟩ := lconsL h30
  obtain ⟨v31, l32, rfl, h32⟩ := lconsL h31
  obtain ⟨v32, l33, rfl, h33⟩ := lconsL h32
  obtain ⟨v33, l34, rfl, h34⟩ := lconsL h33
  obtain ⟨v34, l35, rfl, h35⟩ := lconsL h34
  obtain ⟨v35, l36, rfl, h36⟩ := lconsL h35
  obtain ⟨v36, l37, rfl, h37⟩ := lconsL h36
  obtain ⟨v37, l38, rfl, h38⟩ := lconsL h37
  obtain ⟨v38, l39, rfl, h39⟩ := lconsL h38
  obtain ⟨v39, l40, rfl, h40⟩ := lconsL h39
  obtain ⟨v40, l41, rfl, h41⟩ := lconsL h40
  obtain ⟨v41, l42, rfl, h42⟩ := lconsL h41
  obtain ⟨v42, l43, rfl, h43⟩ := lconsL h42
  obtain ⟨v43, l44, rfl, h44⟩ := lconsL h43
  obtain ⟨v44, l45, rfl, h45⟩ := lconsL h44
  obtain ⟨v45, l46, rfl, h46⟩ := lconsL h45
  obtain ⟨v46, l47, rfl, h47⟩ := lconsL h46
  obtain ⟨v47, l48, rfl, h48⟩ := lconsL h47
  obtain ⟨v48, l49, rfl, h49⟩ := lconsL h48
  obtain ⟨v49, l50, rfl, h50⟩ := lconsL h49
  obtain ⟨v50, l51, rfl, h51⟩ := lconsL h50
  obtain ⟨v51, l52, rfl, h52⟩ := lconsL h51
  obtain ⟨v52, l53, rfl, h53⟩ := lconsL h52
  obtain ⟨v53, l54, rfl, h54⟩ := lconsL h53
  obtain ⟨v54, l55, rfl, h55⟩ := lconsL h54
  obtain ⟨v55, l56, rfl, h56⟩ := lconsL h55
  obtain ⟨v56, l57, rfl, h57⟩ := lconsL h56
  obtain ⟨v57, l58, rfl, h58⟩ := lconsL h57
  obtain ⟨v58, l59, rfl, h59⟩ := lconsL h58
  obtain ⟨v59, l60, rfl, h60⟩ := lconsL h59
  obtain ⟨v60, l61, rfl, h61⟩ := lconsL h60
  obtain ⟨v61, l62, rfl, h62⟩ := lconsL h61
  obtain ⟨v62, l63, rfl, h63⟩ := lconsL h62
  obtain ⟨v63, l64, rfl, h64⟩ := lconsL h63
  obtain ⟨v64, l65, rfl, h65⟩ := lconsL h64
  obtain ⟨v65, l66, rfl, h66⟩ := lconsL h65
  obtain ⟨v66, l67, rfl, h67⟩ := lconsL h66
  obtain ⟨v67, l68, rfl, h68⟩ := lconsL h67
  obtain ⟨v68, l69, rfl, h69⟩ := lconsL h68
  obtain ⟨v69, l70, rfl, h70⟩ := lconsL h69
  obtain ⟨v70, l71, rfl, h71⟩ := lconsL h70
  obtain ⟨v71, l72, rfl, h72⟩ := lconsL h71
  obtain ⟨v72, l73, rfl, h73⟩ := lconsL h72
  obtain ⟨v73, l74, rfl, h74⟩ := lconsL h73
  obtain ⟨v74, l75, rfl, h75⟩ := lconsL h74
  obtain ⟨v75, l76, rfl, h76⟩ := lconsL h75
  obtain ⟨v76, l77, rfl, h77⟩ := lconsL h76
  obtain ⟨v77, l78, rfl, h78⟩ := lconsL h77
  obtain ⟨v78, l79, rfl, h79⟩ := lconsL h78
  obtain ⟨v79, l80, rfl, h80⟩ := lconsL h79
  obtain ⟨v80, l81, rfl, h81⟩ := lconsL h80
  obtain ⟨v81, l82, rfl, h82⟩ := lconsL h81
  obtain ⟨v82, l83, rfl, h83⟩ := lconsL h82
  obtain ⟨v83, l84, rfl, h84⟩ := lconsL h83
  obtain ⟨v84, l85, rfl, h85⟩ := lconsL h84
  obtain ⟨v85, l86, rfl, h86⟩ := lconsL h85
  obtain ⟨v86, l87, rfl, h87⟩ := lconsL h86
  obtain ⟨v87, l88, rfl, h88⟩ := lconsL h87
  obtain ⟨v88, l89, rfl, h89⟩ := lconsL h88
  obtain ⟨v89, l90, rfl, h90⟩ := lconsL h89
  obtain ⟨v90, l91, rfl, h91⟩ := lconsL h90
  obtain ⟨v91, l92, rfl, h92⟩ := lconsL h91
  obtain ⟨v92, l93, rfl, h93⟩ := lconsL h92
  obtain ⟨v93, l94, rfl, h94⟩ := lconsL h93
  obtain ⟨v94, l95, rfl, h95⟩ := lconsL h94
  obtain ⟨v95, l96, rfl, h96⟩ := lconsL h95
  obtain rfl := List.eq_nil_of_length_eq_zero h96
  exact ⟨_, _, _, _, _, _, _, _, _, _, _, _, _, _, _, _, _, _, _, _, _, _, _, _, _, _, _, _, _, _, _, _, _, _, _, _, _, _, _, _, _, _, _, _, _, _, _, _, _, _, _, _, _, _, _, _, _, _, _, _, _, _, _, _, _, _, _, _, _, _, _, _, _, _, _, _, _, _, _, _, _, _, _, _, _, _, _, _, _, _, _, _, _, _, _, _, rfl⟩

/-- What W0 had is as it was, up to the tape. -/
def OldW (W0 u : World) : Prop := ∃ w0, (∃ τ, w0 = { W0 with tape := τ }) ∧ Below w0.heap.size w0 u
theorem OldW.up {W0 u u' : World} (h : OldW W0 u) (hb : Below u.heap.size u u') : OldW W0 u' := let ⟨w0, h0, h3⟩ := h; ⟨w0, h0, up_trans h3 hb⟩
theorem OldW.tl (W0 : World) : Tapeless (OldW W0) := fun _ τ _ ⟨w0, ⟨σ, h0⟩, h3⟩ => ⟨{ w0 with tape := τ }, ⟨τ, by rw [h0]⟩, h3.os, rfl, h3.output, h3.size, h3.block⟩

section
variable (W0 : World) (v1 : Value)
def QA (a : Act) (u : World) : Prop := ∃ T bx b a1 c1 a2 c2, a = ⟨T, []⟩ ∧ T.size = 96 ∧ T[1]? = some v1 ∧ T[5]? = some (.pointer (some ⟨bx, 0, none⟩)) ∧ CB u bx [.slice a1 b.things.length c1, .slice a2 b.bs.length c2] ∧ BkV u (.agg #[.slice a1 b.things.length c1, .slice a2 b.bs.length c2]) b ∧ OldW W0 u
set_option maxRecDepth 20000 in
set_option maxHeartbeats 4000000 in
theorem nestL0 (x0 : Option Addr) (n0 k0 : Nat) (x1 : Option Addr) (n1 k1 : Nat) (w : World) (hv : v1 = .slice x1 n1 k1) (h : BytesAt w w.heap.size (.slice x0 n0 k0) n0) (hcap : n0 ≤ k0) (hbig : k0 ≤ maxLen) (hn0 : ¬ 1048576 < n0) (hn1 : ¬ 1048576 < n1) (hO : OldW W0 w) :
    Nest Tryz.prog [pL 0, pL 1, pL 2] (fun e a u => e = .normal ∧ QA W0 v1 a u) ⟨slL (.slice x0 n0 k0) (.slice x1 n1 k1), []⟩ w := by
  subst hv
  simp only [pL, nthC, slL, bodyLS, Tryz.f3, Option.getD_some]
  apply nest_k; intro K hK
  go_wp2_with fail
  try clear hK; try clear K
  apply nest_k; intro K hK
  go_wp2_with fail
  try clear hK; try clear K
  apply nest_k; intro K hK
  go_wp2_with fail
  refine (drawMoves_any x0 n0 k0 _ h hcap hbig).mono ?_
  rintro e w2 ⟨⟨u, b, rfl, hD⟩, hb2⟩
  obtain ⟨a1, c1, a2, c2, rfl⟩ := hD.parts
  obtain ⟨W3, hW3, kX, hb3, hs3⟩ : ∃ W3, w2.alloc (.cells #[.slice a1 b.things.length c1, .slice a2 b.bs.length c2] 26) = W3 ∧ CB W3 w2.heap.size [.slice a1 b.things.length c1, .slice a2 b.bs.length c2] ∧ Below w2.heap.size w2 W3 ∧ W3.heap.size = w2.heap.size + 1 := ⟨_, rfl, cb1 w2 _ _⟩
  have hk := hD.bk.up hb3
  have hO3 := (hO.up hb2).up hb3
  clear hD hb2 hb3 hs3
  go_wp2_with fail
  try clear hK; try clear K
  try rw [hW3]
  exact ⟨rfl, _, w2.heap.size, b, a1, c1, a2, c2, rfl, rfl, rfl, rfl, kX, hk, hO3⟩
end
end Go.Proofs.YtnojjmkmkelbgaaGreat

/- Texts that are the same, by the law. -/
namespace Go.Proofs.YtnojjmkmkelbgaaGreat
open Go.RowKit

/-- Texts that are the same. -/
theorem whTexts_any (ss : List ByteArray) (u v : Value) (w : World) (h : Ls w u ss) (h2 : Ls w v ss) :
    Calls Tryz.prog 6 #[u, v] w fun e w' => e = .returned (.bool true) ∧ Below w.heap.size w w' := by
  obtain ⟨a, c, rfl, hn, -, hpos⟩ := h
  obtain ⟨a2, c2, rfl, -, -, hpos2⟩ := h2
  unfold maxLen at hn
  go_enter Tryz.func6, Tryz.ntmps6
  go_wp2_with fail
  go_loopw [5] (fun i w' => ∃ k : Nat, k ≤ ss.length ∧ i = .int .i64 k ∧ Below w.heap.size w w') (fun i _ => ss.length - (intOf i).toNat)
  case atStart => exact ⟨0, by omega, rfl, Below.refl _ _⟩
  case round =>
    obtain ⟨k, hk, rfl, hB⟩ := hrel
    by_cases hp : k < ss.length
    · obtain ⟨b, o, rfl, hS, hb⟩ := hpos (by omega)
      obtain ⟨b2, o2, rfl, hS2, hb2⟩ := hpos2 (by omega)
      have c0 := (hB.cell (p := ⟨b, o + k, none⟩) hb).trans (hS.cell hp)
      have c1 := (hB.cell (p := ⟨b2, o2 + k, none⟩) hb2).trans (hS2.cell hp)
      generalize ss[k] = s0 at *
      go_wp2_with fail
      go_quiet (fail)
      go_wp2_with fail
      go_roundw
      case rel => exact ⟨k + 1, by omega, by go_num, below_drewN hB _⟩
      case measure => simp [intOf]; omega
    · go_wp2_with fail
      go_ret
      exact ⟨rfl, hB⟩
end Go.Proofs.YtnojjmkmkelbgaaGreat

/- Goroutine 0 one step at a time, 2: with what is known of its slots. -/
namespace Go.Proofs.YtnojjmkmkelbgaaGreat
open Go.Conc Go.RowKit

section
variable {P : Program} {Shun : Loc → Prop} {Post : Value → World → Prop} {b : Frame} {k : List Item} {cs : List Frame} {gs : Array Goroutine} {sl : Option (Nat × Nat)} {t : Trace} {V : World} {n : Nat} {T : Array Value} {l : List (Nat × Value)} {ops : Array Oper} {i : Nat} {rest : List Nat} {o : Oper}
theorem h_val {v : Value} {d : Nat} (B : Nat) (hh : Here P Shun gs (G (b.at ⟨T, []⟩ (.inRegion ops (i :: rest) :: k)) cs) t) (hT : Has n T l) (ho : ops[i]? = some o) (hw : Region.wanted o (yielded ops T) = true) (hk : b.kind = .normal) (hdst : o.dst = some d) (hd : d < n) (hn : ∀ p ∈ l, p.1 ≠ d)
    (hr : ∀ x, (execOp (Act.eval ⟨T, []⟩) o).run P (V.at x) = .ok (.value v) (V.at x)) (he : ∀ x, ∀ e ∈ (execOp (Act.eval ⟨T, []⟩) o).events P (V.at x) #[], EvL Shun B e)
    (kk : ∀ gs' sl' t' x T', Here P Shun gs' (G (b.at ⟨T', []⟩ (.inRegion ops rest :: k)) cs) t' → Has n T' ((d, v) :: l) → EndsG P Post (crowd gs' (V.at x) sl') t') : EndsG P Post (crowd gs V sl) t :=
  e_val B hh ho hw hk hdst hr he fun gs' sl' t' x hh' => kk gs' sl' t' x (T.setIfInBounds d v) hh' (hT.put d v hd hn)
theorem h_move {v : Value} {d : Nat} {x : Operand} (hh : Here P Shun gs (G (b.at ⟨T, []⟩ (.inRegion ops (i :: rest) :: k)) cs) t) (hT : Has n T l) (ho : ops[i]? = some o) (hw : Region.wanted o (yielded ops T) = true) (hk : b.kind = .normal) (hdst : o.dst = some d) (hop : o.op = .move x ∨ o.op = .assign x) (hx : (⟨T, []⟩ : Act).eval x = v) (hd : d < n) (hn : ∀ p ∈ l, p.1 ≠ d)
    (kk : ∀ gs' sl' t' x T', Here P Shun gs' (G (b.at ⟨T', []⟩ (.inRegion ops rest :: k)) cs) t' → Has n T' ((d, v) :: l) → EndsG P Post (crowd gs' (V.at x) sl') t') : EndsG P Post (crowd gs V sl) t :=
  e_move hh ho hw hk hdst hop hx fun gs' sl' t' x hh' => kk gs' sl' t' x (T.setIfInBounds d v) hh' (hT.put d v hd hn)
theorem h_skip {d : Nat} (hh : Here P Shun gs (G (b.at ⟨T, []⟩ (.inRegion ops (i :: rest) :: k)) cs) t) (hT : Has n T l) (ho : ops[i]? = some o) (hw : Region.wanted o (yielded ops T) = false) (hdst : o.dst = some d) (hd : d < n) (hn : ∀ p ∈ l, p.1 ≠ d)
    (kk : ∀ gs' sl' t' x T', Here P Shun gs' (G (b.at ⟨T', []⟩ (.inRegion ops rest :: k)) cs) t' → Has n T' l → EndsG P Post (crowd gs' (V.at x) sl') t') : EndsG P Post (crowd gs V sl) t :=
  e_skip hh ho hw hdst fun gs' sl' t' x hh' => kk gs' sl' t' x (T.setIfInBounds d undef) hh' ((hT.put d undef hd hn).sub (fun _ hp => List.mem_cons_of_mem _ hp))
theorem h_call {X : Nat → Prop} {s : Nat → Bool} (S : SetOk P s) (hX : ShIn Shun X) (hbV : Base X V) {f : FuncId} {fn : Func} {args : Array Operand} {ats : Array TypeId} {d : Nat} (vs : Array Value) (hh : Here P Shun gs (G (b.at ⟨T, []⟩ (.inRegion ops (i :: rest) :: k)) cs) t) (hT : Has n T l) (ho : ops[i]? = some o) (hw : Region.wanted o (yielded ops T) = true) (hk : b.kind = .normal) (hdst : o.dst = some d) (hop : o.op = .call { callee := .value (.func f), args, argTypes := ats })
    (hf : P.funcs[f]? = some fn) (hname : (fn.name == "runtime.NumGoroutine") = false) (hb : fn.body.isNone = false) (hsf : s f = true) (hvs : args.map (Act.eval ⟨T, []⟩) = vs) (hd : d < n) (hn : ∀ p ∈ l, p.1 ≠ d) {R : Value → World → Prop} (hR : ∀ v, Tapeless (R v))
    (hc : ∀ τ d, Calls P f vs (pzT X V τ d) fun e u' => (∃ v, e = .returned v ∧ R v u') ∧ Below (pzT X V τ d).heap.size (pzT X V τ d) u')
    (kk : ∀ gs' w' sl' t' v T', Here P Shun gs' (G (b.at ⟨T', []⟩ (.inRegion ops rest :: k)) cs) t' → Has n T' ((d, v) :: l) → Base X w' → (∀ τ d, R v (pzT X w' τ d) ∧ Below V.heap.size (pzT X V τ d) (pzT X w' τ d)) → EndsG P Post (crowd gs' w' sl') t') : EndsG P Post (crowd gs V sl) t :=
  e_call S hX hbV hh ho hw hk hdst hop hf hname hb hsf hvs hR hc fun gs' w' sl' t' v hh' hb' hR' => kk gs' w' sl' t' v (T.setIfInBounds d v) hh' (hT.put d v hd hn) hb' hR'
theorem h_go {X : Nat → Prop} {f : FuncId} {fn : Func} {args : Array Operand} {ats : Array TypeId} {d : Nat} (vs : Array Value) (hh : Here P Shun gs (G (b.at ⟨T, []⟩ (.inRegion ops (i :: rest) :: k)) cs) t) (hT : Has n T l) (ho : ops[i]? = some o) (hw : Region.wanted o (yielded ops T) = true) (hk : b.kind = .normal) (hdst : o.dst = some d) (hop : o.op = .call { callee := .value (.func f), args, argTypes := ats })
    (hf : P.funcs[f]? = some fn) (hname : (fn.name == "runtime.NumGoroutine") = false) (hb : fn.body.isNone = false) (hvs : args.map (Act.eval ⟨T, []⟩) = vs) (hd : d < n) (hn : ∀ p ∈ l, p.1 ≠ d) {R : Value → World → Prop}
    (hc : ∀ d, GCalls P f vs X Shun (V.at d) R)
    (kk : ∀ X' Shun' gs' w' sl' t' v T', ShIn Shun' X' → (∀ b, X' b → X b ∨ V.heap.size ≤ b) → Here P Shun' gs' (G (b.at ⟨T', []⟩ (.inRegion ops rest :: k)) cs) t' → Has n T' ((d, v) :: l) → Base X' w' → (∀ τ d, R v (pzT X' w' τ d) ∧ Below V.heap.size (pzT X V τ d) (pzT X' w' τ d)) → EndsG P Post (crowd gs' w' sl') t') : EndsG P Post (crowd gs V sl) t :=
  e_go hh ho hw hk hdst hop hf hname hb hvs hc fun X' Shun' gs' w' sl' t' v hX' hW' hh' hb' hR' => kk X' Shun' gs' w' sl' t' v (T.setIfInBounds d v) hX' hW' hh' (hT.put d v hd hn) hb' hR'
end
end Go.Proofs.YtnojjmkmkelbgaaGreat

/- Whether a list has a text, by the law (out of LawSw). -/
namespace Go.Proofs.YtnojjmkmkelbgaaGreat
open Go.RowKit

theorem whHas_any (ss : List ByteArray) (v : Value) (s : ByteArray) (w : World) (h : Ls w v ss) :
    Calls Tryz.prog 12 #[v, .string s] w fun e w' => e = .returned (.bool (memS ss s)) ∧ w' = w := by
  obtain ⟨a, c, rfl, hn, -, hpos⟩ := h
  unfold maxLen at hn
  go_enter Tryz.func12, Tryz.ntmps12
  go_wp2
  go_loop [5] (fun i => ∃ k : Nat, k ≤ ss.length ∧ i = .int .i64 k ∧ memS (ss.take k) s = false) (fun i => ss.length - (intOf i).toNat)
  case atStart => exact ⟨0, by omega, rfl, rfl⟩
  case round =>
    obtain ⟨k, hk, rfl, hal⟩ := hrel
    have Hal : Hid (memS (ss.take k) s = false) := hal
    clear hal
    by_cases hp : k < ss.length
    · obtain ⟨b, o, rfl, hS, hb⟩ := hpos (by omega)
      have c0 := hS.cell hp
      cases hq : ((ss[k]).toList == s.toList)
      · have Hq : Hid (memS (ss.take (k + 1)) s = false) := memS_take hp Hal.out hq
        go_wp2
        go_round
        case rel => exact ⟨k + 1, by omega, by go_num, Hq.out⟩
        case measure => simp [intOf]; omega
      · have Hq : Hid (memS ss s = true) := memS_found hp hq
        go_wp2
        go_ret
        exact ⟨ret_bool Hq.out.symm, rfl⟩
    · have Hq : Hid (memS ss s = false) := memS_all hp Hal.out
      go_wp2
      go_ret
      exact ⟨ret_bool Hq.out.symm, rfl⟩
end Go.Proofs.YtnojjmkmkelbgaaGreat
