/- The law of ShareMoves, 0: both lists are one; the law's text in pieces. -/
import Derived.Test.YtafgabakhaipnaaSnd
import Derived.Test.YtafgabakhaipnaaKs8
namespace Go.Proofs.Ytafgabakhaipnaa
open Go.RowKit

theorem moves_eq (b : Bk) : movesL b = movesS b := by
  by_cases h : OkM b
  · have hok : BookOk b := pB_iff.1 h
    have hb : bookB b = true := h
    rw [movesL, if_pos hb, movesS, if_pos h]
    refine pk_congr _ _ fun k hk => ?_
    have h8 : b.things.length ≤ 8 := hok.1.1
    have hg := ts0_get hk
    have ht := can_tab hok (ts := ts0 b.bs b.bs.length) (by rw [ts0_fst, List.take_length]) (gone := []) (fun i p hp => by
      rw [ts0, List.take_length, List.getElem?_map] at hp
      obtain ⟨x, -, rfl⟩ := Option.map_eq_some_iff.1 hp
      rfl) hg rfl
    have hn : neW b k = bitsN b.things (memS (b.bs[k]).needs) := by rw [neW, List.getElem?_eq_getElem hk]; rfl
    have hh : haW b k = bitsN b.things (memS (b.bs[k]).has) := by rw [haW, List.getElem?_eq_getElem hk]; rfl
    rw [hbM, sbM, Bool.eq_iff_iff, pB_iff, ← ht, hn, hh, frW]
    have n1 := bitsN_small h8 (memS (b.bs[k]).has)
    have n2 := bitsN_small h8 (memS (b.bs[k]).needs)
    have n3 := bitsN_small h8 (freeL (ts0 b.bs b.bs.length))
    rw [← Int.natCast_add, andNot_small _ _ n2 (by omega), beq_iff_eq]
    exact Int.natCast_eq_zero
  · rw [movesS, if_neg h]
    exact moves_no (by rw [OkM] at h; simpa using h)
theorem nm_small {w : World} {v : Value} {b : Bk} (h : BkV w v b) : ∀ s ∈ nms b.bs, s.size ≤ maxLen := fun s hs => by
  obtain ⟨tv, bv, rfl, -, a, c, rfl, -, hpos⟩ := h
  obtain ⟨x, hx, rfl⟩ := List.mem_map.1 hs
  obtain ⟨i, hi, rfl⟩ := List.getElem_of_mem hx
  obtain ⟨b, o, rfl, hS, hb⟩ := hpos (by omega)
  exact (hS.at hi).batch
theorem moves_small {w : World} {v : Value} {b : Bk} (h : BkV w v b) : ∀ s ∈ movesS b, s.size ≤ maxLen := fun s hs => by
  rw [movesS] at hs
  split at hs
  · exact nm_small h s (pk_mem (by rw [nms_length]; exact Nat.le_refl _) s hs)
  · simp at hs
theorem moves_short (b : Bk) : (movesS b).length ≤ 5 := by
  rw [movesS]
  split
  · next h => exact Nat.le_trans (pk_length _ _ _) (pB_iff.1 h : BookOk b).2.1
  · simp

def nthC : Code → Nat → Code
  | .seq r _, 0 => r
  | .seq _ c, n + 1 => nthC c n
  | _, _ => .skip
def tailC : Code → Nat → Code
  | c, 0 => c
  | .seq _ c, n + 1 => tailC c n
  | _, _ => .skip
noncomputable def bodyLM : Code := Try.f3.body.getD .skip
noncomputable def pL (i : Nat) : Code := nthC bodyLM i
noncomputable def tL (i : Nat) : Code := tailC bodyLM i
def slL (v : Value) : Array Value := #[v, undef, undef, undef, undef, undef, undef, undef, undef, undef, undef, undef, undef, undef, undef, undef, undef, undef, undef, undef, undef, undef, undef, undef, undef, undef, undef, undef, undef, undef, undef, undef, undef, undef, undef, undef, undef, undef, undef, undef, undef, undef, undef, undef, undef, undef, undef, undef, undef, undef, undef, undef, undef, undef, undef, undef, undef, undef, undef, undef, undef, undef, undef, undef, undef, undef, undef, undef, undef]
theorem lcons {α : Type} {l : List α} {n : Nat} (h : l.length = n + 1) : ∃ a l', l = a :: l' ∧ l'.length = n := by
  cases l with
  | nil => simp at h
  | cons a l' => exact ⟨a, l', rfl, by simpa using h⟩
theorem array69 (T : Array Value) (h : T.size = 69) : ∃ v0 v1 v2 v3 v4 v5 v6 v7 v8 v9 v10 v11 v12 v13 v14 v15 v16 v17 v18 v19 v20 v21 v22 v23 v24 v25 v26 v27 v28 v29 v30 v31 v32 v33 v34 v35 v36 v37 v38 v39 v40 v41 v42 v43 v44 v45 v46 v47 v48 v49 v50 v51 v52 v53 v54 v55 v56 v57 v58 v59 v60 v61 v62 v63 v64 v65 v66 v67 v68 : Value, T = #[v0, v1, v2, v3, v4, v5, v6, v7, v8, v9, v10, v11, v12, v13, v14, v15, v16, v17, v18, v19, v20, v21, v22, v23, v24, v25, v26, v27, v28, v29, v30, v31, v32, v33, v34, v35, v36, v37, v38, v39, v40, v41, v42, v43, v44, v45, v46, v47, v48, v49, v50, v51, v52, v53, v54, v55, v56, v57, v58, v59, v60, v61, v62, v63, v64, v65, v66, v67, v68] := by
  obtain ⟨l⟩ := T
  simp only [List.size_toArray] at h
  obtain ⟨v0, l1, rfl, h1⟩ := lcons h
  obtain ⟨v1, l2, rfl, h2⟩ := lcons h1
  obtain ⟨v2, l3, rfl, h3⟩ := lcons h2
  obtain ⟨v3, l4, rfl, h4⟩ := lcons h3
  obtain ⟨v4, l5, rfl, h5⟩ := lcons h4
  obtain ⟨v5, l6, rfl, h6⟩ := lcons h5
  obtain ⟨v6, l7, rfl, h7⟩ := lcons h6
  obtain ⟨v7, l8, rfl, h8⟩ := lcons h7
  obtain ⟨v8, l9, rfl, h9⟩ := lcons h8
  obtain ⟨v9, l10, rfl, h10⟩ := lcons h9
  obtain ⟨v10, l11, rfl, h11⟩ := lcons h10
  obtain ⟨v11, l12, rfl, h12⟩ := lcons h11
  obtain ⟨v12, l13, rfl, h13⟩ := lcons h12
  obtain ⟨v13, l14, rfl, h14⟩ := lcons h13
  obtain ⟨v14, l15, rfl, h15⟩ := lcons h14
  obtain ⟨v15, l16, rfl, h16⟩ := lcons h15
  obtain ⟨v16, l17, rfl, h17⟩ := lcons h16
  obtain ⟨v17, l18, rfl, h18⟩ := lcons h17
  obtain ⟨v18, l19, rfl, h19⟩ := lcons h18
  obtain ⟨v19, l20, rfl, h20⟩ := lcons h19
  obtain ⟨v20, l21, rfl, h21⟩ := lcons h20
  obtain ⟨v21, l22, rfl, h22⟩ := lcons h21
  obtain ⟨v22, l23, rfl, h23⟩ := lcons h22
  obtain ⟨v23, l24, rfl, h24⟩ := lcons h23
  obtain ⟨v24, l25, rfl, h25⟩ := lcons h24
  obtain ⟨v25, l26, rfl, h26⟩ := lcons h25
  obtain ⟨v26, l27, rfl, h27⟩ := lcons h26
  obtain ⟨v27, l28, rfl, h28⟩ := lcons h27
  obtain ⟨v28, l29, rfl, h29⟩ := lcons h28
  obtain ⟨v29, l30, rfl, h30⟩ := lcons h29
  obtain ⟨v30, l31, rfl, h31⟩ := lcons h30
  obtain ⟨v31, l32, rfl, h32⟩ := lcons h31
  obtain ⟨v32, l33, rfl, h33⟩ := lcons h32
  obtain ⟨v33, l34, rfl, h34⟩ := lcons h33
  obtain ⟨v34, l35, rfl, h35⟩ := lcons h34
  obtain ⟨v35, l36, rfl, h36⟩ := lcons h35
  obtain ⟨v36, l37, rfl, h37⟩ := lcons h36
  obtain ⟨v37, l38, rfl, h38⟩ := lcons h37
  obtain ⟨v38, l39, rfl, h39⟩ := lcons h38
  obtain ⟨v39, l40, rfl, h40⟩ := lcons h39
  obtain ⟨v40, l41, rfl, h41⟩ := lcons h40
  obtain ⟨v41, l42, rfl, h42⟩ := lcons h41
  obtain ⟨v42, l43, rfl, h43⟩ := lcons h42
  obtain ⟨v43, l44, rfl, h44⟩ := lcons h43
  obtain ⟨v44, l45, rfl, h45⟩ := lcons h44
  obtain ⟨v45, l46, rfl, h46⟩ := lcons h45
  obtain ⟨v46, l47, rfl, h47⟩ := lcons h46
  obtain ⟨v47, l48, rfl, h48⟩ := lcons h47
  obtain ⟨v48, l49, rfl, h49⟩ := lcons h48
  obtain ⟨v49, l50, rfl, h50⟩ := lcons h49
  obtain ⟨v50, l51, rfl, h51⟩ := lcons h50
  obtain ⟨v51, l52, rfl, h52⟩ := lcons h51
  obtain ⟨v52, l53, rfl, h53⟩ := lcons h52
  obtain ⟨v53, l54, rfl, h54⟩ := lcons h53
  obtain ⟨v54, l55, rfl, h55⟩ := lcons h54
  obtain ⟨v55, l56, rfl, h56⟩ := lcons h55
  obtain ⟨v56, l57, rfl, h57⟩ := lcons h56
  obtain ⟨v57, l58, rfl, h58⟩ := lcons h57
  obtain ⟨v58, l59, rfl, h59⟩ := lcons h58
  obtain ⟨v59, l60, rfl, h60⟩ := lcons h59
  obtain ⟨v60, l61, rfl, h61⟩ := lcons h60
  obtain ⟨v61, l62, rfl, h62⟩ := lcons h61
  obtain ⟨v62, l63, rfl, h63⟩ := lcons h62
  obtain ⟨v63, l64, rfl, h64⟩ := lcons h63
  obtain ⟨v64, l65, rfl, h65⟩ := lcons h64
  obtain ⟨v65, l66, rfl, h66⟩ := lcons h65
  obtain ⟨v66, l67, rfl, h67⟩ := lcons h66
  obtain ⟨v67, l68, rfl, h68⟩ := lcons h67
  obtain ⟨v68, l69, rfl, h69⟩ := lcons h68
  obtain rfl := List.eq_nil_of_length_eq_zero h69
  exact ⟨_, _, _, _, _, _, _, _, _, _, _, _, _, _, _, _, _, _, _, _, _, _, _, _, _, _, _, _, _, _, _, _, _, _, _, _, _, _, _, _, _, _, _, _, _, _, _, _, _, _, _, _, _, _, _, _, _, _, _, _, _, _, _, _, _, _, _, _, _, rfl⟩
end Go.Proofs.Ytafgabakhaipnaa
