/- Who moves and who waits, in plain (promises 14 and 15). -/
import Derived.Test.YtnojjmkmkelbgaaGreatJ38
import Derived.Test.YtnojjmkmkelbgaaGreatJ6
namespace Go.Proofs.YtnojjmkmkelbgaaGreat
open Go.RowKit

theorem pk_mem_iff {hb : Nat → Bool} {l : List ByteArray} {s : ByteArray} : ∀ {n : Nat}, n ≤ l.length → (s ∈ pk hb l n ↔ ∃ k, k < n ∧ hb k = true ∧ l[k]? = some s)
  | 0, _ => by simp [pk]
  | n + 1, hn => by
    rw [pk, List.mem_append, pk_mem_iff (by omega : n ≤ l.length)]
    have hg : l.getD n ByteArray.empty = l[n] := by rw [List.getD_eq_getElem?_getD, List.getElem?_eq_getElem (by omega)]; rfl
    constructor
    · rintro (⟨k, h1, h2, h3⟩ | h)
      · exact ⟨k, by omega, h2, h3⟩
      · split at h
        · next hy =>
          simp only [List.mem_singleton] at h
          exact ⟨n, by omega, hy, by rw [h, hg, List.getElem?_eq_getElem (by omega)]⟩
        · simp at h
    · rintro ⟨k, h1, h2, h3⟩
      by_cases e : k = n
      · subst e
        refine .inr ?_
        rw [if_pos h2, hg]
        rw [List.getElem?_eq_getElem (by omega)] at h3
        simp [Option.some.inj h3]
      · exact .inl ⟨k, by omega, h2, h3⟩
theorem pk_nil {hb : Nat → Bool} {l : List ByteArray} : ∀ {n : Nat}, (pk hb l n).length = 0 ↔ ∀ k, k < n → hb k = false
  | 0 => by simp [pk]
  | n + 1 => by
    rw [pk, List.length_append]
    have ih := pk_nil (hb := hb) (l := l) (n := n)
    constructor
    · intro h k hk
      by_cases e : k = n
      · subst e
        cases hy : hb k with
        | false => rfl
        | true => rw [hy] at h; simp at h
      · exact ih.1 (by omega) k (by omega)
    · intro h
      have h1 := ih.2 fun k hk => h k (by omega)
      have h2 := h n (by omega)
      rw [h1, h2]; rfl

theorem own_at {b : Bk} {nm : ByteArray} (hm : memS (nms b.bs) nm = true) : (nms b.bs)[(idxI (nms b.bs) nm).toNat]? = some nm := by
  obtain ⟨p, hp, _⟩ := idxI_some hm
  obtain ⟨k, hk, hlt, he⟩ := idxI_at (l := nms b.bs) (s := nm) (by omega)
  obtain rfl : p = k := by omega
  rw [hp]
  show (nms b.bs)[p]? = some nm
  rw [List.getElem?_eq_getElem hlt, he]
theorem waits_own {b : Bk} {nm : ByteArray} : ∀ s ∈ waitsS b nm, s ≠ nm := fun s hs e => by
  subst e
  rw [waitsS] at hs
  split at hs
  · next h =>
    have hok : BookOk b := pB_iff.1 h.1
    obtain ⟨k, h1, h2, h3⟩ := (pk_mem_iff (by rw [nms_length]; exact Nat.le_refl _)).1 hs
    have := asc_ne hok.2.2.2.1 h3 (own_at h.2)
    rw [sbW, this] at h2
    simp at h2
  · simp at hs
theorem moves_waits {b : Bk} (hbk : bookB b = true) {i : Nat} {x : Ba} (hx : b.bs[i]? = some x) : memS (movesS b) x.nm = decide ((waitsS b x.nm).length = 0) := by
  have hok : BookOk b := pB_iff.1 hbk
  have hi : i < b.bs.length := (List.getElem?_eq_some_iff.1 hx).1
  have hni := nms_at hx
  have hm : memS (nms b.bs) x.nm = true := (memS_iff _ _).2 (List.mem_of_getElem? hni)
  have hown : (idxI (nms b.bs) x.nm).toNat = i := asc_ne hok.2.2.2.1 (own_at hm) hni
  rw [movesS, if_pos (show OkM b from hbk), waitsS, if_pos ⟨hbk, hm⟩, hown, Bool.eq_iff_iff, memS_iff, decide_eq_true_eq, pk_nil, pk_mem_iff (by rw [nms_length]; exact Nat.le_refl _)]
  constructor
  · rintro ⟨k, h1, h2, h3⟩ j hj
    obtain rfl := asc_ne hok.2.2.2.1 h3 hni
    rw [sbM, pB_iff] at h2
    rw [sbW, hx, List.getElem?_eq_getElem hj]
    simp only [Option.map_some, Option.getD_some]
    by_cases e : j = k
    · simp [e]
    · have := h2 j _ _ hj e (List.getElem?_eq_getElem hj) hx rfl
      simp [this]
  · intro h
    refine ⟨i, hi, ?_, hni⟩
    rw [sbM, pB_iff]
    intro j y z hj hne hy hz _
    obtain rfl : x = z := by rw [hx] at hz; exact Option.some.inj hz
    have := h j hj
    rw [sbW, hx, hy] at this
    simpa [hne] using this
theorem moves_none {b : Bk} (hbk : bookB b = true) (hm : (movesS b).length = 0) (k : Nat) (hk : k < b.bs.length) : ¬ Good b.bs [] k := by
  rintro ⟨x, hx, -, hc⟩
  rw [movesS, if_pos (show OkM b from hbk), pk_nil] at hm
  have := hm k hk
  rw [sbM] at this
  exact absurd hc (pB_not.1 this)
/-- Nobody moves, though somebody shares. -/
noncomputable def stuckB (b : Bk) : Bool := bookB b && (decide (0 < b.bs.length) && decide ((movesS b).length = 0))
end Go.Proofs.YtnojjmkmkelbgaaGreat

/- The specification's walk of ShareStuck (chapter 14). -/
namespace Go.Proofs.YtnojjmkmkelbgaaGreat
open Go.RowKit

set_option maxRecDepth 20000 in
set_option maxHeartbeats 4000000 in
theorem specStuck_any (b : Bk) (v : Value) (w : World) (h : BkV w v b) :
    Calls Tryz.prog 9 #[v] w fun e w' => e = .returned (.bool (stuckB b)) ∧ Below w.heap.size w w' := by
  obtain ⟨a1, c1, a2, c2, rfl, h1, h2⟩ := h.parts
  obtain ⟨W1, hW1, kA, hB1, hs1⟩ : ∃ W1, w.alloc (.cells #[.slice a1 (b).things.length c1, .slice a2 (b).bs.length c2] 26) = W1 ∧ CB W1 w.heap.size [.slice a1 b.things.length c1, .slice a2 b.bs.length c2] ∧ Below w.heap.size w W1 ∧ W1.heap.size = w.heap.size + 1 := ⟨_, rfl, cb1 w _ _⟩
  go_enter Tryz.func9, Tryz.ntmps9
  go_upto_region 1 with fail
  try rw [hW1]
  clear hW1
  have hk := h.up hB1
  obtain ⟨e0, e1⟩ := kA.c2'
  have hlt := kA.2.2
  clear h h1 h2
  go_wp2_with fail
  refine (specBook_any b _ _ hk).mono ?_
  rintro e w2 ⟨rfl, hb2⟩
  have hB2 := up_trans hB1 hb2
  have f0 := (hb2.cell (p := ⟨w.heap.size, 0, none⟩) hlt).trans e0
  have f1 := (hb2.cell (p := ⟨w.heap.size, 1, none⟩) hlt).trans e1
  have hk2 := hk.up hb2
  clear e0 e1 hb2 hB1 hk
  cases hq : bookB b with
  | false =>
    have Hs : Hid (stuckB b = false) := by show _ = _; simp [stuckB, hq]
    clear hq
    go_wp2_with fail
    go_ret
    exact ⟨ret_bool (by rw [Hs.out]), hB2⟩
  | true =>
    by_cases hn : 0 < b.bs.length
    · have hd : decide ((b.bs.length : Int) > 0) = true := decide_eq_true (by omega)
      have Hs : Hid (stuckB b = decide ((movesS b).length = 0)) := by show _ = _; simp [stuckB, hq, hn]
      clear hq
      go_wp2_with fail
      refine (specMoves_any b _ _ hk2).mono ?_
      rintro e w3 ⟨⟨u, rfl, hou⟩, hb3⟩
      obtain ⟨au, cu, rfl⟩ := hou.lst.shape
      go_wp2_with fail
      go_ret
      exact ⟨ret_bool (by rw [Hs.out, Bool.eq_iff_iff, beq_iff_eq, decide_eq_true_eq]; omega), up_trans hB2 hb3⟩
    · have hd : decide ((b.bs.length : Int) > 0) = false := decide_eq_false (by omega)
      have Hs : Hid (stuckB b = false) := by show _ = _; simp [stuckB, hn]
      clear hq
      go_wp2_with fail
      go_ret
      exact ⟨ret_bool (by rw [Hs.out]), hB2⟩
end Go.Proofs.YtnojjmkmkelbgaaGreat
