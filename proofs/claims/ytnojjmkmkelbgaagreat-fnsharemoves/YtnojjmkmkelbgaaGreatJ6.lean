/- Functions that end with a struct in their result's block. -/
import Derived.Test.YtnojjmkmkelbgaaGreatJ1
import Derived.Test.YtnojjmkmkelbgaaGreatJ4
import Derived.Test.YtnojjmkmkelbgaaGreatKs2
import Derived.Laws.OwnMore
namespace Go.Proofs.YtnojjmkmkelbgaaGreat
open Go.RowKit
/-- A function that ends so, with a struct of three (two; three and a second result) in its result's block, stored whole. -/
theorem end_cb3 {P : Program} {fn : Func} {q : Tmp} {T : TypeId} (h : fn.results = #[.cell q T]) {d : TypeDesc} (hu : P.underlying T = some d) (hd : d.isRow = true) (hi : (P.info? T).map (·.size) = some 3) {R : Ending → World → Prop} {tmps : Array Value} {w : World} {rk : Nat} {y0 y1 y2 x0 x1 x2 : Value}
    (k : CB w rk [y0, y1, y2]) (ht : tmps.getD q undef = .pointer (some ⟨rk, 0, none⟩)) (hR : R (.returned (.agg #[x0, x1, x2])) (((w.setCell ⟨rk, 0, none⟩ x0).setCell ⟨rk, 1, none⟩ x1).setCell ⟨rk, 2, none⟩ x2)) :
    bodyPost P fn R .ret { tmps := tmps, defers := [] } (((w.setCell ⟨rk, 0, none⟩ x0).setCell ⟨rk, 1, none⟩ x1).setCell ⟨rk, 2, none⟩ x2) :=
  bodyPost_ret (ret_cb (cs := [x0, x1, x2]) h hu hd hi ht (k.copy3 x0 x1 x2)) rfl hR
theorem end_cb2 {P : Program} {fn : Func} {q : Tmp} {T : TypeId} (h : fn.results = #[.cell q T]) {d : TypeDesc} (hu : P.underlying T = some d) (hd : d.isRow = true) (hi : (P.info? T).map (·.size) = some 2) {R : Ending → World → Prop} {tmps : Array Value} {w : World} {rk : Nat} {y0 y1 x0 x1 : Value}
    (k : CB w rk [y0, y1]) (ht : tmps.getD q undef = .pointer (some ⟨rk, 0, none⟩)) (hR : R (.returned (.agg #[x0, x1])) ((w.setCell ⟨rk, 0, none⟩ x0).setCell ⟨rk, 1, none⟩ x1)) :
    bodyPost P fn R .ret { tmps := tmps, defers := [] } ((w.setCell ⟨rk, 0, none⟩ x0).setCell ⟨rk, 1, none⟩ x1) :=
  bodyPost_ret (ret_cb (cs := [x0, x1]) h hu hd hi ht (k.copy2 x0 x1)) rfl hR
theorem end_cb3b {P : Program} {fn : Func} {q q2 : Tmp} {T : TypeId} (h : fn.results = #[.cell q T, .tmp q2]) {d : TypeDesc} (hu : P.underlying T = some d) (hd : d.isRow = true) (hi : (P.info? T).map (·.size) = some 3) {R : Ending → World → Prop} {tmps : Array Value} {w : World} {rk : Nat} {y0 y1 y2 x0 x1 x2 v : Value}
    (k : CB w rk [y0, y1, y2]) (ht : tmps.getD q undef = .pointer (some ⟨rk, 0, none⟩)) (hv : tmps.getD q2 undef = v) (hR : R (.returned (.tuple #[.agg #[x0, x1, x2], v])) (((w.setCell ⟨rk, 0, none⟩ x0).setCell ⟨rk, 1, none⟩ x1).setCell ⟨rk, 2, none⟩ x2)) :
    bodyPost P fn R .ret { tmps := tmps, defers := [] } (((w.setCell ⟨rk, 0, none⟩ x0).setCell ⟨rk, 1, none⟩ x1).setCell ⟨rk, 2, none⟩ x2) :=
  bodyPost_ret (ret_cb2 (cs := [x0, x1, x2]) h hu hd hi ht hv (k.copy3 x0 x1 x2)) rfl hR
end Go.Proofs.YtnojjmkmkelbgaaGreat

/- The specification's copy of a book (chapter 11). -/
namespace Go.Proofs.YtnojjmkmkelbgaaGreat
open Go.RowKit

theorem infoBat1 : (Tryz.prog.info? 32).map (fun i => (i.zero, i.size, i.bytes)) = some (some (.agg #[.string ⟨#[]⟩, .slice none 0 0, .slice none 0 0]), 3, 64) := by kernel_rfl
/-- A batch and the two slices of its lists. -/
abbrev Bv := Ba × Value × Value
def rowB (p : Bv) : List Value := [.string p.1.nm, p.2.1, p.2.2]
def rowsB : List Bv → List Value
  | [] => []
  | p :: r => rowB p ++ rowsB r
theorem rowsB_length : ∀ ps : List Bv, (rowsB ps).length = ps.length * 3
  | [] => rfl
  | p :: r => by rw [rowsB, List.length_append, rowsB_length r, List.length_cons]; simp [rowB]; omega
theorem rowsB_snoc (p : Bv) : ∀ ps : List Bv, rowsB (ps ++ [p]) = rowsB ps ++ rowB p
  | [] => by simp [rowsB]
  | q :: r => by rw [List.cons_append, rowsB, rowsB, rowsB_snoc p r, List.append_assoc]
/-- Batches in a row of their own, their lists too. -/
def BsW (w : World) (base : Nat) (v : Value) (ps : List Bv) : Prop := w.ownsRow base 32 3 v ps.length (rowsB ps) ∧ ∀ p ∈ ps, OwnT w base p.2.1 p.1.has ∧ OwnT w base p.2.2 p.1.needs ∧ p.1.nm.size ≤ maxLen
theorem BsW.up {w w' : World} {base : Nat} {v : Value} {ps : List Bv} (h : BsW w base v ps) (hb : Below w.heap.size w w') : BsW w' base v ps :=
  ⟨own_up h.1 hb, fun p hp => ⟨(h.2 p hp).1.up hb, (h.2 p hp).2.1.up hb, (h.2 p hp).2.2⟩⟩
theorem own_apart2 {w : World} {base base' e e' s s' n n' : Nat} {v v' : Value} {xs xs' : List Value} (h : w.ownsRow base e s v n xs) (h' : w.ownsRow base' e' s' v' n' xs') (hne : e ≠ e') : ∀ g, v.ownBlock = some g → some g ≠ v'.ownBlock := fun g hg hg' => by
  rcases h.2 with ⟨rfl, _⟩ | ⟨g1, cap, cur, rfl, _, hh, _⟩
  · simp [Value.ownBlock] at hg
  · rcases h'.2 with ⟨rfl, _⟩ | ⟨g2, cap', cur', rfl, _, hh', _⟩
    · simp [Value.ownBlock] at hg'
    · simp [Value.ownBlock] at hg hg'
      subst hg hg'
      rw [hh] at hh'
      simp at hh'
      exact hne hh'.2
theorem own_keep2 {w w' : World} {base e s n : Nat} {v : Value} {xs : List Value} {r : Option Nat} (h : w.ownsRow base e s v n xs) (hg : w.grownBy w' r) (hne : ∀ g, v.ownBlock = some g → some g ≠ r) : w'.ownsRow base e s v n xs := by
  refine ⟨h.1, ?_⟩
  rcases h.2 with h0 | ⟨g, cap, cur, hv, hb, hh, q⟩
  · exact .inl h0
  · refine .inr ⟨g, cap, cur, hv, hb, ?_, q⟩
    rw [hg.block g (Array.getElem?_eq_some_iff.1 hh).1 (hne g (by rw [hv]; rfl))]; exact hh
/-- One more batch. -/
theorem bsW_app {wr Wl w' : World} {base : Nat} {xv v' hu nu : Value} {ps : List Bv} {x : Ba} {o' : Obj} (hW : BsW wr base xv ps) (hb : Below wr.heap.size wr Wl) (hoh : OwnT Wl base hu x.has) (hon : OwnT Wl base nu x.needs) (hz : x.nm.size ≤ maxLen)
    (hgr : (Wl.alloc o').grownBy w' xv.ownBlock) (hown : w'.ownsRow base 32 3 v' (ps.length + 1) (rowsB ps ++ [.string x.nm, hu, nu])) : BsW w' base v' (ps ++ [(x, hu, nu)]) := by
  have ha : Below Wl.heap.size Wl (Wl.alloc o') := (Below.refl _ _).alloc (Nat.le_refl _) _
  have hrow := own_up (own_up hW.1 hb) ha
  refine ⟨by rw [List.length_append, rowsB_snoc]; exact hown, fun p hp => ?_⟩
  rcases List.mem_append.1 hp with h | h
  · obtain ⟨q1, q2, q3⟩ := hW.2 p h
    have r1 := (q1.up hb).up ha
    have r2 := (q2.up hb).up ha
    exact ⟨own_keep2 r1 hgr (own_apart2 r1 hrow (by decide)), own_keep2 r2 hgr (own_apart2 r2 hrow (by decide)), q3⟩
  · obtain rfl : p = (x, hu, nu) := by simpa using h
    have r1 := hoh.up ha
    have r2 := hon.up ha
    exact ⟨own_keep2 r1 hgr (own_apart2 r1 hrow (by decide)), own_keep2 r2 hgr (own_apart2 r2 hrow (by decide)), hz⟩
theorem hnew3 (w : World) (x y z : Value) (ty : TypeId) {j : Nat} {v : Value} (h : [x, y, z][j]? = some v) : (w.alloc (.cells #[x, y, z] ty)).cell? ((⟨w.heap.size, 0, none⟩ : Addr).add j) = some v := by
  have := (cb_alloc w [x, y, z] ty).1 j v h
  rw [Addr.add_mid]; exact this
theorem BaAt.batch' {w : World} {b o : Nat} {x : Ba} (h : BaAt w b o x) : x.nm.size ≤ maxLen := by
  obtain ⟨_, _, _, _, _, h3⟩ := h; exact h3
end Go.Proofs.YtnojjmkmkelbgaaGreat

/- Books in plain: the order in which always the first that can goes. -/
namespace Go.Proofs.YtnojjmkmkelbgaaGreat

/-- A batch that is not gone and can have all it needs. -/
def Good (bs : List Ba) (gone : List ByteArray) (k : Nat) : Prop := ∃ x, bs[k]? = some x ∧ memS gone x.nm = false ∧ Can bs k gone
/-- The place of the first of them, -1 if there is none. -/
def NextIs (bs : List Ba) (gone : List ByteArray) (n : Int) : Prop := (n = -1 ∧ ∀ k, k < bs.length → ¬ Good bs gone k) ∨ ∃ k : Nat, n = (k : Int) ∧ k < bs.length ∧ Good bs gone k ∧ ∀ j, j < k → ¬ Good bs gone j
theorem NextIs.uniq {bs : List Ba} {gone : List ByteArray} {m n : Int} (h : NextIs bs gone m) (h' : NextIs bs gone n) : m = n := by
  rcases h with ⟨rfl, h1⟩ | ⟨k, rfl, hk, hg, hl⟩ <;> rcases h' with ⟨rfl, h2⟩ | ⟨j, rfl, hj, gg, gl⟩
  · rfl
  · exact absurd gg (h1 j hj)
  · exact absurd hg (h2 k hk)
  · rcases Nat.lt_trichotomy k j with h3 | h3 | h3
    · exact absurd hg (gl k h3)
    · rw [h3]
    · exact absurd gg (hl j h3)
/-- n batches have gone, one behind the other, always the first that can. -/
inductive GoesB (bs : List Ba) : Nat → List ByteArray → Prop
  | none : GoesB bs 0 []
  | more {n : Nat} {gone : List ByteArray} {k : Nat} {x : Ba} : GoesB bs n gone → NextIs bs gone (k : Int) → bs[k]? = some x → GoesB bs (n + 1) (gone ++ [x.nm])
theorem GoesB.length {bs : List Ba} {n : Nat} {gone : List ByteArray} (h : GoesB bs n gone) : gone.length = n := by
  induction h with
  | none => rfl
  | more _ _ _ ih => simp [ih]
theorem GoesB.uniq {bs : List Ba} {n : Nat} {g g' : List ByteArray} (h : GoesB bs n g) (h' : GoesB bs n g') : g = g' := by
  induction h generalizing g' with
  | none => cases h'; rfl
  | more h1 h2 h3 ih =>
    cases h' with
    | more k1 k2 k3 =>
      obtain rfl := ih k1
      have e := h2.uniq k2
      obtain rfl : _ = _ := Int.ofNat.inj e
      rw [h3] at k3
      obtain rfl := Option.some.inj k3
      rfl
theorem GoesB.part {bs : List Ba} {n : Nat} {gone : List ByteArray} (h : GoesB bs n gone) : ∀ m, m ≤ n → GoesB bs m (gone.take m) := by
  induction h with
  | none => intro m hm; obtain rfl : m = 0 := (by omega); exact .none
  | @more n gone k x h1 h2 h3 ih =>
    intro m hm
    have hl := h1.length
    by_cases e : m = n + 1
    · subst e
      rw [List.take_of_length_le (by simp [hl])]
      exact .more h1 h2 h3
    · rw [List.take_append_of_le_length (by omega)]
      exact ih m (by omega)
/-- The order, and whether there is one. -/
def OrderIs (b : Bk) (ss : List ByteArray) (ok : Bool) : Prop := (ok = true ∧ BookOk b ∧ GoesB b.bs b.bs.length ss) ∨ (ok = false ∧ ss = [] ∧ (¬ BookOk b ∨ ∃ n gone, n < b.bs.length ∧ GoesB b.bs n gone ∧ NextIs b.bs gone (-1)))
theorem OrderIs.uniq {b : Bk} {ss ss' : List ByteArray} {ok ok' : Bool} (h : OrderIs b ss ok) (h' : OrderIs b ss' ok') : ss = ss' ∧ ok = ok' := by
  have no : ∀ {t}, BookOk b → GoesB b.bs b.bs.length t → ¬ (¬ BookOk b ∨ ∃ n gone, n < b.bs.length ∧ GoesB b.bs n gone ∧ NextIs b.bs gone (-1)) := by
    rintro t hb hg (h1 | ⟨n, gone, hn, h2, h3⟩)
    · exact h1 hb
    · have h4 := hg.part (n + 1) (by omega)
      have hl := hg.length
      generalize hq : t.take (n + 1) = q at h4
      cases h4 with
      | more k1 k2 k3 =>
        obtain rfl := h2.uniq k1
        have := h3.uniq k2
        omega
  rcases h with ⟨rfl, h1, h2⟩ | ⟨rfl, rfl, h2⟩ <;> rcases h' with ⟨rfl, g1, g2⟩ | ⟨rfl, rfl, g2⟩
  · exact ⟨h2.uniq g2, rfl⟩
  · exact absurd g2 (no h1 h2)
  · exact absurd h2 (no g1 g2)
  · exact ⟨rfl, rfl⟩
theorem goodTo_step {bs : List Ba} {gone : List ByteArray} {k : Nat} (h : ∀ j, j < k → ¬ Good bs gone j) (h1 : ¬ Good bs gone k) : ∀ j, j < k + 1 → ¬ Good bs gone j := fun j hj => by
  by_cases e : j = k
  · subst e; exact h1
  · exact h j (by omega)
theorem good_iff {bs : List Ba} {gone : List ByteArray} {k : Nat} (hk : k < bs.length) : Good bs gone k ↔ memS gone (bs[k]).nm = false ∧ Can bs k gone := by
  constructor
  · rintro ⟨x, hx, h⟩
    rw [List.getElem?_eq_getElem hk] at hx
    obtain rfl := Option.some.inj hx
    exact h
  · exact fun h => ⟨_, List.getElem?_eq_getElem hk, h⟩
end Go.Proofs.YtnojjmkmkelbgaaGreat

/- Books that change, in plain: coming, asking, needing less, going. -/
namespace Go.Proofs.YtnojjmkmkelbgaaGreat

/-- All names of a book are texts that can be. -/
def Szb (b : Bk) : Prop := (∀ s ∈ b.things, s.size ≤ maxLen) ∧ ∀ x ∈ b.bs, (∀ s ∈ x.has, s.size ≤ maxLen) ∧ (∀ s ∈ x.needs, s.size ≤ maxLen)
def nobody : Bk := ⟨[], []⟩
theorem szb_none : Szb nobody := ⟨fun s hs => by simp [nobody] at hs, fun x hx => by simp [nobody] at hx⟩
/-- The place of a batch. -/
def plN (b : Bk) (nm : ByteArray) : Nat := (idxI (nms b.bs) nm).toNat
theorem plN_lt {b : Bk} {nm : ByteArray} (h : memS (nms b.bs) nm = true) : idxI (nms b.bs) nm = (plN b nm : Int) ∧ plN b nm < b.bs.length := by
  have h0 := idxI_mem (nms b.bs) nm
  rw [h, decide_eq_true_eq] at h0
  refine ⟨by unfold plN; omega, ?_⟩
  rw [plN, idxI, if_pos h]
  have : (nms b.bs).findIdx (fun x => x.toList == nm.toList) < (nms b.bs).length := List.findIdx_lt_length.2 (by
    rw [memS, List.any_eq_true] at h; exact h)
  rw [nms_length] at this
  simpa using this
/-- Going. -/
noncomputable def leaveC (b : Bk) (nm : ByteArray) : Int := if bookB b = false then 1 else if memS (nms b.bs) nm = false then 3 else 0
noncomputable def leaveB (b : Bk) (nm : ByteArray) : Bk := if bookB b = false then nobody else if memS (nms b.bs) nm = false then b else ⟨b.things, b.bs.take (plN b nm) ++ b.bs.drop (plN b nm + 1)⟩
theorem leave_no {b : Bk} {nm : ByteArray} (h : bookB b = false) : leaveC b nm = 1 ∧ leaveB b nm = nobody := by simp [leaveC, leaveB, h]
theorem leave_none {b : Bk} {nm : ByteArray} (h : bookB b = true) (hm : memS (nms b.bs) nm = false) : leaveC b nm = 3 ∧ leaveB b nm = b := by simp [leaveC, leaveB, h, hm]
theorem leave_yes {b : Bk} {nm : ByteArray} (h : bookB b = true) (hm : memS (nms b.bs) nm = true) : leaveC b nm = 0 ∧ leaveB b nm = ⟨b.things, b.bs.take (plN b nm) ++ b.bs.drop (plN b nm + 1)⟩ := by simp [leaveC, leaveB, h, hm]
/-- Coming: behind all whose names are less. -/
def inN (b : Bk) (nm : ByteArray) : Nat := (b.bs.takeWhile fun x => ltS x.nm nm).length
noncomputable def enterC (b : Bk) (nm : ByteArray) (needs : List ByteArray) : Int :=
  if bookB b = false then 1 else if (nameB nm && pB (PartOk needs b.things)) = false then 2 else if memS (nms b.bs) nm = true then 3 else if 5 ≤ b.bs.length then 4 else 0
noncomputable def enterB (b : Bk) (nm : ByteArray) (needs : List ByteArray) : Bk :=
  if bookB b = false then nobody else if enterC b nm needs = 0 then ⟨b.things, b.bs.take (inN b nm) ++ ⟨nm, [], needs⟩ :: b.bs.drop (inN b nm)⟩ else b
/-- Up to place k all names are less. -/
def lowB (b : Bk) (nm : ByteArray) (k : Nat) : Prop := ∀ (j : Nat) (x : Ba), j < k → b.bs[j]? = some x → ltS x.nm nm = true
theorem tw_len {α : Type} (p : α → Bool) : ∀ (l : List α) (k : Nat), k ≤ l.length → (∀ j x, j < k → l[j]? = some x → p x = true) → (∀ x, l[k]? = some x → p x = false) → (l.takeWhile p).length = k
  | [], k, hk, _, _ => by simp at hk; subst hk; rfl
  | x :: r, 0, _, _, h2 => by
    rw [List.takeWhile_cons, h2 x (by simp)]; rfl
  | x :: r, k + 1, hk, h1, h2 => by
    rw [List.takeWhile_cons, h1 0 x (by omega) (by simp)]
    simp only [if_true, List.length_cons]
    rw [tw_len p r k (by simpa using hk) (fun j y hj hy => h1 (j + 1) y (by omega) (by simpa using hy)) (fun y hy => h2 y (by simpa using hy))]
theorem inN_at {b : Bk} {nm : ByteArray} {k : Nat} (hk : k ≤ b.bs.length) (hl : lowB b nm k) (hn : ∀ x, b.bs[k]? = some x → ltS x.nm nm = false) : inN b nm = k := tw_len _ _ _ hk hl hn
theorem enter_no {b : Bk} {nm : ByteArray} {needs : List ByteArray} (h : bookB b = false) : enterC b nm needs = 1 ∧ enterB b nm needs = nobody := by simp [enterC, enterB, h]
theorem enter_two {b : Bk} {nm : ByteArray} {needs : List ByteArray} (h : bookB b = true) (h2 : (nameB nm && pB (PartOk needs b.things)) = false) : enterC b nm needs = 2 ∧ enterB b nm needs = b := by simp [enterC, enterB, h, h2]
theorem enter_three {b : Bk} {nm : ByteArray} {needs : List ByteArray} (h : bookB b = true) (h2 : (nameB nm && pB (PartOk needs b.things)) = true) (h3 : memS (nms b.bs) nm = true) : enterC b nm needs = 3 ∧ enterB b nm needs = b := by simp [enterC, enterB, h, h2, h3]
theorem enter_four {b : Bk} {nm : ByteArray} {needs : List ByteArray} (h : bookB b = true) (h2 : (nameB nm && pB (PartOk needs b.things)) = true) (h3 : memS (nms b.bs) nm = false) (h4 : 5 ≤ b.bs.length) : enterC b nm needs = 4 ∧ enterB b nm needs = b := by simp [enterC, enterB, h, h2, h3, h4]
theorem enter_yes {b : Bk} {nm : ByteArray} {needs : List ByteArray} (h : bookB b = true) (h2 : (nameB nm && pB (PartOk needs b.things)) = true) (h3 : memS (nms b.bs) nm = false) (h4 : ¬ 5 ≤ b.bs.length) :
    enterC b nm needs = 0 ∧ enterB b nm needs = ⟨b.things, b.bs.take (inN b nm) ++ ⟨nm, [], needs⟩ :: b.bs.drop (inN b nm)⟩ := by
  have hc : enterC b nm needs = 0 := by simp [enterC, h, h2, h3, h4]
  exact ⟨hc, by rw [enterB, h, if_neg (by simp), if_pos hc]⟩
/-- What an ok book's lists hold is short. -/
theorem ok_small {b : Bk} (h : BookOk b) : b.things.length ≤ 8 ∧ b.bs.length ≤ 5 ∧ ∀ x ∈ b.bs, x.has.length ≤ 8 ∧ x.needs.length ≤ 8 := by
  refine ⟨h.1.1, h.2.1, fun x hx => ?_⟩
  obtain ⟨i, hi, rfl⟩ := List.getElem_of_mem hx
  have ho := h.2.2.2.2.1.at (k := i) hi hi
  have h1 := part_short ho.1
  have h2 := part_short ho.2
  have h0 := h.1.1
  omega
theorem book_ok {b : Bk} (h : bookB b = true) : BookOk b := pB_iff.1 h
end Go.Proofs.YtnojjmkmkelbgaaGreat

/- The specification's copy of a list of names. -/
namespace Go.Proofs.YtnojjmkmkelbgaaGreat
open Go.RowKit

set_option maxHeartbeats 1000000 in
theorem names11_any (ss : List ByteArray) (v : Value) (w : World) (h : Ls w v ss) (hn : ss.length ≤ 1048576) :
    Calls Tryz.prog 73 #[v] w fun e w' => (∃ u, e = .returned u ∧ OwnT w' w.heap.size u ss ∧ NN u) ∧ Below w.heap.size w w' := by
  obtain ⟨a, c, rfl, -, -, hpos⟩ := h
  obtain ⟨ii, hi, iz0, iz1, iz2⟩ := info_parts infoStr
  have ho := ownT_lit0 w
  have hb := (Below.refl w.heap.size w).alloc (Nat.le_refl _) (.cells #[] 9)
  rcases Nat.eq_zero_or_pos ss.length with h0 | h0
  · obtain rfl := List.length_eq_zero_iff.1 h0
    simp only [List.length_nil]
    go_enter Tryz.func73, Tryz.ntmps73
    go_wp2_with (at_builtin; refine wpList_append_zero _ rfl _ _ 23 rfl w.heap.size 9 ii 1 Tryz.underlying23 hi _ 0 [] rfl ho a c rfl ?_)
    go_ret
    exact ⟨⟨_, rfl, ho, _, _, _, rfl⟩, hb⟩
  · obtain ⟨g, o, rfl, hS, hg⟩ := hpos h0
    have hn1 := news_of (hS.alloc (.cells #[] 9))
    go_enter Tryz.func73, Tryz.ntmps73
    go_wp2_with (at_builtin; refine wpList_append_own _ rfl _ _ 23 rfl w.heap.size 9 ii _ 1 16 Tryz.underlying23 hi iz0 iz1 iz2 rfl (by decide) _ 0 [] rfl ho ⟨g, o, none⟩ ss.length c (ss.map Value.string) rfl (by simp) hn1 (oneS ss) (by unfold maxLen; omega) (by omega) hb.size ?_)
    intro v1 w1 hown1 hgr1 _
    have hB1 := below_own hb ho hgr1 (Nat.le_refl _)
    have ho1 : OwnT w1 w.heap.size v1 ss := by unfold OwnT; simpa using hown1
    obtain ⟨g1, k1, rfl⟩ := own_ptr2 ho1 h0
    clear hown1 hgr1 ho hb hn1
    go_wp2_with fail
    go_ret
    exact ⟨⟨_, rfl, ho1, _, _, _, rfl⟩, hB1⟩
end Go.Proofs.YtnojjmkmkelbgaaGreat

/- Books that change, in plain: needing less, asking. -/
namespace Go.Proofs.YtnojjmkmkelbgaaGreat

/-- One batch is changed. -/
def chg (b : Bk) (p : Nat) (f : Ba → Ba) : Bk := match b.bs[p]? with
  | some x => ⟨b.things, b.bs.set p (f x)⟩
  | none => b
theorem chg_at {b : Bk} {p : Nat} {f : Ba → Ba} {x : Ba} (h : b.bs[p]? = some x) : chg b p f = ⟨b.things, b.bs.set p (f x)⟩ := by simp [chg, h]
def needsAt (b : Bk) (nm : ByteArray) : List ByteArray := ((b.bs[plN b nm]?).map (·.needs)).getD []
theorem needsAt_at {b : Bk} {nm : ByteArray} {x : Ba} (h : b.bs[plN b nm]? = some x) : needsAt b nm = x.needs := by simp [needsAt, h]
def lessF (needs : List ByteArray) (x : Ba) : Ba := ⟨x.nm, x.has.filter (memS needs), needs⟩
def insAll (has things : List ByteArray) : List ByteArray := things.foldl insL has
def askF (things : List ByteArray) (x : Ba) : Ba := ⟨x.nm, insAll x.has things, x.needs⟩
theorem insAll_take (has things : List ByteArray) (k : Nat) (hk : k < things.length) : insAll has (things.take (k + 1)) = insL (insAll has (things.take k)) things[k] := by
  unfold insAll; rw [List.take_succ_eq_append_getElem hk, List.foldl_append]; rfl
theorem insAll_len (has : List ByteArray) : ∀ things : List ByteArray, (insAll has things).length ≤ has.length + things.length := by
  intro things
  induction things generalizing has with
  | nil => simp [insAll]
  | cons x r ih =>
    have h1 := ih (insL has x)
    have h2 := insL_len has x
    simp only [insAll, List.foldl_cons, List.length_cons] at *
    omega
theorem insL_mem (ss : List ByteArray) (x : ByteArray) : ∀ s ∈ insL ss x, s ∈ ss ∨ s = x := by
  induction ss with
  | nil => intro s hs; simp [insL] at hs; exact .inr hs
  | cons y r ih =>
    intro s hs
    simp only [insL] at hs
    split at hs
    · rcases List.mem_cons.1 hs with h | h
      · exact .inl (by simp [h])
      · rcases ih s h with h | h
        · exact .inl (by simp [h])
        · exact .inr h
    · split at hs
      · exact .inl hs
      · rcases List.mem_cons.1 hs with h | h
        · exact .inr h
        · exact .inl h
theorem insAll_mem (has : List ByteArray) : ∀ things : List ByteArray, ∀ s ∈ insAll has things, s ∈ has ∨ s ∈ things := by
  intro things
  induction things generalizing has with
  | nil => intro s hs; exact .inl hs
  | cons x r ih =>
    intro s hs
    rcases ih (insL has x) s hs with h | h
    · rcases insL_mem has x s h with h | h
      · exact .inl h
      · exact .inr (by simp [h])
    · exact .inr (by simp [h])
noncomputable def lsnC (b : Bk) (nm : ByteArray) (needs : List ByteArray) : Int :=
  if bookB b = false then 1 else if memS (nms b.bs) nm = false then 3 else if pB (PartOk needs (needsAt b nm)) = false then 2 else 0
noncomputable def lsnB (b : Bk) (nm : ByteArray) (needs : List ByteArray) : Bk :=
  if bookB b = false then nobody else if lsnC b nm needs = 0 then chg b (plN b nm) (lessF needs) else b
theorem less_no {b : Bk} {nm : ByteArray} {needs : List ByteArray} (h : bookB b = false) : lsnC b nm needs = 1 ∧ lsnB b nm needs = nobody := by simp [lsnC, lsnB, h]
theorem less_none {b : Bk} {nm : ByteArray} {needs : List ByteArray} (h : bookB b = true) (hm : memS (nms b.bs) nm = false) : lsnC b nm needs = 3 ∧ lsnB b nm needs = b := by simp [lsnC, lsnB, h, hm]
theorem less_two {b : Bk} {nm : ByteArray} {needs : List ByteArray} (h : bookB b = true) (hm : memS (nms b.bs) nm = true) (hp : pB (PartOk needs (needsAt b nm)) = false) : lsnC b nm needs = 2 ∧ lsnB b nm needs = b := by simp [lsnC, lsnB, h, hm, hp]
theorem less_yes {b : Bk} {nm : ByteArray} {needs : List ByteArray} (h : bookB b = true) (hm : memS (nms b.bs) nm = true) (hp : pB (PartOk needs (needsAt b nm)) = true) : lsnC b nm needs = 0 ∧ lsnB b nm needs = chg b (plN b nm) (lessF needs) := by
  have hc : lsnC b nm needs = 0 := by simp [lsnC, h, hm, hp]
  exact ⟨hc, by rw [lsnB, h, if_neg (by simp), if_pos hc]⟩
theorem filter_take {ss : List ByteArray} {f : ByteArray → Bool} {k : Nat} (hk : k < ss.length) : (ss.take (k + 1)).filter f = (ss.take k).filter f ++ (if f ss[k] = true then [ss[k]] else []) := by
  rw [List.take_succ_eq_append_getElem hk, List.filter_append]
  congr 1
  by_cases h : f ss[k] = true
  · simp [h]
  · simp [h]
end Go.Proofs.YtnojjmkmkelbgaaGreat

/- The specification's walk of l13Insert (chapter 13). -/
namespace Go.Proofs.YtnojjmkmkelbgaaGreat
open Go.RowKit

set_option maxHeartbeats 2000000 in
theorem insert13_any (ss : List ByteArray) (v : Value) (nm : ByteArray) (w : World) (h : Txt w v ss) (hn : ss.length ≤ 1000) :
    Calls Tryz.prog 100 #[v, .string nm] w fun e w' => (∃ u, e = .returned u ∧ Txt w' u (insL ss nm) ∧ (u = v ∧ insL ss nm = ss ∨ OwnT w' w.heap.size u (insL ss nm))) ∧ Below w.heap.size w w' := by
  have hT := h
  obtain ⟨g, c, rfl, hS, hg, hc, hc9⟩ := h
  unfold maxLen at hc9
  obtain ⟨ii, hi, iz0, iz1, iz2⟩ := info_parts infoStr
  have HT : Hid (Txt w (.slice (some ⟨g, 0, none⟩) ss.length c) ss) := hT
  clear hT
  go_enter Tryz.func100, Tryz.ntmps100
  go_wp2_with fail
  go_loop [5] (fun i => ∃ k : Nat, k ≤ ss.length ∧ i = .int .i64 k ∧ lowL ss nm k) (fun i => ss.length - (intOf i).toNat)
  case atStart => exact ⟨0, by omega, rfl, fun j s hj => by omega⟩
  case round =>
    obtain ⟨k, hk, rfl, hlow⟩ := hrel
    have Hlow : Hid (lowL ss nm k) := hlow
    clear hlow
    by_cases hp : k < ss.length
    · have c0 := hS k ss[k] (by simp [hp])
      simp only [Nat.zero_add] at c0
      cases hl : Op.bytesLess (ss[k]).toList nm.toList
      case true =>
        have Hl : Hid (lessB ss[k] nm = true) := hl
        go_wp2_with fail
        go_round
        case rel => exact ⟨k + 1, by omega, by go_num, lowL_succ Hlow.out hp Hl.out⟩
        case measure => simp [intOf]; omega
      have Hl : Hid (lessB ss[k] nm = false) := hl
      cases hq : ((ss[k]).toList == nm.toList)
      case true =>
        have Hq : Hid (insL ss nm = ss) := insL_old ss nm k Hlow.out ⟨ss[k], by simp [hp], Hl.out, hq⟩
        go_wp2_with fail
        go_ret
        exact ⟨⟨_, rfl, by rw [Hq.out]; exact HT.out, .inl ⟨rfl, Hq.out⟩⟩, Below.refl _ _⟩
      have Hq : Hid (insL ss nm = ss.take k ++ nm :: ss.drop k) := insL_new ss nm k Hlow.out hk (fun s hs => by
        obtain ⟨_, rfl⟩ := List.getElem?_eq_some_iff.1 hs
        exact ⟨Hl.out, hq⟩)
      go_wp2_with fail
      obtain ⟨o2, ho2⟩ : ∃ o2 : Nat, (if c = k then some (⟨g, 0, none⟩ : Addr) else some ⟨g, k, none⟩) = some ⟨g, o2, none⟩ ∧ StrsAt w g o2 (ss.drop k) := by
        by_cases h7 : c = k
        · exact ⟨0, by rw [if_pos h7], fun i s hs => by
            have := (List.getElem?_eq_some_iff.1 hs).1; simp at this; omega⟩
        · exact ⟨k, by rw [if_neg h7], by have := hS.drop k; simpa using this⟩
      obtain ⟨ho2, -⟩ := ho2
      have Nb : ((w.alloc (.cells #[] 9)).alloc (.cells #[.string nm] 9)).drew.cell? ⟨w.heap.size + 1, 0, none⟩ = some (.string nm) := by simp [go_sem]
      have nb1 : some (w.heap.size + 1) ≠ (Value.slice (some ⟨w.heap.size, 0, none⟩) 0 0).ownBlock := by simp [Value.ownBlock]
      have Nc : ((w.alloc (.cells #[.string nm] 9)).alloc (.cells #[] 9)).drew.cell? ⟨w.heap.size, 0, none⟩ = some (.string nm) := by simp [go_sem]
      have nc1 : some w.heap.size ≠ (Value.slice (some ⟨w.heap.size + 1, 0, none⟩) 0 0).ownBlock := by simp [Value.ownBlock]
      have hkc : k ≤ c := by omega
      have Fa := (ow_lit hS (Below.refl w.heap.size w)).drew
      have Fb := ((ow_lit hS (Below.refl w.heap.size w)).alloc (.cells #[.string nm] 9)).drew
      have Fc := (ow_lit (hS.alloc (.cells #[.string nm] 9)) ((Below.refl w.heap.size w).alloc (Nat.le_refl _) (.cells #[.string nm] 9))).drew
      rw [show (w.alloc (.cells #[.string nm] 9)).heap.size = w.heap.size + 1 by simp] at Fc
      go_region_law (first
        | (revert h2; intro h2; refine step_append_own rfl _ _ 23 rfl w.heap.size 9 ii _ 1 16 Tryz.underlying23 hi iz0 iz1 iz2 rfl (by decide) _ _ _ rfl h2.1 ⟨g, o2, none⟩ (ss.length - k) _ ((ss.drop k).map Value.string) rfl (by simp) (news_of (strs_drop h2.2.1 ho2 hc)) (oneS _) (by unfold maxLen; omega) (by omega) h2.2.2.size ?_; intro v3 w3 hown3 hgrow3; have h3 := h2.grow hg hgrow3 hown3; clear h2 hown3 hgrow3)
        | (revert h1; intro h1; refine step_append_own rfl _ _ 23 rfl w.heap.size 9 ii _ 1 16 Tryz.underlying23 hi iz0 iz1 iz2 rfl (by decide) _ _ _ rfl (by first | exact h1.1 | exact (h1.alloc _).1) _ 1 1 [.string nm] rfl rfl (by first | exact one_new _ _ _ | exact one_old hN1) (oneV nm) (by unfold maxLen; omega) (by omega) (by first | exact h1.2.2.size | exact (h1.alloc _).2.2.size) ?_; intro v2 w2 hown2 hgrow2; first | have h2 := h1.grow hg hgrow2 hown2 | have h2 := (h1.alloc _).grow hg hgrow2 hown2; clear h1 hown2 hgrow2)
        | (refine step_append_own rfl _ _ 23 rfl w.heap.size 9 ii _ 1 16 Tryz.underlying23 hi iz0 iz1 iz2 rfl (by decide) _ 0 [] rfl (by first | exact Fa.1 | exact Fb.1 | exact Fc.1) ⟨g, 0, none⟩ k _ ((ss.take k).map Value.string) rfl (by simp; omega) (by first | exact news_of (Fa.2.1.take k) | exact news_of (Fb.2.1.take k) | exact news_of (Fc.2.1.take k)) (oneS _) (by unfold maxLen; omega) (by omega) (by first | exact Fa.2.2.size | exact Fb.2.2.size | exact Fc.2.2.size) ?_; intro v1 w1 hown1 hgrow1; first | (have h1 := Fa.grow hg hgrow1 hown1) | (have h1 := Fb.grow hg hgrow1 hown1; have hN1 := hgrow1.cell Nb nb1) | (have h1 := Fc.grow hg hgrow1 hown1; have hN1 := hgrow1.cell Nc nc1); clear hown1 hgrow1))
      all_goals
        have HT3 : Txt w3 v3 (insL ss nm) := by
          rw [Hq.out]
          exact Txt.own (n := 0 + k + 1 + (ss.length - k)) (by simpa using h3.1) (by simp; omega) (own_ptr2 h3.1 (by omega))
        have hO3 : OwnT w3 w.heap.size v3 (insL ss nm) := by
          unfold OwnT
          rw [Hq.out]
          have := h3.1
          have e1 : (ss.take k ++ nm :: ss.drop k).length = 0 + k + 1 + (ss.length - k) := by simp; omega
          rw [e1]
          simpa using this
        have hB3 := h3.2.2
        clear h3
        go_wp2_with fail
        go_ret
        exact ⟨⟨_, rfl, HT3, .inr hO3⟩, hB3⟩
    · have Hq : Hid (insL ss nm = ss.take k ++ nm :: ss.drop k) := insL_new ss nm k Hlow.out hk (fun s hs => by
        have := (List.getElem?_eq_some_iff.1 hs).1; omega)
      go_wp2_with fail
      obtain ⟨o2, ho2⟩ : ∃ o2 : Nat, (if c = k then some (⟨g, 0, none⟩ : Addr) else some ⟨g, k, none⟩) = some ⟨g, o2, none⟩ ∧ StrsAt w g o2 (ss.drop k) := by
        by_cases h7 : c = k
        · exact ⟨0, by rw [if_pos h7], fun i s hs => by
            have := (List.getElem?_eq_some_iff.1 hs).1; simp at this; omega⟩
        · exact ⟨k, by rw [if_neg h7], by have := hS.drop k; simpa using this⟩
      obtain ⟨ho2, -⟩ := ho2
      have Nb : ((w.alloc (.cells #[] 9)).alloc (.cells #[.string nm] 9)).drew.cell? ⟨w.heap.size + 1, 0, none⟩ = some (.string nm) := by simp [go_sem]
      have nb1 : some (w.heap.size + 1) ≠ (Value.slice (some ⟨w.heap.size, 0, none⟩) 0 0).ownBlock := by simp [Value.ownBlock]
      have Nc : ((w.alloc (.cells #[.string nm] 9)).alloc (.cells #[] 9)).drew.cell? ⟨w.heap.size, 0, none⟩ = some (.string nm) := by simp [go_sem]
      have nc1 : some w.heap.size ≠ (Value.slice (some ⟨w.heap.size + 1, 0, none⟩) 0 0).ownBlock := by simp [Value.ownBlock]
      have hkc : k ≤ c := by omega
      have Fa := (ow_lit hS (Below.refl w.heap.size w)).drew
      have Fb := ((ow_lit hS (Below.refl w.heap.size w)).alloc (.cells #[.string nm] 9)).drew
      have Fc := (ow_lit (hS.alloc (.cells #[.string nm] 9)) ((Below.refl w.heap.size w).alloc (Nat.le_refl _) (.cells #[.string nm] 9))).drew
      rw [show (w.alloc (.cells #[.string nm] 9)).heap.size = w.heap.size + 1 by simp] at Fc
      go_region_law (first
        | (revert h2; intro h2; refine step_append_own rfl _ _ 23 rfl w.heap.size 9 ii _ 1 16 Tryz.underlying23 hi iz0 iz1 iz2 rfl (by decide) _ _ _ rfl h2.1 ⟨g, o2, none⟩ (ss.length - k) _ ((ss.drop k).map Value.string) rfl (by simp) (news_of (strs_drop h2.2.1 ho2 hc)) (oneS _) (by unfold maxLen; omega) (by omega) h2.2.2.size ?_; intro v3 w3 hown3 hgrow3; have h3 := h2.grow hg hgrow3 hown3; clear h2 hown3 hgrow3)
        | (revert h1; intro h1; refine step_append_own rfl _ _ 23 rfl w.heap.size 9 ii _ 1 16 Tryz.underlying23 hi iz0 iz1 iz2 rfl (by decide) _ _ _ rfl (by first | exact h1.1 | exact (h1.alloc _).1) _ 1 1 [.string nm] rfl rfl (by first | exact one_new _ _ _ | exact one_old hN1) (oneV nm) (by unfold maxLen; omega) (by omega) (by first | exact h1.2.2.size | exact (h1.alloc _).2.2.size) ?_; intro v2 w2 hown2 hgrow2; first | have h2 := h1.grow hg hgrow2 hown2 | have h2 := (h1.alloc _).grow hg hgrow2 hown2; clear h1 hown2 hgrow2)
        | (refine step_append_own rfl _ _ 23 rfl w.heap.size 9 ii _ 1 16 Tryz.underlying23 hi iz0 iz1 iz2 rfl (by decide) _ 0 [] rfl (by first | exact Fa.1 | exact Fb.1 | exact Fc.1) ⟨g, 0, none⟩ k _ ((ss.take k).map Value.string) rfl (by simp; omega) (by first | exact news_of (Fa.2.1.take k) | exact news_of (Fb.2.1.take k) | exact news_of (Fc.2.1.take k)) (oneS _) (by unfold maxLen; omega) (by omega) (by first | exact Fa.2.2.size | exact Fb.2.2.size | exact Fc.2.2.size) ?_; intro v1 w1 hown1 hgrow1; first | (have h1 := Fa.grow hg hgrow1 hown1) | (have h1 := Fb.grow hg hgrow1 hown1; have hN1 := hgrow1.cell Nb nb1) | (have h1 := Fc.grow hg hgrow1 hown1; have hN1 := hgrow1.cell Nc nc1); clear hown1 hgrow1))
      all_goals
        have HT3 : Txt w3 v3 (insL ss nm) := by
          rw [Hq.out]
          exact Txt.own (n := 0 + k + 1 + (ss.length - k)) (by simpa using h3.1) (by simp; omega) (own_ptr2 h3.1 (by omega))
        have hO3 : OwnT w3 w.heap.size v3 (insL ss nm) := by
          unfold OwnT
          rw [Hq.out]
          have := h3.1
          have e1 : (ss.take k ++ nm :: ss.drop k).length = 0 + k + 1 + (ss.length - k) := by simp; omega
          rw [e1]
          simpa using this
        have hB3 := h3.2.2
        clear h3
        go_wp2_with fail
        go_ret
        exact ⟨⟨_, rfl, HT3, .inr hO3⟩, hB3⟩
end Go.Proofs.YtnojjmkmkelbgaaGreat
