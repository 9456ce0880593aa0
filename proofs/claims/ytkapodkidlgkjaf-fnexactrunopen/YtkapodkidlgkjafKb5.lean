/- Books in plain: the order in which always the first that can goes. -/
import Derived.Test.YtkapodkidlgkjafKb4
namespace Go.Proofs.Ytkapodkidlgkjaf

/-- A batch that is not gone and can have all it needs. -/
def Good (bs : List Ba) (gone : List ByteArray) (k : Nat) : Prop := ∃ x, bs[k]? = some x ∧ memS gone x.nm = false ∧ Can bs k gone
/-- The place of the first of them, -1 if there is none. -/
def NextIs (bs : List Ba) (gone : List ByteArray) (n : Int) : Prop := (n = -1 ∧ ∀ k, k < bs.length → ¬ Good bs gone k) ∨ ∃ k : Nat, n = (k : Int) ∧ k < bs.length ∧ Good bs gone k ∧ ∀ j, j < k → ¬ Good bs gone j
theorem NextIs.uniq {bs : List Ba} {gone : List ByteArray} {m n : Int} (h : NextIs bs gone m) (h' : NextIs bs gone n) : m = n := by
  rcases h with ⟨rfl, h1⟩ | ⟨k, rfl, hk, hg, hl⟩ <;> rcases h' with ⟨rfl, h2⟩ | ⟨j, rfl, hj, gg, gl⟩
  · rfl
  · exact absurd gg (h1 j hj)
  · exact absurd hg (h2 k hk)
  · rcases Nat.lt_trichotomy k j with h3 | h3 | h3
    · exact absurd hg (gl k h3)
    · rw [h3]
    · exact absurd gg (hl j h3)
/-- n batches have gone, one behind the other, always the first that can. -/
inductive Goes (bs : List Ba) : Nat → List ByteArray → Prop
  | none : Goes bs 0 []
  | more {n : Nat} {gone : List ByteArray} {k : Nat} {x : Ba} : Goes bs n gone → NextIs bs gone (k : Int) → bs[k]? = some x → Goes bs (n + 1) (gone ++ [x.nm])
theorem Goes.length {bs : List Ba} {n : Nat} {gone : List ByteArray} (h : Goes bs n gone) : gone.length = n := by
  induction h with
  | none => rfl
  | more _ _ _ ih => simp [ih]
theorem Goes.uniq {bs : List Ba} {n : Nat} {g g' : List ByteArray} (h : Goes bs n g) (h' : Goes bs n g') : g = g' := by
  induction h generalizing g' with
  | none => cases h'; rfl
  | more h1 h2 h3 ih =>
    cases h' with
    | more k1 k2 k3 =>
      obtain rfl := ih k1
      have e := h2.uniq k2
      obtain rfl : _ = _ := Int.ofNat.inj e
      rw [h3] at k3
      obtain rfl := Option.some.inj k3
      rfl
theorem Goes.part {bs : List Ba} {n : Nat} {gone : List ByteArray} (h : Goes bs n gone) : ∀ m, m ≤ n → Goes bs m (gone.take m) := by
  induction h with
  | none => intro m hm; obtain rfl : m = 0 := by omega
            exact .none
  | @more n gone k x h1 h2 h3 ih =>
    intro m hm
    have hl := h1.length
    by_cases e : m = n + 1
    · subst e
      rw [List.take_of_length_le (by simp [hl])]
      exact .more h1 h2 h3
    · rw [List.take_append_of_le_length (by omega)]
      exact ih m (by omega)
/-- The order, and whether there is one. -/
def OrderIs (b : Bk) (ss : List ByteArray) (ok : Bool) : Prop := (ok = true ∧ BookOk b ∧ Goes b.bs b.bs.length ss) ∨ (ok = false ∧ ss = [] ∧ (¬ BookOk b ∨ ∃ n gone, n < b.bs.length ∧ Goes b.bs n gone ∧ NextIs b.bs gone (-1)))
theorem OrderIs.uniq {b : Bk} {ss ss' : List ByteArray} {ok ok' : Bool} (h : OrderIs b ss ok) (h' : OrderIs b ss' ok') : ss = ss' ∧ ok = ok' := by
  have no : ∀ {t}, BookOk b → Goes b.bs b.bs.length t → ¬ (¬ BookOk b ∨ ∃ n gone, n < b.bs.length ∧ Goes b.bs n gone ∧ NextIs b.bs gone (-1)) := by
    rintro t hb hg (h1 | ⟨n, gone, hn, h2, h3⟩)
    · exact h1 hb
    · have h4 := hg.part (n + 1) (by omega)
      have hl := hg.length
      generalize hq : t.take (n + 1) = q at h4
      cases h4 with
      | more k1 k2 k3 =>
        obtain rfl := h2.uniq k1
        have := h3.uniq k2
        omega
  rcases h with ⟨rfl, h1, h2⟩ | ⟨rfl, rfl, h2⟩ <;> rcases h' with ⟨rfl, g1, g2⟩ | ⟨rfl, rfl, g2⟩
  · exact ⟨h2.uniq g2, rfl⟩
  · exact absurd g2 (no h1 h2)
  · exact absurd h2 (no g1 g2)
  · exact ⟨rfl, rfl⟩
theorem goodTo_step {bs : List Ba} {gone : List ByteArray} {k : Nat} (h : ∀ j, j < k → ¬ Good bs gone j) (h1 : ¬ Good bs gone k) : ∀ j, j < k + 1 → ¬ Good bs gone j := fun j hj => by
  by_cases e : j = k
  · subst e; exact h1
  · exact h j (by omega)
theorem good_iff {bs : List Ba} {gone : List ByteArray} {k : Nat} (hk : k < bs.length) : Good bs gone k ↔ memS gone (bs[k]).nm = false ∧ Can bs k gone := by
  constructor
  · rintro ⟨x, hx, h⟩
    rw [List.getElem?_eq_getElem hk] at hx
    obtain rfl := Option.some.inj hx
    exact h
  · exact fun h => ⟨_, List.getElem?_eq_getElem hk, h⟩
end Go.Proofs.Ytkapodkidlgkjaf
