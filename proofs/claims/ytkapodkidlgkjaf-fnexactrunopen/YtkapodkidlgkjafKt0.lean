/- The specification's copy of a list of names. -/
import Derived.Test.YtkapodkidlgkjafKs2
import Derived.Test.YtkapodkidlgkjafKz
import Derived.Laws.OwnMore
namespace Go.Proofs.Ytkapodkidlgkjaf
open Go.RowKit

set_option maxHeartbeats 1000000 in
theorem names11_any (ss : List ByteArray) (v : Value) (w : World) (h : Ls w v ss) (hn : ss.length ≤ 1048576) :
    Calls Try.prog 13 #[v] w fun e w' => (∃ u, e = .returned u ∧ OwnT w' w.heap.size u ss ∧ NN u) ∧ Below w.heap.size w w' := by
  obtain ⟨a, c, rfl, -, -, hpos⟩ := h
  obtain ⟨ii, hi, iz0, iz1, iz2⟩ := info_parts infoStr
  have ho := ownT_lit0 w
  have hb := (Below.refl w.heap.size w).alloc (Nat.le_refl _) (.cells #[] 9)
  rcases Nat.eq_zero_or_pos ss.length with h0 | h0
  · obtain rfl := List.length_eq_zero_iff.1 h0
    simp only [List.length_nil]
    go_enter Try.func13, Try.ntmps13
    go_wp2_with (at_builtin; refine wpList_append_zero _ rfl _ _ 22 rfl w.heap.size 9 ii 1 Try.underlying22 hi _ 0 [] rfl ho a c rfl ?_)
    go_ret
    exact ⟨⟨_, rfl, ho, _, _, _, rfl⟩, hb⟩
  · obtain ⟨g, o, rfl, hS, hg⟩ := hpos h0
    have hn1 := news_of (hS.alloc (.cells #[] 9))
    go_enter Try.func13, Try.ntmps13
    go_wp2_with (at_builtin; refine wpList_append_own _ rfl _ _ 22 rfl w.heap.size 9 ii _ 1 16 Try.underlying22 hi iz0 iz1 iz2 rfl (by decide) _ 0 [] rfl ho ⟨g, o, none⟩ ss.length c (ss.map Value.string) rfl (by simp) hn1 (oneS ss) (by unfold maxLen; omega) (by omega) hb.size ?_)
    intro v1 w1 hown1 hgr1 _
    have hB1 := below_own hb ho hgr1 (Nat.le_refl _)
    have ho1 : OwnT w1 w.heap.size v1 ss := by unfold OwnT; simpa using hown1
    obtain ⟨g1, k1, rfl⟩ := own_ptr2 ho1 h0
    clear hown1 hgr1 ho hb hn1
    go_wp2_with fail
    go_ret
    exact ⟨⟨_, rfl, ho1, _, _, _, rfl⟩, hB1⟩
end Go.Proofs.Ytkapodkidlgkjaf
