/- Runs in plain: how a run ends; says in memory. -/
import Derived.Test.YtcofjoacehacjaaGreatDoorRn
import Derived.Test.YtcofjoacehacjaaGreatDoorJ26
import Derived.Test.YtcofjoacehacjaaGreatDoorJ23
namespace Go.Proofs.YtcofjoacehacjaaGreatDoor
open Go.RowKit

/-- How a run ends, and its path. -/
def RunEnd (ps : List Ph) (ys : List Sy) (s : St) (path : List ByteArray) : Prop :=
  (recB ps = false ∧ s = St.none ∧ path = []) ∨ (recB ps = true ∧ ∃ n, Went ps ys n ∧ atI ps (stN ps ys n).nm < 0 ∧ s = stN ps ys n ∧ path = pathN ps ys n)
theorem RunEnd.uniq {ps : List Ph} {ys : List Sy} {s s' : St} {p p' : List ByteArray} (h : RunEnd ps ys s p) (h' : RunEnd ps ys s' p') : s = s' ∧ p = p' := by
  rcases h with ⟨h0, rfl, rfl⟩ | ⟨h0, n, h1, h2, rfl, rfl⟩ <;> rcases h' with ⟨g0, rfl, rfl⟩ | ⟨g0, m, g1, g2, rfl, rfl⟩
  · exact ⟨rfl, rfl⟩
  · rw [h0] at g0; cases g0
  · rw [h0] at g0; cases g0
  · obtain rfl := went_uniq h1 g1 h2 g2
    exact ⟨rfl, rfl⟩
theorem RunEnd.short {ps : List Ph} {ys : List Sy} {s : St} {p : List ByteArray} (h : RunEnd ps ys s p) : p.length ≤ 12 := by
  rcases h with ⟨_, _, rfl⟩ | ⟨h0, n, h1, _, _, rfl⟩
  · simp
  · rw [pathN_length]
    have := went_le h0 ys h1
    have := ((recB_iff ps).1 h0).2.1
    omega
def Sy.cellsR (y : Sy) : List Value := [.int .i64 y.t, .bool y.well]
/-- The says lie in block b from cell o on. -/
def SayAt (w : World) (b o : Nat) (ys : List Sy) : Prop := ∀ (i : Nat) (y : Sy), ys[i]? = some y → w.rangeAt b (o + i * 2) y.cellsR
theorem SayAt.up {w w' : World} {b o B : Nat} {ys : List Sy} (h : SayAt w b o ys) (hb : Below B w w') (hB : b < B) : SayAt w' b o ys := fun i p hp j v hv => by
  rw [hb.cell (p := ⟨b, o + i * 2 + j, none⟩) hB]; exact h i p hp j v hv
theorem SayAt.cells {w : World} {b o : Nat} {ys : List Sy} (h : SayAt w b o ys) (i : Nat) (hi : i < ys.length) : w.cell? ⟨b, o + i * 2, none⟩ = some (.int .i64 (ys[i]).t) ∧ w.cell? ⟨b, o + i * 2 + 1, none⟩ = some (.bool (ys[i]).well) := by
  have hr := h i ys[i] (by simp [hi])
  exact ⟨hr 0 _ rfl, hr 1 _ rfl⟩
theorem SayAt.drop {w : World} {b o : Nat} {ys : List Sy} (h : SayAt w b o ys) (k : Nat) : SayAt w b (o + k * 2) (ys.drop k) := fun j p hp => by
  have := h (k + j) p (by simpa [List.getElem?_drop] using hp)
  rwa [show o + k * 2 + j * 2 = o + (k + j) * 2 by omega]
/-- The path grows by a name. -/
theorem ownT_snoc {w : World} {base : Nat} {u : Value} {ps : List Ph} {ys : List Sy} {k : Nat} (h : w.ownsRow base 9 1 u (k + 1) ((pathN ps ys k).map Value.string ++ [.string (stN ps ys k).nm])) : OwnT w base u (pathN ps ys (k + 1)) := by
  unfold OwnT
  rw [pathN_length, pathN_succ, List.map_append]
  exact h
theorem ownT_path {w : World} {base : Nat} {u : Value} {ps : List Ph} {ys : List Sy} {k : Nat} (h : OwnT w base u (pathN ps ys k)) : w.ownsRow base 9 1 u k ((pathN ps ys k).map Value.string) := by
  unfold OwnT at h
  rwa [pathN_length] at h
theorem OwnT.low {w : World} {base base' : Nat} {u : Value} {ss : List ByteArray} (h : OwnT w base u ss) (hb : base' ≤ base) : OwnT w base' u ss := own_low h hb
/-- A row grows, and a block that lies ahead of it stays. -/
theorem CB.own {w w' : World} {b base e size n : Nat} {cs : List Value} {v : Value} {xs : List Value} (h : CB w b cs) (hown : w.ownsRow base e size v n xs) (hg : w.grownBy w' v.ownBlock) (hb : b < base) : CB w' b cs := h.kept hg (own_ne hown hb)
theorem OwnT.set {w w' : World} {base q : Nat} {u : Value} {ss : List ByteArray} (h : OwnT w base u ss) (hg : w.grownBy w' (some q)) (hq : q < base) : OwnT w' base u ss := own_grown h hg hq
theorem OwnT.grown {w w' : World} {base q : Nat} {u : Value} {ss : List ByteArray} (h : OwnT w base u ss) (hg : w.grownBy w' (some q)) (hne : u.ownBlock ≠ some q) : OwnT w' base u ss := by
  refine ⟨h.1, ?_⟩
  rcases h.2 with h0 | ⟨g, cap, cur, hv, hb, hh, r⟩
  · exact .inl h0
  · refine .inr ⟨g, cap, cur, hv, hb, ?_, r⟩
    rw [hg.block g (Array.getElem?_eq_some_iff.1 hh).1 (fun e => hne (by rw [hv, Value.ownBlock]; exact e))]; exact hh
end Go.Proofs.YtcofjoacehacjaaGreatDoor
