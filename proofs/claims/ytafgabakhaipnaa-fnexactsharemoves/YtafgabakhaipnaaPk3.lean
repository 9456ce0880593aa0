/- Who moves, by the program, up to the noting (chapter 14). -/
import Derived.Test.YtafgabakhaipnaaJ34
import Derived.Test.YtafgabakhaipnaaJ39
import Derived.Test.YtafgabakhaipnaaKp7
namespace Go.Proofs.Ytafgabakhaipnaa
open Go.RowKit

theorem array13 (T : Array Value) (h : T.size = 13) : ∃ v0 v1 v2 v3 v4 v5 v6 v7 v8 v9 v10 v11 v12 : Value, T = #[v0, v1, v2, v3, v4, v5, v6, v7, v8, v9, v10, v11, v12] := by
  obtain ⟨l⟩ := T
  simp only [List.size_toArray] at h
  match l, h with
  | [v0, v1, v2, v3, v4, v5, v6, v7, v8, v9, v10, v11, v12], _ => exact ⟨_, _, _, _, _, _, _, _, _, _, _, _, _, rfl⟩

noncomputable def bodyM : Code := Try.f7.body.getD .skip
noncomputable def r0M : Code := match bodyM with | .seq r _ => r | _ => .skip
noncomputable def r1M : Code := match bodyM with | .seq _ (.seq (.seq r _) _) => r | _ => .skip
noncomputable def condM : Code := match bodyM with | .seq _ (.seq (.seq _ r) _) => r | _ => .skip
noncomputable def c1M : Code := match bodyM with | .seq _ (.seq r _) => r | _ => .skip
noncomputable def B2M : Code := match bodyM with | .seq _ (.seq _ r) => r | _ => .skip
noncomputable def r3M : Code := match bodyM with | .seq _ (.seq _ (.seq r _)) => r | _ => .skip
noncomputable def B4M : Code := match bodyM with | .seq _ (.seq _ (.seq _ r)) => r | _ => .skip
def slM (bv : Value) : Array Value := #[bv, undef, undef, undef, undef, undef, undef, undef, undef, undef, undef, undef, undef]

/-- Ahead of the noting. -/
def AtM (b : Bk) (R : World → Prop) (a : Act) (u : World) : Prop :=
  ∃ T tb, a = ⟨T, []⟩ ∧ T.size = 13 ∧ T[3]? = some (.pointer (some ⟨tb, 0, none⟩)) ∧ Tab u tb b.things (ts0 b.bs b.bs.length) ∧ R u

set_option maxRecDepth 20000 in
set_option maxHeartbeats 4000000 in
theorem nestM_ok (b : Bk) (bv : Value) (w : World) (h : BkV w bv b) (hok : BookOk b) (hbk : bookB b = true) {R : World → Prop} (HR : Hid (∀ u, Below w.heap.size w u → R u)) :
    Nest Try.prog [r0M, c1M, r3M] (fun e a u => e = .normal ∧ AtM b R a u) ⟨slM bv, []⟩ w := by
  have Hok : Hid (BookOk b) := hok
  clear hok
  obtain ⟨a1, c1, a2, c2, rfl, h1, h2⟩ := h.parts; clear h1 h2; simp only [r0M, c1M, r3M, slM, bodyM, Try.f7, Option.getD_some]
  obtain ⟨W1, hW1, kA, hB1, hs1⟩ : ∃ W1, w.alloc (.cells #[.slice a1 (b).things.length c1, .slice a2 (b).bs.length c2] 30) = W1 ∧ CB W1 w.heap.size [.slice a1 b.things.length c1, .slice a2 b.bs.length c2] ∧ Below w.heap.size w W1 ∧ W1.heap.size = w.heap.size + 1 := ⟨_, rfl, cb1 w _ _⟩; clear hs1; apply nest_k; intro K hK; (go_wp2_with fail); (try clear hK); (try clear K); (try rw [hW1]); clear hW1; have hk := h.up hB1; obtain ⟨e0, e1⟩ := kA.c2'; have hlt := kA.2.2; clear h
  apply nest_k; intro K hK
  go_wp2_with fail
  refine (bookOk_any b _ _ hk).mono ?_
  rintro e w2 ⟨rfl, hB2⟩
  have f0 := (hB2.cell (p := ⟨w.heap.size, 0, none⟩) hlt).trans e0
  have f1 := (hB2.cell (p := ⟨w.heap.size, 1, none⟩) hlt).trans e1
  have hk2 := hk.up hB2
  go_wp2_with fail
  try clear hK
  try clear K
  apply nest_k; intro K hK
  go_wp2_with fail
  refine (tableOf_any b _ _ hk2 Hok.out).mono ?_
  rintro e w5 ⟨⟨tb, rfl, hT, htb⟩, hB5⟩
  clear f0 f1 e0 e1
  go_wp2_with fail
  exact ⟨rfl, _, tb, rfl, rfl, rfl, hT, HR.out _ (up_trans hB1 (up_trans hB2 hB5))⟩

set_option maxRecDepth 20000 in
set_option maxHeartbeats 4000000 in
theorem nestM_no (b : Bk) (bv : Value) (w : World) (h : BkV w bv b) (hbk : bookB b = false) {R : World → Prop} (HR : Hid (∀ u, Below w.heap.size w u → R u)) :
    Nest Try.prog [r0M, r1M] (fun e a u => e = .normal ∧ (∃ T, a = ⟨T, []⟩ ∧ T.size = 13 ∧ T[6]? = some (.bool true)) ∧ R u) ⟨slM bv, []⟩ w := by
  obtain ⟨a1, c1, a2, c2, rfl, h1, h2⟩ := h.parts; clear h1 h2; simp only [r0M, r1M, slM, bodyM, Try.f7, Option.getD_some]
  obtain ⟨W1, hW1, kA, hB1, hs1⟩ : ∃ W1, w.alloc (.cells #[.slice a1 (b).things.length c1, .slice a2 (b).bs.length c2] 30) = W1 ∧ CB W1 w.heap.size [.slice a1 b.things.length c1, .slice a2 b.bs.length c2] ∧ Below w.heap.size w W1 ∧ W1.heap.size = w.heap.size + 1 := ⟨_, rfl, cb1 w _ _⟩; clear hs1; apply nest_k; intro K hK; (go_wp2_with fail); (try clear hK); (try clear K); (try rw [hW1]); clear hW1; have hk := h.up hB1; obtain ⟨e0, e1⟩ := kA.c2'; have hlt := kA.2.2; clear h
  apply nest_k; intro K hK
  go_wp2_with fail
  refine (bookOk_any b _ _ hk).mono ?_
  rintro e w2 ⟨rfl, hB2⟩
  go_wp2_with fail
  exact ⟨rfl, ⟨_, rfl, rfl, rfl⟩, HR.out _ (up_trans hB1 hB2)⟩
end Go.Proofs.Ytafgabakhaipnaa
