/- The functions that the law of promises 14 and 15 calls, the going ones apart. -/
import Derived.Test.YtnojjmkmkelbgaaGreatProg
import Derived.Test.YtnojjmkmkelbgaaGreatJ26
import Derived.Test.YtnojjmkmkelbgaaGreatJ34
import Derived.Test.YtnojjmkmkelbgaaGreatKp7
namespace Go.Proofs.YtnojjmkmkelbgaaGreat
open Go.Conc
def fsW : List Nat := [4, 7, 9, 11, 14, 15, 16, 17, 22, 24, 25, 26, 27, 30, 31, 32, 33, 34, 41, 43, 45, 46, 47, 48, 49, 50, 51, 67, 68, 69, 70, 71, 72, 73, 74, 99, 100, 101, 108, 109, 6, 12, 18, 19, 21, 35, 36, 37, 38, 39, 52, 53, 54, 75, 28, 63, 64, 42, 44, 55, 76, 77, 102, 65, 66, 98]
set_option maxRecDepth 100000 in
theorem setW : SetOk Tryz.prog (fun g => fsW.contains g) := setOk_of (by kernel_rfl)
end Go.Proofs.YtnojjmkmkelbgaaGreat

/- Who moves, by the program, up to the noting (chapter 14). -/
namespace Go.Proofs.YtnojjmkmkelbgaaGreat
open Go.RowKit

theorem array13 (T : Array Value) (h : T.size = 13) : ∃ v0 v1 v2 v3 v4 v5 v6 v7 v8 v9 v10 v11 v12 : Value, T = #[v0, v1, v2, v3, v4, v5, v6, v7, v8, v9, v10, v11, v12] := by
  obtain ⟨l⟩ := T
  simp only [List.size_toArray] at h
  match l, h with
  | [v0, v1, v2, v3, v4, v5, v6, v7, v8, v9, v10, v11, v12], _ => exact ⟨_, _, _, _, _, _, _, _, _, _, _, _, _, rfl⟩

noncomputable def bodyM : Code := Tryz.f5.body.getD .skip
noncomputable def r0M : Code := match bodyM with | .seq r _ => r | _ => .skip
noncomputable def r1M : Code := match bodyM with | .seq _ (.seq (.seq r _) _) => r | _ => .skip
noncomputable def condM : Code := match bodyM with | .seq _ (.seq (.seq _ r) _) => r | _ => .skip
noncomputable def c1M : Code := match bodyM with | .seq _ (.seq r _) => r | _ => .skip
noncomputable def B2M : Code := match bodyM with | .seq _ (.seq _ r) => r | _ => .skip
noncomputable def r3M : Code := match bodyM with | .seq _ (.seq _ (.seq r _)) => r | _ => .skip
noncomputable def B4M : Code := match bodyM with | .seq _ (.seq _ (.seq _ r)) => r | _ => .skip
def slM (bv : Value) : Array Value := #[bv, undef, undef, undef, undef, undef, undef, undef, undef, undef, undef, undef, undef]

/-- Ahead of the noting. -/
def AtM (b : Bk) (R : World → Prop) (a : Act) (u : World) : Prop :=
  ∃ T tb, a = ⟨T, []⟩ ∧ T.size = 13 ∧ T[3]? = some (.pointer (some ⟨tb, 0, none⟩)) ∧ Tab u tb b.things (ts0 b.bs b.bs.length) ∧ R u

set_option maxRecDepth 20000 in
set_option maxHeartbeats 4000000 in
theorem nestM_ok (b : Bk) (bv : Value) (w : World) (h : BkV w bv b) (hok : BookOk b) (hbk : bookB b = true) {R : World → Prop} (HR : Hid (∀ u, Below w.heap.size w u → R u)) :
    Nest Tryz.prog [r0M, c1M, r3M] (fun e a u => e = .normal ∧ AtM b R a u) ⟨slM bv, []⟩ w := by
  have Hok : Hid (BookOk b) := hok
  clear hok
  obtain ⟨a1, c1, a2, c2, rfl, h1, h2⟩ := h.parts; clear h1 h2; simp only [r0M, c1M, r3M, slM, bodyM, Tryz.f5, Option.getD_some]
  obtain ⟨W1, hW1, kA, hB1, hs1⟩ : ∃ W1, w.alloc (.cells #[.slice a1 (b).things.length c1, .slice a2 (b).bs.length c2] 26) = W1 ∧ CB W1 w.heap.size [.slice a1 b.things.length c1, .slice a2 b.bs.length c2] ∧ Below w.heap.size w W1 ∧ W1.heap.size = w.heap.size + 1 := ⟨_, rfl, cb1 w _ _⟩; clear hs1; apply nest_k; intro K hK; (go_wp2_with fail); (try clear hK); (try clear K); (try rw [hW1]); clear hW1; have hk := h.up hB1; obtain ⟨e0, e1⟩ := kA.c2'; have hlt := kA.2.2; clear h
  apply nest_k; intro K hK
  go_wp2_with fail
  refine (bookOk_any b _ _ hk).mono ?_
  rintro e w2 ⟨rfl, hB2⟩
  have f0 := (hB2.cell (p := ⟨w.heap.size, 0, none⟩) hlt).trans e0
  have f1 := (hB2.cell (p := ⟨w.heap.size, 1, none⟩) hlt).trans e1
  have hk2 := hk.up hB2
  go_wp2_with fail
  try clear hK
  try clear K
  apply nest_k; intro K hK
  go_wp2_with fail
  refine (tableOf_any b _ _ hk2 Hok.out).mono ?_
  rintro e w5 ⟨⟨tb, rfl, hT, htb⟩, hB5⟩
  clear f0 f1 e0 e1
  go_wp2_with fail
  exact ⟨rfl, _, tb, rfl, rfl, rfl, hT, HR.out _ (up_trans hB1 (up_trans hB2 hB5))⟩

set_option maxRecDepth 20000 in
set_option maxHeartbeats 4000000 in
theorem nestM_no (b : Bk) (bv : Value) (w : World) (h : BkV w bv b) (hbk : bookB b = false) {R : World → Prop} (HR : Hid (∀ u, Below w.heap.size w u → R u)) :
    Nest Tryz.prog [r0M, r1M] (fun e a u => e = .normal ∧ (∃ T, a = ⟨T, []⟩ ∧ T.size = 13 ∧ T[6]? = some (.bool true)) ∧ R u) ⟨slM bv, []⟩ w := by
  obtain ⟨a1, c1, a2, c2, rfl, h1, h2⟩ := h.parts; clear h1 h2; simp only [r0M, r1M, slM, bodyM, Tryz.f5, Option.getD_some]
  obtain ⟨W1, hW1, kA, hB1, hs1⟩ : ∃ W1, w.alloc (.cells #[.slice a1 (b).things.length c1, .slice a2 (b).bs.length c2] 26) = W1 ∧ CB W1 w.heap.size [.slice a1 b.things.length c1, .slice a2 b.bs.length c2] ∧ Below w.heap.size w W1 ∧ W1.heap.size = w.heap.size + 1 := ⟨_, rfl, cb1 w _ _⟩; clear hs1; apply nest_k; intro K hK; (go_wp2_with fail); (try clear hK); (try clear K); (try rw [hW1]); clear hW1; have hk := h.up hB1; obtain ⟨e0, e1⟩ := kA.c2'; have hlt := kA.2.2; clear h
  apply nest_k; intro K hK
  go_wp2_with fail
  refine (bookOk_any b _ _ hk).mono ?_
  rintro e w2 ⟨rfl, hB2⟩
  go_wp2_with fail
  exact ⟨rfl, ⟨_, rfl, rfl, rfl⟩, HR.out _ (up_trans hB1 hB2)⟩
end Go.Proofs.YtnojjmkmkelbgaaGreat
