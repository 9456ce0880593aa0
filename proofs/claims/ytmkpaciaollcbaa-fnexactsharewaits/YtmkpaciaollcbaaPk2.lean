/- On whom somebody waits, by the program, up to the noting (chapter 14). -/
import Derived.Test.YtmkpaciaollcbaaJ34
import Derived.Test.YtmkpaciaollcbaaPk1
import Derived.Test.YtmkpaciaollcbaaKp7
import Derived.Test.YtmkpaciaollcbaaKr1
namespace Go.Proofs.Ytmkpaciaollcbaa
open Go.RowKit

theorem array24 (T : Array Value) (h : T.size = 24) : ∃ v0 v1 v2 v3 v4 v5 v6 v7 v8 v9 v10 v11 v12 v13 v14 v15 v16 v17 v18 v19 v20 v21 v22 v23 : Value, T = #[v0, v1, v2, v3, v4, v5, v6, v7, v8, v9, v10, v11, v12, v13, v14, v15, v16, v17, v18, v19, v20, v21, v22, v23] := by
  obtain ⟨l⟩ := T
  simp only [List.size_toArray] at h
  match l, h with
  | [v0, v1, v2, v3, v4, v5, v6, v7, v8, v9, v10, v11, v12, v13, v14, v15, v16, v17, v18, v19, v20, v21, v22, v23], _ => exact ⟨_, _, _, _, _, _, _, _, _, _, _, _, _, _, _, _, _, _, _, _, _, _, _, _, rfl⟩

noncomputable def bodySW : Code := Try.f15.body.getD .skip
noncomputable def r0S : Code := match bodySW with | .seq r _ => r | _ => .skip
noncomputable def r1S : Code := match bodySW with | .seq _ (.seq (.seq r _) _) => r | _ => .skip
noncomputable def c1S : Code := match bodySW with | .seq _ (.seq r _) => r | _ => .skip
noncomputable def B1S : Code := match bodySW with | .seq _ r => r | _ => .skip
noncomputable def r3S : Code := match bodySW with | .seq _ (.seq _ (.seq r _)) => r | _ => .skip
noncomputable def B4S : Code := match bodySW with | .seq _ (.seq _ (.seq _ r)) => r | _ => .skip
noncomputable def c4S : Code := match bodySW with | .seq _ (.seq _ (.seq _ (.seq r _))) => r | _ => .skip
noncomputable def r6S : Code := match bodySW with | .seq _ (.seq _ (.seq _ (.seq _ (.seq r _)))) => r | _ => .skip
noncomputable def B7S : Code := match bodySW with | .seq _ (.seq _ (.seq _ (.seq _ (.seq _ r)))) => r | _ => .skip
def slS (bv : Value) (nm : ByteArray) : Array Value := #[bv, .string nm, undef, undef, undef, undef, undef, undef, undef, undef, undef, undef, undef, undef, undef, undef, undef, undef, undef, undef, undef, undef, undef, undef]

/-- Ahead of the noting. -/
def AtS (b : Bk) (nm : ByteArray) (R : World → Prop) (a : Act) (u : World) : Prop :=
  ∃ T oB tB tb, a = ⟨T, []⟩ ∧ T.size = 24 ∧ T[5]? = some (.pointer (some ⟨oB, 0, none⟩)) ∧ T[7]? = some (.pointer (some ⟨tB, 0, none⟩)) ∧ u.cell? ⟨oB, 0, none⟩ = some (.int .i64 (lowN (nms b.bs) nm : Int)) ∧ u.cell? ⟨tB, 0, none⟩ = some (.pointer (some ⟨tb, 0, none⟩)) ∧ Tab u tb b.things (ts0 b.bs b.bs.length) ∧ R u

set_option maxRecDepth 20000 in
set_option maxHeartbeats 4000000 in
theorem nestS_ok (b : Bk) (bv : Value) (nm : ByteArray) (w : World) (h : BkV w bv b) (hok : BookOk b) (hbk : bookB b = true) (hm : memS (nms b.bs) nm = true) {R : World → Prop} (HR : Hid (∀ u, Below w.heap.size w u → R u)) :
    Nest Try.prog [r0S, c1S, r3S, c4S, r6S] (fun e a u => e = .normal ∧ AtS b nm R a u) ⟨slS bv nm, []⟩ w := by
  have Hok : Hid (BookOk b) := hok
  clear hok
  obtain ⟨a1, c1, a2, c2, rfl, h1, h2⟩ := h.parts; clear h1 h2; simp only [r0S, c1S, r3S, c4S, r6S, slS, bodySW, Try.f15, Option.getD_some]
  obtain ⟨W1, hW1, kA, hB1, hs1⟩ : ∃ W1, w.alloc (.cells #[.slice a1 (b).things.length c1, .slice a2 (b).bs.length c2] 30) = W1 ∧ CB W1 w.heap.size [.slice a1 b.things.length c1, .slice a2 b.bs.length c2] ∧ Below w.heap.size w W1 ∧ W1.heap.size = w.heap.size + 1 := ⟨_, rfl, cb1 w _ _⟩; clear hs1; apply nest_k; intro K hK; (go_wp2_with fail); (try clear hK); (try clear K); (try rw [hW1]); clear hW1; have hk := h.up hB1; obtain ⟨e0, e1⟩ := kA.c2'; have hlt := kA.2.2; clear h
  apply nest_k; intro K hK
  go_wp2_with fail
  refine (bookOk_any b _ _ hk).mono ?_
  rintro e w2 ⟨rfl, hB2⟩
  have f0 := (hB2.cell (p := ⟨w.heap.size, 0, none⟩) hlt).trans e0
  have f1 := (hB2.cell (p := ⟨w.heap.size, 1, none⟩) hlt).trans e1
  go_wp2_with fail
  try clear hK
  try clear K
  apply nest_k; intro K hK
  go_wp2_with fail
  refine (find_any b _ nm _ (hk.up hB2) Hok.out).mono ?_
  rintro e w3 ⟨rfl, hb3⟩
  have hB3 := up_trans hB2 hb3
  clear hb3 f0 f1 hB2
  go_wp2_with fail
  try clear hK
  try clear K
  obtain ⟨W4, hW4, kO, hb4, hs4⟩ : ∃ W4, w3.alloc (.cells #[.int .i64 (lowN (nms b.bs) nm : Int)] 3) = W4 ∧ CB W4 w3.heap.size [.int .i64 (lowN (nms b.bs) nm : Int)] ∧ Below w3.heap.size w3 W4 ∧ W4.heap.size = w3.heap.size + 1 := ⟨_, rfl, cb1 w3 _ _⟩
  rw [hW4]
  have hB4 := up_trans hB3 hb4
  have f0 := (hB4.cell (p := ⟨w.heap.size, 0, none⟩) hlt).trans e0
  have f1 := (hB4.cell (p := ⟨w.heap.size, 1, none⟩) hlt).trans e1
  have hk4 := hk.up hB4
  clear hW4 hb4 hs4 hB3
  apply nest_k; intro K hK
  go_wp2_with fail
  try clear hK
  try clear K
  apply nest_k; intro K hK
  go_wp2_with fail
  refine (tableOf_any b _ _ hk4 Hok.out).mono ?_
  rintro e w5 ⟨⟨tb, rfl, hT, htb⟩, hB5⟩
  clear f0 f1 e0 e1
  go_wp2_with fail
  try clear hK
  try clear K
  obtain ⟨W6, hW6, kT, hb6, hs6⟩ : ∃ W6, w5.alloc (.cells #[.pointer (some ⟨tb, 0, none⟩)] 46) = W6 ∧ CB W6 w5.heap.size [.pointer (some ⟨tb, 0, none⟩)] ∧ Below w5.heap.size w5 W6 ∧ W6.heap.size = w5.heap.size + 1 := ⟨_, rfl, cb1 w5 _ _⟩
  rw [hW6]
  clear hW6 hs6
  have hB6 := up_trans hB5 hb6
  have kO6 := kO.up hB6 kO.2.2
  exact ⟨rfl, _, w3.heap.size, w5.heap.size, tb, rfl, rfl, rfl, rfl, kO6.1 0 _ rfl, kT.1 0 _ rfl, hT.up hb6, HR.out _ (up_trans hB1 (up_trans hB4 hB6))⟩

set_option maxRecDepth 20000 in
set_option maxHeartbeats 4000000 in
theorem nestS_lost (b : Bk) (bv : Value) (nm : ByteArray) (w : World) (h : BkV w bv b) (hok : BookOk b) (hbk : bookB b = true) (hm : memS (nms b.bs) nm = false) {R : World → Prop} (HR : Hid (∀ u, Below w.heap.size w u → R u)) :
    Nest Try.prog [r0S, c1S, r3S] (fun e a u => e = .normal ∧ (∃ T, a = ⟨T, []⟩ ∧ T.size = 24 ∧ T[6]? = some (.bool false)) ∧ R u) ⟨slS bv nm, []⟩ w := by
  have Hok : Hid (BookOk b) := hok
  clear hok
  obtain ⟨a1, c1, a2, c2, rfl, h1, h2⟩ := h.parts; clear h1 h2; simp only [r0S, c1S, r3S, slS, bodySW, Try.f15, Option.getD_some]
  obtain ⟨W1, hW1, kA, hB1, hs1⟩ : ∃ W1, w.alloc (.cells #[.slice a1 (b).things.length c1, .slice a2 (b).bs.length c2] 30) = W1 ∧ CB W1 w.heap.size [.slice a1 b.things.length c1, .slice a2 b.bs.length c2] ∧ Below w.heap.size w W1 ∧ W1.heap.size = w.heap.size + 1 := ⟨_, rfl, cb1 w _ _⟩; clear hs1; apply nest_k; intro K hK; (go_wp2_with fail); (try clear hK); (try clear K); (try rw [hW1]); clear hW1; have hk := h.up hB1; obtain ⟨e0, e1⟩ := kA.c2'; have hlt := kA.2.2; clear h
  apply nest_k; intro K hK
  go_wp2_with fail
  refine (bookOk_any b _ _ hk).mono ?_
  rintro e w2 ⟨rfl, hB2⟩
  have f0 := (hB2.cell (p := ⟨w.heap.size, 0, none⟩) hlt).trans e0
  have f1 := (hB2.cell (p := ⟨w.heap.size, 1, none⟩) hlt).trans e1
  go_wp2_with fail
  try clear hK
  try clear K
  apply nest_k; intro K hK
  go_wp2_with fail
  refine (find_any b _ nm _ (hk.up hB2) Hok.out).mono ?_
  rintro e w3 ⟨rfl, hb3⟩
  have hB3 := up_trans hB2 hb3
  clear hb3 f0 f1 hB2
  go_wp2_with fail
  exact ⟨rfl, ⟨_, rfl, rfl, rfl⟩, HR.out _ (up_trans hB1 (hB3.alloc hB3.size _))⟩

set_option maxRecDepth 20000 in
set_option maxHeartbeats 4000000 in
theorem nestS_no (b : Bk) (bv : Value) (nm : ByteArray) (w : World) (h : BkV w bv b) (hbk : bookB b = false) {R : World → Prop} (HR : Hid (∀ u, Below w.heap.size w u → R u)) :
    Nest Try.prog [r0S, r1S] (fun e a u => e = .normal ∧ (∃ T, a = ⟨T, []⟩ ∧ T.size = 24 ∧ T[10]? = some (.bool true)) ∧ R u) ⟨slS bv nm, []⟩ w := by
  obtain ⟨a1, c1, a2, c2, rfl, h1, h2⟩ := h.parts; clear h1 h2; simp only [r0S, r1S, slS, bodySW, Try.f15, Option.getD_some]
  obtain ⟨W1, hW1, kA, hB1, hs1⟩ : ∃ W1, w.alloc (.cells #[.slice a1 (b).things.length c1, .slice a2 (b).bs.length c2] 30) = W1 ∧ CB W1 w.heap.size [.slice a1 b.things.length c1, .slice a2 b.bs.length c2] ∧ Below w.heap.size w W1 ∧ W1.heap.size = w.heap.size + 1 := ⟨_, rfl, cb1 w _ _⟩; clear hs1; apply nest_k; intro K hK; (go_wp2_with fail); (try clear hK); (try clear K); (try rw [hW1]); clear hW1; have hk := h.up hB1; obtain ⟨e0, e1⟩ := kA.c2'; have hlt := kA.2.2; clear h
  apply nest_k; intro K hK
  go_wp2_with fail
  refine (bookOk_any b _ _ hk).mono ?_
  rintro e w2 ⟨rfl, hB2⟩
  go_wp2_with fail
  exact ⟨rfl, ⟨_, rfl, rfl, rfl⟩, HR.out _ (up_trans hB1 hB2)⟩
end Go.Proofs.Ytmkpaciaollcbaa
