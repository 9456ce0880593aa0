/- On whom somebody waits, by the program, up to the noting (chapter 14). -/
import Derived.Test.YtnojjmkmkelbgaaGreatJ26
import Derived.Test.YtnojjmkmkelbgaaGreatJ34
import Derived.Test.YtnojjmkmkelbgaaGreatKp7
import Derived.Test.YtnojjmkmkelbgaaGreatJ38
import Derived.Test.YtnojjmkmkelbgaaGreatJ37
import Derived.Test.YtnojjmkmkelbgaaGreatJ36
import Derived.Test.YtnojjmkmkelbgaaGreatJ6
namespace Go.Proofs.YtnojjmkmkelbgaaGreat
open Go.RowKit

theorem array24 (T : Array Value) (h : T.size = 24) : ∃ v0 v1 v2 v3 v4 v5 v6 v7 v8 v9 v10 v11 v12 v13 v14 v15 v16 v17 v18 v19 v20 v21 v22 v23 : Value, T = #[v0, v1, v2, v3, v4, v5, v6, v7, v8, v9, v10, v11, v12, v13, v14, v15, v16, v17, v18, v19, v20, v21, v22, v23] := by
  obtain ⟨l⟩ := T
  simp only [List.size_toArray] at h
  match l, h with
  | [v0, v1, v2, v3, v4, v5, v6, v7, v8, v9, v10, v11, v12, v13, v14, v15, v16, v17, v18, v19, v20, v21, v22, v23], _ => exact ⟨_, _, _, _, _, _, _, _, _, _, _, _, _, _, _, _, _, _, _, _, _, _, _, _, rfl⟩

noncomputable def bodySW : Code := Tryz.f13.body.getD .skip
noncomputable def r0S : Code := match bodySW with | .seq r _ => r | _ => .skip
noncomputable def r1S : Code := match bodySW with | .seq _ (.seq (.seq r _) _) => r | _ => .skip
noncomputable def c1S : Code := match bodySW with | .seq _ (.seq r _) => r | _ => .skip
noncomputable def B1S : Code := match bodySW with | .seq _ r => r | _ => .skip
noncomputable def r3S : Code := match bodySW with | .seq _ (.seq _ (.seq r _)) => r | _ => .skip
noncomputable def B4S : Code := match bodySW with | .seq _ (.seq _ (.seq _ r)) => r | _ => .skip
noncomputable def c4S : Code := match bodySW with | .seq _ (.seq _ (.seq _ (.seq r _))) => r | _ => .skip
noncomputable def r6S : Code := match bodySW with | .seq _ (.seq _ (.seq _ (.seq _ (.seq r _)))) => r | _ => .skip
noncomputable def B7S : Code := match bodySW with | .seq _ (.seq _ (.seq _ (.seq _ (.seq _ r)))) => r | _ => .skip
def slS (bv : Value) (nm : ByteArray) : Array Value := #[bv, .string nm, undef, undef, undef, undef, undef, undef, undef, undef, undef, undef, undef, undef, undef, undef, undef, undef, undef, undef, undef, undef, undef, undef]

/-- Ahead of the noting. -/
def AtS (b : Bk) (nm : ByteArray) (R : World → Prop) (a : Act) (u : World) : Prop :=
  ∃ T oB tB tb, a = ⟨T, []⟩ ∧ T.size = 24 ∧ T[5]? = some (.pointer (some ⟨oB, 0, none⟩)) ∧ T[7]? = some (.pointer (some ⟨tB, 0, none⟩)) ∧ u.cell? ⟨oB, 0, none⟩ = some (.int .i64 (lowN (nms b.bs) nm : Int)) ∧ u.cell? ⟨tB, 0, none⟩ = some (.pointer (some ⟨tb, 0, none⟩)) ∧ Tab u tb b.things (ts0 b.bs b.bs.length) ∧ R u

set_option maxRecDepth 20000 in
set_option maxHeartbeats 4000000 in
theorem nestS_ok (b : Bk) (bv : Value) (nm : ByteArray) (w : World) (h : BkV w bv b) (hok : BookOk b) (hbk : bookB b = true) (hm : memS (nms b.bs) nm = true) {R : World → Prop} (HR : Hid (∀ u, Below w.heap.size w u → R u)) :
    Nest Tryz.prog [r0S, c1S, r3S, c4S, r6S] (fun e a u => e = .normal ∧ AtS b nm R a u) ⟨slS bv nm, []⟩ w := by
  have Hok : Hid (BookOk b) := hok
  clear hok
  obtain ⟨a1, c1, a2, c2, rfl, h1, h2⟩ := h.parts; clear h1 h2; simp only [r0S, c1S, r3S, c4S, r6S, slS, bodySW, Tryz.f13, Option.getD_some]
  obtain ⟨W1, hW1, kA, hB1, hs1⟩ : ∃ W1, w.alloc (.cells #[.slice a1 (b).things.length c1, .slice a2 (b).bs.length c2] 26) = W1 ∧ CB W1 w.heap.size [.slice a1 b.things.length c1, .slice a2 b.bs.length c2] ∧ Below w.heap.size w W1 ∧ W1.heap.size = w.heap.size + 1 := ⟨_, rfl, cb1 w _ _⟩; clear hs1; apply nest_k; intro K hK; (go_wp2_with fail); (try clear hK); (try clear K); (try rw [hW1]); clear hW1; have hk := h.up hB1; obtain ⟨e0, e1⟩ := kA.c2'; have hlt := kA.2.2; clear h
  apply nest_k; intro K hK
  go_wp2_with fail
  refine (bookOk_any b _ _ hk).mono ?_
  rintro e w2 ⟨rfl, hB2⟩
  have f0 := (hB2.cell (p := ⟨w.heap.size, 0, none⟩) hlt).trans e0
  have f1 := (hB2.cell (p := ⟨w.heap.size, 1, none⟩) hlt).trans e1
  go_wp2_with fail
  try clear hK
  try clear K
  apply nest_k; intro K hK
  go_wp2_with fail
  refine (find_any b _ nm _ (hk.up hB2) Hok.out).mono ?_
  rintro e w3 ⟨rfl, hb3⟩
  have hB3 := up_trans hB2 hb3
  clear hb3 f0 f1 hB2
  go_wp2_with fail
  try clear hK
  try clear K
  obtain ⟨W4, hW4, kO, hb4, hs4⟩ : ∃ W4, w3.alloc (.cells #[.int .i64 (lowN (nms b.bs) nm : Int)] 3) = W4 ∧ CB W4 w3.heap.size [.int .i64 (lowN (nms b.bs) nm : Int)] ∧ Below w3.heap.size w3 W4 ∧ W4.heap.size = w3.heap.size + 1 := ⟨_, rfl, cb1 w3 _ _⟩
  rw [hW4]
  have hB4 := up_trans hB3 hb4
  have f0 := (hB4.cell (p := ⟨w.heap.size, 0, none⟩) hlt).trans e0
  have f1 := (hB4.cell (p := ⟨w.heap.size, 1, none⟩) hlt).trans e1
  have hk4 := hk.up hB4
  clear hW4 hb4 hs4 hB3
  apply nest_k; intro K hK
  go_wp2_with fail
  try clear hK
  try clear K
  apply nest_k; intro K hK
  go_wp2_with fail
  refine (tableOf_any b _ _ hk4 Hok.out).mono ?_
  rintro e w5 ⟨⟨tb, rfl, hT, htb⟩, hB5⟩
  clear f0 f1 e0 e1
  go_wp2_with fail
  try clear hK
  try clear K
  obtain ⟨W6, hW6, kT, hb6, hs6⟩ : ∃ W6, w5.alloc (.cells #[.pointer (some ⟨tb, 0, none⟩)] 41) = W6 ∧ CB W6 w5.heap.size [.pointer (some ⟨tb, 0, none⟩)] ∧ Below w5.heap.size w5 W6 ∧ W6.heap.size = w5.heap.size + 1 := ⟨_, rfl, cb1 w5 _ _⟩
  rw [hW6]
  clear hW6 hs6
  have hB6 := up_trans hB5 hb6
  have kO6 := kO.up hB6 kO.2.2
  exact ⟨rfl, _, w3.heap.size, w5.heap.size, tb, rfl, rfl, rfl, rfl, kO6.1 0 _ rfl, kT.1 0 _ rfl, hT.up hb6, HR.out _ (up_trans hB1 (up_trans hB4 hB6))⟩

set_option maxRecDepth 20000 in
set_option maxHeartbeats 4000000 in
theorem nestS_lost (b : Bk) (bv : Value) (nm : ByteArray) (w : World) (h : BkV w bv b) (hok : BookOk b) (hbk : bookB b = true) (hm : memS (nms b.bs) nm = false) {R : World → Prop} (HR : Hid (∀ u, Below w.heap.size w u → R u)) :
    Nest Tryz.prog [r0S, c1S, r3S] (fun e a u => e = .normal ∧ (∃ T, a = ⟨T, []⟩ ∧ T.size = 24 ∧ T[6]? = some (.bool false)) ∧ R u) ⟨slS bv nm, []⟩ w := by
  have Hok : Hid (BookOk b) := hok
  clear hok
  obtain ⟨a1, c1, a2, c2, rfl, h1, h2⟩ := h.parts; clear h1 h2; simp only [r0S, c1S, r3S, slS, bodySW, Tryz.f13, Option.getD_some]
  obtain ⟨W1, hW1, kA, hB1, hs1⟩ : ∃ W1, w.alloc (.cells #[.slice a1 (b).things.length c1, .slice a2 (b).bs.length c2] 26) = W1 ∧ CB W1 w.heap.size [.slice a1 b.things.length c1, .slice a2 b.bs.length c2] ∧ Below w.heap.size w W1 ∧ W1.heap.size = w.heap.size + 1 := ⟨_, rfl, cb1 w _ _⟩; clear hs1; apply nest_k; intro K hK; (go_wp2_with fail); (try clear hK); (try clear K); (try rw [hW1]); clear hW1; have hk := h.up hB1; obtain ⟨e0, e1⟩ := kA.c2'; have hlt := kA.2.2; clear h
  apply nest_k; intro K hK
  go_wp2_with fail
  refine (bookOk_any b _ _ hk).mono ?_
  rintro e w2 ⟨rfl, hB2⟩
  have f0 := (hB2.cell (p := ⟨w.heap.size, 0, none⟩) hlt).trans e0
  have f1 := (hB2.cell (p := ⟨w.heap.size, 1, none⟩) hlt).trans e1
  go_wp2_with fail
  try clear hK
  try clear K
  apply nest_k; intro K hK
  go_wp2_with fail
  refine (find_any b _ nm _ (hk.up hB2) Hok.out).mono ?_
  rintro e w3 ⟨rfl, hb3⟩
  have hB3 := up_trans hB2 hb3
  clear hb3 f0 f1 hB2
  go_wp2_with fail
  exact ⟨rfl, ⟨_, rfl, rfl, rfl⟩, HR.out _ (up_trans hB1 (hB3.alloc hB3.size _))⟩

set_option maxRecDepth 20000 in
set_option maxHeartbeats 4000000 in
theorem nestS_no (b : Bk) (bv : Value) (nm : ByteArray) (w : World) (h : BkV w bv b) (hbk : bookB b = false) {R : World → Prop} (HR : Hid (∀ u, Below w.heap.size w u → R u)) :
    Nest Tryz.prog [r0S, r1S] (fun e a u => e = .normal ∧ (∃ T, a = ⟨T, []⟩ ∧ T.size = 24 ∧ T[10]? = some (.bool true)) ∧ R u) ⟨slS bv nm, []⟩ w := by
  obtain ⟨a1, c1, a2, c2, rfl, h1, h2⟩ := h.parts; clear h1 h2; simp only [r0S, r1S, slS, bodySW, Tryz.f13, Option.getD_some]
  obtain ⟨W1, hW1, kA, hB1, hs1⟩ : ∃ W1, w.alloc (.cells #[.slice a1 (b).things.length c1, .slice a2 (b).bs.length c2] 26) = W1 ∧ CB W1 w.heap.size [.slice a1 b.things.length c1, .slice a2 b.bs.length c2] ∧ Below w.heap.size w W1 ∧ W1.heap.size = w.heap.size + 1 := ⟨_, rfl, cb1 w _ _⟩; clear hs1; apply nest_k; intro K hK; (go_wp2_with fail); (try clear hK); (try clear K); (try rw [hW1]); clear hW1; have hk := h.up hB1; obtain ⟨e0, e1⟩ := kA.c2'; have hlt := kA.2.2; clear h
  apply nest_k; intro K hK
  go_wp2_with fail
  refine (bookOk_any b _ _ hk).mono ?_
  rintro e w2 ⟨rfl, hB2⟩
  go_wp2_with fail
  exact ⟨rfl, ⟨_, rfl, rfl, rfl⟩, HR.out _ (up_trans hB1 hB2)⟩
end Go.Proofs.YtnojjmkmkelbgaaGreat

/- The share's goroutines, 9: on whom somebody waits (ShareWaits), whole. -/
namespace Go.Proofs.YtnojjmkmkelbgaaGreat
open Go.Conc Go.ConcN Go.RowKit Go.Conc.Lib Go.ConcR.Gen Go.ConcN.Gen
open Go.ConcR (KK wgBlock WgAt stA smA rd wr mk Payload DC0)

theorem lowPl {b : Bk} {nm : ByteArray} (ha : Asc (nms b.bs)) (hm : memS (nms b.bs) nm = true) : lowN (nms b.bs) nm = plN b nm := by
  obtain ⟨hi, hlt⟩ := plN_lt hm
  obtain ⟨k, hk, hkl, hkn⟩ := idxI_at (l := nms b.bs) (s := nm) (by omega)
  obtain rfl : plN b nm = k := by omega
  refine lowN_at (Nat.le_of_lt hkl) (fun j x hj hx => ?_) (fun j x hj hx => ?_)
  · exact asc_lt ha (plN b nm - j - 1) j x nm hx (by rw [show j + 1 + (plN b nm - j - 1) = plN b nm by omega, List.getElem?_eq_getElem hkl, hkn])
  · by_cases e : j = plN b nm
    · subst e
      rw [List.getElem?_eq_getElem hkl, hkn] at hx
      obtain rfl := Option.some.inj hx
      exact ltS_irrefl _
    · have h1 := asc_lt ha (j - plN b nm - 1) (plN b nm) nm x (by rw [List.getElem?_eq_getElem hkl, hkn]) (by rw [show plN b nm + 1 + (j - plN b nm - 1) = j by omega]; exact hx)
      cases hq : ltS x nm
      · rfl
      · have := ltS_trans h1 hq
        rw [ltS_irrefl] at this; cases this

def hbWt (b : Bk) (own j : Nat) : Bool := j != own && (bits .and .u64 (haW b j : Int) (neW b own : Int) != 0)
noncomputable def waitsL (b : Bk) (nm : ByteArray) : List ByteArray := if bookB b = true ∧ memS (nms b.bs) nm = true then pk (hbWt b (lowN (nms b.bs) nm)) (nms b.bs) b.bs.length else []

noncomputable def bS : Frame := base 13
noncomputable def ops7S : Array Oper := match B7S with | .seq (.region _ o _) _ => o | _ => #[]
noncomputable def condS : Code := match c1S with | .seq _ c => c | _ => .skip
noncomputable def B2S : Code := match B1S with | .seq _ c => c | _ => .skip

section
variable {X : Nat → Prop} {Shun : Loc → Prop} {c : Frame} {cs : List Frame}
theorem enterS (bv : Value) (nm : ByteArray) : Frame.enter Tryz.prog 13 #[bv, .string nm] .normal = bS.at ⟨slS bv nm, []⟩ [.code bodySW] := by
  simp [Frame.enter, Frame.at, Tryz.func13, bS, base, slS, bodySW, Tryz.f13]

set_option maxRecDepth 100000 in
theorem outS1 {T : Array Value} (hT : T.size = 24) (ht : T[10]? = some (.bool true)) (w : World) :
    Go.Conc.Goes Tryz.prog true AtRel (DE fun _ => False) (fun g w' => g = G (c.finish (.slice none 0 0)) cs ∧ AtRel w w') 20 (G (bS.at ⟨T, []⟩ [.code condS, .code B2S]) (c :: cs)) w := by
  obtain ⟨v0, v1, v2, v3, v4, v5, v6, v7, v8, v9, v10, v11, v12, v13, v14, v15, v16, v17, v18, v19, v20, v21, v22, v23, rfl⟩ := array24 T hT
  simp only [List.getElem?_toArray, List.getElem?_cons_succ, List.getElem?_cons_zero, Option.some.injEq] at ht
  subst ht
  simp only [condS, c1S, B2S, B1S, bodySW, Tryz.f13, Option.getD_some]
  have rl : ∀ {V w w₁ : World}, AtRel V w → AtRel w w₁ → AtRel V w₁ := fun h r => atRel_trans _ _ _ h r
  have hF : AtRel w w := atRel_refl w
  u_cond true rl hF
  u_c stepG_seq rl hF
  u_reg rl hF
  u_op rl hF
  u_c stepG_region_end rl hF
  u_c stepG_ret' rl hF
  u_in rl hF
  rw [stepG_leave (b := bS) rfl rfl Tryz.func13 (results_tmp rfl _ _ _) (events_results_tmp rfl _ _)]
  simp only [goes_go]
  refine ⟨by u_nil, ?_⟩
  exact Go.Conc.Goes.stop fun w₁ r => ⟨rfl, rl hF r⟩

set_option maxRecDepth 100000 in
theorem outS2 {T : Array Value} (hT : T.size = 24) (ht : T[6]? = some (.bool false)) (w : World) :
    Go.Conc.Goes Tryz.prog true AtRel (DE fun _ => False) (fun g w' => g = G (c.finish (.slice none 0 0)) cs ∧ AtRel w w') 20 (G (bS.at ⟨T, []⟩ [.code B4S]) (c :: cs)) w := by
  obtain ⟨v0, v1, v2, v3, v4, v5, v6, v7, v8, v9, v10, v11, v12, v13, v14, v15, v16, v17, v18, v19, v20, v21, v22, v23, rfl⟩ := array24 T hT
  simp only [List.getElem?_toArray, List.getElem?_cons_succ, List.getElem?_cons_zero, Option.some.injEq] at ht
  subst ht
  simp only [B4S, bodySW, Tryz.f13, Option.getD_some]
  have rl : ∀ {V w w₁ : World}, AtRel V w → AtRel w w₁ → AtRel V w₁ := fun h r => atRel_trans _ _ _ h r
  have hF : AtRel w w := atRel_refl w
  u_c stepG_seq rl hF
  u_c stepG_seq rl hF
  u_reg rl hF
  u_op rl hF
  u_op rl hF
  u_c stepG_region_end rl hF
  u_cond true rl hF
  u_c stepG_seq rl hF
  u_reg rl hF
  u_op rl hF
  u_c stepG_region_end rl hF
  u_c stepG_ret' rl hF
  u_in rl hF
  rw [stepG_leave (b := bS) rfl rfl Tryz.func13 (results_tmp rfl _ _ _) (events_results_tmp rfl _ _)]
  simp only [goes_go]
  refine ⟨by u_nil, ?_⟩
  exact Go.Conc.Goes.stop fun w₁ r => ⟨rfl, rl hF r⟩

def fvS (oB tB : Nat) : Value := .func (.func 29) #[] #[.pointer (some ⟨oB, 0, none⟩), .pointer (some ⟨tB, 0, none⟩)]

set_option maxRecDepth 100000 in
theorem intoS (hX : ShIn Shun X) {W : World} {oB tB tb : Nat} {T : Array Value} (hT : T.size = 24) (t5 : T[5]? = some (.pointer (some ⟨oB, 0, none⟩))) (t7 : T[7]? = some (.pointer (some ⟨tB, 0, none⟩))) {τ : Nat → Question → Nat} {d : Nat} (hc : (pzT X W τ d).cell? ⟨tB, 0, none⟩ = some (.pointer (some ⟨tb, 0, none⟩))) :
    Go.Conc.Goes Tryz.prog true AtRel (DE (EvL Shun W.heap.size)) (fun g w => (∃ T', T'.size = 24 ∧ g = G (Frame.enter Tryz.prog 20 #[.pointer (some ⟨tb, 0, none⟩), fvS oB tB] .normal) (bS.at ⟨T', []⟩ (.inRegion ops7S [2, 3] :: [.code .ret]) :: c :: cs)) ∧ AtRel W w) 20 (G (bS.at ⟨T, []⟩ [.code B7S]) (c :: cs)) W := by
  obtain ⟨hc, hx⟩ := pz_cell hc
  have hlt := World.block_lt_of_cell? W _ hc
  have hns : ¬ Shun (.cell ⟨tB, 0, none⟩) := fun h => by obtain ⟨a, e, ha⟩ := hX _ h; cases e; exact hx ha
  obtain ⟨v0, v1, v2, v3, v4, v5, v6, v7, v8, v9, v10, v11, v12, v13, v14, v15, v16, v17, v18, v19, v20, v21, v22, v23, rfl⟩ := array24 T hT
  simp only [List.getElem?_toArray, List.getElem?_cons_succ, List.getElem?_cons_zero, Option.some.injEq] at t5 t7
  subst t5 t7
  simp only [B7S, ops7S, bodySW, Tryz.f13, Option.getD_some]
  have rl : ∀ {V w w₁ : World}, AtRel V w → AtRel w w₁ → AtRel V w₁ := fun h r => atRel_trans _ _ _ h r
  have hF : AtRel W W := atRel_refl W
  u_c stepG_seq rl hF
  u_reg rl hF
  u_in rl hF
  refine goes_oper_k rfl rfl (by k_ne) (fun K hK => ?_)
  have hc' : (‹World›).cell? ⟨tB, 0, none⟩ = some (.pointer (some ⟨tb, 0, none⟩)) := by obtain ⟨d, rfl⟩ := hF; exact hc
  go_simp
  refine hK _ _ ⟨fun e he => ?_, ?_⟩
  · have hm := mem_listed he
    simp [go_sem, *] at hm
    subst hm
    exact evL_low hlt hns
  clear hK K hc'
  try walk_nrm
  u_op rl hF
  u_in rl hF
  refine goes_call rfl rfl (by k_ne) rfl Tryz.func20 (by kernel_rfl) rfl ⟨fun e he => by simp at he, ?_⟩
  walk_nrmf Tryz.f20
  refine Go.Conc.Goes.stop fun w₁ r => ⟨⟨#[v0, v1, v2, v3, v4, .pointer (some ⟨oB, 0, none⟩), v6, .pointer (some ⟨tB, 0, none⟩), v8, v9, v10, v11, v12, v13, v14, v15, v16, v17, v18, v19, v20, .pointer (some ⟨tb, 0, none⟩), fvS oB tB, v23], rfl, ?_⟩, rl hF r⟩
  rw [enterP]
  simp only [fvS, bodyP, Tryz.f20, Option.getD_some]
  rfl

set_option maxRecDepth 100000 in
theorem outS {T : Array Value} (hT : T.size = 24) (v : Value) (w : World) :
    Go.Conc.Goes Tryz.prog true AtRel (DE fun _ => False) (fun g w' => g = G (c.finish v) cs ∧ AtRel w w') 10 (G ((bS.at ⟨T, []⟩ (.inRegion ops7S [2, 3] :: [.code .ret])).finish v) (c :: cs)) w := by
  obtain ⟨v0, v1, v2, v3, v4, v5, v6, v7, v8, v9, v10, v11, v12, v13, v14, v15, v16, v17, v18, v19, v20, v21, v22, v23, rfl⟩ := array24 T hT
  rw [Frame.finish_at]
  simp only [ops7S, B7S, bodySW, Tryz.f13, Option.getD_some]
  have rl : ∀ {V w w₁ : World}, AtRel V w → AtRel w w₁ → AtRel V w₁ := fun h r => atRel_trans _ _ _ h r
  have hF : AtRel w w := atRel_refl w
  walk_nrm
  u_op rl hF
  u_c stepG_region_end rl hF
  u_c stepG_ret' rl hF
  u_in rl hF
  rw [stepG_leave (b := bS) rfl rfl Tryz.func13 (results_tmp rfl _ _ _) (events_results_tmp rfl _ _)]
  simp only [goes_go]
  refine ⟨by u_nil, ?_⟩
  exact Go.Conc.Goes.stop fun w₁ r => ⟨rfl, rl hF r⟩
end
end Go.Proofs.YtnojjmkmkelbgaaGreat

/- The share's goroutines, 10: ShareWaits, by whatever road. -/
namespace Go.Proofs.YtnojjmkmkelbgaaGreat
open Go.Conc Go.ConcN Go.RowKit Go.Conc.Lib Go.ConcR.Gen Go.ConcN.Gen
open Go.ConcR (KK wgBlock WgAt stA smA rd wr mk Payload DC0)

theorem waits_no {b : Bk} {nm : ByteArray} (h : bookB b = false) : waitsL b nm = [] := by simp [waitsL, h]
theorem waits_lost {b : Bk} {nm : ByteArray} (h : memS (nms b.bs) nm = false) : waitsL b nm = [] := by simp [waitsL, h]
theorem atS_tl (b : Bk) (nm : ByteArray) (a : Act) : Tapeless (AtS b nm (fun _ => True) a) := fun _ _ _ h => h
theorem body1 : bodySW = joinC [r0S] (.seq (.seq r1S condS) B2S) := by simp only [joinC, r0S, r1S, condS, c1S, B2S, B1S, bodySW, Tryz.f13, Option.getD_some]
theorem body2 : bodySW = joinC [r0S, c1S, r3S] B4S := by simp only [joinC, r0S, c1S, r3S, B4S, bodySW, Tryz.f13, Option.getD_some]
theorem body3 : bodySW = joinC [r0S, c1S, r3S, c4S, r6S] B7S := by simp only [joinC, r0S, c1S, r3S, c4S, r6S, B7S, bodySW, Tryz.f13, Option.getD_some]
theorem okS : ∀ r ∈ [r0S, r1S, c1S, r3S, c4S, r6S], codeOk Tryz.prog (fun g => fsW.contains g) r = true := by
  intro r hr
  simp only [List.mem_cons, List.not_mem_nil, or_false] at hr
  rcases hr with rfl | rfl | rfl | rfl | rfl | rfl <;> kernel_rfl
theorem frS : FrB Tryz.prog bS := ⟨rfl, _, Tryz.func13⟩

theorem waits_g {X : Nat → Prop} {Shun : Loc → Prop} {W : World} {b : Bk} {bv : Value} {nm : ByteArray} (hX : ShIn Shun X) (hbW : Base X W) (hB : ∀ τ d, BkV (pzT X W τ d) bv b) :
    GCalls Tryz.prog 13 #[bv, .string nm] X Shun W fun v u => OwnT u W.heap.size v (waitsL b nm) := by
  intro Post c cs gs sl t hh k
  rw [enterS] at hh
  have hR0 : ∀ τ d, Hid (∀ u, Below (pzT X W τ d).heap.size (pzT X W τ d) u → ∃ τ d, True ∧ Below W.heap.size (pzT X W τ d) u) := fun τ d u hu => ⟨τ, d, trivial, by rw [pz_size] at hu; exact hu⟩
  have fin : waitsL b nm = [] → ∀ gs w sl t, Here Tryz.prog Shun gs (G (c.finish (.slice none 0 0)) cs) t → Base X w → (∀ τ d, Held (fun u => ∃ τ d, True ∧ Below W.heap.size (pzT X W τ d) u) (pzT X w τ d)) → EndsG Tryz.prog Post (crowd gs w sl) t := fun hL gs w sl t h1 h2 h3 =>
    k X Shun gs w sl t _ hX (fun b hb => .inl hb) h1 h2 fun τ d => ⟨by rw [hL]; exact own_nil _ _, (below_held (Q := fun _ => True) (fun _ _ _ h => h) (h3 τ d)).2⟩
  cases hbk : bookB b with
  | false =>
    rw [body1] at hh
    refine ends_run hX hh (nest_in setW frS r1S condS B2S (okS _ (by simp)) [] (c :: cs) [r0S] (fun r hr => okS r (by simp at hr; simp [hr])) rfl hbW (fun τ d => held_of hbW (fun τ d => nestS_no b bv nm _ (hB τ d) hbk (hR0 τ d)) τ d)) fun gs1 a1 w1 sl1 t1 hh1 hst => ?_
    obtain ⟨a, rfl, hd, hb1, hQ⟩ := hst
    obtain ⟨u0, ⟨⟨T, rfl, hT, ht⟩, -⟩, -⟩ := hQ (fun _ _ => 0) 0
    refine ends_walk (D := DE fun _ => False) (B0 := 0) (fun _ _ _ h e he => (h e he).elim) hh1 (outS1 hT ht w1) fun gs2 a2 w2 sl2 t2 hh2 hst2 => ?_
    obtain ⟨rfl, d2, rfl⟩ := hst2
    exact fin (waits_no hbk) _ _ _ _ hh2 (hb1.at d2) fun τ d => (hQ τ d).imp fun u h => h.2
  | true =>
    have hok : BookOk b := pB_iff.1 hbk
    cases hm : memS (nms b.bs) nm with
    | false =>
      rw [body2] at hh
      refine ends_run hX hh (nest_run setW frS B4S [] (c :: cs) [r0S, c1S, r3S] (fun r hr => okS r (by simp at hr; rcases hr with rfl | rfl | rfl <;> simp)) rfl hbW (fun τ d => held_of hbW (fun τ d => nestS_lost b bv nm _ (hB τ d) hok hbk hm (hR0 τ d)) τ d)) fun gs1 a1 w1 sl1 t1 hh1 hst => ?_
      obtain ⟨a, rfl, hd, hb1, hQ⟩ := hst
      obtain ⟨u0, ⟨⟨T, rfl, hT, ht⟩, -⟩, -⟩ := hQ (fun _ _ => 0) 0
      refine ends_walk (D := DE fun _ => False) (B0 := 0) (fun _ _ _ h e he => (h e he).elim) hh1 (outS2 hT ht w1) fun gs2 a2 w2 sl2 t2 hh2 hst2 => ?_
      obtain ⟨rfl, d2, rfl⟩ := hst2
      exact fin (waits_lost hm) _ _ _ _ hh2 (hb1.at d2) fun τ d => (hQ τ d).imp fun u h => h.2
    | true =>
      rw [body3] at hh
      refine ends_run hX hh (nest_run setW frS B7S [] (c :: cs) [r0S, c1S, r3S, c4S, r6S] (fun r hr => okS r (by simp at hr; rcases hr with rfl | rfl | rfl | rfl | rfl <;> simp)) rfl hbW (fun τ d => held_of hbW (fun τ d => nestS_ok b bv nm _ (hB τ d) hok hbk hm (hR0 τ d)) τ d)) fun gs1 a1 w1 sl1 t1 hh1 hst => ?_
      obtain ⟨a, rfl, hd, hb1, hQ⟩ := hst
      have hbel : ∀ τ d, Below W.heap.size (pzT X W τ d) (pzT X w1 τ d) := fun τ d => (below_held (Q := fun _ => True) (fun _ _ _ h => h) ((hQ τ d).imp fun u h => let ⟨_, _, _, _, _, _, _, _, _, _, _, h⟩ := h; h)).2
      obtain ⟨T, oB, tB, tb, rfl, hT, t5, t7, c0, c1, hTab0, -⟩ := Held.out (atS_tl b nm a) ((hQ (fun _ _ => 0) 0).imp fun u h => let ⟨T, oB, tB, tb, h1, h2, h3, h4, h5, h6, h7, _⟩ := h; ⟨T, oB, tB, tb, h1, h2, h3, h4, h5, h6, h7, trivial⟩)
      have hTab : ∀ τ d, Tab (pzT X w1 τ d) tb b.things (ts0 b.bs b.bs.length) := fun τ d => tab_tl tb _ _ _ τ d hTab0
      refine ends_walk (D := DE (EvL Shun w1.heap.size)) (B0 := w1.heap.size) (fun _ _ _ h => h) hh1 (intoS hX hT t5 t7 c1) fun gs2 a2 w2 sl2 t2 hh2 hst2 => ?_
      obtain ⟨⟨T', hT', rfl⟩, d2, rfl⟩ := hst2
      have hlen : (ts0 b.bs b.bs.length).length = b.bs.length := ts0_length (Nat.le_refl _)
      have hon : lowN (nms b.bs) nm < b.bs.length := by rw [lowPl hok.2.2.2.1 hm]; exact (plN_lt hm).2
      have h5 : b.bs.length ≤ 5 := hok.2.1
      have hW : Asked Shun (w1.at d2) b.bs.length (hbWt b (lowN (nms b.bs) nm)) (fvS oB tB) := by
        obtain ⟨rv, hC, hown⟩ := hTab0
        rw [hlen] at hown
        obtain ⟨g, cap, rfl⟩ := own_ptr2 hown (by omega)
        have r := fun (i : Nat) (hi : i < b.bs.length) => row_cells (things := b.things) (ts := ts0 b.bs b.bs.length) (by rw [hlen]; exact hown) (ts0_get hi)
        have cc : ∀ {a : Addr} {v : Value}, (pzT X w1 (fun _ _ => 0) 0).cell? a = some v → (w1.at d2).cell? a = some v ∧ ¬ X a.block := fun h => pz_cell (W := w1.at d2) h
        have h3 : ∀ i, i < b.bs.length → (w1.at d2).cell? ⟨g, i * 4 + 1, none⟩ = some (.int .u64 (haW b i)) := fun i hi => by
          rw [(cc (r i hi).2.1).1, haW, List.getElem?_eq_getElem hi]; rfl
        have h4 : (w1.at d2).cell? ⟨g, lowN (nms b.bs) nm * 4 + 2, none⟩ = some (.int .u64 (neW b (lowN (nms b.bs) nm))) := by
          rw [(cc (r _ hon).2.2.1).1, neW, List.getElem?_eq_getElem hon]; rfl
        exact asked_waits hX (hb1.at d2) hon h5 (cc c0).1 (cc c0).2 (cc c1).1 (cc c1).2 (cc (hC.1 0 _ rfl)).1 (cc (hC.1 0 _ rfl)).2 (cc (r _ hon).2.1).2 h3 h4
      refine picked_g (f := 29) hX (hb1.at d2) (fun τ d => hTab τ d) (by rw [hlen]; exact h5) (hb := hbWt b (lowN (nms b.bs) nm)) (by rw [hlen]; exact hW) Post _ (c :: cs) gs2 sl2 t2 hh2 fun X' Shun' gs' w' sl' t' v hX' hW' hh' hb' hR' => ?_
      refine ends_walk (D := DE fun _ => False) (B0 := 0) (fun _ _ _ h e he => (h e he).elim) hh' (outS hT' v w') fun gs3 a3 w3 sl3 t3 hh3 hst3 => ?_
      obtain ⟨rfl, d3, rfl⟩ := hst3
      have hsz : W.heap.size ≤ w1.heap.size := by have := (hbel (fun _ _ => 0) 0).size; rwa [pz_size, pz_size] at this
      refine k X' Shun' gs3 _ sl3 t3 v hX' (fun b hb => (hW' b hb).imp id fun h => Nat.le_trans hsz h) hh3 (hb'.at d3) fun τ d => ?_
      obtain ⟨h1, h2⟩ := hR' τ d
      rw [ts0_names, hlen] at h1
      refine ⟨?_, (hbel τ d).trans (h2.mono hsz)⟩
      have : waitsL b nm = pk (hbWt b (lowN (nms b.bs) nm)) (nms b.bs) b.bs.length := by rw [waitsL, if_pos ⟨hbk, hm⟩]
      rw [this]
      exact own_low h1 hsz
end Go.Proofs.YtnojjmkmkelbgaaGreat

/- Who waits: both lists are one (out of LawWa0). -/
namespace Go.Proofs.YtnojjmkmkelbgaaGreat
open Go.RowKit

/-- Somebody has something of it. -/
theorem bits_share {things has needs : List ByteArray} (h8 : things.length ≤ 8) (hs : ∀ t ∈ has, t ∈ things) : (bits .and .u64 (bitsN things (memS has) : Int) (bitsN things (memS needs) : Int) != 0) = shareB has needs := by
  have n1 := bitsN_small h8 (memS has)
  have n2 := bitsN_small h8 (memS needs)
  rw [u64_and_nat _ _ (by omega) (by omega), Bool.eq_iff_iff, bne_iff_ne, shareB_iff]
  have hz : (((bitsN things (memS has) &&& bitsN things (memS needs) : Nat) : Int) ≠ 0) ↔ bitsN things (memS has) &&& bitsN things (memS needs) ≠ 0 := by omega
  rw [hz]
  constructor
  · intro h
    obtain ⟨i, hi⟩ := Nat.exists_testBit_of_ne_zero h
    rw [Nat.testBit_and, bitsN_test, bitsN_test, Bool.and_eq_true] at hi
    cases hx : things[i]? with
    | none => rw [hx] at hi; simp at hi
    | some t =>
      rw [hx] at hi
      simp only [Option.map_some, Option.getD_some] at hi
      exact ⟨t, (memS_iff _ _).1 hi.1, (memS_iff _ _).1 hi.2⟩
  · rintro ⟨t, h1, h2⟩ h
    obtain ⟨i, hi, rfl⟩ := List.getElem_of_mem (hs t h1)
    have := congrArg (Nat.testBit · i) h
    simp only [Nat.testBit_and, Nat.zero_testBit, bitsN_test, List.getElem?_eq_getElem hi, Option.map_some, Option.getD_some] at this
    rw [(memS_iff _ _).2 h1, (memS_iff _ _).2 h2] at this
    simp at this
theorem waits_eq (b : Bk) (nm : ByteArray) : waitsL b nm = waitsS b nm := by
  by_cases h : OkW b nm
  · obtain ⟨hbk, hm⟩ := h
    have hok : BookOk b := pB_iff.1 hbk
    rw [waitsL, if_pos ⟨hbk, hm⟩, waitsS, if_pos ⟨hbk, hm⟩]
    have hl := lowPl hok.2.2.2.1 hm
    rw [hl, show (idxI (nms b.bs) nm).toNat = plN b nm from rfl]
    refine pk_congr _ _ fun k hk => ?_
    have hp := (plN_lt hm).2
    rw [hbWt, sbW, haW, neW, List.getElem?_eq_getElem hk, List.getElem?_eq_getElem hp]
    simp only [Option.map_some, Option.getD_some]
    obtain ⟨q1, q2⟩ := hok.2.2.2.2.1 k _ hk (List.getElem?_eq_getElem hk)
    rw [bits_share hok.1.1 fun t ht => part_mem q1.1 (part_mem q2.1 ht)]
  · rw [waitsS, if_neg h]
    by_cases hbk : bookB b = true
    · refine waits_lost ?_
      cases hm : memS (nms b.bs) nm with
      | false => rfl
      | true => exact absurd ⟨hbk, hm⟩ h
    · exact waits_no (by simpa using hbk)
theorem waits_small {w : World} {v : Value} {b : Bk} (h : BkV w v b) (nm : ByteArray) : ∀ s ∈ waitsS b nm, s.size ≤ maxLen := fun s hs => by
  rw [waitsS] at hs
  split at hs
  · exact nm_small h s (pk_mem (by rw [nms_length]; exact Nat.le_refl _) s hs)
  · simp at hs
theorem waits_short (b : Bk) (nm : ByteArray) : (waitsS b nm).length ≤ 5 := by
  rw [waitsS]
  split
  · next h => exact Nat.le_trans (pk_length _ _ _) (pB_iff.1 h.1 : BookOk b).2.1
  · simp

end Go.Proofs.YtnojjmkmkelbgaaGreat
