/- Safe by the program, beside leavers, where nobody moves: its frames up to what is looped over. -/
import Derived.Test.YtnojjmkmkelbgaaGreatSrf0
import Derived.Test.YtnojjmkmkelbgaaGreatJ34
import Derived.Test.YtnojjmkmkelbgaaGreatJ26
import Derived.Test.YtnojjmkmkelbgaaGreatJ39
import Derived.Test.YtnojjmkmkelbgaaGreatJ37
import Derived.Test.YtnojjmkmkelbgaaGreatJ36
namespace Go.Proofs.YtnojjmkmkelbgaaGreat
open Go.RowKit

theorem ordersF_any (b : Bk) (a1 a2 : Option Addr) (c1 c2 : Nat) (w : World) :
    Calls Tryz.prog 42 #[.agg #[.slice a1 b.things.length c1, .slice a2 b.bs.length c2]] w fun e w' => e = .returned (.func (.func 62) #[] #[.pointer (some ⟨w.heap.size, 0, none⟩)]) ∧ w' = w.alloc (.cells #[.slice a1 b.things.length c1, .slice a2 b.bs.length c2] 26) := by
  go_enter Tryz.func42, Tryz.ntmps42
  go_wp2
  go_ret
  exact ⟨rfl, rfl⟩

noncomputable def bodyA : Code := Tryz.f10.body.getD .skip
noncomputable def r0A : Code := match bodyA with | .seq r _ => r | _ => .skip
noncomputable def B1A : Code := match bodyA with | .seq _ r => r | _ => .skip
noncomputable def ops1A : Array Oper := match B1A with | .seq (.region _ o _) _ => o | _ => #[]
noncomputable def B2A : Code := match B1A with | .seq _ r => r | _ => .skip
def slA (bv : Value) : Array Value := #[bv, undef, undef, undef, undef, undef, undef, undef, undef, undef, undef]
def AtA (b : Bk) (R : World → Prop) (a : Act) (u : World) : Prop :=
  ∃ T bx a1 c1 a2 c2, a = ⟨T, []⟩ ∧ T.size = 11 ∧ T[1]? = some (.pointer (some ⟨bx, 0, none⟩)) ∧ CB u bx [.slice a1 b.things.length c1, .slice a2 b.bs.length c2] ∧ BkV u (.agg #[.slice a1 b.things.length c1, .slice a2 b.bs.length c2]) b ∧ R u
set_option maxRecDepth 20000 in
set_option maxHeartbeats 2000000 in
theorem nestSf (b : Bk) (bv : Value) (w : World) (h : BkV w bv b) {R : World → Prop} (HR : Hid (∀ u, Below w.heap.size w u → R u)) :
    Nest Tryz.prog [r0A] (fun e a u => e = .normal ∧ AtA b R a u) ⟨slA bv, []⟩ w := by
  obtain ⟨a1, c1, a2, c2, rfl, h1, h2⟩ := h.parts
  clear h1 h2
  simp only [r0A, slA, bodyA, Tryz.f10, Option.getD_some]
  obtain ⟨W1, hW1, kA, hB1, hs1⟩ : ∃ W1, w.alloc (.cells #[.slice a1 b.things.length c1, .slice a2 b.bs.length c2] 26) = W1 ∧ CB W1 w.heap.size [.slice a1 b.things.length c1, .slice a2 b.bs.length c2] ∧ Below w.heap.size w W1 ∧ W1.heap.size = w.heap.size + 1 := ⟨_, rfl, cb1 w _ _⟩
  apply nest_k; intro K hK
  go_wp2_with fail
  try rw [hW1]
  exact ⟨rfl, _, w.heap.size, a1, c1, a2, c2, rfl, rfl, rfl, kA, h.up hB1, HR.out _ hB1⟩

noncomputable def bodyO : Code := Tryz.f23.body.getD .skip
noncomputable def r0O : Code := match bodyO with | .seq r _ => r | _ => .skip
noncomputable def c1O : Code := match bodyO with | .seq _ (.seq r _) => r | _ => .skip
noncomputable def r3O : Code := match bodyO with | .seq _ (.seq _ (.seq (.seq r _) _)) => r | _ => .skip
noncomputable def blkO : Code := match bodyO with | .seq _ (.seq _ (.seq (.seq _ r) _)) => r | _ => .skip
noncomputable def B7O : Code := match bodyO with | .seq _ (.seq _ (.seq _ r)) => r | _ => .skip
def slO (bv : Value) : Array Value := #[bv, undef, undef, undef, undef, undef, undef, undef, undef, undef, undef, undef, undef, undef, undef, undef, undef, undef]
def AtO (b : Bk) (lo : Nat) (R : World → Prop) (a : Act) (u : World) : Prop :=
  ∃ T bx p2 p3 q a1 c1 a2 c2 x2 x3, a = ⟨T, []⟩ ∧ T.size = 18 ∧ T[1]? = some (.pointer (some ⟨bx, 0, none⟩)) ∧ T[2]? = some (.pointer (some ⟨p2, 0, none⟩)) ∧ T[3]? = some (.pointer (some ⟨p3, 0, none⟩)) ∧ T[9]? = some (.func (.func 62) #[] #[.pointer (some ⟨q, 0, none⟩)]) ∧
    CB u bx [.slice a1 b.things.length c1, .slice a2 b.bs.length c2] ∧ CB u p2 [x2] ∧ CB u p3 [x3] ∧ CB u q [.slice a1 b.things.length c1, .slice a2 b.bs.length c2] ∧ BkV u (.agg #[.slice a1 b.things.length c1, .slice a2 b.bs.length c2]) b ∧ p2 ≠ p3 ∧ bx ≠ p2 ∧ bx ≠ p3 ∧ lo ≤ p2 ∧ lo ≤ p3 ∧ R u
set_option maxRecDepth 20000 in
set_option maxHeartbeats 4000000 in
theorem nestO (b : Bk) (bv : Value) (w : World) (h : BkV w bv b) (hbk : bookB b = true) {lo : Nat} (hlo : lo ≤ w.heap.size) {R : World → Prop} (HR : Hid (∀ u, Below w.heap.size w u → R u)) :
    Nest Tryz.prog [r0O, c1O, r3O] (fun e a u => e = .normal ∧ AtO b lo R a u) ⟨slO bv, []⟩ w := by
  obtain ⟨a1, c1, a2, c2, rfl, h1, h2⟩ := h.parts
  clear h1 h2
  simp only [r0O, c1O, r3O, slO, bodyO, Tryz.f23, Option.getD_some]
  obtain ⟨W1, hW1, kA, k2, k3, hB1, hs1⟩ : ∃ W1, ((w.alloc (.cells #[.slice a1 b.things.length c1, .slice a2 b.bs.length c2] 26)).alloc (.cells #[.slice none 0 0] 23)).alloc (.cells #[.bool false] 4) = W1 ∧ CB W1 w.heap.size [.slice a1 b.things.length c1, .slice a2 b.bs.length c2] ∧ CB W1 (w.heap.size + 1) [.slice none 0 0] ∧ CB W1 (w.heap.size + 2) [.bool false] ∧ Below w.heap.size w W1 ∧ W1.heap.size = w.heap.size + 3 := ⟨_, rfl, cb3 w _ _ _ _ _ _⟩
  apply nest_k; intro K hK
  go_wp2_with fail
  try clear hK
  try clear K
  try rw [hW1]
  clear hW1
  have hk := h.up hB1
  obtain ⟨e0, e1⟩ := kA.c2'
  clear h
  apply nest_k; intro K hK
  go_wp2_with fail
  refine (bookOk_any b _ _ hk).mono ?_
  rintro e w2 ⟨rfl, hb2⟩
  have hz2 := hb2.size
  have kA := kA.up hb2 kA.2.2
  have k2 := k2.up hb2 k2.2.2
  have k3 := k3.up hb2 k3.2.2
  have hB2 := up_trans hB1 hb2
  have hk2 := hk.up hb2
  clear e0 e1 hB1 hb2 hk
  obtain ⟨e0, e1⟩ := kA.c2'
  go_wp2_with fail
  try clear hK
  try clear K
  apply nest_k; intro K hK
  go_wp2_with fail
  refine (ordersF_any b _ _ _ _ _).mono ?_
  rintro e w3 ⟨rfl, hw3⟩
  obtain ⟨kQ, hb3, hs3⟩ : CB w3 w2.heap.size [.slice a1 b.things.length c1, .slice a2 b.bs.length c2] ∧ Below w2.heap.size w2 w3 ∧ w3.heap.size = w2.heap.size + 1 := by rw [hw3]; exact cb1 w2 [.slice a1 b.things.length c1, .slice a2 b.bs.length c2] _
  have kA := kA.up hb3 kA.2.2
  have k2 := k2.up hb3 k2.2.2
  have k3 := k3.up hb3 k3.2.2
  have hB3 := up_trans hB2 hb3
  have hk3 := hk2.up hb3
  clear e0 e1 hw3 hB2 hb3 hk2
  go_wp2_with fail
  exact ⟨rfl, _, w.heap.size, w.heap.size + 1, w.heap.size + 2, w2.heap.size, a1, c1, a2, c2, _, _, rfl, rfl, rfl, rfl, rfl, rfl, kA, k2, k3, kQ, hk3, by omega, by omega, by omega, by omega, by omega, HR.out _ hB3⟩

noncomputable def bodyF : Code := Tryz.f62.body.getD .skip
noncomputable def r0F : Code := match bodyF with | .seq r _ => r | _ => .skip
noncomputable def r1F : Code := match bodyF with | .seq _ (.seq r _) => r | _ => .skip
noncomputable def LF : Code := match bodyF with | .seq _ (.seq _ r) => r | _ => .skip
def slF (y q : Value) : Array Value := #[y, q, undef, undef, undef, undef, undef, undef, undef, undef, undef, undef, undef, undef, undef, undef, undef, undef, undef, undef, undef, undef, undef, undef, undef, undef, undef, undef, undef, undef, undef, undef, undef]
def AtF (b : Bk) (y : Value) (R : World → Prop) (a : Act) (u : World) : Prop :=
  ∃ T tb, a = ⟨T, []⟩ ∧ T.size = 33 ∧ T[0]? = some y ∧ T[3]? = some (.pointer (some ⟨tb, 0, none⟩)) ∧ T[4]? = some (.slice none 0 0) ∧ Tab u tb b.things (ts0 b.bs b.bs.length) ∧ R u
set_option maxRecDepth 20000 in
set_option maxHeartbeats 4000000 in
theorem nestF (b : Bk) (y : Value) (a1 a2 : Option Addr) (c1 c2 q : Nat) (w : World) (kQ : CB w q [.slice a1 b.things.length c1, .slice a2 b.bs.length c2]) (h : BkV w (.agg #[.slice a1 b.things.length c1, .slice a2 b.bs.length c2]) b) (hok : BookOk b) {R : World → Prop} (HR : Hid (∀ u, Below w.heap.size w u → R u)) :
    Nest Tryz.prog [r0F, r1F] (fun e a u => e = .normal ∧ AtF b y R a u) ⟨slF y (.pointer (some ⟨q, 0, none⟩)), []⟩ w := by
  simp only [r0F, r1F, slF, bodyF, Tryz.f62, Option.getD_some]
  obtain ⟨e0, e1⟩ := kQ.c2'
  have Hok : Hid (BookOk b) := hok
  clear hok
  apply nest_k; intro K hK
  go_wp2_with fail
  refine (tableOf_any b _ _ h Hok.out).mono ?_
  rintro e w2 ⟨⟨tb, rfl, hT, -⟩, hb2⟩
  clear e0 e1
  go_wp2_with fail
  try clear hK
  try clear K
  apply nest_k; intro K hK
  go_wp2_with fail
  exact ⟨rfl, _, tb, rfl, rfl, rfl, rfl, rfl, hT, HR.out _ hb2⟩
end Go.Proofs.YtnojjmkmkelbgaaGreat

/- Safe by the program, beside leavers, where nobody moves: the loop over the orders. -/
namespace Go.Proofs.YtnojjmkmkelbgaaGreat
open Go.Conc Go.ConcN Go.RowKit Go.Conc.Lib Go.ConcR.Gen Go.ConcN.Gen
open Go.ConcR (KK wgBlock WgAt stA smA rd wr mk Payload DC0)


theorem evL_obj {Shun : Loc → Prop} {X : Nat → Prop} (hX : ShIn Shun X) {B l : Nat} (hl : l < B) {e : Event} (he : e.loc = .obj l) : EvL Shun B e := by
  obtain ⟨lo, wr, sy⟩ := e
  simp only at he
  subst he
  refine ⟨fun x hx hs => ?_, by simp, by simp, by cases wr <;> cases sy <;> exact hl⟩
  obtain ⟨a', e, ha⟩ := hX _ hs
  cases wr <;> cases sy <;> simp [MemAct.ofEvent, MemAct.touch?] at hx <;> (subst hx; cases e)
theorem goes_of {s : GStep} {g : Goroutine} {w : World} {K : Goroutine → World → Array Event → Prop} {l : Nat} (h : ∃ es, s = .go g w es ∧ OfObj l es) (hk : ∀ es, OfObj l es → K g w es) : s.goes K := by
  obtain ⟨es, rfl, ho⟩ := h
  exact hk es ho
theorem goes_world {P : Program} {main : Bool} {R : World → World → Prop} {D : World → World → Array Event → Prop} {Stop : Goroutine → World → Prop} {m : Nat} {g : Goroutine} {w w' : World} (h : w = w') (hg : Go.Conc.Goes P main R D Stop m g w') : Go.Conc.Goes P main R D Stop m g w := h ▸ hg
theorem put_back {V : World} {l : Nat} {o o' : Obj} (h : V.heap[l]? = some o) : (V.putObj l o').putObj l o = V := by
  have : ((V.putObj l o').putObj l o).heap = V.heap := by
    apply Array.ext_getElem?
    intro k
    by_cases e : k = l
    · subst e
      rw [h, World.putObj_heap_same (by rw [World.putObj_size]; exact (Array.getElem?_eq_some_iff.1 h).1)]
    · rw [World.putObj_heap_other e, World.putObj_heap_other e]
  show { V with heap := _ } = V
  have e2 : (((V.heap.setIfInBounds l o').setIfInBounds l o)) = V.heap := this
  cases V
  simp only [World.putObj] at e2 ⊢
  rw [e2]
theorem put_cell {V : World} {l b k : Nat} {o : Obj} (h : b ≠ l) : (V.putObj l o).cell? ⟨b, k, none⟩ = V.cell? ⟨b, k, none⟩ := World.cell?_of_block (World.putObj_heap_other h)

theorem array18 (T : Array Value) (h : T.size = 18) : ∃ u0 u1 u2 u3 u4 u5 u6 u7 u8 u9 u10 u11 u12 u13 u14 u15 u16 u17 : Value, T = #[u0, u1, u2, u3, u4, u5, u6, u7, u8, u9, u10, u11, u12, u13, u14, u15, u16, u17] := by
  obtain ⟨l⟩ := T
  simp only [List.size_toArray] at h
  match l, h with
  | [u0, u1, u2, u3, u4, u5, u6, u7, u8, u9, u10, u11, u12, u13, u14, u15, u16, u17], _ => exact ⟨_, _, _, _, _, _, _, _, _, _, _, _, _, _, _, _, _, _, rfl⟩
theorem lconsF {α : Type} {l : List α} {n : Nat} (h : l.length = n + 1) : ∃ a l', l = a :: l' ∧ l'.length = n := by
  cases l with
  | nil => simp at h
  | cons a l' => exact ⟨a, l', rfl, by simpa using h⟩
theorem array33 (T : Array Value) (h : T.size = 33) : ∃ v0 v1 v2 v3 v4 v5 v6 v7 v8 v9 v10 v11 v12 v13 v14 v15 v16 v17 v18 v19 v20 v21 v22 v23 v24 v25 v26 v27 v28 v29 v30 v31 v32 : Value, T = #[v0, v1, v2, v3, v4, v5, v6, v7, v8, v9, v10, v11, v12, v13, v14, v15, v16, v17, v18, v19, v20, v21, v22, v23, v24, v25, v26, v27, v28, v29, v30, v31, v32] := by
  obtain ⟨l⟩ := T
  simp only [List.size_toArray] at h
  obtain ⟨v0, l1, rfl, h1⟩ := lconsF h
  obtain ⟨v1, l2, rfl, h2⟩ := lconsF h1
  obtain ⟨v2, l3, rfl, h3⟩ := lconsF h2
  obtain ⟨v3, l4, rfl, h4⟩ := lconsF h3
  obtain ⟨v4, l5, rfl, h5⟩ := lconsF h4
  obtain ⟨v5, l6, rfl, h6⟩ := lconsF h5
  obtain ⟨v6, l7, rfl, h7⟩ := lconsF h6
  obtain ⟨v7, l8, rfl, h8⟩ := lconsF h7
  obtain ⟨v8, l9, rfl, h9⟩ := lconsF h8
  obtain ⟨v9, l10, rfl, h10⟩ := lconsF h9
  obtain ⟨v10, l11, rfl, h11⟩ := lconsF h10
  obtain ⟨v11, l12, rfl, h12⟩ := lconsF h11
  obtain ⟨v12, l13, rfl, h13⟩ := lconsF h12
  obtain ⟨v13, l14, rfl, h14⟩ := lconsF h13
  obtain ⟨v14, l15, rfl, h15⟩ := lconsF h14
  obtain ⟨v15, l16, rfl, h16⟩ := lconsF h15
  obtain ⟨v16, l17, rfl, h17⟩ := lconsF h16
  obtain ⟨v17, l18, rfl, h18⟩ := lconsF h17
  obtain ⟨v18, l19, rfl, h19⟩ := lconsF h18
  obtain ⟨v19, l20, rfl, h20⟩ := lconsF h19
  obtain ⟨v20, l21, rfl, h21⟩ := lconsF h20
  obtain ⟨v21, l22, rfl, h22⟩ := lconsF h21
  obtain ⟨v22, l23, rfl, h23⟩ := lconsF h22
  obtain ⟨v23, l24, rfl, h24⟩ := lconsF h23
  obtain ⟨v24, l25, rfl, h25⟩ := lconsF h24
  obtain ⟨v25, l26, rfl, h26⟩ := lconsF h25
  obtain ⟨v26, l27, rfl, h27⟩ := lconsF h26
  obtain ⟨v27, l28, rfl, h28⟩ := lconsF h27
  obtain ⟨v28, l29, rfl, h29⟩ := lconsF h28
  obtain ⟨v29, l30, rfl, h30⟩ := lconsF h29
  obtain ⟨v30, l31, rfl, h31⟩ := lconsF h30
  obtain ⟨v31, l32, rfl, h32⟩ := lconsF h31
  obtain ⟨v32, l33, rfl, h33⟩ := lconsF h32
  obtain rfl := List.eq_nil_of_length_eq_zero h33
  exact ⟨_, _, _, _, _, _, _, _, _, _, _, _, _, _, _, _, _, _, _, _, _, _, _, _, _, _, _, _, _, _, _, _, _, rfl⟩
noncomputable def bA : Frame := base 10
noncomputable def bO : Frame := base 23
noncomputable def bF : Frame := base 62
noncomputable def bR (l : Nat) : Frame := { base 23 with roundOf := some l }
theorem enterA (bv : Value) : Frame.enter Tryz.prog 10 #[bv] .normal = bA.at ⟨slA bv, []⟩ [.code bodyA] := by
  simp [Frame.enter, Frame.at, Tryz.func10, bA, base, slA, bodyA, Tryz.f10]
theorem enterO (bv : Value) : Frame.enter Tryz.prog 23 #[bv] .normal = bO.at ⟨slO bv, []⟩ [.code bodyO] := by
  simp [Frame.enter, Frame.at, Tryz.func23, bO, base, slO, bodyO, Tryz.f23]
theorem enterF (y q : Value) : Frame.enter Tryz.prog 62 (#[y] ++ #[q]) .normal = bF.at ⟨slF y q, []⟩ [.code bodyF] := by
  simp [Frame.enter, Frame.at, Tryz.func62, bF, base, slF, bodyF, Tryz.f62]

theorem round_at (l : Nat) (T : Array Value) (ag bd : Code) : Frame.round l 23 T ag bd .normal = (bR l).atR ⟨T, []⟩ [.code ag, .beginRound, .code bd] := rfl

noncomputable def agO : Code := match blkO with | .block _ (.rangeFunc _ _ a _) => a | _ => .skip
noncomputable def bdO : Code := match blkO with | .block _ (.rangeFunc _ _ _ b) => b | _ => .skip
noncomputable def lpO (T : Array Value) (d : Nat) : Loop := { state := .ready, pending := none, fn := 23, tmps := T, params := #[10], assign := agO, body := bdO, defers := d }
noncomputable def V1 (V : World) (T : Array Value) : World := (V.alloc (.deferred (some []))).alloc (.loop (lpO T V.heap.size))
def colO (d : Nat) : List Deferred := [{ target := .collected d, args := #[] }]
noncomputable def cO (T : Array Value) (d l : Nat) : Frame := bO.at ⟨T, colO d⟩ (.inRangeFunc l :: .inBlock 0 :: [.code B7O])

section
variable {X : Nat → Prop} {Shun : Loc → Prop} {c : Frame} {cs : List Frame}
set_option maxRecDepth 100000 in
theorem intoR {V : World} {T : Array Value} {q : Nat} (t9 : T[9]? = some (.func (.func 62) #[] #[.pointer (some ⟨q, 0, none⟩)])) :
    Go.Conc.Goes Tryz.prog true AtRel (DE fun _ => False) (fun g w' => g = G (Frame.enter Tryz.prog 62 (#[.func (.yield (V.heap.size + 1)) #[] #[]] ++ #[.pointer (some ⟨q, 0, none⟩)]) .normal) (cO T V.heap.size (V.heap.size + 1) :: c :: cs) ∧ AtRel (V1 V T) w') 5 (G (bO.at ⟨T, []⟩ [.code blkO, .code B7O]) (c :: cs)) V := by
  have rl : ∀ {V w w₁ : World}, AtRel V w → AtRel w w₁ → AtRel V w₁ := fun h r => atRel_trans _ _ _ h r
  have hF : AtRel V V := atRel_refl V
  have e : blkO = .block 0 (.rangeFunc (.tmp 9) #[10] agO bdO) := by simp only [blkO, agO, bdO, bodyO, Tryz.f23, Option.getD_some]
  rw [e]
  u_c stepG_block rl hF
  u_in rl hF
  obtain ⟨d, rfl⟩ := hF
  rw [range_step (gf := 62) (lb := #[.pointer (some ⟨q, 0, none⟩)]) (by simp [Act.eval, t9]) Tryz.func62 (by kernel_rfl) rfl rfl]
  simp only [goes_go]
  refine ⟨fun e he => by simp at he, ?_⟩
  exact Go.Conc.Goes.stop fun w₂ r => ⟨rfl, rl (V := V1 V T) ⟨d, rfl⟩ r⟩

noncomputable def ops3F : Array Oper := match LF with | .block _ (.loop (.seq _ (.block _ (.seq (.region _ o _) _)))) => o | _ => #[]
noncomputable def R4F : Code := match LF with | .block _ (.loop (.seq _ (.block _ (.seq _ r)))) => r | _ => .skip
noncomputable def LbF : Code := match LF with | .block _ (.loop c) => c | _ => .skip
theorem fold10 (T : Array Value) (v : Value) : ((#[10] : Array Tmp).zip #[v]).foldl (fun t (p, a) => t.setIfInBounds p a) T = T.setIfInBounds 10 v := by
  rw [← Array.foldl_toList]
  simp

set_option maxRecDepth 100000 in
set_option maxHeartbeats 4000000 in
theorem intoFirst (hX : ShIn Shun X) {V : World} {T TO : Array Value} {tb bx l dl n : Nat} {a2 : Option Addr} {c2 : Nat} (hn : 0 < n) (hT : T.size = 33) (hTO : TO.size = 18) (t0 : T[0]? = some (.func (.yield l) #[] #[])) (t3 : T[3]? = some (.pointer (some ⟨tb, 0, none⟩))) (t4 : T[4]? = some (.slice none 0 0))
    (o1 : TO[1]? = some (.pointer (some ⟨bx, 0, none⟩))) (hl : V.heap[l]? = some (.loop (lpO TO dl))) (hc1 : V.cell? ⟨bx, 1, none⟩ = some (.slice a2 n c2)) (hx : ¬ X bx) :
    Go.Conc.Goes Tryz.prog true AtRel (DE (EvL Shun V.heap.size)) (fun g w' => (∃ T', g = G (Frame.enter Tryz.prog 63 #[.pointer (some ⟨tb, 0, none⟩)] .normal) (bF.at ⟨T', []⟩ (.inRegion ops3F [1, 2, 3, 4, 5, 6] :: [.code R4F, .inBlock 1, .inLoop LbF, .inBlock 0]) :: c :: cs) ∧ T'.size = 33) ∧ AtRel V w') 60 (G (bF.at ⟨T, []⟩ [.code LF]) (c :: cs)) V := by
  have hll : l < V.heap.size := (Array.getElem?_eq_some_iff.1 hl).1
  have hbl : bx ≠ l := fun e => by subst e; simp [World.cell?, hl] at hc1
  have hlt := World.block_lt_of_cell? V _ hc1
  have hns : ¬ Shun (.cell ⟨bx, 1, none⟩) := fun h => by obtain ⟨a, e, ha⟩ := hX _ h; cases e; exact hx ha
  have hq : ((0 : Int) == (n : Int)) = false := by rw [beq_eq_false_iff_ne]; omega
  obtain ⟨v0, v1, v2, v3, v4, v5, v6, v7, v8, v9, v10, v11, v12, v13, v14, v15, v16, v17, v18, v19, v20, v21, v22, v23, v24, v25, v26, v27, v28, v29, v30, v31, v32, rfl⟩ := array33 T hT
  obtain ⟨u0, u1, u2, u3, u4, u5, u6, u7, u8, u9, u10, u11, u12, u13, u14, u15, u16, u17, rfl⟩ := array18 TO hTO
  simp only [List.getElem?_toArray, List.getElem?_cons_succ, List.getElem?_cons_zero, Option.some.injEq] at t0 t3 t4 o1
  subst t0 t3 t4 o1
  simp only [LF, ops3F, R4F, LbF, bodyF, Tryz.f62, Option.getD_some]
  have rl : ∀ {V w w₁ : World}, AtRel V w → AtRel w w₁ → AtRel V w₁ := fun h r => atRel_trans _ _ _ h r
  have hF : AtRel V V := atRel_refl V
  u_c stepG_block rl hF
  u_c stepG_loop rl hF
  u_c stepG_seq rl hF
  u_c stepG_seq rl hF
  u_reg rl hF
  u_op rl hF
  u_op rl hF
  u_in rl hF
  obtain ⟨d, rfl⟩ := hF
  refine goes_of (yield_step (w := V.at d) (l := l) (vs := #[.slice none 0 0]) rfl rfl rfl rfl rfl (by simp [Act.eval]) hl rfl) fun es ho => ⟨fun e he => evL_obj hX hll (ho e he), ?_⟩
  clear ho es
  have hF : AtRel V (V.at d) := ⟨d, rfl⟩
  simp only [lpO, fold10, List.setIfInBounds_toArray, List.set_cons_zero, List.set_cons_succ]
  rw [round_at]
  simp only [agO, bdO, blkO, bodyO, Tryz.f23, Option.getD_some]
  u_in rl hF; rw [rnd_region]; simp only [goes_go, List.size_toArray, List.length_cons, List.length_nil, Nat.zero_add, List.range, List.range.loop]; refine ⟨by u_nil, ?_⟩
  u_in rl hF; refine goes_rnd_k rfl rfl (by intro h; cases h) (by intro c h; cases h) (fun K hK => ?_); go_simp; refine hK _ _ ⟨(fun e he => by have hm := mem_listed he; simp [go_sem, *] at hm), ?_⟩; clear hK K; (try walk_nrm)
  u_c rnd_region_end rl hF
  u_in rl hF
  obtain ⟨d2, rfl⟩ := hF
  refine goes_of (rnd_begin (w := V.at d2) (l := l) rfl rfl hl rfl) fun es ho => ⟨fun e he => evL_obj hX hll (ho e he), ?_⟩
  clear ho es
  have hh2 : (V.putObj l (.loop { lpO #[u0, .pointer (some ⟨bx, 0, none⟩), u2, u3, u4, u5, u6, u7, u8, u9, u10, u11, u12, u13, u14, u15, u16, u17] dl with state := .busy })).heap[l]? = some (.loop { lpO #[u0, .pointer (some ⟨bx, 0, none⟩), u2, u3, u4, u5, u6, u7, u8, u9, u10, u11, u12, u13, u14, u15, u16, u17] dl with state := .busy }) := World.putObj_heap_same hll
  have hback := put_back (V := V) (l := l) (o' := .loop { lpO #[u0, .pointer (some ⟨bx, 0, none⟩), u2, u3, u4, u5, u6, u7, u8, u9, u10, u11, u12, u13, u14, u15, u16, u17] dl with state := .busy }) hl
  have hc2 : (V.putObj l (.loop { lpO #[u0, .pointer (some ⟨bx, 0, none⟩), u2, u3, u4, u5, u6, u7, u8, u9, u10, u11, u12, u13, u14, u15, u16, u17] dl with state := .busy })).cell? ⟨bx, 1, none⟩ = some (.slice a2 n c2) := (put_cell hbl).trans hc1
  have hF : AtRel (V.putObj l (.loop { lpO #[u0, .pointer (some ⟨bx, 0, none⟩), u2, u3, u4, u5, u6, u7, u8, u9, u10, u11, u12, u13, u14, u15, u16, u17] dl with state := .busy })) ((V.at d2).putObj l (.loop { lpO #[u0, .pointer (some ⟨bx, 0, none⟩), u2, u3, u4, u5, u6, u7, u8, u9, u10, u11, u12, u13, u14, u15, u16, u17] dl with state := .busy })) := ⟨d2, rfl⟩
  u_c rnd_block rl hF
  u_c rnd_seq rl hF
  u_in rl hF; rw [rnd_region]; simp only [goes_go, List.size_toArray, List.length_cons, List.length_nil, Nat.reduceAdd, Nat.zero_add, List.range, List.range.loop]; refine ⟨by u_nil, ?_⟩
  u_in rl hF; refine goes_rnd_k rfl rfl (by intro h; cases h) (by intro c h; cases h) (fun K hK => ?_); go_simp; refine hK _ _ ⟨(fun e he => by have hm := mem_listed he; simp [go_sem, *] at hm), ?_⟩; clear hK K; (try walk_nrm)
  u_in rl hF; refine goes_rnd_k rfl rfl (by intro h; cases h) (by intro c h; cases h) (fun K hK => ?_); go_simp; refine hK _ _ ⟨(fun e he => by have hm := mem_listed he; simp [go_sem, Builtin.len_, *] at hm), ?_⟩; clear hK K; (try walk_nrm)
  u_in rl hF; refine goes_rnd_k rfl rfl (by intro h; cases h) (by intro c h; cases h) (fun K hK => ?_); go_simp; refine hK _ _ ⟨(fun e he => by have hm := mem_listed he; simp [go_sem, *] at hm), ?_⟩; clear hK K; (try walk_nrm)
  u_in rl hF
  refine goes_rnd_k rfl rfl (by intro h; cases h) (by intro c h; cases h) (fun K hK => ?_)
  have hc' : (‹World›).cell? ⟨bx, 1, none⟩ = some (.slice a2 n c2) := (by obtain ⟨d, rfl⟩ := hF; exact hc2)
  go_simp
  refine hK _ _ ⟨(fun e he => by have hm := mem_listed he; simp [go_sem, *] at hm; subst hm; exact evL_low hlt hns), ?_⟩
  clear hK K hc'
  try walk_nrm
  u_in rl hF; refine goes_rnd_k rfl rfl (by intro h; cases h) (by intro c h; cases h) (fun K hK => ?_); go_simp; refine hK _ _ ⟨(fun e he => by have hm := mem_listed he; simp [go_sem, Builtin.len_, *] at hm), ?_⟩; clear hK K; (try walk_nrm)
  u_in rl hF; refine goes_rnd_k rfl rfl (by intro h; cases h) (by intro c h; cases h) (fun K hK => ?_); go_simp; refine hK _ _ ⟨(fun e he => by have hm := mem_listed he; simp [go_sem, *] at hm), ?_⟩; clear hK K; (try walk_nrm)
  u_c rnd_region_end rl hF
  u_in rl hF
  rw [rnd_cond (t := false) (by simp [Act.eval])]
  simp only [goes_go, Bool.false_eq_true, ↓reduceIte]
  refine ⟨by u_nil, ?_⟩
  u_c rnd_skip rl hF
  u_c rnd_inBlock rl hF
  u_in rl hF
  obtain ⟨d3, rfl⟩ := hF
  refine goes_of (rnd_end (l := l) rfl rfl (w := World.at (V.putObj l _) d3) hh2) fun es ho => ⟨fun e he => evL_obj hX hll (ho e he), ?_⟩
  clear ho es
  refine goes_world (congrArg (fun W => World.at W d3) hback) ?_
  clear hback hh2 hc2
  have hF : AtRel V (V.at d3) := ⟨d3, rfl⟩
  rw [Frame.finish_at]
  walk_nrm
  u_c stepG_region_end rl hF
  u_cond true rl hF
  u_c stepG_skip rl hF
  u_c stepG_block rl hF
  u_c stepG_seq rl hF
  u_reg rl hF
  u_op rl hF
  u_in rl hF
  refine goes_callE #[.pointer (some ⟨tb, 0, none⟩)] rfl rfl (by k_ne) rfl Tryz.func63 (by kernel_rfl) rfl (by simp [Act.eval]) ⟨fun e he => by simp at he, ?_⟩
  exact Go.Conc.Goes.stop fun w₁ r => ⟨⟨_, rfl, rfl⟩, rl hF r⟩
end
end Go.Proofs.YtnojjmkmkelbgaaGreat
