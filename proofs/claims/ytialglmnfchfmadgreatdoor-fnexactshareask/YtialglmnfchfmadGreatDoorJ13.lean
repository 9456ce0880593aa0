/- The program's chapter 13: what is done where somebody goes. -/
import Derived.Test.YtialglmnfchfmadGreatDoorJ12
import Derived.Test.YtialglmnfchfmadGreatDoorKr3
import Derived.Test.YtialglmnfchfmadGreatDoorJ0
import Derived.LaidEql
import Derived.Stop.Asserts
import Derived.RowKitTokens
namespace Go.Proofs.YtialglmnfchfmadGreatDoor
open Go.RowKit

theorem k2_drew {W w0 : World} {q : Nat} {x0 x1 : Value} (h : Below W.heap.size W w0 ∧ w0.cell? ⟨q, 0, none⟩ = some x0 ∧ w0.cell? ⟨q, 1, none⟩ = some x1) : Below W.heap.size W w0.drew ∧ w0.drew.cell? ⟨q, 0, none⟩ = some x0 ∧ w0.drew.cell? ⟨q, 1, none⟩ = some x1 := ⟨h.1.drew, h.2⟩
theorem k2_up {W w0 w1 : World} {q : Nat} {x0 x1 : Value} (hq : q < W.heap.size) (h : Below W.heap.size W w0 ∧ w0.cell? ⟨q, 0, none⟩ = some x0 ∧ w0.cell? ⟨q, 1, none⟩ = some x1) (hB : Below w0.heap.size w0 w1) : Below W.heap.size W w1 ∧ w1.cell? ⟨q, 0, none⟩ = some x0 ∧ w1.cell? ⟨q, 1, none⟩ = some x1 := by
  have lq : q < w0.heap.size := Nat.lt_of_lt_of_le hq h.1.size
  exact ⟨up_trans h.1 hB, (hB.cell (p := ⟨q, 0, none⟩) lq).trans h.2.1, (hB.cell (p := ⟨q, 1, none⟩) lq).trans h.2.2⟩
theorem Fam.sub {w : World} {B : Nat} {q : Option Nat} {fs gs : List (Value × List ByteArray)} (h : Fam w B q fs) (hs : gs.Sublist fs) : Fam w B q gs := ⟨fun f hf => h.own f (hs.subset hf), h.ap.sublist hs, fun f hf => h.av f (hs.subset hf)⟩
theorem famB_sub : ∀ {a b : List Bv}, a.Sublist b → (famB a).Sublist (famB b)
  | _, _, .slnil => List.Sublist.refl _
  | _, _, .cons _ h => ((famB_sub h).cons _).cons _
  | _, _, .cons_cons _ h => ((famB_sub h).cons_cons _).cons_cons _
/-- A book of one's own, whose lists lie apart. -/
def BkF (w : World) (base : Nat) (v : Value) (b : Bk) : Prop := ∃ a1 c1 a2 c2 ps, v = .agg #[.slice a1 b.things.length c1, .slice a2 b.bs.length c2] ∧ BsW w base (.slice a2 b.bs.length c2) ps ∧ ps.map (·.1) = b.bs ∧ Fam w base none ((.slice a1 b.things.length c1, b.things) :: famB ps)
theorem out_sub (ps : List Bv) (p : Nat) : (ps.take p ++ ps.drop (p + 1)).Sublist ps := by
  conv => rhs; rw [← List.take_append_drop p ps]
  exact (List.Sublist.refl _).append (by rw [← List.drop_drop]; exact List.drop_sublist _ _)
set_option maxRecDepth 20000 in
set_option maxHeartbeats 8000000 in
theorem doneLeave_any (b : Bk) (v : Value) (nm : ByteArray) (w : World) (h : BkV w v b) (hok : BookOk b) (hm : memS (nms b.bs) nm = true) :
    Calls Tryz.prog 47 #[v, .iface 112 (.agg #[.string nm])] w fun e w' => (∃ u, e = .returned u ∧ BkF w' w.heap.size u ⟨b.things, b.bs.take (plN b nm) ++ b.bs.drop (plN b nm + 1)⟩) ∧ Below w.heap.size w w' := by
  have f1 := as_whoV
  have f2 := ta_VE
  have f3 := ta_VA
  have f4 := ta_VL
  have f5 := ta_VV
  obtain ⟨a1, c1, a2, c2, rfl, -, -⟩ := h.parts
  obtain ⟨s1, s2, s3⟩ := ok_small hok
  obtain ⟨W1, hW1, kA, kR, hB1, hs1⟩ : ∃ W1, (w.alloc (.cells #[.slice a1 (b).things.length c1, .slice a2 (b).bs.length c2] 30)).alloc (.cells #[.slice none 0 0, .slice none 0 0] 30) = W1 ∧ CB W1 w.heap.size [.slice a1 b.things.length c1, .slice a2 b.bs.length c2] ∧ CB W1 (w.heap.size + 1) [.slice none 0 0, .slice none 0 0] ∧ Below w.heap.size w W1 ∧ W1.heap.size = w.heap.size + 2 := ⟨_, rfl, cb2 w _ _ _ _⟩
  go_enter Tryz.func47, Tryz.ntmps47
  go_upto_region 1 with fail
  try rw [hW1]
  clear hW1
  have hk := h.up hB1
  obtain ⟨e0, e1⟩ := kA.c2'
  go_wp2_with fail
  refine (copyP_any b _ _ hk (by omega) (by omega) (fun y hy => by have := s3 y hy; omega)).mono ?_
  rintro e w2 ⟨⟨a3, c3, a4, c4, ps, rfl, x2, x3, hF⟩, hb2⟩
  have hz2 := hb2.size
  have hlt2 : ∀ g', (Value.slice a4 b.bs.length c4).ownBlock = some g' → g' < w2.heap.size := fun g' hg' => (x2.1.lt g' hg').2
  replace hF := hF.avoid (Nat.le_refl _)
  have Hnm : Hid (∀ p ∈ ps, p.1.nm.size ≤ maxLen) := fun p hp => (x2.2 p hp).2.2
  have kA2 := kA.up hb2 (by omega)
  have kR2 := kR.up hb2 (by omega)
  have hk2 := hk.up hb2
  have hB2 := up_trans hB1 hb2
  clear e0 e1 kA kR hk hB1 hb2
  go_upto_region 2 with fail
  obtain ⟨W3, hW3, kX, hb3, hs3⟩ : ∃ W3, w2.alloc (.cells #[(.slice a3 b.things.length c3), .slice a4 b.bs.length c4] 30) = W3 ∧ CB W3 w2.heap.size [(.slice a3 b.things.length c3), .slice a4 b.bs.length c4] ∧ Below w2.heap.size w2 W3 ∧ W3.heap.size = w2.heap.size + 1 := ⟨_, rfl, cb1 w2 _ _⟩
  try rw [hW3]
  clear hW3
  have kA3 := kA2.up hb3 (by omega)
  have kR3 := kR2.up hb3 (by omega)
  have hk3 := hk2.up hb3
  have hB3 := up_trans hB2 hb3
  have x23 := x2.up hb3
  have hF3 := hF.up hb3
  clear kA2 kR2 hk2 hB2 x2 hF hb3
  obtain ⟨e0, e1⟩ := kA3.c2'
  have hS0 : Below W3.heap.size W3 W3 ∧ W3.cell? ⟨w.heap.size, 0, none⟩ = some (.slice a1 b.things.length c1) ∧ W3.cell? ⟨w.heap.size, 1, none⟩ = some (.slice a2 b.bs.length c2) := ⟨Below.refl _ _, e0, e1⟩
  have hq3 : w.heap.size < W3.heap.size := by omega
  clear e0 e1
  go_wp2_with fail
  go_region_held (fun w' => Below W3.heap.size W3 w' ∧ w'.cell? ⟨w.heap.size, 0, none⟩ = some (.slice a1 b.things.length c1) ∧ w'.cell? ⟨w.heap.size, 1, none⟩ = some (.slice a2 b.bs.length c2)) (first | exact k2_drew hS0 | exact k2_up hq3 (by assumption) (by assumption))
    (first
      | (go_at_call 101; refine (asker_any nm _).mono ?_; rintro e' w9 ⟨rfl, hb9⟩)
      | (go_at_call 58; refine (find_any b _ nm _ ((hk3.up (Below.refl _ _).drew).up hb9) hok).mono ?_; rintro e' wA ⟨rfl, hbA⟩))
  rename_i hHeld
  have hBA := hHeld.1
  clear hHeld hS0 hb9 hbA
  have hzA := hBA.size
  have kXA := kX.up hBA (by omega)
  have kRA := kR3.up hBA (by omega)
  have hBB := up_trans hB3 hBA
  have x2A := x23.up hBA
  have hFA := hF3.up hBA
  clear kX kR3 kA3 hB3 x23 hF3 hk3 hBA
  rw [low_pl hok.2.2.2.1 hm]
  obtain ⟨-, hpl⟩ := plN_lt hm
  have hps : ps.length = b.bs.length := by rw [← x3, List.length_map]
  have hrow := x2A.1
  rw [hps] at hrow
  obtain ⟨g, cp, hgp⟩ := own_ptr2 hrow (by omega)
  obtain ⟨rfl, -, rfl⟩ := Value.slice.inj hgp
  clear hgp
  go_upto_region 19 with fail
  obtain ⟨W5, hW5, hb5, hs5⟩ : ∃ W5, wA.alloc (.cells #[.string nm] 112) = W5 ∧ Below wA.heap.size wA W5 ∧ W5.heap.size = wA.heap.size + 1 := ⟨_, rfl, (Below.refl _ _).alloc (Nat.le_refl _) _, by simp⟩
  try rw [hW5]
  clear hW5
  have kX5 := kXA.up hb5 (by omega)
  have kR5 := kRA.up hb5 (by omega)
  have hB5 := up_trans hBB hb5
  have x25 := x2A.up hb5
  have hF5 := hFA.up hb5
  have hg2 := hlt2 g rfl
  have hg1 := (hrow.lt g rfl).1
  clear kXA kRA hBB x2A hFA hb5 hrow hlt2
  have hrow5 := x25.1
  have hdel := delete_any ps (plN b nm) g c4 W1.heap.size W5 (by omega) (by omega) (by rw [hps]; rw [hps] at hrow5; exact hrow5) (x25.one ps (fun _ h => h))
  rw [hps] at hdel hrow5
  obtain ⟨⟨y0, y1⟩, -⟩ := kX5.c2
  go_wp2_with fail
  refine hdel.mono ?_
  rintro e w6 ⟨rfl, hrow6, hg6⟩
  have kX6 := kX5.kept hg6 (by simp; omega)
  have kR6 := kR5.kept hg6 (by simp; omega)
  have hF6 := hF5.row hrow5 hg6
  have hB6 : Below w.heap.size w w6 := below_own hB5 hrow5 hg6 (by omega)
  clear y0 y1 hdel hrow5 kX5 kR5 hF5 hB5 x25
  obtain ⟨W7, hW7, kX7, kR7, hF7, hB7, hrow7⟩ : ∃ W7, w6.setCell ⟨w2.heap.size, 1, none⟩ (.slice (some ⟨g, 0, none⟩) (b.bs.length - 1) c4) = W7 ∧ CB W7 w2.heap.size [(.slice a3 b.things.length c3), .slice (some ⟨g, 0, none⟩) (b.bs.length - 1) c4] ∧ CB W7 (w.heap.size + 1) [.slice none 0 0, .slice none 0 0] ∧ Fam W7 W1.heap.size (some w2.heap.size) (((.slice a3 b.things.length c3), b.things) :: famB ps) ∧ Below w.heap.size w W7 ∧ W7.ownsRow W1.heap.size 45 3 (.slice (some ⟨g, 0, none⟩) (b.bs.length - 1) c4) (b.bs.length - 1) (rowsB (ps.take (plN b nm) ++ ps.drop (plN b nm + 1))) :=
    ⟨_, rfl, kX6.set (j := 1) (by simp), kR6.other (by omega), hF6.set 1 _, hB6.setCell (p := ⟨w2.heap.size, 1, none⟩) (by show _ ≤ w2.heap.size; omega) _, own_keep2 hrow6 (grown_setCell (rb := w2.heap.size) (off := 1) (grown_refl w6 _) _) (slice_ne (by simp; omega))⟩
  obtain ⟨⟨y0, y1⟩, g0, g1⟩ := kX6.c2
  go_upto_region 20 with fail
  try rw [hW7]
  clear hW7 y0 y1 g0 g1 kX6 kR6 hF6 hB6 hrow6 hg6
  obtain ⟨⟨y0, y1⟩, -⟩ := kX7.c2
  obtain ⟨⟨r0, r1⟩, q0, q1⟩ := kR7.c2
  have hW1z : w.heap.size + 1 < W1.heap.size := by omega
  have hl2 : (b.bs.take (plN b nm) ++ b.bs.drop (plN b nm + 1)).length = b.bs.length - 1 := by rw [List.length_append, List.length_take, List.length_drop]; omega
  have hl3 : (ps.take (plN b nm) ++ ps.drop (plN b nm + 1)).length = b.bs.length - 1 := by rw [List.length_append, List.length_take, List.length_drop]; omega
  have hm3 : (ps.take (plN b nm) ++ ps.drop (plN b nm + 1)).map (·.1) = b.bs.take (plN b nm) ++ b.bs.drop (plN b nm + 1) := by rw [← x3, List.map_append, List.map_take, List.map_drop]
  go_wp2_with fail
  refine end_cb2 Tryz.results47 Tryz.underlying30 rfl sizeBk1 kR7 rfl ?_
  have hrow8 := own_grown (own_grown hrow7 (grown_setCell (rb := w.heap.size + 1) (off := 0) (grown_refl _ _) (.slice a3 b.things.length c3)) hW1z) (grown_setCell (rb := w.heap.size + 1) (off := 1) (grown_refl _ _) (.slice (some ⟨g, 0, none⟩) (b.bs.length - 1) c4)) hW1z
  have hF8 := ((hF7.free.setLow hW1z 0 (.slice a3 b.things.length c3)).setLow hW1z 1 (.slice (some ⟨g, 0, none⟩) (b.bs.length - 1) c4)).sub ((famB_sub (out_sub ps (plN b nm))).cons_cons ((.slice a3 b.things.length c3), b.things))
  have hW8 := hF8.bsW (fs := [((.slice a3 b.things.length c3), b.things)]) (v := .slice (some ⟨g, 0, none⟩) (b.bs.length - 1) c4) (by rw [hl3]; exact hrow8) (fun p hp => Hnm.out p ((out_sub ps (plN b nm)).subset hp))
  refine ⟨⟨_, rfl, a3, c3, some ⟨g, 0, none⟩, c4, ps.take (plN b nm) ++ ps.drop (plN b nm + 1), ?_, ?_, hm3, hF8.low (by omega)⟩, below_set2 hB7 (Nat.le_succ _) _ _⟩
  · show Value.agg #[_, _] = Value.agg #[_, .slice _ (b.bs.take (plN b nm) ++ b.bs.drop (plN b nm + 1)).length _]
    rw [hl2]
  · show BsW _ _ (.slice _ (b.bs.take (plN b nm) ++ b.bs.drop (plN b nm + 1)).length _) _
    rw [hl2]
    exact hW8.low (by omega)
end Go.Proofs.YtialglmnfchfmadGreatDoor

/- Refusals asked with errors.As: what reflectlite's own operations do at this program's types. -/
namespace Go.Proofs.YtialglmnfchfmadGreatDoor
open Go.RowKit Go.Extern.Stop Go.Stop Go.Extern

/-- Nobody was refused. -/
theorem as_nil (t : Value) (w : World) : Calls Tryz.prog 42 #[.nilIface, t] w fun e w' => e = .returned (.bool false) ∧ w' = w := by
  go_enter Tryz.func42, Tryz.ntmps42
  go_wp2
  go_ret
  exact ⟨rfl, rfl⟩
theorem ea_valueP (t : Addr) (w : World) : (ReflectliteValue.unpack (.iface 75 (.pointer (some t)))).run Tryz.prog w = .ok (Value.agg #[(Value.pointer (some ⟨1, 75, none⟩)), .pointer (some ⟨w.heap.size, 0, none⟩), .int .u64 150]) (w.alloc (.cells #[.pointer (some t)] 75)) := by kernel_rfl
theorem ea_typeP (a : Addr) (w : World) : (ReflectliteValue.methodAny (ReflectliteValue.valueError "reflectlite.Value.Type" 0) (fun t _ _ _ => ReflectliteType.toType t) #[(Value.agg #[(Value.pointer (some ⟨1, 75, none⟩)), .pointer (some a), .int .u64 150])]).run Tryz.prog w = .ok (Value.iface 115 (.agg #[(Value.pointer (some ⟨1, 75, none⟩))])) w := by kernel_rfl
theorem ea_mKind (h : Value) (w : World) : (Go.method 91 115 (.agg #[h]) "Kind").run Tryz.prog w = .ok (98, h) w := by kernel_rfl
theorem ea_mElem (h : Value) (w : World) : (Go.method 91 115 (.agg #[h]) "Elem").run Tryz.prog w = .ok (126, .agg #[h]) w := by kernel_rfl
theorem ea_mImpl (h : Value) (w : World) : (Go.method 91 115 (.agg #[h]) "Implements").run Tryz.prog w = .ok (127, .agg #[h]) w := by kernel_rfl
theorem ea_mAssign (h : Value) (w : World) : (Go.method 91 115 (.agg #[h]) "AssignableTo").run Tryz.prog w = .ok (124, .agg #[h]) w := by kernel_rfl
theorem ea_kindP (w : World) : ((ReflectliteType.abiMethod fun t => (fun a : Nat => Value.int IntKind.u8 (a : Int)) <$> Rtype.kind t) #[(Value.pointer (some ⟨1, 75, none⟩))]).run Tryz.prog w = .ok (.int .u8 22) w := by kernel_rfl
theorem ea_kindR (w : World) : ((ReflectliteType.abiMethod fun t => (fun a : Nat => Value.int IntKind.u8 (a : Int)) <$> Rtype.kind t) #[(Value.pointer (some ⟨1, 73, none⟩))]).run Tryz.prog w = .ok (.int .u8 25) w := by kernel_rfl
theorem ea_elemP (w : World) : (ReflectliteType.method ReflectliteType.elem #[.agg #[(Value.pointer (some ⟨1, 75, none⟩))]]).run Tryz.prog w = .ok (Value.iface 115 (.agg #[(Value.pointer (some ⟨1, 73, none⟩))])) w := by kernel_rfl
theorem ea_implR (w : World) : (ReflectliteType.relation "Implements" ReflectliteType.implements_ #[.agg #[(Value.pointer (some ⟨1, 73, none⟩))], (Value.iface 115 (.agg #[(Value.pointer (some ⟨1, 69, none⟩))]))]).run Tryz.prog w = .ok (.bool true) w := by kernel_rfl
theorem ea_typeR (v : Value) (w : World) : (ReflectliteType.typeOf #[.iface 73 v]).run Tryz.prog w = .ok (Value.iface 115 (.agg #[(Value.pointer (some ⟨1, 73, none⟩))])) w := by kernel_rfl
theorem ea_typeD (v : Value) (w : World) : (ReflectliteType.typeOf #[.iface 82 v]).run Tryz.prog w = .ok (Value.iface 115 (.agg #[(Value.pointer (some ⟨1, 82, none⟩))])) w := by kernel_rfl
theorem ea_assignR (w : World) : (ReflectliteType.relation "AssignableTo" ReflectliteType.assignableTo #[.agg #[(Value.pointer (some ⟨1, 73, none⟩))], (Value.iface 115 (.agg #[(Value.pointer (some ⟨1, 73, none⟩))]))]).run Tryz.prog w = .ok (.bool true) w := by kernel_rfl
theorem ea_assignD (w : World) : (ReflectliteType.relation "AssignableTo" ReflectliteType.assignableTo #[.agg #[(Value.pointer (some ⟨1, 82, none⟩))], (Value.iface 115 (.agg #[(Value.pointer (some ⟨1, 73, none⟩))]))]).run Tryz.prog w = .ok (.bool false) w := by kernel_rfl
theorem ea_valueR (c : Int) (w : World) : (ReflectliteValue.unpack (.iface 73 (.agg #[.int .i64 c]))).run Tryz.prog w = .ok (.agg #[(Value.pointer (some ⟨1, 73, none⟩)), .pointer (some ⟨w.heap.size, 0, none⟩), .int .u64 153]) (w.alloc (.cells #[.int .i64 c] 73)) := by kernel_rfl
theorem ea_elemOf (w : World) : (Rtype.elem? 75).run Tryz.prog w = .ok (some 73) w := by kernel_rfl
theorem ea_mkR (p : Addr) (w : World) : (ReflectliteValue.mk 73 p ReflectliteValue.flagAddr).run Tryz.prog w = .ok (.agg #[(Value.pointer (some ⟨1, 73, none⟩)), .pointer (some p), .int .u64 409]) w := by kernel_rfl
theorem ea_partsP (a : Addr) (w : World) : (ReflectliteValue.parts (Value.agg #[(Value.pointer (some ⟨1, 75, none⟩)), .pointer (some a), .int .u64 150])).run Tryz.prog w = .ok (some (75, a, 150)) w := by kernel_rfl
theorem ea_partsA (a : Addr) (w : World) : (ReflectliteValue.parts (.agg #[(Value.pointer (some ⟨1, 73, none⟩)), .pointer (some a), .int .u64 409])).run Tryz.prog w = .ok (some (73, a, 409)) w := by kernel_rfl
theorem ea_partsR (a : Addr) (w : World) : (ReflectliteValue.parts (.agg #[(Value.pointer (some ⟨1, 73, none⟩)), .pointer (some a), .int .u64 153])).run Tryz.prog w = .ok (some (73, a, 153)) w := by kernel_rfl
theorem ea_direct (w : World) : (Rtype.directlyAssignable 73 73).run Tryz.prog w = .ok true w := by kernel_rfl
end Go.Proofs.YtialglmnfchfmadGreatDoor

/- Refusals asked with errors.As: a refusal with who asked wrapped around it. -/
namespace Go.Proofs.YtialglmnfchfmadGreatDoor
open Go.RowKit Go.Extern.Stop Go.Stop Go.Extern

theorem ea_meth (z : Sem Value) (f : TypeId → Addr → Nat → Nat → Sem Value) (v : Value) : ReflectliteValue.method z f #[v] = (do match ← ReflectliteValue.parts v with | none => z | some (t, a, fl) => f t a fl (fl % 32)) := rfl
theorem ea_isNil (a p : Addr) (W : World) (ha : W.cell? a = some (.pointer (some p))) :
    (ReflectliteValue.method (ReflectliteValue.valueError "reflectlite.Value.IsNil" 0) ReflectliteValue.isNil #[(Value.agg #[(Value.pointer (some ⟨1, 75, none⟩)), .pointer (some a), .int .u64 150])]).run Tryz.prog W = .ok (.bool false) W := by
  rw [ea_meth]
  simp only [Sem.run_bind, ea_partsP, Result.andThen]
  simp [ReflectliteValue.isNil, loadVar, isAgg, underlying, Tryz.underlying75, ha, Result.andThen]
theorem ea_elemV (a p : Addr) (W : World) (ha : W.cell? a = some (.pointer (some p))) :
    (ReflectliteValue.method (ReflectliteValue.valueError "reflectlite.Value.Elem" 0) ReflectliteValue.elem #[(Value.agg #[(Value.pointer (some ⟨1, 75, none⟩)), .pointer (some a), .int .u64 150])]).run Tryz.prog W = .ok (.agg #[(Value.pointer (some ⟨1, 73, none⟩)), .pointer (some p), .int .u64 409]) W := by
  rw [ea_meth]
  simp only [Sem.run_bind, ea_partsP, Result.andThen]
  simp [ReflectliteValue.elem, loadVar, isAgg, underlying, Tryz.underlying75, ha, Result.andThen, ea_elemOf, ea_mkR]
theorem ea_set (tb to_ bb bo : Nat) (c : Int) (old : Value) (W : World) (hb : W.cell? ⟨bb, bo, none⟩ = some (.int .i64 c)) (ht : W.cell? ⟨tb, to_, none⟩ = some old) (hf : W.frozen? ⟨tb, to_, none⟩ = false) :
    (ReflectliteValue.set #[.agg #[(Value.pointer (some ⟨1, 73, none⟩)), .pointer (some ⟨tb, to_, none⟩), .int .u64 409], .agg #[(Value.pointer (some ⟨1, 73, none⟩)), .pointer (some ⟨bb, bo, none⟩), .int .u64 153]]).run Tryz.prog W = .ok (.tuple #[]) (W.setCell ⟨tb, to_, none⟩ (.int .i64 c)) := by
  refine (show Sem.run Tryz.prog (bind (ReflectliteValue.parts (.agg #[(Value.pointer (some ⟨1, 73, none⟩)), .pointer (some ⟨tb, to_, none⟩), .int .u64 409])) fun _ => bind (ReflectliteValue.parts (.agg #[(Value.pointer (some ⟨1, 73, none⟩)), .pointer (some ⟨bb, bo, none⟩), .int .u64 153])) _) W = _ from ?_)
  simp only [Sem.run_bind, ea_partsA, ea_partsR, Result.andThen]
  simp [ReflectliteValue.flagAddr, loadVar, isAgg, underlying, Tryz.underlying73, Result.andThen, ea_direct, storeVar, Value.cells]
  have hl : (loadCells ⟨bb, bo, none⟩ 1).run Tryz.prog W = .ok #[.int .i64 c] W := by simp [loadCells, loadCellsFrom, Addr.add, hb, Result.andThen]
  have hs : (storeCells ⟨tb, to_, none⟩ [.int .i64 c]).run Tryz.prog W = .ok () (W.setCell ⟨tb, to_, none⟩ (.int .i64 c)) := by
    simp [storeCells, Addr.add]
    rw [run_store Tryz.prog W ⟨tb, to_, none⟩ _ _ (by rfl)]
    simp [ht, hf]
  rw [hl]
  simp [hs]
theorem ea_noAs (v : Value) (xT : TypeId) (w : World) : (Instr.typeAssert (.iface 82 v) xT 120 true).run Tryz.prog w = .ok (.tuple #[.nilIface, .bool false]) w := run_typeAssert_lacksB Tryz.underlying120 (by kernel_rfl) (by kernel_rfl) v xT w
theorem ea_unw (v : Value) (xT : TypeId) (w : World) : (Instr.typeAssert (.iface 82 v) xT 123 true).run Tryz.prog w = .ok (.tuple #[.iface 82 v, .bool true]) w := run_typeAssert_hasB Tryz.underlying123 (by kernel_rfl) v xT w
theorem ea_mUnw (a b : Value) (w : World) : (Go.method 123 82 (.agg #[a, b]) "Unwrap").run Tryz.prog w = .ok (117, .agg #[a, b]) w := by kernel_rfl
theorem unwrap_any (a b : Value) (w : World) : Calls Tryz.prog 117 #[.agg #[a, b]] w fun e w' => e = .returned b ∧ Below w.heap.size w w' := by
  go_enter Tryz.func117, Tryz.ntmps117
  go_wp2_with fail
  go_ret
  exact ⟨rfl, (Below.refl _ _).alloc (Nat.le_refl _) _⟩
set_option maxRecDepth 20000 in
set_option maxHeartbeats 4000000 in
theorem as_in (who : ByteArray) (c : Int) (tb vb : Nat) (old tgt : Value) (w : World) (hv : w.cell? ⟨vb, 0, none⟩ = some (.pointer (some ⟨tb, 0, none⟩))) (ht0 : w.cell? ⟨tb, 0, none⟩ = some old) (hf0 : w.frozen? ⟨tb, 0, none⟩ = false) :
    Calls Tryz.prog 51 #[.iface 82 (.agg #[.string who, .iface 73 (.agg #[.int .i64 c])]), tgt, (Value.agg #[(Value.pointer (some ⟨1, 75, none⟩)), .pointer (some ⟨vb, 0, none⟩), .int .u64 150]), (Value.iface 115 (.agg #[(Value.pointer (some ⟨1, 73, none⟩))]))] w
      fun e w' => e = .returned (.bool true) ∧ ∃ W, Below w.heap.size w W ∧ w' = W.setCell ⟨tb, 0, none⟩ (.int .i64 c) := by
  have x1 := @run_callFunc_extern Tryz.prog 48 _ (fun args => ReflectliteValue.unpack (args.getD 0 (.tuple #[]))) Tryz.func48 (by kernel_rfl) (by kernel_rfl) (by kernel_rfl) (by kernel_rfl)
  have x2 := @run_callFunc_extern Tryz.prog 49 _ (ReflectliteValue.methodAny (ReflectliteValue.valueError "reflectlite.Value.Type" 0) (fun t _ _ _ => ReflectliteType.toType t)) Tryz.func49 (by kernel_rfl) (by kernel_rfl) (by kernel_rfl) (by kernel_rfl)
  have x3 := @run_callFunc_extern Tryz.prog 50 _ (ReflectliteValue.method (ReflectliteValue.valueError "reflectlite.Value.IsNil" 0) ReflectliteValue.isNil) Tryz.func50 (by kernel_rfl) (by kernel_rfl) (by kernel_rfl) (by kernel_rfl)
  have x4 := @run_callFunc_extern Tryz.prog 98 _ (ReflectliteType.abiMethod fun t => do pure (.int .u8 (← Rtype.kind t))) Tryz.func98 (by kernel_rfl) (by kernel_rfl) (by kernel_rfl) (by kernel_rfl)
  have x5 := @run_callFunc_extern Tryz.prog 126 _ (ReflectliteType.method ReflectliteType.elem) Tryz.func126 (by kernel_rfl) (by kernel_rfl) (by kernel_rfl) (by kernel_rfl)
  have x6 := @run_callFunc_extern Tryz.prog 127 _ (ReflectliteType.relation "Implements" ReflectliteType.implements_) Tryz.func127 (by kernel_rfl) (by kernel_rfl) (by kernel_rfl) (by kernel_rfl)
  have x7 := @run_callFunc_extern Tryz.prog 62 _ ReflectliteType.typeOf Tryz.func62 (by kernel_rfl) (by kernel_rfl) (by kernel_rfl) (by kernel_rfl)
  have x8 := @run_callFunc_extern Tryz.prog 124 _ (ReflectliteType.relation "AssignableTo" ReflectliteType.assignableTo) Tryz.func124 (by kernel_rfl) (by kernel_rfl) (by kernel_rfl) (by kernel_rfl)
  have x9 := @run_callFunc_extern Tryz.prog 63 _ (ReflectliteValue.method (ReflectliteValue.valueError "reflectlite.Value.Elem" 0) ReflectliteValue.elem) Tryz.func63 (by kernel_rfl) (by kernel_rfl) (by kernel_rfl) (by kernel_rfl)
  have x10 := @run_callFunc_extern Tryz.prog 64 _ ReflectliteValue.set Tryz.func64 (by kernel_rfl) (by kernel_rfl) (by kernel_rfl) (by kernel_rfl)
  have y1 := ea_valueP
  have y2 := ea_typeP
  have y3 := ea_mKind
  have y4 := ea_mElem
  have y5 := ea_mImpl
  have y6 := ea_mAssign
  have y7 := ea_kindP
  have y8 := ea_kindR
  have y9 := ea_elemP
  have y10 := ea_implR
  have y11 := ea_typeR
  have y12 := ea_typeD
  have y13 := ea_assignR
  have y14 := ea_assignD
  have y15 := ea_valueR
  have y16 := ea_noAs
  have y17 := ea_unw
  have y18 := ea_mUnw
  have htl : tb < w.heap.size := World.block_lt_of_cell? w ⟨tb, 0, none⟩ ht0
  have hvl : vb < w.heap.size := World.block_lt_of_cell? w ⟨vb, 0, none⟩ hv
  obtain ⟨W1, hW1, kB, hb1, hs1⟩ : ∃ W1, w.alloc (.cells #[(Value.pointer (some ⟨1, 75, none⟩)), .pointer (some ⟨vb, 0, none⟩), .int .u64 150] 88) = W1 ∧ CB W1 w.heap.size [(Value.pointer (some ⟨1, 75, none⟩)), .pointer (some ⟨vb, 0, none⟩), .int .u64 150] ∧ Below w.heap.size w W1 ∧ W1.heap.size = w.heap.size + 1 := ⟨_, rfl, cb1 w _ _⟩
  go_enter Tryz.func51, Tryz.ntmps51
  go_wp2_with fail
  try rw [hW1]
  clear hW1 hs1
  refine wp_loop_rounds 2 ?_
  rw [rounds_succ]
  go_wp2_with fail
  refine (unwrap_any _ _ _).mono ?_
  rintro e W2 ⟨rfl, hb2⟩
  have kB2 := kB.up hb2 kB.2.2
  have hB2 := up_trans hb1 hb2
  have hv2 := (hB2.cell (p := ⟨vb, 0, none⟩) hvl).trans hv
  have ht2 := (hB2.cell (p := ⟨tb, 0, none⟩) htl).trans ht0
  have hf2 := (hB2.frozen (p := ⟨tb, 0, none⟩) htl).trans hf0
  obtain ⟨⟨j0, j1, j2⟩, -⟩ := kB2.c3
  have el := ea_elemV ⟨vb, 0, none⟩ ⟨tb, 0, none⟩ W2 hv2
  obtain ⟨W3, hW3, kR, hb3, hs3⟩ : ∃ W3, W2.alloc (.cells #[.int .i64 c] 73) = W3 ∧ CB W3 W2.heap.size [.int .i64 c] ∧ Below W2.heap.size W2 W3 ∧ W3.heap.size = W2.heap.size + 1 := ⟨_, rfl, cb1 W2 _ _⟩
  have hz2 := hB2.size
  have st := ea_set tb 0 W2.heap.size 0 c old W3 (kR.1 0 _ rfl) ((hb3.cell (p := ⟨tb, 0, none⟩) (by show tb < _; omega)).trans ht2) ((hb3.frozen (p := ⟨tb, 0, none⟩) (by show tb < _; omega)).trans hf2)
  have hB3 := up_trans hB2 hb3
  clear hv2 ht2 hf2 hb3 hs3 kR
  go_wp2_with fail
  rw [rounds_succ]
  go_wp2_with fail
  go_ret
  exact ⟨rfl, W3, hB3, rfl⟩
set_option maxRecDepth 20000 in
set_option maxHeartbeats 4000000 in
theorem as_refused (who : ByteArray) (c : Int) (tb : Nat) (old : Value) (w : World) (hg : w.cell? ⟨0, 0, none⟩ = some (Value.iface 115 (.agg #[(Value.pointer (some ⟨1, 69, none⟩))]))) (ht0 : w.cell? ⟨tb, 0, none⟩ = some old) (hf0 : w.frozen? ⟨tb, 0, none⟩ = false) :
    Calls Tryz.prog 42 #[.iface 82 (.agg #[.string who, .iface 73 (.agg #[.int .i64 c])]), .iface 75 (.pointer (some ⟨tb, 0, none⟩))] w
      fun e w' => e = .returned (.bool true) ∧ ∃ W, Below w.heap.size w W ∧ w' = W.setCell ⟨tb, 0, none⟩ (.int .i64 c) := by
  have x1 := @run_callFunc_extern Tryz.prog 48 _ (fun args => ReflectliteValue.unpack (args.getD 0 (.tuple #[]))) Tryz.func48 (by kernel_rfl) (by kernel_rfl) (by kernel_rfl) (by kernel_rfl)
  have x2 := @run_callFunc_extern Tryz.prog 49 _ (ReflectliteValue.methodAny (ReflectliteValue.valueError "reflectlite.Value.Type" 0) (fun t _ _ _ => ReflectliteType.toType t)) Tryz.func49 (by kernel_rfl) (by kernel_rfl) (by kernel_rfl) (by kernel_rfl)
  have x3 := @run_callFunc_extern Tryz.prog 50 _ (ReflectliteValue.method (ReflectliteValue.valueError "reflectlite.Value.IsNil" 0) ReflectliteValue.isNil) Tryz.func50 (by kernel_rfl) (by kernel_rfl) (by kernel_rfl) (by kernel_rfl)
  have x4 := @run_callFunc_extern Tryz.prog 98 _ (ReflectliteType.abiMethod fun t => do pure (.int .u8 (← Rtype.kind t))) Tryz.func98 (by kernel_rfl) (by kernel_rfl) (by kernel_rfl) (by kernel_rfl)
  have x5 := @run_callFunc_extern Tryz.prog 126 _ (ReflectliteType.method ReflectliteType.elem) Tryz.func126 (by kernel_rfl) (by kernel_rfl) (by kernel_rfl) (by kernel_rfl)
  have x6 := @run_callFunc_extern Tryz.prog 127 _ (ReflectliteType.relation "Implements" ReflectliteType.implements_) Tryz.func127 (by kernel_rfl) (by kernel_rfl) (by kernel_rfl) (by kernel_rfl)
  have x7 := @run_callFunc_extern Tryz.prog 62 _ ReflectliteType.typeOf Tryz.func62 (by kernel_rfl) (by kernel_rfl) (by kernel_rfl) (by kernel_rfl)
  have x8 := @run_callFunc_extern Tryz.prog 124 _ (ReflectliteType.relation "AssignableTo" ReflectliteType.assignableTo) Tryz.func124 (by kernel_rfl) (by kernel_rfl) (by kernel_rfl) (by kernel_rfl)
  have x9 := @run_callFunc_extern Tryz.prog 63 _ (ReflectliteValue.method (ReflectliteValue.valueError "reflectlite.Value.Elem" 0) ReflectliteValue.elem) Tryz.func63 (by kernel_rfl) (by kernel_rfl) (by kernel_rfl) (by kernel_rfl)
  have x10 := @run_callFunc_extern Tryz.prog 64 _ ReflectliteValue.set Tryz.func64 (by kernel_rfl) (by kernel_rfl) (by kernel_rfl) (by kernel_rfl)
  have y1 := ea_valueP
  have y2 := ea_typeP
  have y3 := ea_mKind
  have y4 := ea_mElem
  have y5 := ea_mImpl
  have y6 := ea_mAssign
  have y7 := ea_kindP
  have y8 := ea_kindR
  have y9 := ea_elemP
  have y10 := ea_implR
  have y11 := ea_typeR
  have y12 := ea_typeD
  have y13 := ea_assignR
  have y14 := ea_assignD
  have y15 := ea_valueR
  have hlt : 0 < w.heap.size := World.block_lt_of_cell? w ⟨0, 0, none⟩ hg
  have htl : tb < w.heap.size := World.block_lt_of_cell? w ⟨tb, 0, none⟩ ht0
  obtain ⟨W2, hW2, kV, kB, hb2, hs2⟩ : ∃ W2, (w.alloc (.cells #[.pointer (some ⟨tb, 0, none⟩)] 75)).alloc (.cells #[(Value.pointer (some ⟨1, 75, none⟩)), .pointer (some ⟨w.heap.size, 0, none⟩), .int .u64 150] 88) = W2 ∧ CB W2 w.heap.size [.pointer (some ⟨tb, 0, none⟩)] ∧ CB W2 (w.heap.size + 1) [(Value.pointer (some ⟨1, 75, none⟩)), .pointer (some ⟨w.heap.size, 0, none⟩), .int .u64 150] ∧ Below w.heap.size w W2 ∧ W2.heap.size = w.heap.size + 2 := ⟨_, rfl, cb2 w _ _ _ _⟩
  have kv := kV.1 0 _ rfl
  have n8 := ea_isNil ⟨w.heap.size, 0, none⟩ ⟨tb, 0, none⟩ W2 kv
  have hg2 := (hb2.cell (p := ⟨0, 0, none⟩) hlt).trans hg
  have ht2 := (hb2.cell (p := ⟨tb, 0, none⟩) htl).trans ht0
  have hf2 := (hb2.frozen (p := ⟨tb, 0, none⟩) htl).trans hf0
  obtain ⟨⟨j0, j1, j2⟩, -⟩ := kB.c3
  go_enter Tryz.func42, Tryz.ntmps42
  go_wp2_with fail
  refine (as_in who c tb w.heap.size old _ W2 kv ht2 hf2).mono ?_
  rintro e w' ⟨rfl, W3, hb3, rfl⟩
  have hB3 := up_trans hb2 hb3
  go_wp2_with fail
  go_ret
  exact ⟨rfl, W3, hB3, rfl⟩
end Go.Proofs.YtialglmnfchfmadGreatDoor
