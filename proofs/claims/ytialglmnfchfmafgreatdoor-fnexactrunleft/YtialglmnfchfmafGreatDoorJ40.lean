/- The laws' copies of those that ended; lists of batches: their sizes. -/
import Derived.Test.YtialglmnfchfmafGreatDoorJ38
import Derived.Test.YtialglmnfchfmafGreatDoorLawU2
import Derived.Test.YtialglmnfchfmafGreatDoorJ29
import Derived.Test.YtialglmnfchfmafGreatDoorJ21
namespace Go.Proofs.YtialglmnfchfmafGreatDoor
open Go.RowKit

theorem infoDone : (Tryz.prog.info? 129).map (fun i => (i.zero, i.size, i.bytes)) = some (some (.agg #[.string ⟨#[]⟩, .int .i64 0, .int .i64 0]), 3, 32) := by kernel_rfl
theorem sizeDone : (Tryz.prog.info? 129).map (·.size) = some 3 := by kernel_rfl
theorem run_makeDones (n : Nat) (hn : n ≤ 1048576) : ∃ C : Array Value, C.size = n * 3 ∧ ∀ w, (Instr.makeSlice 52 (.int .i64 (n : Int)) (.int .i64 (n : Int))).run Tryz.prog w = .ok (.slice (some ⟨w.heap.size, 0, none⟩) n n) (w.alloc (.cells C 129)) := by
  obtain ⟨i, hi, hz⟩ := Option.map_eq_some_iff.1 infoDone
  simp only [Prod.mk.injEq] at hz
  obtain ⟨hz, hs, hb⟩ := hz
  refine ⟨madeCells (Value.agg #[.string ⟨#[]⟩, .int .i64 0, .int .i64 0]).cells (n * 3), size_madeCells _ _, fun w => ?_⟩
  have := run_make (P := Tryz.prog) w 52 129 i _ Tryz.underlying52 hi hz .i64 .i64 (n : Int) (n : Int) (by omega) (by omega) (by rw [hb]; omega) (by omega)
  simp only [Int.toNat_natCast, hs] at this
  exact this
/-- They lie there up to place k. -/
def DnR (w : World) (b : Nat) (l : List Done) : Prop := ∀ (i : Nat) (x : Done), l[i]? = some x → w.rangeAt b (i * 3) x.cells
theorem dnR_store {w1 : World} {b k : Nat} {l : List Done} (hk : k < l.length) (h : DnR w1 b (l.take k)) (ht : w1.there b 0 (l.length * 3)) : DnR (w1.setCells b (k * 3) (l[k]).cells) b (l.take (k + 1)) := by
  intro i p hp
  by_cases hi : i < k
  · refine World.rangeAt_setCells_apart (h i p ?_) b (k * 3) _ (.inr (.inl ?_))
    · rw [List.getElem?_take] at hp ⊢; rw [if_pos (by omega)] at hp; rw [if_pos hi]; exact hp
    · simp [Done.cells]; omega
  · have hik : i = k := by
      rw [List.getElem?_take] at hp
      split at hp
      · omega
      · cases hp
    subst hik
    rw [List.getElem?_take, if_pos (by omega), List.getElem?_eq_getElem hk] at hp
    obtain rfl := Option.some.inj hp
    refine World.rangeAt_setCells_same _ _ _ _ (fun j hj => ?_)
    have := ht (i * 3 + j) (by simp [Done.cells] at hj; omega)
    simpa using this
theorem DnR.up {w w' : World} {b B : Nat} {l : List Done} (h : DnR w b l) (hb : Below B w w') (hB : b < B) : DnR w' b l := fun i x hx => range_up (h i x hx) hb hB
set_option maxHeartbeats 1000000 in
theorem toDones_any (l : List Done) (v : Value) (w : World) (h : Dns w v l) (hn : l.length ≤ 1048576) :
    Calls Tryz.prog 50 #[v] w fun e w' => (∃ b, e = .returned (.slice (some ⟨b, 0, none⟩) l.length l.length) ∧ Dns w' (.slice (some ⟨b, 0, none⟩) l.length l.length) l ∧ w.heap.size ≤ b) ∧ Below w.heap.size w w' := by
  have Hz : Hid (∀ x ∈ l, x.nm.size ≤ maxLen) := fun x hx => by
    obtain ⟨i, hi, rfl⟩ := List.getElem_of_mem hx
    obtain ⟨_, _, _, _, hpos⟩ := h
    obtain ⟨b, o, -, hr, -⟩ := hpos (by omega)
    exact (hr i _ (List.getElem?_eq_getElem hi)).2
  obtain ⟨a, c, rfl, hmax, hpos⟩ := h
  have Hmax : Hid (l.length ≤ maxLen) := hmax
  clear hmax
  obtain ⟨C, hC, hmk⟩ := run_makeDones l.length hn
  have HC : Hid (C.size = l.length * 3) := hC
  clear hC
  go_enter Tryz.func50, Tryz.ntmps50
  go_wp2
  go_loopw [4] (fun i w' => ∃ k : Nat, k ≤ l.length ∧ i = .int .i64 k ∧ DnR w' w.heap.size (l.take k) ∧ w'.there w.heap.size 0 (l.length * 3) ∧ w.heap.size < w'.heap.size ∧ Below w.heap.size w w') (fun i _ => l.length - (intOf i).toNat)
  case atStart => exact ⟨0, by omega, rfl, fun i p hp => by simp at hp, by rw [← HC.out]; exact there_alloc _ _ _, by simp, by go_grown⟩
  case round =>
    obtain ⟨k, hk, rfl, hra, hth, hlt, hB⟩ := hrel
    have Hra : Hid (DnR wr w.heap.size (l.take k)) := hra
    have Hth : Hid (wr.there w.heap.size 0 (l.length * 3)) := hth
    clear hra hth
    by_cases hp : k < l.length
    · obtain ⟨b, o, ha, hr, hb⟩ := hpos (by omega)
      subst ha
      obtain ⟨c0, c1, c2⟩ := hr.cells k hp
      obtain ⟨hc, hf⟩ := bcell hB
      have Hst : Hid (∀ w1, Below wr.heap.size wr w1 → DnR (w1.setCells w.heap.size (k * 3) (l[k]).cells) w.heap.size (l.take (k + 1))) := fun w1 hb1 => dnR_store hp (Hra.out.up hb1 hlt) (there_up Hth.out hb1 hlt)
      generalize l[k] = s0 at *
      go_wp2_with fail
      refine (toDone_any s0 _).mono ?_
      rintro e' w1 ⟨rfl, hb1⟩
      clear hc hf c0 c1 c2
      go_wp2_with (refine wpList_store_mid rfl 129 _ _ rfl w.heap.size (k * 3) _ rfl rfl (fun j hj => by
          have := there_up Hth.out hb1 hlt (k * 3 + j) (by simp at hj; omega)
          simpa using this) sizeDone (by simp [Value.oneCell']) ?_)
      go_roundw
      case rel => exact ⟨k + 1, by omega, by go_num, Hst.out w1 hb1, World.there_setCells (there_up Hth.out hb1 hlt) _ _ _, Nat.lt_of_lt_of_le (Nat.lt_of_lt_of_le hlt hb1.size) (size_setCells _ _ _ _), below_setCells _ _ _ _ _ _ (up_trans hB hb1) (Nat.le_refl _)⟩
      case measure => simp [intOf]; omega
    · have HD : Hid (DnR wr w.heap.size l) := by have := Hra.out; rwa [List.take_of_length_le (by omega)] at this
      go_wp2_with fail
      go_ret
      exact ⟨⟨_, rfl, ⟨_, _, rfl, Hmax.out, fun _ => ⟨w.heap.size, 0, rfl, fun i x hx => ⟨by rw [Nat.zero_add]; exact HD.out i x hx, Hz.out x (List.mem_of_getElem? hx)⟩, hlt⟩⟩, Nat.le_refl _⟩, hB⟩
set_option maxHeartbeats 1000000 in
theorem eqDones_any (l : List Done) (va vb : Value) (w : World) (ha : Dns w va l) (hb : Dns w vb l) :
    Calls Tryz.prog 60 #[va, vb] w fun e w' => e = .returned (.bool true) ∧ Below w.heap.size w w' := by
  obtain ⟨a1, k1, rfl, hmax, hp1⟩ := ha
  obtain ⟨a2, k2, rfl, -, hp2⟩ := hb
  unfold maxLen at hmax
  go_enter Tryz.func60, Tryz.ntmps60
  go_wp2
  go_loopw [5] (fun i w' => ∃ k : Nat, k ≤ l.length ∧ i = .int .i64 k ∧ Below w.heap.size w w') (fun i _ => l.length - (intOf i).toNat)
  case atStart => exact ⟨0, by omega, rfl, Below.refl _ _⟩
  case round =>
    obtain ⟨k, hk, rfl, hB⟩ := hrel
    by_cases hp : k < l.length
    · obtain ⟨b1, o1, e1, hr1, hb1⟩ := hp1 (by omega)
      obtain ⟨b2, o2, e2, hr2, hb2⟩ := hp2 (by omega)
      subst e1 e2
      obtain ⟨c0, c1, c2⟩ := hr1.cells k hp
      obtain ⟨d0, d1, d2⟩ := hr2.cells k hp
      obtain ⟨hc, hf⟩ := bcell hB
      generalize l[k] = s0 at *
      go_wp2_with fail
      go_region_with (go_at_call 104; refine (eqDone_any s0 _).mono ?_; rintro e w1 ⟨rfl, hbx⟩)
      all_goals
        have hB1 := up_trans hB.drew hbx
        clear hc hf c0 c1 c2 d0 d1 d2
        go_wp2_with fail
        go_roundw
        case rel => exact ⟨k + 1, by omega, by go_num, hB1⟩
        case measure => simp [intOf]; omega
    · go_wp2_with fail
      go_ret
      exact ⟨rfl, hB⟩
end Go.Proofs.YtialglmnfchfmafGreatDoor

/- The laws' sizes of lists of batches. -/
namespace Go.Proofs.YtialglmnfchfmafGreatDoor
open Go.RowKit

/-- A list of batches as it is handed to a law. -/
def RsAt (w : World) (b o : Nat) (bs : List Rb) : Prop := ∀ (i : Nat) (x : Rb), bs[i]? = some x → ∃ rv sv, w.rangeAt b (o + i * 6) [.string x.nm, rv, sv, .string x.ad, .int .i64 x.si, .int .i64 x.st] ∧ RbSrc w x rv sv
def RsSrc (w : World) (v : Value) (bs : List Rb) : Prop := ∃ a c, v = .slice a bs.length c ∧ bs.length ≤ maxLen ∧ (0 < bs.length → ∃ b o, a = some ⟨b, o, none⟩ ∧ RsAt w b o bs ∧ b < w.heap.size)
theorem RsAt.up {w w' : World} {b o : Nat} {bs : List Rb} (h : RsAt w b o bs) (hb : Below w.heap.size w w') (hB : b < w.heap.size) : RsAt w' b o bs := fun i x hx => by
  obtain ⟨rv, sv, h1, h2⟩ := h i x hx
  exact ⟨rv, sv, range_up h1 hb hB, h2.up hb⟩
theorem RsSrc.up {w w' : World} {v : Value} {bs : List Rb} (h : RsSrc w v bs) (hb : Below w.heap.size w w') : RsSrc w' v bs := by
  obtain ⟨a, c, rfl, h1, h2⟩ := h
  exact ⟨a, c, rfl, h1, fun hp => by obtain ⟨b, o, e, hr, hlt⟩ := h2 hp; exact ⟨b, o, e, hr.up hb hlt, Nat.lt_of_lt_of_le hlt hb.size⟩⟩
theorem RsAt.open {w : World} {b o : Nat} {bs : List Rb} (h : RsAt w b o bs) {k : Nat} (hk : k < bs.length) : ∃ a1 c1 a2 c2, (w.cell? ⟨b, o + k * 6, none⟩ = some (.string (bs[k]).nm) ∧ w.cell? ⟨b, o + k * 6 + 1, none⟩ = some (.slice a1 (bs[k]).ps.length c1) ∧ w.cell? ⟨b, o + k * 6 + 2, none⟩ = some (.slice a2 (bs[k]).sl.length c2) ∧ w.cell? ⟨b, o + k * 6 + 3, none⟩ = some (.string (bs[k]).ad) ∧ w.cell? ⟨b, o + k * 6 + 4, none⟩ = some (.int .i64 (bs[k]).si) ∧ w.cell? ⟨b, o + k * 6 + 5, none⟩ = some (.int .i64 (bs[k]).st)) ∧ RbSrc w bs[k] (.slice a1 (bs[k]).ps.length c1) (.slice a2 (bs[k]).sl.length c2) := by
  obtain ⟨rv, sv, hr, hv⟩ := h k _ (List.getElem?_eq_getElem hk)
  obtain ⟨a1, c1, rfl⟩ := hv.r.shape
  obtain ⟨a2, c2, rfl⟩ := hv.s.shape
  exact ⟨a1, c1, a2, c2, ⟨hr 0 _ rfl, hr 1 _ rfl, hr 2 _ rfl, hr 3 _ rfl, hr 4 _ rfl, hr 5 _ rfl⟩, hv⟩
def RsSmall (bs : List Rb) (k : Nat) : Prop := ∀ (i : Nat) (x : Rb), i < k → bs[i]? = some x → x.ps.length ≤ 1048576 ∧ x.sl.length ≤ 1048576
set_option maxRecDepth 20000 in
set_option maxHeartbeats 2000000 in
theorem szRbs_any (bs : List Rb) (v : Value) (l : Int) (w : World) (hl : 0 ≤ l) (hl' : l ≤ 1048576) (h : RsSrc w v bs) :
    Calls Tryz.prog 41 #[v, .int .i64 l] w
      fun e' w' => (∃ x : Int, e' = .returned (.int .i64 x) ∧ (0 ≤ x → (bs.length : Int) ≤ l ∧ RsSmall bs bs.length) ∧ x ≤ 1048576) ∧ Below w.heap.size w w' := by
  obtain ⟨a, c, rfl, hn, hpos⟩ := h
  unfold maxLen at hn
  by_cases h0 : l - bs.length < 0
  · go_enter Tryz.func41, Tryz.ntmps41
    go_wp2
    go_ret
    exact ⟨⟨_, rfl, by omega, by omega⟩, Below.refl _ _⟩
  have H0 : Hid ((bs.length : Int) ≤ l) := by show _ ≤ _; omega
  go_enter Tryz.func41, Tryz.ntmps41
  go_wp2
  go_loopw [1, 5] (fun x i w' => ∃ (k : Nat) (y : Int), k ≤ bs.length ∧ i = .int .i64 k ∧ x = .int .i64 y ∧ 0 ≤ y ∧ y ≤ 1048576 ∧ RsSmall bs k ∧ Below w.heap.size w w') (fun _ i _ => bs.length - (intOf i).toNat)
  case atStart => exact ⟨0, _, by omega, rfl, rfl, by omega, by omega, fun i x hi => by omega, Below.refl _ _⟩
  case round =>
    obtain ⟨k, y, hk, rfl, rfl, hy, hy', hsm, hB⟩ := hrel
    have Hsm : Hid (RsSmall bs k) := hsm
    clear hsm
    by_cases hp : k < bs.length
    · obtain ⟨b, o, ha, hr, hb⟩ := hpos (by omega)
      subst ha
      obtain ⟨a1, c1, a2, c2, ⟨e0, e1, e2, e3, e4, e5⟩, hv⟩ := (hr.up hB hb).open hp
      have YES : Hid ((bs[k]).ps.length ≤ 1048576 ∧ (bs[k]).sl.length ≤ 1048576 → RsSmall bs (k + 1)) := fun hy => to_step (P := fun _ (x : Rb) => x.ps.length ≤ 1048576 ∧ x.sl.length ≤ 1048576) Hsm.out hp hy
      generalize bs[k] = x0 at *
      clear hr
      go_wp2_with fail
      refine (szRb_any x0 _ _ _ hv _ hy hy').mono ?_
      rintro e' w1 ⟨⟨x, rfl, hx1, hx2⟩, hb1⟩
      have hB1 := up_trans hB hb1
      clear e0 e1 e2 e3 e4 e5
      by_cases hx : x < 0
      · go_wp2_with fail
        go_ret
        exact ⟨⟨_, rfl, by omega, by omega⟩, hB1⟩
      · have HY : Hid (RsSmall bs (k + 1)) := YES.out ⟨(hx1 (by omega)).1, (hx1 (by omega)).2.1⟩
        clear hx1
        go_wp2_with fail
        go_roundw
        case rel => exact ⟨k + 1, x, by omega, by go_num, rfl, by omega, by omega, HY.out, hB1⟩
        case measure => simp [intOf]; omega
    · have HY : Hid (RsSmall bs bs.length) := by
        have := Hsm.out
        rwa [show k = bs.length by omega] at this
      go_wp2_with fail
      go_ret
      exact ⟨⟨_, rfl, fun _ => ⟨H0.out, HY.out⟩, hy'⟩, hB⟩
end Go.Proofs.YtialglmnfchfmafGreatDoor

/- The laws' copies of lists of batches. -/
namespace Go.Proofs.YtialglmnfchfmafGreatDoor
open Go.RowKit

theorem infoRb : (Tryz.prog.info? 32).map (fun i => (i.zero, i.size, i.bytes)) = some (some (.agg #[.string ⟨#[]⟩, .slice none 0 0, .slice none 0 0, .string ⟨#[]⟩, .int .i64 0, .int .i64 0]), 6, 96) := by kernel_rfl
theorem run_makeRbs (n : Nat) (hn : n ≤ 1048576) : ∃ C : Array Value, C.size = n * 6 ∧ ∀ w, (Instr.makeSlice 51 (.int .i64 (n : Int)) (.int .i64 (n : Int))).run Tryz.prog w = .ok (.slice (some ⟨w.heap.size, 0, none⟩) n n) (w.alloc (.cells C 32)) := by
  obtain ⟨i, hi, hz⟩ := Option.map_eq_some_iff.1 infoRb
  simp only [Prod.mk.injEq] at hz
  obtain ⟨hz, hs, hb⟩ := hz
  refine ⟨madeCells (Value.agg #[.string ⟨#[]⟩, .slice none 0 0, .slice none 0 0, .string ⟨#[]⟩, .int .i64 0, .int .i64 0]).cells (n * 6), size_madeCells _ _, fun w => ?_⟩
  have := run_make (P := Tryz.prog) w 51 32 i _ Tryz.underlying51 hi hz .i64 .i64 (n : Int) (n : Int) (by omega) (by omega) (by rw [hb]; omega) (by omega)
  simp only [Int.toNat_natCast, hs] at this
  exact this
def rbCells (x : Rb) (b1 b2 : Nat) : List Value := [.string x.nm, .slice (some ⟨b1, 0, none⟩) x.ps.length x.ps.length, .slice (some ⟨b2, 0, none⟩) x.sl.length x.sl.length, .string x.ad, .int .i64 x.si, .int .i64 x.st]
/-- Batches in a block of their own, whose lists lie behind it. -/
def RsO (w : World) (b : Nat) (bs : List Rb) : Prop := ∀ (i : Nat) (x : Rb), bs[i]? = some x → ∃ b1 b2, w.rangeAt b (i * 6) (rbCells x b1 b2) ∧ RbO w (b + 1) x b1 b2
theorem RsO.up {w w' : World} {b : Nat} {bs : List Rb} (h : RsO w b bs) (hb : Below w.heap.size w w') (hB : b < w.heap.size) : RsO w' b bs := fun i x hx => by
  obtain ⟨b1, b2, h1, h2⟩ := h i x hx
  exact ⟨b1, b2, range_up h1 hb hB, h2.up hb⟩
theorem RbO.setCells {base b1 b2 r : Nat} {x : Rb} (hr : r < base) : ∀ (vs : List Value) (o : Nat) {w : World}, RbO w base x b1 b2 → RbO (w.setCells r o vs) base x b1 b2
  | [], _, _, h => h
  | _ :: vs, o, _, h => RbO.setCells hr vs (o + 1) (h.set hr)
theorem rsO_store {w1 : World} {b k b1 b2 : Nat} {bs : List Rb} (hk : k < bs.length) (h : RsO w1 b (bs.take k)) (ht : w1.there b 0 (bs.length * 6)) (ho : RbO w1 (b + 1) bs[k] b1 b2) : RsO (w1.setCells b (k * 6) (rbCells bs[k] b1 b2)) b (bs.take (k + 1)) := by
  intro i p hp
  by_cases hi : i < k
  · obtain ⟨x1, x2, h1, h2⟩ := h i p (by
      rw [List.getElem?_take] at hp ⊢; rw [if_pos (by omega)] at hp; rw [if_pos hi]; exact hp)
    exact ⟨x1, x2, World.rangeAt_setCells_apart h1 b (k * 6) _ (.inr (.inl (by simp [rbCells]; omega))), RbO.setCells (by omega) _ _ h2⟩
  · have hik : i = k := by
      rw [List.getElem?_take] at hp
      split at hp
      · omega
      · cases hp
    subst hik
    rw [List.getElem?_take, if_pos (by omega), List.getElem?_eq_getElem hk] at hp
    obtain rfl := Option.some.inj hp
    refine ⟨b1, b2, World.rangeAt_setCells_same _ _ _ _ (fun j hj => ?_), RbO.setCells (by omega) _ _ ho⟩
    have := ht (i * 6 + j) (by simp [rbCells] at hj; omega)
    simpa using this
set_option maxRecDepth 20000 in
set_option maxHeartbeats 2000000 in
theorem toRbs_any (bs : List Rb) (v : Value) (w : World) (h : RsSrc w v bs) (hn : bs.length ≤ 1048576) (hsm : RsSmall bs bs.length) :
    Calls Tryz.prog 49 #[v] w fun e w' => (∃ b, e = .returned (.slice (some ⟨b, 0, none⟩) bs.length bs.length) ∧ RsO w' b bs ∧ w.heap.size ≤ b ∧ b < w'.heap.size) ∧ Below w.heap.size w w' := by
  obtain ⟨a, c, rfl, hmax, hpos⟩ := h
  obtain ⟨C, hC, hmk⟩ := run_makeRbs bs.length hn
  have HC : Hid (C.size = bs.length * 6) := hC
  have Hsm : Hid (RsSmall bs bs.length) := hsm
  clear hC hsm
  go_enter Tryz.func49, Tryz.ntmps49
  go_wp2
  go_loopw [4] (fun i w' => ∃ k : Nat, k ≤ bs.length ∧ i = .int .i64 k ∧ RsO w' w.heap.size (bs.take k) ∧ w'.there w.heap.size 0 (bs.length * 6) ∧ w.heap.size < w'.heap.size ∧ Below w.heap.size w w') (fun i _ => bs.length - (intOf i).toNat)
  case atStart => exact ⟨0, by omega, rfl, fun i p hp => by simp at hp, by rw [← HC.out]; exact there_alloc _ _ _, by simp, by go_grown⟩
  case round =>
    obtain ⟨k, hk, rfl, hra, hth, hlt, hB⟩ := hrel
    have Hra : Hid (RsO wr w.heap.size (bs.take k)) := hra
    have Hth : Hid (wr.there w.heap.size 0 (bs.length * 6)) := hth
    clear hra hth
    by_cases hp : k < bs.length
    · obtain ⟨b, o, ha, hr, hb⟩ := hpos (by omega)
      subst ha
      obtain ⟨a1, c1, a2, c2, ⟨e0, e1, e2, e3, e4, e5⟩, hv⟩ := (hr.up hB hb).open hp
      obtain ⟨np, ns⟩ := Hsm.out k _ hp (List.getElem?_eq_getElem hp)
      have Hst : Hid (∀ w1 b1 b2, Below wr.heap.size wr w1 → RbO w1 (w.heap.size + 1) bs[k] b1 b2 → RsO (w1.setCells w.heap.size (k * 6) (rbCells bs[k] b1 b2)) w.heap.size (bs.take (k + 1))) := fun w1 b1 b2 hb1 ho => rsO_store hp (Hra.out.up hb1 hlt) (there_up Hth.out hb1 hlt) ho
      generalize bs[k] = x0 at *
      clear hr
      go_wp2_with fail
      refine (toRb_any x0 _ _ _ hv np ns).mono ?_
      rintro e' w1 ⟨⟨b1, b2, rfl, ho⟩, hb1⟩
      have ho' := ho.low (base' := w.heap.size + 1) (by omega)
      clear e0 e1 e2 e3 e4 e5
      go_wp2_with (refine wpList_store_mid rfl 32 _ _ rfl w.heap.size (k * 6) _ rfl rfl (fun j hj => by
          have := there_up Hth.out hb1 hlt (k * 6 + j) (by simp at hj; omega)
          simpa using this) sizeRb (by simp [Value.oneCell']) ?_)
      go_roundw
      case rel => exact ⟨k + 1, by omega, by go_num, Hst.out w1 b1 b2 hb1 ho', World.there_setCells (there_up Hth.out hb1 hlt) _ _ _, Nat.lt_of_lt_of_le (Nat.lt_of_lt_of_le hlt hb1.size) (size_setCells _ _ _ _), below_setCells _ _ _ _ _ _ (up_trans hB hb1) (Nat.le_refl _)⟩
      case measure => simp [intOf]; omega
    · have HD : Hid (RsO wr w.heap.size bs) := by have := Hra.out; rwa [List.take_of_length_le (by omega)] at this
      go_wp2_with fail
      go_ret
      exact ⟨⟨_, rfl, HD.out, Nat.le_refl _, hlt⟩, hB⟩
end Go.Proofs.YtialglmnfchfmafGreatDoor

/- Books of one's own in memory: what the laws' copies are. -/
namespace Go.Proofs.YtialglmnfchfmafGreatDoor
open Go.RowKit

/-- A list of texts in a block of its own, at or behind a base. -/
def LsO (w : World) (base : Nat) (v : Value) (ss : List ByteArray) : Prop := ∃ b, v = .slice (some ⟨b, 0, none⟩) ss.length ss.length ∧ StrsAt w b 0 ss ∧ w.there b 0 ss.length ∧ base ≤ b ∧ b < w.heap.size ∧ ss.length ≤ maxLen ∧ ∀ s ∈ ss, s.size ≤ maxLen
theorem LsO.ls {w : World} {base : Nat} {v : Value} {ss : List ByteArray} (h : LsO w base v ss) : Ls w v ss := by
  obtain ⟨b, rfl, h1, -, -, h2, h3, h4⟩ := h
  exact ⟨_, _, rfl, h3, h4, fun _ => ⟨b, 0, rfl, h1, h2⟩⟩
theorem LsO.up {w w' : World} {base : Nat} {v : Value} {ss : List ByteArray} (h : LsO w base v ss) (hb : Below w.heap.size w w') : LsO w' base v ss := by
  obtain ⟨b, rfl, h1, ht, h0, h2, h3⟩ := h
  exact ⟨b, rfl, h1.up hb h2, there_up ht hb h2, h0, Nat.lt_of_lt_of_le h2 hb.size, h3⟩
theorem there_kept {w w' : World} {b o n : Nat} {r : Option Nat} (h : w.there b o n) (hg : w.grownBy w' r) (hb : b < w.heap.size) (hne : some b ≠ r) : w'.there b o n := fun j hj => by
  have hk := hg.block b hb hne
  rw [World.cell?_of_block (w := w) (a := ⟨b, o + j, none⟩) hk, World.frozen?_of_block (w := w) (a := ⟨b, o + j, none⟩) hk]; exact h j hj
theorem LsO.kept {w w' : World} {base r : Nat} {v : Value} {ss : List ByteArray} (h : LsO w base v ss) (hg : w.grownBy w' (some r)) (hr : r < base) : LsO w' base v ss := by
  obtain ⟨b, rfl, h1, ht, h0, h2, h3⟩ := h
  exact ⟨b, rfl, fun i s hs => hg.cell (h1 i s hs) (by simp; omega), there_kept ht hg h2 (by simp; omega), h0, Nat.lt_of_lt_of_le h2 hg.size, h3⟩
theorem LsO.low {w : World} {base base' : Nat} {v : Value} {ss : List ByteArray} (h : LsO w base v ss) (hb : base' ≤ base) : LsO w base' v ss := by
  obtain ⟨b, rfl, h1, ht, h0, h2⟩ := h
  exact ⟨b, rfl, h1, ht, by omega, h2⟩
/-- A batch's cells in block b, its lists behind b. -/
def BaO (w : World) (b o : Nat) (x : Ba) : Prop := ∃ hv nv, w.rangeAt b o [.string x.nm, hv, nv] ∧ LsO w (b + 1) hv x.has ∧ LsO w (b + 1) nv x.needs ∧ x.nm.size ≤ maxLen
theorem BaO.up {w w' : World} {b o : Nat} {x : Ba} (h : BaO w b o x) (hb : Below w.heap.size w w') (hlt : b < w.heap.size) : BaO w' b o x := by
  obtain ⟨hv, nv, hr, h1, h2, h3⟩ := h
  exact ⟨hv, nv, fun j v hv => (hb.cell (p := ⟨b, o + j, none⟩) hlt).trans (hr j v hv), h1.up hb, h2.up hb, h3⟩
theorem BaO.at {w : World} {b o : Nat} {x : Ba} (h : BaO w b o x) : BaAt w b o x := by
  obtain ⟨hv, nv, hr, h1, h2, h3⟩ := h
  exact ⟨hv, nv, hr, h1.ls, h2.ls, h3⟩
def BsOAt (w : World) (b : Nat) (bs : List Ba) : Prop := ∀ (i : Nat) (x : Ba), bs[i]? = some x → BaO w b (i * 3) x
theorem BsOAt.up {w w' : World} {b : Nat} {bs : List Ba} (h : BsOAt w b bs) (hb : Below w.heap.size w w') (hlt : b < w.heap.size) : BsOAt w' b bs := fun i x hx => (h i x hx).up hb hlt
theorem bsO_store {w1 : World} {b k : Nat} {bs : List Ba} {hv nv : Value} (hk : k < bs.length) (h : BsOAt w1 b (bs.take k)) (ht : w1.there b 0 (bs.length * 3)) (h1 : LsO w1 (b + 1) hv (bs[k]).has) (h2 : LsO w1 (b + 1) nv (bs[k]).needs) (h3 : (bs[k]).nm.size ≤ maxLen) :
    BsOAt (w1.setCells b (k * 3) [.string (bs[k]).nm, hv, nv]) b (bs.take (k + 1)) := by
  have hg : w1.grownBy (w1.setCells b (k * 3) [.string (bs[k]).nm, hv, nv]) (some b) := grown_copies b _ _ w1 w1 (some b) (World.grownBy.refl' w1) rfl
  intro i p hp
  by_cases hi : i < k
  · obtain ⟨hv', nv', hr, g1, g2, g3⟩ := h i p (by rw [List.getElem?_take] at hp ⊢; rw [if_pos (by omega)] at hp; rw [if_pos hi]; exact hp)
    refine ⟨hv', nv', World.rangeAt_setCells_apart hr b (k * 3) _ (.inr (.inl ?_)), g1.kept hg (by omega), g2.kept hg (by omega), g3⟩
    simp; omega
  · have hik : i = k := by
      rw [List.getElem?_take] at hp
      split at hp
      · omega
      · cases hp
    subst hik
    rw [List.getElem?_take, if_pos (by omega), List.getElem?_eq_getElem hk] at hp
    obtain rfl := Option.some.inj hp
    refine ⟨hv, nv, World.rangeAt_setCells_same _ _ _ _ (fun j hj => ?_), h1.kept hg (by omega), h2.kept hg (by omega), h3⟩
    have := ht (i * 3 + j) (by simp at hj; omega)
    simpa using this
/-- Batches in a block of their own; a book of its own. -/
def BsO (w : World) (base : Nat) (v : Value) (bs : List Ba) : Prop := ∃ b, v = .slice (some ⟨b, 0, none⟩) bs.length bs.length ∧ BsOAt w b bs ∧ w.there b 0 (bs.length * 3) ∧ base ≤ b ∧ b < w.heap.size ∧ bs.length ≤ maxLen
theorem BsO.bs {w : World} {base : Nat} {v : Value} {bs : List Ba} (h : BsO w base v bs) : Bs w v bs := by
  obtain ⟨b, rfl, h1, -, -, h2, h3⟩ := h
  exact ⟨_, _, rfl, h3, fun _ => ⟨b, 0, rfl, fun i x hx => by rw [Nat.zero_add]; exact (h1 i x hx).at, h2⟩⟩
theorem BsO.up {w w' : World} {base : Nat} {v : Value} {bs : List Ba} (h : BsO w base v bs) (hb : Below w.heap.size w w') : BsO w' base v bs := by
  obtain ⟨b, rfl, h1, ht, h0, h2, h3⟩ := h
  exact ⟨b, rfl, h1.up hb h2, there_up ht hb h2, h0, Nat.lt_of_lt_of_le h2 hb.size, h3⟩
def BkO (w : World) (base : Nat) (v : Value) (b : Bk) : Prop := ∃ tv bv mid, v = .agg #[tv, bv] ∧ LsO w base tv b.things ∧ BsO w mid bv b.bs ∧ base ≤ mid ∧ ∀ g, tv.ownBlock = some g → g < mid
theorem BkO.bk {w : World} {base : Nat} {v : Value} {b : Bk} (h : BkO w base v b) : BkV w v b := by
  obtain ⟨tv, bv, mid, rfl, h1, h2, -⟩ := h
  exact ⟨tv, bv, rfl, h1.ls, h2.bs⟩
theorem BkO.up {w w' : World} {base : Nat} {v : Value} {b : Bk} (h : BkO w base v b) (hb : Below w.heap.size w w') : BkO w' base v b := by
  obtain ⟨tv, bv, mid, rfl, h1, h2, r⟩ := h
  exact ⟨tv, bv, mid, rfl, h1.up hb, h2.up hb, r⟩
end Go.Proofs.YtialglmnfchfmafGreatDoor
