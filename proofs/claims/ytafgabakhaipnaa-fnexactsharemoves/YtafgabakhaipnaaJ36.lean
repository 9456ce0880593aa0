/- From a good run at every shaped start to a row of a call that starts goroutines. -/
import Derived.Conc.LeavingOf
import Derived.Test.YtafgabakhaipnaaJ34
import Derived.Test.YtafgabakhaipnaaJ12
import Derived.Test.YtafgabakhaipnaaJ33
import Derived.Test.YtafgabakhaipnaaJ17
namespace Go.Proofs.Ytafgabakhaipnaa
open Go.Conc

theorem leaving_of {H : Type} {enc : TypeId × Value → H} {C : Checked} {os : Os} {f : FuncId} {fn : Func} {s : ChangeSpec} {conds : List PathCond}
    (own : ownKnob C.prog.godebug = none) (started : os.Started) (hfn : C.prog.funcs[f]? = some fn)
    (witness : ∃ (w : World) (tape : Tape) (i : Input), w.os = os ∧ (w.forCall tape i).Shaped C.prog ∧ i.vars = [] ∧ Input.okWide C.prog (w.forCall tape i) .any w.heap.size f i ∧
      s.pre6 enc C.prog fn conds false (w.forCall tape i).memory i.args ∧ ({} : Assume).holds C.prog (lone (Frame.enter C.prog f i.args .normal) [] (w.forCall tape i)))
    (runs : ∀ (W : World) (base : Nat) (args : Array Value) (ds gs : List (DataW H)) (before : List MemPlace), W.ShapedOpen C.prog →
      (∀ (j : Nat) t v, fn.params[j]? = some t → args[j]? = some v → Value.okWide C.prog W .any base t v) → DataW.Whole enc C.prog fn.params.toList s.vars false W args.toList ds gs before →
      EndsG C.prog (fun v W' => s.post enc C.prog fn false true false false W args v W') (crowd #[G (Frame.enter C.prog f args .normal) []] W none) #[]) :
    ReturnsInLeavingWide {} C os f .any (s.pre6 enc C.prog fn conds false) (s.post enc C.prog fn false true false false) := by
  refine returnsInLeavingWide_of_good own started witness fun w tape i _ hsh _ hok hpre _ => ?_
  obtain ⟨_, _, _, fn', hfn', _, _, _, _, hval⟩ := hok
  obtain rfl : fn' = fn := Option.some.inj (hfn'.symm.trans hfn)
  obtain ⟨⟨ds, gs, before, hw, _⟩, _⟩ := hpre
  obtain ⟨M, last, o, w', t', h1, h2, h3, h4⟩ := runs (w.forCall tape i) w.heap.size i.args ds gs before hsh hval (DataW.Whole.of_heap (by rfl) hw)
  exact ⟨M, last, o, w', t', h1, h2, h3, h4.mono fun v hp => ChangeSpec.post_blind hp⟩

theorem globals_size : Try.prog.globals.size = gN := by kernel_rfl
theorem globals_rows : ((List.range gN).all fun g => (((begin Try.prog (fun _ _ => 0) default).world.heap[g]?).bind Obj.row?).isSome) = true := by kernel_rfl
/-- No package-level variable waits. -/
theorem none_waits {W : World} (h : W.ShapedOpen Try.prog) (b : Nat) (c : Array Value) (t : TypeId) (hb : W.heap[b]? = some (Obj.pending c t)) : gN ≤ b := by
  refine Nat.le_of_not_lt fun hlt => ?_
  have h1 := List.all_eq_true.1 globals_rows b (List.mem_range.2 hlt)
  obtain ⟨⟨zero, e⟩, hr⟩ := Option.isSome_iff_exists.1 h1
  obtain ⟨cs, hc, _⟩ := h.1 b zero e (by rw [globals_size]; exact hlt) hr
  rw [hc] at hb
  cases hb
end Go.Proofs.Ytafgabakhaipnaa

/- The program's table in memory: who can, who leaves (chapter 12). -/
namespace Go.Proofs.Ytafgabakhaipnaa
open Go.RowKit

/-- The table in block tb, its rows in a row of their own behind it. -/
def Tab (w : World) (tb : Nat) (things : List ByteArray) (ts : List Tr) : Prop :=
  ∃ rv, CB w tb [rv, .int .u64 (bitsN things (freeL ts) : Nat)] ∧ w.ownsRow (tb + 1) 71 4 rv ts.length (rowsL things ts)
theorem Tab.up {w w' : World} {tb : Nat} {things : List ByteArray} {ts : List Tr} (h : Tab w tb things ts) (hb : Below w.heap.size w w') : Tab w' tb things ts := by
  obtain ⟨rv, h1, h2⟩ := h
  exact ⟨rv, h1.up hb h1.2.2, own_up h2 hb⟩
theorem Tab.drewN {w : World} {tb n : Nat} {things : List ByteArray} {ts : List Tr} (h : Tab w tb things ts) : Tab (w.drewN n) tb things ts := h
theorem Tab.lt {w : World} {tb : Nat} {things : List ByteArray} {ts : List Tr} (h : Tab w tb things ts) : tb < w.heap.size := by
  obtain ⟨rv, h1, -⟩ := h; exact h1.2.2
/-- A row's four cells. -/
theorem row_cells {w : World} {base g cap : Nat} {things : List ByteArray} {ts : List Tr} (h : w.ownsRow base 71 4 (.slice (some ⟨g, 0, none⟩) ts.length cap) ts.length (rowsL things ts)) {i : Nat} {p : Tr} (hp : ts[i]? = some p) :
    w.cell? ⟨g, i * 4, none⟩ = some (.string p.1.nm) ∧ w.cell? ⟨g, i * 4 + 1, none⟩ = some (.int .u64 (bitsN things (memS p.1.has) : Nat)) ∧ w.cell? ⟨g, i * 4 + 2, none⟩ = some (.int .u64 (bitsN things (memS p.1.needs) : Nat)) ∧ w.cell? ⟨g, i * 4 + 3, none⟩ = some (.bool p.2) := by
  have hi := (List.getElem?_eq_some_iff.1 hp).1
  refine ⟨?_, ?_, ?_, ?_⟩
  · rw [show i * 4 = i * 4 + 0 by omega, h.cellAt (i * 4 + 0) (by omega), rowsL_get things ts i 0 p hp (by omega)]; rfl
  · rw [h.cellAt (i * 4 + 1) (by omega), rowsL_get things ts i 1 p hp (by omega)]; rfl
  · rw [h.cellAt (i * 4 + 2) (by omega), rowsL_get things ts i 2 p hp (by omega)]; rfl
  · rw [h.cellAt (i * 4 + 3) (by omega), rowsL_get things ts i 3 p hp (by omega)]; rfl
theorem andNot_small (a b : Nat) (ha : a < 256) (hb : b < 512) : bits .andNot .u64 (a : Int) (b : Int) = ((a &&& (18446744073709551615 - b) : Nat) : Int) := by
  have := u64_andNot (a : Int) (b : Int) (by omega) (by omega) (by omega) (by omega)
  simpa using this

set_option maxHeartbeats 2000000 in
theorem can_any (tb at' : Nat) (things : List ByteArray) (ts : List Tr) (p : Tr) (w : World) (h : Tab w tb things ts) (h8 : things.length ≤ 8) (hp : ts[at']? = some p) (h5 : ts.length ≤ 5) :
    Calls Try.prog 22 #[.pointer (some ⟨tb, 0, none⟩), .int .i64 at'] w fun e w' => e = .returned (.bool (!p.2 && decide (bitsN things (memS p.1.needs) &&& (18446744073709551615 - (bitsN things (freeL ts) + bitsN things (memS p.1.has))) = 0))) ∧ Below w.heap.size w w' := by
  obtain ⟨rv, hC, hown⟩ := h
  have hi := (List.getElem?_eq_some_iff.1 hp).1
  obtain ⟨g, cap, rfl⟩ := own_ptr2 hown (by omega)
  obtain ⟨r0, r1, r2, r3⟩ := row_cells hown hp
  obtain ⟨t0, t1⟩ := hC.c2'
  have htl := hC.2.2
  have n1 := bitsN_small h8 (memS p.1.has)
  have n2 := bitsN_small h8 (memS p.1.needs)
  have n3 := bitsN_small h8 (freeL ts)
  generalize bitsN things (memS p.1.has) = hb at *
  generalize bitsN things (memS p.1.needs) = nb at *
  generalize bitsN things (freeL ts) = fb at *
  clear hown hC
  obtain ⟨W1, hW1, kX, hB1, hs1⟩ : ∃ W1, w.alloc (.cells #[.string p.1.nm, .int .u64 (hb : Nat), .int .u64 (nb : Nat), .bool p.2] 71) = W1 ∧ CB W1 w.heap.size [.string p.1.nm, .int .u64 (hb : Nat), .int .u64 (nb : Nat), .bool p.2] ∧ Below w.heap.size w W1 ∧ W1.heap.size = w.heap.size + 1 := ⟨_, rfl, cb1 w _ _⟩
  go_enter Try.func22, Try.ntmps22
  go_upto_region 2 with fail
  try rw [hW1]
  clear hW1 r0 r1 r2 r3
  have x1 := kX.1 1 _ rfl
  have x2 := kX.1 2 _ rfl
  have x3 := kX.1 3 _ rfl
  have f1 := (hB1.cell (p := ⟨tb, 1, none⟩) htl).trans t1
  simp only [Nat.zero_add] at x1 x2 x3
  have hadd : IntKind.u64.wrap ((fb : Int) + (hb : Int)) = ((fb + hb : Nat) : Int) := by rw [wrap_small (by omega) (by omega)]; omega
  have hand := andNot_small nb (fb + hb) n2 (by omega)
  cases hgone : p.2
  · rw [hgone] at x3
    go_wp2_with fail
    go_quiet (fail)
    go_wp2_with fail
    go_ret
    refine ⟨ret_bool ?_, below_drewN hB1 _⟩
    rw [hgone, ← Int.natCast_add, hand]
    rw [Bool.eq_iff_iff, beq_iff_eq]
    simp
  · rw [hgone] at x3
    go_wp2_with fail
    go_quiet (fail)
    go_wp2_with fail
    go_ret
    exact ⟨ret_bool (by rw [hgone]; rfl), below_drewN hB1 _⟩

/-- Two rows of different types lie apart; a row that lies apart from what turned stays. -/
theorem own_apart {w : World} {base base' e e' s s' n n' : Nat} {v v' : Value} {xs xs' : List Value} (h : w.ownsRow base e s v n xs) (h' : w.ownsRow base' e' s' v' n' xs') (hne : e ≠ e') : ∀ g, v.ownBlock = some g → some g ≠ v'.ownBlock := fun g hg hg' => by
  rcases h.2 with ⟨rfl, _⟩ | ⟨g1, cap, cur, rfl, _, hh, _⟩
  · simp [Value.ownBlock] at hg
  · rcases h'.2 with ⟨rfl, _⟩ | ⟨g2, cap', cur', rfl, _, hh', _⟩
    · simp [Value.ownBlock] at hg'
    · simp [Value.ownBlock] at hg hg'
      subst hg hg'
      rw [hh] at hh'
      simp at hh'
      exact hne hh'.2
theorem own_keep {w w' : World} {base e s n : Nat} {v : Value} {xs : List Value} {r : Option Nat} (h : w.ownsRow base e s v n xs) (hg : w.grownBy w' r) (hne : ∀ g, v.ownBlock = some g → some g ≠ r) : w'.ownsRow base e s v n xs := by
  refine ⟨h.1, ?_⟩
  rcases h.2 with h0 | ⟨g, cap, cur, hv, hb, hh, q⟩
  · exact .inl h0
  · refine .inr ⟨g, cap, cur, hv, hb, ?_, q⟩
    rw [hg.block g (Array.getElem?_eq_some_iff.1 hh).1 (hne g (by rw [hv]; rfl))]; exact hh
theorem there_row {w : World} {base g cap n : Nat} {xs : List Value} {e size : Nat} (h : w.ownsRow base e size (.slice (some ⟨g, 0, none⟩) n cap) n xs) (k : Nat) : w.frozen? ⟨g, k, none⟩ = false := h.frozenAt k
end Go.Proofs.Ytafgabakhaipnaa
