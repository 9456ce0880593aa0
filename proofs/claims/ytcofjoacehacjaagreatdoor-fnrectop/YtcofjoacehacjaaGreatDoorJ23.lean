/- RecBound: both sides. -/
import Derived.Test.YtcofjoacehacjaaGreatDoorWfInt
import Derived.Test.YtcofjoacehacjaaGreatDoorWr2
import Derived.Test.YtcofjoacehacjaaGreatDoorWr3
import Derived.Test.YtcofjoacehacjaaGreatDoorJ0
namespace Go.Proofs.YtcofjoacehacjaaGreatDoor
open Go.RowKit

set_option maxHeartbeats 1000000 in
theorem l2Bound_any (ps : List Ph) (b o c : Nat) (hok : recB ps = true) (f : Nat) : ∀ (nm : ByteArray) (w : World), RecAt w b o ps → (atI ps nm < 0 ∨ (ps.length : Int) ≤ atI ps nm + f) →
    Calls Tryz.prog 68 #[.slice (some ⟨b, o, none⟩) ps.length c, .string nm] w fun e w' => e = .returned (.int .i64 (evL feI fpI 0 ps nm)) ∧ w' = w := by
  have h12 : ps.length ≤ 12 := ((recB_iff ps).1 hok).2.1
  have hn : ps.length ≤ 1048576 := by omega
  induction f with
  | zero =>
    intro nm w hr hf
    have hlt := atI_lt ps nm
    have h0 : atI ps nm < 0 := by omega
    have HV : Hid (evL feI fpI 0 ps nm = 0) := by show _ = _; rw [evL_out ps _ _ _ nm h0]; simp [feI]
    go_enter Tryz.func68, Tryz.ntmps68
    go_wp2_with (go_at_call 23; refine (at_any _ _ _ _ _ _ hr hn).mono ?_; rintro e w' ⟨rfl, hw⟩; obtain rfl := hw.symm; clear hw)
    go_ret
    exact ⟨ret_int HV.out.symm, rfl⟩
  | succ f ih =>
    intro nm w hr hf
    have hlt := atI_lt ps nm
    by_cases h0 : atI ps nm < 0
    · have HV : Hid (evL feI fpI 0 ps nm = 0) := by show _ = _; rw [evL_out ps _ _ _ nm h0]; simp [feI]
      go_enter Tryz.func68, Tryz.ntmps68
      go_wp2_with (go_at_call 23; refine (at_any _ _ _ _ _ _ hr hn).mono ?_; rintro e w' ⟨rfl, hw⟩; obtain rfl := hw.symm; clear hw)
      go_ret
      exact ⟨ret_int HV.out.symm, rfl⟩
    · obtain ⟨k, hka⟩ : ∃ k : Nat, atI ps nm = (k : Int) := ⟨(atI ps nm).toNat, by omega⟩
      have hk : k < ps.length := by omega
      obtain ⟨g1, g2⟩ := goes_of hok hk
      have hd := wi_of_recB hok
      have b1 := evI_bd ps hd (ps[k]).t
      have b2 := evI_bd ps hd (ps[k]).e
      have hw := hd ps[k] (by simp)
      have HV : Hid (evL feI fpI 0 ps nm = fpI ps[k] (evL feI fpI 0 ps (ps[k]).t) (evL feI fpI 0 ps (ps[k]).e)) := evL_step hok feI fpI 0 nm hk hka
      have I1 : Hid (∀ w, RecAt w b o ps → Calls Tryz.prog 68 #[.slice (some ⟨b, o, none⟩) ps.length c, .string (ps[k]).t] w fun e w' => e = .returned (.int .i64 (evL feI fpI 0 ps (ps[k]).t)) ∧ w' = w) := by
        show _; intro w hr; exact ih _ w hr (by have := atI_later hok hk _ g1; omega)
      have I2 : Hid (∀ w, RecAt w b o ps → Calls Tryz.prog 68 #[.slice (some ⟨b, o, none⟩) ps.length c, .string (ps[k]).e] w fun e w' => e = .returned (.int .i64 (evL feI fpI 0 ps (ps[k]).e)) ∧ w' = w) := by
        show _; intro w hr; exact ih _ w hr (by have := atI_later hok hk _ g2; omega)
      obtain ⟨c0, c1, c2, c3, c4, c5, c6, c7⟩ := hr.cells k hk
      have HA : Hid (atI ps nm = (k : Int)) := hka
      have H5 : ∀ w, RecAt w b o ps → Calls Tryz.prog 23 #[.slice (some ⟨b, o, none⟩) ps.length c, .string nm] w fun e w' => e = .returned (.int .i64 (k : Int)) ∧ w' = w := fun w hr => by
        rw [← hka]; exact at_any _ _ _ _ _ _ hr hn
      have HH5 : Hid (∀ w, RecAt w b o ps → Calls Tryz.prog 23 #[.slice (some ⟨b, o, none⟩) ps.length c, .string nm] w fun e w' => e = .returned (.int .i64 (k : Int)) ∧ w' = w) := H5
      clear hka hf hlt ih hd H5 h0
      generalize hx : evL feI fpI 0 ps (ps[k]).t = x at *
      generalize hy : evL feI fpI 0 ps (ps[k]).e = y at *
      clear hx hy
      go_enter Tryz.func68, Tryz.ntmps68
      go_wp2_with fail
      refine (HH5.out _ hr).mono ?_
      rintro e w' ⟨rfl, hw⟩; obtain rfl := hw.symm; clear hw
      go_wp2_with fail
      refine (I1.out _ hr).mono ?_
      rintro e w' ⟨rfl, hw⟩; obtain rfl := hw.symm; clear hw
      go_wp2_with fail
      refine (I2.out _ hr).mono ?_
      rintro e w' ⟨rfl, hw⟩; obtain rfl := hw.symm; clear hw
      go_wp2_with fail
      all_goals
        go_ret
        exact ⟨ret_int (by rw [HV.out, fpI]; omega), rfl⟩

/-- What RecBound answers. -/
def boundV (ps : List Ph) (nm : ByteArray) : Int := if recB ps = true then evL feI fpI 0 ps nm else 0

theorem recBound_big (ps : List Ph) (b o c : Nat) (nm : ByteArray) (w : World) (hE : Ends w) (hr : RecAt w b o ps) (hb : b < w.heap.size) (hs : Sized ps) (hcap : ps.length ≤ c) (hc9 : c ≤ 9223372036854775807) :
    Calls Tryz.prog 11 #[.slice (some ⟨b, o, none⟩) ps.length c, .string nm] w fun e w' => e = .returned (.int .i64 (boundV ps nm)) ∧ Below w.heap.size w w' := by
  have HE : Hid (Ends w) := hE
  clear hE
  cases hok : recB ps
  · go_enter Tryz.func11, Tryz.ntmps11
    go_wp2_with (go_at_call 20; refine (recOk_big _ _ _ _ _ HE.out hr hb hs hcap hc9).mono ?_; rintro e w1 ⟨rfl, hb1⟩; (first | (have hB' := up_trans hB hb1; clear hB; have hB := hB'; clear hB') | (have hB := hb1)); clear hb1; (try clear hc hf); obtain ⟨hc, hf⟩ := bcell hB)
    go_ret
    exact ⟨ret_int (by simp [boundV, hok]), hB⟩
  · have h12 : ps.length ≤ 12 := ((recB_iff ps).1 hok).2.1
    have HV : Hid (boundV ps nm = look (fill feI fpI 0 ps) nm 0) := by
      show _ = _
      have hd := dist_drop hok 0
      rw [List.drop_zero] at hd
      simp only [boundV, hok, if_true, fill_look feI fpI 0 ps hd]
    have hlen : (fill feI fpI 0 ps).length ≤ 1048576 := by rw [fill_len]; omega
    go_enter Tryz.func11, Tryz.ntmps11
    go_wp2_with (go_at_call 20; refine (recOk_big _ _ _ _ _ HE.out hr hb hs hcap hc9).mono ?_; rintro e w1 ⟨rfl, hb1⟩; (first | (have hB' := up_trans hB hb1; clear hB; have hB := hB'; clear hB') | (have hB := hb1)); clear hb1; (try clear hc hf); obtain ⟨hc, hf⟩ := bcell hB)
    refine (fillI_any ps _ _ _ _ (HE.out.up hB) (hr.up hB hb) (Nat.lt_of_lt_of_le hb hB.size) hok).mono ?_
    rintro e w2 ⟨⟨g, cap, rfl, hT⟩, hb2⟩
    have hB2 := up_trans hB hb2
    clear hc hf
    go_wp2_with fail
    refine (ofI_any _ _ _ _ _ hT hlen).mono ?_
    rintro e w3 ⟨rfl, hb3⟩
    have hB3 := up_trans hB2 hb3
    go_wp2_with fail
    go_ret
    exact ⟨ret_int HV.out.symm, hB3⟩
theorem recBound_any (ps : List Ph) (b o c : Nat) (nm : ByteArray) (w : World) (hE : Ends w) (hr : RecAt w b o ps) (hb : b < w.heap.size) (hs : Sized ps) (hcap : ps.length ≤ c) (hc9 : c ≤ 1048576) :
    Calls Tryz.prog 11 #[.slice (some ⟨b, o, none⟩) ps.length c, .string nm] w fun e w' => e = .returned (.int .i64 (boundV ps nm)) ∧ Below w.heap.size w w' :=
  recBound_big ps b o c nm w hE hr hb hs hcap (by omega)
end Go.Proofs.YtcofjoacehacjaaGreatDoor

/- Functions that end with a struct in their result's block. -/
namespace Go.Proofs.YtcofjoacehacjaaGreatDoor
open Go.RowKit
/-- A function that ends so, with a struct of three (two; three and a second result) in its result's block, stored whole. -/
theorem end_cb3 {P : Program} {fn : Func} {q : Tmp} {T : TypeId} (h : fn.results = #[.cell q T]) {d : TypeDesc} (hu : P.underlying T = some d) (hd : d.isRow = true) (hi : (P.info? T).map (·.size) = some 3) {R : Ending → World → Prop} {tmps : Array Value} {w : World} {rk : Nat} {y0 y1 y2 x0 x1 x2 : Value}
    (k : CB w rk [y0, y1, y2]) (ht : tmps.getD q undef = .pointer (some ⟨rk, 0, none⟩)) (hR : R (.returned (.agg #[x0, x1, x2])) (((w.setCell ⟨rk, 0, none⟩ x0).setCell ⟨rk, 1, none⟩ x1).setCell ⟨rk, 2, none⟩ x2)) :
    bodyPost P fn R .ret { tmps := tmps, defers := [] } (((w.setCell ⟨rk, 0, none⟩ x0).setCell ⟨rk, 1, none⟩ x1).setCell ⟨rk, 2, none⟩ x2) :=
  bodyPost_ret (ret_cb (cs := [x0, x1, x2]) h hu hd hi ht (k.copy3 x0 x1 x2)) rfl hR
theorem end_cb2 {P : Program} {fn : Func} {q : Tmp} {T : TypeId} (h : fn.results = #[.cell q T]) {d : TypeDesc} (hu : P.underlying T = some d) (hd : d.isRow = true) (hi : (P.info? T).map (·.size) = some 2) {R : Ending → World → Prop} {tmps : Array Value} {w : World} {rk : Nat} {y0 y1 x0 x1 : Value}
    (k : CB w rk [y0, y1]) (ht : tmps.getD q undef = .pointer (some ⟨rk, 0, none⟩)) (hR : R (.returned (.agg #[x0, x1])) ((w.setCell ⟨rk, 0, none⟩ x0).setCell ⟨rk, 1, none⟩ x1)) :
    bodyPost P fn R .ret { tmps := tmps, defers := [] } ((w.setCell ⟨rk, 0, none⟩ x0).setCell ⟨rk, 1, none⟩ x1) :=
  bodyPost_ret (ret_cb (cs := [x0, x1]) h hu hd hi ht (k.copy2 x0 x1)) rfl hR
theorem end_cb3b {P : Program} {fn : Func} {q q2 : Tmp} {T : TypeId} (h : fn.results = #[.cell q T, .tmp q2]) {d : TypeDesc} (hu : P.underlying T = some d) (hd : d.isRow = true) (hi : (P.info? T).map (·.size) = some 3) {R : Ending → World → Prop} {tmps : Array Value} {w : World} {rk : Nat} {y0 y1 y2 x0 x1 x2 v : Value}
    (k : CB w rk [y0, y1, y2]) (ht : tmps.getD q undef = .pointer (some ⟨rk, 0, none⟩)) (hv : tmps.getD q2 undef = v) (hR : R (.returned (.tuple #[.agg #[x0, x1, x2], v])) (((w.setCell ⟨rk, 0, none⟩ x0).setCell ⟨rk, 1, none⟩ x1).setCell ⟨rk, 2, none⟩ x2)) :
    bodyPost P fn R .ret { tmps := tmps, defers := [] } (((w.setCell ⟨rk, 0, none⟩ x0).setCell ⟨rk, 1, none⟩ x1).setCell ⟨rk, 2, none⟩ x2) :=
  bodyPost_ret (ret_cb2 (cs := [x0, x1, x2]) h hu hd hi ht hv (k.copy3 x0 x1 x2)) rfl hR
end Go.Proofs.YtcofjoacehacjaaGreatDoor
