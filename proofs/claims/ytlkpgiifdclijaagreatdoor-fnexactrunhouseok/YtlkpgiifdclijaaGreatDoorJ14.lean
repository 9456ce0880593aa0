/- The program's RecSlots; both sides tell one list. -/
import Derived.Test.YtlkpgiifdclijaaGreatDoorSr2
import Derived.Test.YtlkpgiifdclijaaGreatDoorJ2
import Derived.Deep.RegionWith
import Derived.Test.YtlkpgiifdclijaaGreatDoorWr3
import Derived.Test.YtlkpgiifdclijaaGreatDoorJ0
import Derived.Test.YtlkpgiifdclijaaGreatDoorJ4
namespace Go.Proofs.YtlkpgiifdclijaaGreatDoor
open Go.RowKit

theorem names_keys (ss : List ByteArray) : namesOf (keys ss) = ss := by
  rw [namesOf, keys, List.map_map]
  have : ((fun l : Key => (⟨l.toArray⟩ : ByteArray)) ∘ fun s : ByteArray => s.toList) = id := by
    funext s
    show (⟨s.toList.toArray⟩ : ByteArray) = s
    rw [Go.ByteArray.toList_eq]
  rw [this, List.map_id]
def slK (ps : List Ph) (nm : ByteArray) : List Key := if recB ps = true then slI ps nm else []
theorem slots_same (ps : List Ph) (nm : ByteArray) : namesOf (slK ps nm) = slotsV ps nm := by
  unfold slK slotsV
  split
  · rw [← slots_keys, names_keys]
  · rfl
theorem ownT_of {w : World} {base : Nat} {u : Value} {ks : List Key} (h : OwnV w base (u, ks)) : OwnT w base u (namesOf ks) := by
  have : (namesOf ks).length = ks.length := by simp [namesOf]
  unfold OwnT; rw [this]; exact h

theorem recSlots_big (ps : List Ph) (b o c : Nat) (nm : ByteArray) (w : World) (hE : Ends w) (hr : RecAt w b o ps) (hb : b < w.heap.size) (hs : Sized ps) (hcap : ps.length ≤ c) (hc9 : c ≤ 9223372036854775807) :
    Calls Tryz.prog 98 #[.slice (some ⟨b, o, none⟩) ps.length c, .string nm] w fun e w' => (∃ u, e = .returned u ∧ OwnT w' w.heap.size u (slotsV ps nm)) ∧ Below w.heap.size w w' := by
  cases hok : recB ps
  · have HV : Hid (slotsV ps nm = []) := by show _ = _; simp [slotsV, hok]
    go_enter Tryz.func98, Tryz.ntmps98
    go_wp2_with fail
    refine (recOk_big ps b o c _ hE hr hb hs hcap hc9).mono ?_
    rintro e w1 ⟨he, hB1⟩
    rw [hok] at he
    subst he
    go_wp2_with fail
    go_ret
    exact ⟨⟨_, rfl, by rw [HV.out]; exact World.ownsRow_nil _ _ _ _⟩, hB1⟩
  · have hd := dist_drop hok 0
    rw [List.drop_zero] at hd
    have h12 : ps.length ≤ 12 := ((recB_iff ps).1 hok).2.1
    have HV : Hid (∀ rs : List (ByteArray × VK), plainR rs = fill feK fpK [] ps → namesOf (look rs nm nilR).2 = slotsV ps nm) := by
      show _; intro rs hpl
      rw [← look_plain, hpl, fill_look _ _ _ _ hd, ← slots_same]
      unfold slK; rw [if_pos hok]; rfl
    clear hd
    go_enter Tryz.func98, Tryz.ntmps98
    go_wp2_with fail
    refine (recOk_big ps b o c _ hE hr hb hs hcap hc9).mono ?_
    rintro e w1 ⟨he, hB1⟩
    rw [hok] at he
    subst he
    go_wp2_with fail
    refine (fillS_any ps b o c _ (hE.up hB1) (hr.up hB1 hb) (Nat.lt_of_lt_of_le hb hB1.size) hok).mono ?_
    rintro e w2 ⟨⟨g, cap, rs, rfl, hpl, hT⟩, hB2⟩
    have hlen : rs.length ≤ 1048576 := by
      have := congrArg List.length hpl
      rw [fill_len] at this
      simp only [plainR, List.length_map] at this
      omega
    have hB12 := up_trans hB1 hB2
    have hnn := HV.out rs hpl
    have Hnn : Hid (namesOf (look rs nm nilR).2 = slotsV ps nm) := hnn
    clear hnn hpl hB2
    go_wp2_with fail
    refine (ofS_any rs w1.heap.size g cap nm _ hT hlen).mono ?_
    rintro e w3 ⟨rfl, hB3⟩
    have hO : OwnT w3 w1.heap.size (look rs nm nilR).1 (namesOf (look rs nm nilR).2) := ownT_of (u := (look rs nm nilR).1) (ks := (look rs nm nilR).2) ((hT.up hB3).look nm)
    have hB13 := up_trans hB12 hB3
    rw [Hnn.out] at hO
    clear hT hB12 hB3
    go_wp2_with fail
    go_ret
    exact ⟨⟨_, rfl, own_low hO hB1.size⟩, hB13⟩
end Go.Proofs.YtlkpgiifdclijaaGreatDoor

/- The program's walk of a name (chapter 11). -/
namespace Go.Proofs.YtlkpgiifdclijaaGreatDoor
open Go.RowKit

theorem shName_any (s : ByteArray) (w : World) (hs : s.size ≤ maxLen) :
    Calls Tryz.prog 56 #[.string s] w fun e w' => e = .returned (.bool (nameB s)) ∧ Below w.heap.size w w' := by
  unfold maxLen at hs
  by_cases h1 : 1 ≤ s.size
  case neg =>
    go_enter Tryz.func56, Tryz.ntmps56
    go_wp2
    go_ret
    exact ⟨ret_bool (by simp [nameB, h1]), Below.refl _ _⟩
  by_cases h2 : s.size ≤ 8
  case neg =>
    go_enter Tryz.func56, Tryz.ntmps56
    go_wp2
    go_ret
    exact ⟨ret_bool (by simp [nameB, h2]), Below.refl _ _⟩
  have hn : Hid (nameB s = allB s.data.toList) := by show nameB s = _; simp [nameB, h1, h2]
  go_enter Tryz.func56, Tryz.ntmps56
  go_wp2_with fail
  go_loopw [4] (fun _ w' => ∃ pos : Nat, w' = w.iter s pos ∧ pos ≤ s.size ∧ allB (s.data.toList.take pos) = true) (fun _ w' => s.size - w'.iterPos w.heap.size)
  case atStart => exact ⟨0, rfl, by omega, rfl⟩
  case round =>
    obtain ⟨pos, rfl, hle, hal⟩ := hrel
    have Hal : Hid (allB (s.data.toList.take pos) = true) := hal
    clear hal
    by_cases hp : pos < s.size
    · have hnx : ∀ ty, (Instr.next (.pointer (some ⟨w.heap.size, 0, none⟩)) true ty).run Tryz.prog (w.iter s pos) = _ := fun ty => run_next_any w s pos ty hp
      by_cases ha : (s[pos]'hp).toNat < 128
      · rw [decode_ascii s pos hp ha] at hnx
        by_cases hb : nbB (s[pos]'hp).toNat = true
        · have Hb : Hid (nbB (s[pos]'hp).toNat = true) := hb
          go_wp2_with (go_at_call 87; refine (rune_any _ _).mono ?_; rintro e w' ⟨rfl, rfl⟩)
          go_roundw
          case rel => exact ⟨pos + 1, rfl, by omega, by rw [allB_take s pos hp, Hal.out, Hb.out]; rfl⟩
          case measure => simp; omega
        · have hb' : nbB (s[pos]'hp).toNat = false := by simpa using hb
          have Hb : Hid (nbB (s[pos]'hp).toNat = false) := hb'
          clear hb
          go_wp2_with (go_at_call 87; refine (rune_any _ _).mono ?_; rintro e w' ⟨rfl, rfl⟩)
          go_ret
          exact ⟨ret_bool (by rw [hn.out, allB_no s pos hp Hb.out]), up_iter _ _ _⟩
      · have hi := decode_high s pos hp (by omega)
        have hb' : nbB (Utf8.decode s pos).1 = false := nbB_high _ hi.1
        have Hb : Hid (nbB (s[pos]'hp).toNat = false) := nbB_high _ (by omega)
        clear hi
        go_wp2_with (go_at_call 87; refine (rune_any _ _).mono ?_; rintro e w' ⟨rfl, rfl⟩)
        go_ret
        exact ⟨ret_bool (by rw [hn.out, allB_no s pos hp Hb.out]), up_iter _ _ _⟩
    · have hnx : ∀ ty, (Instr.next (.pointer (some ⟨w.heap.size, 0, none⟩)) true ty).run Tryz.prog (w.iter s pos) = _ := fun ty => run_next_end w s pos ty hp
      go_wp2
      go_ret
      exact ⟨ret_bool (by rw [hn.out, allB_yes s pos hp Hal.out]), up_iter _ _ _⟩
end Go.Proofs.YtlkpgiifdclijaaGreatDoor

/- Functions that end with a struct in their result's block. -/
namespace Go.Proofs.YtlkpgiifdclijaaGreatDoor
open Go.RowKit
/-- A function that ends so, with a struct of three (two; three and a second result) in its result's block, stored whole. -/
theorem end_cb3 {P : Program} {fn : Func} {q : Tmp} {T : TypeId} (h : fn.results = #[.cell q T]) {d : TypeDesc} (hu : P.underlying T = some d) (hd : d.isRow = true) (hi : (P.info? T).map (·.size) = some 3) {R : Ending → World → Prop} {tmps : Array Value} {w : World} {rk : Nat} {y0 y1 y2 x0 x1 x2 : Value}
    (k : CB w rk [y0, y1, y2]) (ht : tmps.getD q undef = .pointer (some ⟨rk, 0, none⟩)) (hR : R (.returned (.agg #[x0, x1, x2])) (((w.setCell ⟨rk, 0, none⟩ x0).setCell ⟨rk, 1, none⟩ x1).setCell ⟨rk, 2, none⟩ x2)) :
    bodyPost P fn R .ret { tmps := tmps, defers := [] } (((w.setCell ⟨rk, 0, none⟩ x0).setCell ⟨rk, 1, none⟩ x1).setCell ⟨rk, 2, none⟩ x2) :=
  bodyPost_ret (ret_cb (cs := [x0, x1, x2]) h hu hd hi ht (k.copy3 x0 x1 x2)) rfl hR
theorem end_cb2 {P : Program} {fn : Func} {q : Tmp} {T : TypeId} (h : fn.results = #[.cell q T]) {d : TypeDesc} (hu : P.underlying T = some d) (hd : d.isRow = true) (hi : (P.info? T).map (·.size) = some 2) {R : Ending → World → Prop} {tmps : Array Value} {w : World} {rk : Nat} {y0 y1 x0 x1 : Value}
    (k : CB w rk [y0, y1]) (ht : tmps.getD q undef = .pointer (some ⟨rk, 0, none⟩)) (hR : R (.returned (.agg #[x0, x1])) ((w.setCell ⟨rk, 0, none⟩ x0).setCell ⟨rk, 1, none⟩ x1)) :
    bodyPost P fn R .ret { tmps := tmps, defers := [] } ((w.setCell ⟨rk, 0, none⟩ x0).setCell ⟨rk, 1, none⟩ x1) :=
  bodyPost_ret (ret_cb (cs := [x0, x1]) h hu hd hi ht (k.copy2 x0 x1)) rfl hR
theorem end_cb3b {P : Program} {fn : Func} {q q2 : Tmp} {T : TypeId} (h : fn.results = #[.cell q T, .tmp q2]) {d : TypeDesc} (hu : P.underlying T = some d) (hd : d.isRow = true) (hi : (P.info? T).map (·.size) = some 3) {R : Ending → World → Prop} {tmps : Array Value} {w : World} {rk : Nat} {y0 y1 y2 x0 x1 x2 v : Value}
    (k : CB w rk [y0, y1, y2]) (ht : tmps.getD q undef = .pointer (some ⟨rk, 0, none⟩)) (hv : tmps.getD q2 undef = v) (hR : R (.returned (.tuple #[.agg #[x0, x1, x2], v])) (((w.setCell ⟨rk, 0, none⟩ x0).setCell ⟨rk, 1, none⟩ x1).setCell ⟨rk, 2, none⟩ x2)) :
    bodyPost P fn R .ret { tmps := tmps, defers := [] } (((w.setCell ⟨rk, 0, none⟩ x0).setCell ⟨rk, 1, none⟩ x1).setCell ⟨rk, 2, none⟩ x2) :=
  bodyPost_ret (ret_cb2 (cs := [x0, x1, x2]) h hu hd hi ht hv (k.copy3 x0 x1 x2)) rfl hR
end Go.Proofs.YtlkpgiifdclijaaGreatDoor

/- Structs of six cells in blocks of their own. -/
namespace Go.Proofs.YtlkpgiifdclijaaGreatDoor
open Go.RowKit

theorem CB.c6 {w : World} {b : Nat} {x0 x1 x2 x3 x4 x5 : Value} (h : CB w b [x0, x1, x2, x3, x4, x5]) :
    w.cell? ⟨b, 0, none⟩ = some x0 ∧ w.cell? ⟨b, 1, none⟩ = some x1 ∧ w.cell? ⟨b, 2, none⟩ = some x2 ∧ w.cell? ⟨b, 3, none⟩ = some x3 ∧ w.cell? ⟨b, 4, none⟩ = some x4 ∧ w.cell? ⟨b, 5, none⟩ = some x5 :=
  ⟨h.1 0 _ rfl, h.1 1 _ rfl, h.1 2 _ rfl, h.1 3 _ rfl, h.1 4 _ rfl, h.1 5 _ rfl⟩

theorem CB.copy6 {w : World} {b : Nat} {y0 y1 y2 y3 y4 y5 : Value} (h : CB w b [y0, y1, y2, y3, y4, y5]) (x0 x1 x2 x3 x4 x5 : Value) :
    CB ((((((w.setCell ⟨b, 0, none⟩ x0).setCell ⟨b, 1, none⟩ x1).setCell ⟨b, 2, none⟩ x2).setCell ⟨b, 3, none⟩ x3).setCell ⟨b, 4, none⟩ x4).setCell ⟨b, 5, none⟩ x5) b [x0, x1, x2, x3, x4, x5] := h.copy [x0, x1, x2, x3, x4, x5] rfl
theorem CB.f6 {w : World} {b : Nat} {x0 x1 x2 x3 x4 x5 : Value} (h : CB w b [x0, x1, x2, x3, x4, x5]) :
    w.frozen? ⟨b, 0, none⟩ = false ∧ w.frozen? ⟨b, 1, none⟩ = false ∧ w.frozen? ⟨b, 2, none⟩ = false ∧ w.frozen? ⟨b, 3, none⟩ = false ∧ w.frozen? ⟨b, 4, none⟩ = false ∧ w.frozen? ⟨b, 5, none⟩ = false :=
  ⟨(h.2.1 0 (by simp)).2, (h.2.1 1 (by simp)).2, (h.2.1 2 (by simp)).2, (h.2.1 3 (by simp)).2, (h.2.1 4 (by simp)).2, (h.2.1 5 (by simp)).2⟩
theorem end_cb6 {P : Program} {fn : Func} {q : Tmp} {T : TypeId} (h : fn.results = #[.cell q T]) {d : TypeDesc} (hu : P.underlying T = some d) (hd : d.isRow = true) (hi : (P.info? T).map (·.size) = some 6) {R : Ending → World → Prop} {tmps : Array Value} {w : World} {rk : Nat} {y0 y1 y2 y3 y4 y5 x0 x1 x2 x3 x4 x5 : Value}
    (k : CB w rk [y0, y1, y2, y3, y4, y5]) (ht : tmps.getD q undef = .pointer (some ⟨rk, 0, none⟩)) (hR : R (.returned (.agg #[x0, x1, x2, x3, x4, x5])) ((((((w.setCell ⟨rk, 0, none⟩ x0).setCell ⟨rk, 1, none⟩ x1).setCell ⟨rk, 2, none⟩ x2).setCell ⟨rk, 3, none⟩ x3).setCell ⟨rk, 4, none⟩ x4).setCell ⟨rk, 5, none⟩ x5)) :
    bodyPost P fn R .ret { tmps := tmps, defers := [] } ((((((w.setCell ⟨rk, 0, none⟩ x0).setCell ⟨rk, 1, none⟩ x1).setCell ⟨rk, 2, none⟩ x2).setCell ⟨rk, 3, none⟩ x3).setCell ⟨rk, 4, none⟩ x4).setCell ⟨rk, 5, none⟩ x5) :=
  bodyPost_ret (ret_cb (cs := [x0, x1, x2, x3, x4, x5]) h hu hd hi ht (k.copy6 x0 x1 x2 x3 x4 x5)) rfl hR
theorem end_cb6b {P : Program} {fn : Func} {q q2 : Tmp} {T : TypeId} (h : fn.results = #[.cell q T, .tmp q2]) {d : TypeDesc} (hu : P.underlying T = some d) (hd : d.isRow = true) (hi : (P.info? T).map (·.size) = some 6) {R : Ending → World → Prop} {tmps : Array Value} {w : World} {rk : Nat} {y0 y1 y2 y3 y4 y5 x0 x1 x2 x3 x4 x5 v : Value}
    (k : CB w rk [y0, y1, y2, y3, y4, y5]) (ht : tmps.getD q undef = .pointer (some ⟨rk, 0, none⟩)) (hv : tmps.getD q2 undef = v) (hR : R (.returned (.tuple #[.agg #[x0, x1, x2, x3, x4, x5], v])) ((((((w.setCell ⟨rk, 0, none⟩ x0).setCell ⟨rk, 1, none⟩ x1).setCell ⟨rk, 2, none⟩ x2).setCell ⟨rk, 3, none⟩ x3).setCell ⟨rk, 4, none⟩ x4).setCell ⟨rk, 5, none⟩ x5)) :
    bodyPost P fn R .ret { tmps := tmps, defers := [] } ((((((w.setCell ⟨rk, 0, none⟩ x0).setCell ⟨rk, 1, none⟩ x1).setCell ⟨rk, 2, none⟩ x2).setCell ⟨rk, 3, none⟩ x3).setCell ⟨rk, 4, none⟩ x4).setCell ⟨rk, 5, none⟩ x5) :=
  bodyPost_ret (ret_cb2 (cs := [x0, x1, x2, x3, x4, x5]) h hu hd hi ht hv (k.copy6 x0 x1 x2 x3 x4 x5)) rfl hR
theorem below_set6 {B : Nat} {a w : World} {b : Nat} (h : Below B a w) (hb : B ≤ b) (x0 x1 x2 x3 x4 x5 : Value) : Below B a ((((((w.setCell ⟨b, 0, none⟩ x0).setCell ⟨b, 1, none⟩ x1).setCell ⟨b, 2, none⟩ x2).setCell ⟨b, 3, none⟩ x3).setCell ⟨b, 4, none⟩ x4).setCell ⟨b, 5, none⟩ x5) :=
  (((((h.setCell (p := ⟨b, 0, none⟩) hb x0).setCell (p := ⟨b, 1, none⟩) hb x1).setCell (p := ⟨b, 2, none⟩) hb x2).setCell (p := ⟨b, 3, none⟩) hb x3).setCell (p := ⟨b, 4, none⟩) hb x4).setCell (p := ⟨b, 5, none⟩) hb x5
theorem own_set6 {w : World} {base b : Nat} {u x0 x1 x2 x3 x4 x5 : Value} {ss : List ByteArray} (h : OwnT w base u ss) (hb : b < base) : OwnT ((((((w.setCell ⟨b, 0, none⟩ x0).setCell ⟨b, 1, none⟩ x1).setCell ⟨b, 2, none⟩ x2).setCell ⟨b, 3, none⟩ x3).setCell ⟨b, 4, none⟩ x4).setCell ⟨b, 5, none⟩ x5) base u ss :=
  own_grown h (grown_setCell (rb := b) (grown_setCell (rb := b) (grown_setCell (rb := b) (grown_setCell (rb := b) (grown_setCell (rb := b) (grown_setCell (rb := b) (grown_refl w _) _) _) _) _) _) _) hb
end Go.Proofs.YtlkpgiifdclijaaGreatDoor
