/- The program's text of a recipe. -/
import Derived.Test.YtkfclahdofjhjahDoorWp3a
import Derived.Test.YtkfclahdofjhjahDoorWp3b
import Derived.Test.YtkfclahdofjhjahDoorWp3c
import Derived.Test.YtkfclahdofjhjahDoorWr3
namespace Go.Proofs.YtkfclahdofjhjahDoor
open Go.RowKit

theorem Tabs.kind {w : World} (h : Tabs w) (kn : Nat) (hk : 1 ≤ kn ∧ kn ≤ 5) : w.cell? ⟨1, kn, none⟩ = some (.string (kindS kn)) := by
  rcases (by omega : kn = 1 ∨ kn = 2 ∨ kn = 3 ∨ kn = 4 ∨ kn = 5) with rfl | rfl | rfl | rfl | rfl
  · exact h.k1
  · exact h.k2
  · exact h.k3
  · exact h.k4
  · exact h.k5
theorem isE (b : ByteArray) (h : b = ⟨#[]⟩) : b.toList.isEmpty = true := by rw [h, Go.ByteArray.toList_eq]; rfl
theorem isNE (b : ByteArray) (h : 1 ≤ b.size) : b.toList.isEmpty = false := by
  rw [Go.ByteArray.toList_eq]
  cases hl : b.data.toList with
  | nil =>
    have : b.size = 0 := by show b.data.size = 0; rw [← Array.length_toList, hl]; rfl
    omega
  | cons x r => rfl
theorem words_any (p : Ph) (w : World) (hT : Tabs w) (ho : p.okB = true) :
    Calls Tryd.prog 48 #[.agg #[.string p.nm, .int .i64 p.k, .string p.a, .string p.b, .int .i64 p.n, .int .i64 p.wi, .string p.t, .string p.e]] w fun r w' => (∃ u, r = .returned u ∧ w'.ownsRow w.heap.size 9 1 u (wordsW p).length ((wordsW p).map Value.string)) ∧ Below w.heap.size w w' := by
  obtain ⟨hkk, hw, hkd⟩ := ph_kinds _ ho
  obtain ⟨nm, k, a, b, n, wi, t, e⟩ := p
  simp only at hkk hw hkd ⊢
  obtain ⟨kn, rfl⟩ : ∃ kn : Nat, k = kn := ⟨k.toNat, by omega⟩
  have hks := hT.kind kn (by omega)
  rcases hkd with ⟨hk1, hb1, -, hn⟩ | ⟨hk3, hb3, hn⟩ | ⟨hk4, hb4, hn⟩
  · have e : wordsW ⟨nm, kn, a, b, n, wi, t, e⟩ = [nm, kindS kn, a, b, decS n, wWithin, decS wi, wThen, t, wElse, e] := by
      rw [wordsW, if_pos hk1]; rfl
    rw [e]
    exact words12 nm a b t _ _ kn n wi w hT (by omega) hks (isNE b hb1) hn hw
  · have e : wordsW ⟨nm, kn, a, b, n, wi, t, e⟩ = [nm, kindS kn, a, decS n, wWithin, decS wi, wThen, t, wElse, e] := by
      rw [wordsW, if_neg (by simp only; omega), if_pos hk3]; rfl
    rw [e]
    exact words3 nm a b t _ _ kn n wi w hT (by omega) hks (isE b hb3) hn hw
  · have e : wordsW ⟨nm, kn, a, b, n, wi, t, e⟩ = [nm, kindS kn, a, wWithin, decS wi, wThen, t, wElse, e] := by
      rw [wordsW, if_neg (by simp only; omega), if_neg (by simp only; omega)]; rfl
    rw [e]
    exact words45 nm a b t _ _ kn n wi w hT (by omega) hks (isE b hb4) hn hw

theorem words_len (p : Ph) : 1 ≤ (wordsW p).length ∧ (wordsW p).length ≤ 11 := by
  unfold wordsW tailW; repeat' split
  all_goals simp
theorem join_any (p : Ph) (u : Value) (base : Nat) (w : World) (ho : p.okB = true) (h : w.ownsRow base 9 1 u (wordsW p).length ((wordsW p).map Value.string)) :
    Calls Tryd.prog 47 #[u, .string ⟨#[32]⟩] w fun e w' => (∃ s : ByteArray, e = .returned (.string s) ∧ s.data.toList ++ [10] = lineL p) ∧ Below w.heap.size w w' := by
  obtain ⟨g, c, rfl⟩ := own_ptr2 h (words_len p).1
  have hS := strs_of_own h rfl
  have hl := line_len p ho
  rw [lineL, List.length_append] at hl
  have hcap : (wordsW p).length ≤ c := by
    rcases h.2 with ⟨h0, _⟩ | ⟨g', cap', cur, h', _, _, hc, _⟩
    · cases h0
    · cases h'; exact hc
  refine (Tryd.strings_Join g 0 c (wordsW p) ⟨#[32]⟩ w hS (h.lt g rfl).2 (by have := (words_len p).2; omega) hcap (by show (Lib.join _ [32]).length ≤ _; omega)).mono ?_
  rintro e w' ⟨rfl, hB⟩
  exact ⟨⟨_, rfl, rfl⟩, hB⟩

set_option maxHeartbeats 4000000 in
theorem print_any (ps : List Ph) (b o c : Nat) (w : World) (hE : Ends w) (hT : Tabs w) (hr : RecAt w b o ps) (hb : b < w.heap.size) (hs : Sized ps) (hcap : ps.length ≤ c) (hc9 : c ≤ 1048576) :
    Calls Tryd.prog 14 #[.slice (some ⟨b, o, none⟩) ps.length c] w fun e w' => e = .returned (.string (printS ps)) ∧ Below w.heap.size w w' := by
  cases hok : recB ps
  case false =>
    have Hp : Hid (printS ps = ⟨#[]⟩) := by show _ = _; unfold printS; rw [hok]; rfl
    go_enter Tryd.func14, Tryd.ntmps14
    go_wp2_with (go_at_call 38; refine (recOk_any ps b o c _ hE hr hb hs hcap hc9).mono ?_; rintro e w1 ⟨rfl, hB⟩)
    go_ret
    exact ⟨by rw [Hp.out]; rfl, hB⟩
  have Hp : Hid (printS ps = ofL (textL ps)) := by show _ = _; unfold printS; rw [if_pos hok]
  have Hok : Hid (recB ps = true) := hok
  have HT : Hid (Tabs w) := hT
  clear hT
  go_enter Tryd.func14, Tryd.ntmps14
  go_wp2_with (go_at_call 38; refine (recOk_any ps b o c _ hE hr hb hs hcap hc9).mono ?_; rintro e w1 ⟨rfl, hB1⟩)
  have hI0 := Lib.fresh_isBuilder 76 5 w1
  have hB0 : Below w1.heap.size w1 (w1.alloc (.cells #[.pointer none, .slice none 0 0] 76)) := (Below.refl _ _).alloc (Nat.le_refl _) _
  go_loopw [11] (fun i w' => ∃ k : Nat, k ≤ ps.length ∧ i = .int .i64 k ∧ Lib.IsBuilder 76 5 w1.heap.size w1.heap.size (Lib.byteCells (textL (ps.take k))) w' ∧ Below w1.heap.size w1 w') (fun i _ => ps.length - (intOf i).toNat)
  case atStart => exact ⟨0, by omega, rfl, hI0, hB0⟩
  case round =>
    obtain ⟨k, hk, rfl, hI, hB⟩ := hrel
    have HI : Hid (Lib.IsBuilder 76 5 w1.heap.size w1.heap.size (Lib.byteCells (textL (ps.take k))) wr) := hI
    clear hI hI0 hB0
    have h12 := ((recB_iff ps).1 Hok.out).2.1
    have Hlen : Hid ((textL (ps.take k)).length ≤ 1080) := by
      have : (textL (ps.take k)).length ≤ k * 90 := text_size (s := ofL (textL (ps.take k))) Hok.out hk rfl
      show _ ≤ _; omega
    have hBw := up_trans hB1 hB
    by_cases hp : k < ps.length
    · obtain ⟨c0, c1, c2, c3, c4, c5, c6, c7⟩ := hr.cells k hp
      obtain ⟨hc, hf⟩ := bcell hBw
      have Ho : Hid ((ps[k]).okB = true) := ok_of Hok.out hp
      have Htx : Hid (textL (ps.take (k + 1)) = textL (ps.take k) ++ lineL ps[k]) := textL_take ps k hp
      generalize ps[k] = p at *
      go_wp2_with fail
      refine (words_any p _ (HT.out.up (hBw.alloc hBw.size _)) Ho.out).mono ?_
      rintro r W2 ⟨⟨u, rfl, hown⟩, hB2⟩
      have hI2 := builder_up (builder_up HI.out ((Below.refl _ _).alloc (Nat.le_refl _) _)) hB2
      have hBW2 := up_trans (hB.alloc hB.size _) hB2
      clear hc hf c0 c1 c2 c3 c4 c5 c6 c7 hB2
      go_wp2_with fail
      refine (join_any p u _ W2 Ho.out hown).mono ?_
      rintro r W3 ⟨⟨s, rfl, hs⟩, hB3⟩
      have hI3 := builder_up hI2 hB3
      have hBW3 := up_trans hBW2 hB3
      clear hI2 hBW2 hB3 hown
      have hl := line_len p Ho.out
      have hsz : s.size + 1 ≤ 90 := by
        rw [← hs, List.length_append, Array.length_toList] at hl; exact hl
      go_wp2_with fail
      refine (wString _ _ _ s W3 hI3 (by have := Hlen.out; simp only [Lib.byteCells, List.length_map]; omega) hBW3.size).mono ?_
      rintro r W4 ⟨rfl, hI4, hB4⟩
      have hBW4 := hBW3.trans hB4
      clear hI3 hBW3 hB4
      go_wp2_with fail
      refine (wByte _ _ _ 10 W4 (.inr hI4) (by have := Hlen.out; rw [List.length_append, Lib.strCells_length]; simp only [Lib.byteCells, List.length_map]; omega) hBW4.size).mono ?_
      rintro r W5 ⟨rfl, hI5, hB5⟩
      have hBW5 := hBW4.trans hB5
      have HI5 : Hid (Lib.IsBuilder 76 5 w1.heap.size w1.heap.size (Lib.byteCells (textL (ps.take (k + 1)))) W5) := by
        rw [Htx.out, ← hs]
        refine .inr ?_
        have e : Lib.byteCells (textL (ps.take k) ++ (s.data.toList ++ [10])) = Lib.byteCells (textL (ps.take k)) ++ Lib.strCells s ++ [.int .u8 10] := by
          simp [Lib.byteCells, Lib.strCells]
        rw [e]; exact hI5
      clear hI4 hI5 hB5 hBW4
      go_wp2_with fail
      go_roundw
      case rel => exact ⟨k + 1, by omega, by go_num, HI5.out, hBW5⟩
      case measure => simp [intOf]; omega
    · have Hall : Hid (textL (ps.take k) = textL ps) := textL_all ps k hp
      go_wp2_with fail
      refine (Tryd.Builder_String_any _ _ (textL (ps.take k)) wr HI.out hB.size).mono ?_
      rintro r W2 ⟨rfl, hB2⟩
      have hB3 := hB1.trans ((hB.trans hB2).mono hB1.size)
      go_wp2_with fail
      go_ret
      exact ⟨by rw [Hp.out, ← Hall.out]; rfl, hB3⟩
end Go.Proofs.YtkfclahdofjhjahDoor
