/- The walks over the program's table of the instance int. -/
import Derived.Test.YtlkpgiifdclijaaGreatDoorJ4
import Derived.Test.YtlkpgiifdclijaaGreatDoorPt
import Derived.Deep.RegionHeld
import Derived.Test.YtlkpgiifdclijaaGreatDoorJ0
import Derived.Test.YtlkpgiifdclijaaGreatDoorJ7
import Derived.Test.YtlkpgiifdclijaaGreatDoorJ18
import Derived.Test.YtlkpgiifdclijaaGreatDoorWr3
import Derived.Test.YtlkpgiifdclijaaGreatDoorJ30
import Derived.Test.YtlkpgiifdclijaaGreatDoorJ34
namespace Go.Proofs.YtlkpgiifdclijaaGreatDoor
open Go.RowKit

def rowBI : List (ByteArray × Int) → List Value
  | [] => []
  | r :: rest => .string r.1 :: .int .i64 (r.2) :: rowBI rest
theorem rowBI_append (a b : List (ByteArray × Int)) : rowBI (a ++ b) = rowBI a ++ rowBI b := by
  induction a with
  | nil => rfl
  | cons r rest ih => simp [rowBI, ih]
theorem rowBI_length (a : List (ByteArray × Int)) : (rowBI a).length = a.length * 2 := by
  induction a with
  | nil => rfl
  | cons r rest ih => simp [rowBI, ih]; omega
theorem rowBI_at : ∀ (a : List (ByteArray × Int)) (i : Nat) (h : i < a.length), (rowBI a)[i * 2]? = some (.string (a[i]).1) ∧ (rowBI a)[i * 2 + 1]? = some (.int .i64 ((a[i]).2))
  | r :: rest, 0, _ => ⟨rfl, rfl⟩
  | r :: rest, i + 1, h => by
    have := rowBI_at rest i (by simpa using h)
    rw [show (i + 1) * 2 = i * 2 + 1 + 1 by omega]
    simpa [rowBI] using this
/-- The table lies in block g. -/
def TabI (w : World) (g : Nat) (rows : List (ByteArray × Int)) : Prop := w.rangeAt g 0 (rowBI rows) ∧ g < w.heap.size
theorem TabI.up {w w' : World} {g : Nat} {rows : List (ByteArray × Int)} (h : TabI w g rows) (hb : Below w.heap.size w w') : TabI w' g rows :=
  ⟨fun j v hv => by rw [hb.cell (p := ⟨g, 0 + j, none⟩) h.2]; exact h.1 j v hv, Nat.lt_of_lt_of_le h.2 hb.size⟩
theorem TabI.cells {w : World} {g : Nat} {rows : List (ByteArray × Int)} (h : TabI w g rows) (i : Nat) (hi : i < rows.length) : w.cell? ⟨g, i * 2, none⟩ = some (.string (rows[i]).1) ∧ w.cell? ⟨g, i * 2 + 1, none⟩ = some (.int .i64 ((rows[i]).2)) := by
  obtain ⟨h1, h2⟩ := rowBI_at rows i hi
  exact ⟨by simpa using h.1 _ _ h1, by simpa using h.1 _ _ h2⟩
theorem TabI.of_own {w : World} {base e g cap : Nat} {rows : List (ByteArray × Int)} (h : w.ownsRow base e 2 (.slice (some ⟨g, 0, none⟩) rows.length cap) rows.length (rowBI rows)) : TabI w g rows := by
  refine ⟨fun j v hv => ?_, (h.lt g rfl).2⟩
  have hj : j < rows.length * 2 := by rw [← rowBI_length]; exact (List.getElem?_eq_some_iff.1 hv).1
  rw [Nat.zero_add, h.cellAt j hj]; exact hv

theorem ofI_any (rows : List (ByteArray × Int)) (g c : Nat) (nm : ByteArray) (w : World) (hr : TabI w g rows) (hn : rows.length ≤ 1048576) :
    Calls Tryz.prog 109 #[.slice (some ⟨g, 0, none⟩) rows.length c, .string nm] w fun e w' => e = .returned (.int .i64 (look rows nm 0)) ∧ Below w.heap.size w w' := by
  have hg := hr.2
  go_enter Tryz.func109, Tryz.ntmps109
  go_wp2
  go_loopw [10] (fun i w' => ∃ k : Nat, k ≤ rows.length ∧ i = .int .i64 k ∧ noneT rows nm k ∧ Below w.heap.size w w') (fun i _ => rows.length - (intOf i).toNat)
  case atStart => exact ⟨0, by omega, rfl, fun _ _ h => by omega, Below.refl _ _⟩
  case round =>
    obtain ⟨k, hk, rfl, hal, hB⟩ := hrel
    have Hal : Hid (noneT rows nm k) := hal
    clear hal
    by_cases hp : k < rows.length
    · obtain ⟨c0, c1⟩ := hr.cells k hp
      obtain ⟨hc, hf⟩ := bcell hB
      cases hq : ((rows[k]).1.toList == nm.toList)
      · have Hq : Hid (((rows[k]).1.toList == nm.toList) = false) := hq
        go_wp2
        go_roundw
        case rel => exact ⟨k + 1, by omega, by go_num, noneT_succ Hal.out hp Hq.out, hB.alloc hB.size _⟩
        case measure => simp [intOf]; omega
      · have Hq : Hid (look rows nm 0 = (rows[k]).2) := look_hit 0 Hal.out hp hq
        go_wp2
        go_ret
        exact ⟨by show Ending.returned (.int .i64 ((rows[k]).2)) = _; rw [Hq.out], hB.alloc hB.size _⟩
    · have Hq : Hid (look rows nm 0 = 0) := look_miss 0 Hal.out hp
      go_wp2
      go_ret
      exact ⟨by show Ending.returned (.int .i64 (0)) = _; rw [Hq.out], hB⟩
end Go.Proofs.YtlkpgiifdclijaaGreatDoor

/- The program fills its table of the instance int. -/
namespace Go.Proofs.YtlkpgiifdclijaaGreatDoor
open Go.RowKit

def feI (_ : Int) : Int := 0
def fpI (p : Ph) (a b : Int) : Int := p.wi + max a b
theorem evI_bd : ∀ (l : List Ph), (∀ p ∈ l, 1 ≤ p.wi ∧ p.wi ≤ 1000) → ∀ nm, 0 ≤ evL feI fpI 0 l nm ∧ evL feI fpI 0 l nm ≤ 1000 * l.length
  | [], _, nm => by simp [evL, feI]
  | p :: rest, h, nm => by
    have ih := evI_bd rest fun q hq => h q (by simp [hq])
    have hp := h p (by simp)
    have h1 := ih p.t
    have h2 := ih p.e
    have h3 := ih nm
    rw [evL]
    split
    · simp only [fpI, List.length_cons]; omega
    · simp only [List.length_cons]; omega
theorem wi_of_recB {ps : List Ph} (h : recB ps = true) : ∀ p ∈ ps, 1 ≤ p.wi ∧ p.wi ≤ 1000 := by
  obtain ⟨_, _, ha⟩ := (recB_iff ps).1 h
  intro p hp
  obtain ⟨i, hi, rfl⟩ := List.getElem_of_mem hp
  have hs := ha i ps[i] hi (by simp [hi])
  simp only [stepI, Bool.and_eq_true, Ph.okB, phaseB, inB, decide_eq_true_eq] at hs
  exact hs.1.1.1.1.1.1.2

theorem looks_bd {ps : List Ph} (hok : recB ps = true) {m : Nat} (hm : m < ps.length) :
    (0 ≤ look (fill feI fpI 0 (ps.drop (m + 1))) (ps[m]).t 0 ∧ look (fill feI fpI 0 (ps.drop (m + 1))) (ps[m]).t 0 ≤ 12000) ∧ (0 ≤ look (fill feI fpI 0 (ps.drop (m + 1))) (ps[m]).e 0 ∧ look (fill feI fpI 0 (ps.drop (m + 1))) (ps[m]).e 0 ≤ 12000) := by
  have h12 : ps.length ≤ 12 := ((recB_iff ps).1 hok).2.1
  have hw : ∀ p ∈ ps.drop (m + 1), 1 ≤ p.wi ∧ p.wi ≤ 1000 := fun p hp => wi_of_recB hok p (List.mem_of_mem_drop hp)
  have h1 := evI_bd _ hw (ps[m]).t
  have h2 := evI_bd _ hw (ps[m]).e
  rw [fill_look _ _ _ _ (dist_drop hok (m + 1)), fill_look _ _ _ _ (dist_drop hok (m + 1))]
  rw [List.length_drop] at h1 h2
  omega

theorem endBound_any (n : Int) (w : World) : Calls Tryz.prog 107 #[.int .i64 n] w fun e w' => e = .returned (.int .i64 0) ∧ w' = w := by
  go_enter Tryz.func107, Tryz.ntmps107
  go_wp2
  go_ret
  exact ⟨rfl, rfl⟩
theorem boundFrom_any (nm : ByteArray) (k : Int) (a b : ByteArray) (n wi : Int) (t e : ByteArray) (x y : Int) (w : World) (h1 : 1 ≤ wi) (h2 : wi ≤ 1000) (hx : 0 ≤ x) (hx' : x ≤ 12000) (hy : 0 ≤ y) (hy' : y ≤ 12000) :
    Calls Tryz.prog 108 #[.agg #[.string nm, .int .i64 k, .string a, .string b, .int .i64 n, .int .i64 wi, .string t, .string e], .int .i64 x, .int .i64 y] w fun e w' => e = .returned (.int .i64 (wi + max x y)) ∧ Below w.heap.size w w' := by
  go_enter Tryz.func108, Tryz.ntmps108
  go_wp2
  all_goals
    go_ret
    exact ⟨ret_int (by omega), (Below.refl _ _).alloc (Nat.le_refl _) _⟩

theorem infoRowI : (Tryz.prog.info? 196).map (fun i => (i.zero, i.size, i.bytes)) = some (some (.agg #[.string ⟨#[]⟩, .int .i64 0]), 2, 24) := by kernel_rfl

set_option maxHeartbeats 2000000 in
theorem fillI_any (ps : List Ph) (b o c : Nat) (w : World) (hE : Ends w) (hr : RecAt w b o ps) (hb : b < w.heap.size) (hok : recB ps = true) :
    Calls Tryz.prog 106 #[.slice (some ⟨b, o, none⟩) ps.length c, .func (.func 107) #[] #[], .func (.func 108) #[] #[]] w
      fun e w' => (∃ g cap, e = .returned (.slice (some ⟨g, 0, none⟩) (fill feI fpI 0 ps).length cap) ∧ TabI w' g (fill feI fpI 0 ps)) ∧ Below w.heap.size w w' := by
  have HE : Hid (Ends w) := hE
  obtain ⟨g0, g1, g2, _⟩ := hE
  have i0 : ∀ w, (Instr.index 194 (.agg #[.string ⟨#[103, 111, 111, 100]⟩, .string ⟨#[115, 97, 118, 101, 100]⟩, .string ⟨#[115, 99, 114, 97, 112, 112, 101, 100]⟩]) (.int .i64 0)).run Tryz.prog w = .ok (.string ⟨#[103, 111, 111, 100]⟩) w := fun _ => by kernel_rfl
  have i1 : ∀ w, (Instr.index 194 (.agg #[.string ⟨#[103, 111, 111, 100]⟩, .string ⟨#[115, 97, 118, 101, 100]⟩, .string ⟨#[115, 99, 114, 97, 112, 112, 101, 100]⟩]) (.int .i64 1)).run Tryz.prog w = .ok (.string ⟨#[115, 97, 118, 101, 100]⟩) w := fun _ => by kernel_rfl
  have i2 : ∀ w, (Instr.index 194 (.agg #[.string ⟨#[103, 111, 111, 100]⟩, .string ⟨#[115, 97, 118, 101, 100]⟩, .string ⟨#[115, 99, 114, 97, 112, 112, 101, 100]⟩]) (.int .i64 2)).run Tryz.prog w = .ok (.string ⟨#[115, 99, 114, 97, 112, 112, 101, 100]⟩) w := fun _ => by kernel_rfl
  go_enter Tryz.func106, Tryz.ntmps106
  obtain ⟨ii, hi, hz0, hz1, hz2⟩ := info_parts infoRowI
  go_wp2_with fail
  go_loopw [7, 14] (fun v i w' => ∃ (k : Nat) (j : Int), k ≤ 3 ∧ j = k ∧ i = .int .i64 j ∧ w'.ownsRow w.heap.size 196 2 v ((endsT feI).take k).length (rowBI ((endsT feI).take k)) ∧ Below w.heap.size w w') (fun _ i _ => 3 - (intOf i).toNat)
  case atStart => exact ⟨0, 0, by omega, by omega, rfl, World.ownsRow_nil _ _ _ _, Below.refl _ _⟩
  case round =>
    obtain ⟨k, j, hk, hj, rfl, hown, hB⟩ := hrel
    obtain rfl | rfl | rfl | rfl : k = 0 ∨ k = 1 ∨ k = 2 ∨ k = 3 := by omega
    · obtain rfl : j = 0 := by omega
      clear hj
      go_wp2_with (first | (go_at_call 151; refine (recEnd_any _ _ (HE.out.up hB)).mono ?_; rintro e w' ⟨rfl, hw⟩; obtain rfl := hw.symm; clear hw) | (go_at_call 107; refine (endBound_any _ _).mono ?_; rintro e w' ⟨rfl, hw⟩; obtain rfl := hw.symm; clear hw) | (at_builtin; refine wpList_append_own _ rfl _ _ 145 rfl w.heap.size 196 ii _ 2 24 Tryz.underlying145 hi hz0 hz1 hz2 rfl (by decide) _ _ _ rfl (hown.alloc _) ⟨wr.heap.size, 0, none⟩ 1 1 [.string ⟨#[103, 111, 111, 100]⟩, .int .i64 0] rfl rfl (fun j u hj => new2 _ _ _ _ hj) (fun u hu => one2 rfl hu) (by simp [maxLen, endsT]) (by simp [endsT]) (by have := hB.size; simp; omega) ?_))
      intro v' w1 hown' hgrow _
      have hB1 : Below w.heap.size w w1 := (hB.alloc hB.size _).grown hgrow (by have := hB.size; simp; omega) (fun k hk => (hown.lt k hk).1)
      clear hgrow hown hB
      go_wp2_with fail
      go_roundw
      case rel => exact ⟨1, 1, by omega, by omega, rfl, by simpa [endsT, rowBI, feI, good, saved, scrapped] using hown', hB1⟩
      case measure => simp [intOf]
    · obtain rfl : j = 1 := by omega
      clear hj
      go_wp2_with (first | (go_at_call 151; refine (recEnd_any _ _ (HE.out.up hB)).mono ?_; rintro e w' ⟨rfl, hw⟩; obtain rfl := hw.symm; clear hw) | (go_at_call 107; refine (endBound_any _ _).mono ?_; rintro e w' ⟨rfl, hw⟩; obtain rfl := hw.symm; clear hw) | (at_builtin; refine wpList_append_own _ rfl _ _ 145 rfl w.heap.size 196 ii _ 2 24 Tryz.underlying145 hi hz0 hz1 hz2 rfl (by decide) _ _ _ rfl (hown.alloc _) ⟨wr.heap.size, 0, none⟩ 1 1 [.string ⟨#[115, 97, 118, 101, 100]⟩, .int .i64 0] rfl rfl (fun j u hj => new2 _ _ _ _ hj) (fun u hu => one2 rfl hu) (by simp [maxLen, endsT]) (by simp [endsT]) (by have := hB.size; simp; omega) ?_))
      intro v' w1 hown' hgrow _
      have hB1 : Below w.heap.size w w1 := (hB.alloc hB.size _).grown hgrow (by have := hB.size; simp; omega) (fun k hk => (hown.lt k hk).1)
      clear hgrow hown hB
      go_wp2_with fail
      go_roundw
      case rel => exact ⟨2, 2, by omega, by omega, rfl, by simpa [endsT, rowBI, feI, good, saved, scrapped] using hown', hB1⟩
      case measure => simp [intOf]
    · obtain rfl : j = 2 := by omega
      clear hj
      go_wp2_with (first | (go_at_call 151; refine (recEnd_any _ _ (HE.out.up hB)).mono ?_; rintro e w' ⟨rfl, hw⟩; obtain rfl := hw.symm; clear hw) | (go_at_call 107; refine (endBound_any _ _).mono ?_; rintro e w' ⟨rfl, hw⟩; obtain rfl := hw.symm; clear hw) | (at_builtin; refine wpList_append_own _ rfl _ _ 145 rfl w.heap.size 196 ii _ 2 24 Tryz.underlying145 hi hz0 hz1 hz2 rfl (by decide) _ _ _ rfl (hown.alloc _) ⟨wr.heap.size, 0, none⟩ 1 1 [.string ⟨#[115, 99, 114, 97, 112, 112, 101, 100]⟩, .int .i64 0] rfl rfl (fun j u hj => new2 _ _ _ _ hj) (fun u hu => one2 rfl hu) (by simp [maxLen, endsT]) (by simp [endsT]) (by have := hB.size; simp; omega) ?_))
      intro v' w1 hown' hgrow _
      have hB1 : Below w.heap.size w w1 := (hB.alloc hB.size _).grown hgrow (by have := hB.size; simp; omega) (fun k hk => (hown.lt k hk).1)
      clear hgrow hown hB
      go_wp2_with fail
      go_roundw
      case rel => exact ⟨3, 3, by omega, by omega, rfl, by simpa [endsT, rowBI, feI, good, saved, scrapped] using hown', hB1⟩
      case measure => simp [intOf]
    · obtain rfl : j = 3 := by omega
      clear i0 i1 i2 g0 g1 g2 hj
      have h12 : ps.length ≤ 12 := ((recB_iff ps).1 hok).2.1
      go_wp2_with fail
      go_loopw [7, 10] (fun v i w' => ∃ k : Nat, k ≤ ps.length ∧ i = .int .i64 ((k : Int) - 1) ∧ w'.ownsRow w.heap.size 196 2 v (fill feI fpI 0 (ps.drop k)).length (rowBI (fill feI fpI 0 (ps.drop k))) ∧ Below w.heap.size w w') (fun _ i _ => (intOf i + 1).toNat)
      case atStart => exact ⟨ps.length, Nat.le_refl _, rfl, by rw [List.drop_length]; exact hown, hB⟩
      case round =>
        obtain ⟨k, hk2, rfl, hown2, hB2⟩ := hrel
        obtain ⟨g, cap, rfl⟩ := own_ptr hown2 (fill_pos _ _ _ _)
        have hT := TabI.of_own hown2
        cases k with
        | zero =>
          simp only [List.drop_zero] at hT hown2
          go_wp2_with fail
          go_ret
          exact ⟨⟨g, cap, rfl, hT⟩, hB2⟩
        | succ m =>
          have hm : m < ps.length := by omega
          obtain ⟨c0, c1, c2, c3, c4, c5, c6, c7⟩ := hr.cells m hm
          obtain ⟨hc, hf⟩ := bcell hB2
          go_wp2_with fail
          have hS : ∃ W1, W1 = wr.alloc (.cells #[.string (ps[m]).nm, .int .i64 (ps[m]).k, .string (ps[m]).a, .string (ps[m]).b, .int .i64 (ps[m]).n, .int .i64 (ps[m]).wi, .string (ps[m]).t, .string (ps[m]).e] 82) := ⟨_, rfl⟩
          obtain ⟨W1, hW1⟩ := hS
          rw [← hW1]
          have hW2 : wr.heap.size < W1.heap.size := by rw [hW1]; simp
          have hS : Below W1.heap.size W1 W1 ∧ W1.cell? ⟨wr.heap.size, 0, none⟩ = some (.string (ps[m]).nm) ∧ W1.cell? ⟨wr.heap.size, 1, none⟩ = some (.int .i64 (ps[m]).k) ∧ W1.cell? ⟨wr.heap.size, 2, none⟩ = some (.string (ps[m]).a) ∧ W1.cell? ⟨wr.heap.size, 3, none⟩ = some (.string (ps[m]).b) ∧ W1.cell? ⟨wr.heap.size, 4, none⟩ = some (.int .i64 (ps[m]).n) ∧ W1.cell? ⟨wr.heap.size, 5, none⟩ = some (.int .i64 (ps[m]).wi) ∧ W1.cell? ⟨wr.heap.size, 6, none⟩ = some (.string (ps[m]).t) ∧ W1.cell? ⟨wr.heap.size, 7, none⟩ = some (.string (ps[m]).e) := by rw [hW1]; exact ⟨Below.refl _ _, by simp, by simp, by simp, by simp, by simp, by simp, by simp, by simp⟩
          have hup : Below wr.heap.size wr W1 := by rw [hW1]; exact (Below.refl _ _).alloc (Nat.le_refl _) _
          have hT1 := hT.up hup
          have Hown := own_up hown2 hup
          have hB3 := up_trans hB2 hup
          clear hW1 c0 c1 c2 c3 c4 c5 c6 c7 hc hf hT hown2 hup hown
          obtain ⟨hl1, hl2⟩ := looks_bd hok hm
          have hlen : (fill feI fpI 0 (ps.drop (m + 1))).length ≤ 1048576 := by rw [fill_len, List.length_drop]; omega
          have hwi := wi_of_recB hok ps[m] (by simp)
          go_region_held (fun w' => Below W1.heap.size W1 w' ∧ w'.cell? ⟨wr.heap.size, 0, none⟩ = some (.string (ps[m]).nm) ∧ w'.cell? ⟨wr.heap.size, 1, none⟩ = some (.int .i64 (ps[m]).k) ∧ w'.cell? ⟨wr.heap.size, 2, none⟩ = some (.string (ps[m]).a) ∧ w'.cell? ⟨wr.heap.size, 3, none⟩ = some (.string (ps[m]).b) ∧ w'.cell? ⟨wr.heap.size, 4, none⟩ = some (.int .i64 (ps[m]).n) ∧ w'.cell? ⟨wr.heap.size, 5, none⟩ = some (.int .i64 (ps[m]).wi) ∧ w'.cell? ⟨wr.heap.size, 6, none⟩ = some (.string (ps[m]).t) ∧ w'.cell? ⟨wr.heap.size, 7, none⟩ = some (.string (ps[m]).e)) (first | exact held_drew hS | exact held_up hW2 (by assumption) (by assumption))
            (first | (go_at_call 109; refine (ofI_any _ _ _ _ _ (hT1.up (And.left (by assumption))) hlen).mono ?_; rintro e w1 ⟨rfl, hb1⟩) | (go_at_call 108; refine (boundFrom_any _ _ _ _ _ _ _ _ _ _ _ hwi.1 hwi.2 hl1.1 hl1.2 hl2.1 hl2.2).mono ?_; rintro e w1 ⟨rfl, hb1⟩))
          rename_i hHeld
          obtain ⟨hU, e0, -⟩ := hHeld
          have hown3 := own_up Hown hU
          have hB4 := up_trans hB3 hU
          obtain ⟨X, hX⟩ : ∃ X, X = fpI ps[m] (look (fill feI fpI 0 (ps.drop (m + 1))) (ps[m]).t 0) (look (fill feI fpI 0 (ps.drop (m + 1))) (ps[m]).e 0) := ⟨_, rfl⟩
          have hX' : (ps[m]).wi + max (look (fill feI fpI 0 (ps.drop (m + 1))) (ps[m]).t 0) (look (fill feI fpI 0 (ps.drop (m + 1))) (ps[m]).e 0) = X := hX.symm
          rw [hX']
          have HX : Hid (X = fpI ps[m] (look (fill feI fpI 0 (ps.drop (m + 1))) (ps[m]).t 0) (look (fill feI fpI 0 (ps.drop (m + 1))) (ps[m]).e 0)) := hX
          have Hlen : (fill feI fpI 0 (ps.drop (m + 1))).length ≤ 16 := by rw [fill_len, List.length_drop]; omega
          clear hX hX' hS hT1 Hown hl1 hl2 hU hB3
          go_wp2_with (at_builtin; refine wpList_append_own _ rfl _ _ 145 rfl w.heap.size 196 ii _ 2 24 Tryz.underlying145 hi hz0 hz1 hz2 rfl (by decide) _ _ _ rfl (hown3.alloc _) ⟨w1.heap.size, 0, none⟩ 1 1 [.string (ps[m]).nm, .int .i64 X] rfl rfl (fun j u hj => new2 _ _ _ _ hj) (fun u hu => one2 rfl hu) (by simp only [maxLen]; omega) (by omega) (by have := hB4.size; simp; omega) ?_)
          intro v' w2 hown' hgrow _
          have hB5 : Below w.heap.size w w2 := (hB4.alloc hB4.size _).grown hgrow (by have := hB4.size; simp; omega) (fun k hk => (hown3.lt k hk).1)
          clear hgrow hown3 hB4
          go_wp2_with fail
          go_roundw
          case rel => exact ⟨m, by omega, by go_num, by rw [fill_drop _ _ _ hm, ← HX.out, rowBI_append, List.length_append]; exact hown', hB5⟩
          case measure => simp [intOf]
end Go.Proofs.YtlkpgiifdclijaaGreatDoor

/- RecBound: both sides. -/
namespace Go.Proofs.YtlkpgiifdclijaaGreatDoor
open Go.RowKit

set_option maxHeartbeats 1000000 in
theorem l2Bound_any (ps : List Ph) (b o c : Nat) (hok : recB ps = true) (f : Nat) : ∀ (nm : ByteArray) (w : World), RecAt w b o ps → (atI ps nm < 0 ∨ (ps.length : Int) ≤ atI ps nm + f) →
    Calls Tryz.prog 34 #[.slice (some ⟨b, o, none⟩) ps.length c, .string nm] w fun e w' => e = .returned (.int .i64 (evL feI fpI 0 ps nm)) ∧ w' = w := by
  have h12 : ps.length ≤ 12 := ((recB_iff ps).1 hok).2.1
  have hn : ps.length ≤ 1048576 := by omega
  induction f with
  | zero =>
    intro nm w hr hf
    have hlt := atI_lt ps nm
    have h0 : atI ps nm < 0 := by omega
    have HV : Hid (evL feI fpI 0 ps nm = 0) := by show _ = _; rw [evL_out ps _ _ _ nm h0]; simp [feI]
    go_enter Tryz.func34, Tryz.ntmps34
    go_wp2_with (go_at_call 46; refine (at_any _ _ _ _ _ _ hr hn).mono ?_; rintro e w' ⟨rfl, hw⟩; obtain rfl := hw.symm; clear hw)
    go_ret
    exact ⟨ret_int HV.out.symm, rfl⟩
  | succ f ih =>
    intro nm w hr hf
    have hlt := atI_lt ps nm
    by_cases h0 : atI ps nm < 0
    · have HV : Hid (evL feI fpI 0 ps nm = 0) := by show _ = _; rw [evL_out ps _ _ _ nm h0]; simp [feI]
      go_enter Tryz.func34, Tryz.ntmps34
      go_wp2_with (go_at_call 46; refine (at_any _ _ _ _ _ _ hr hn).mono ?_; rintro e w' ⟨rfl, hw⟩; obtain rfl := hw.symm; clear hw)
      go_ret
      exact ⟨ret_int HV.out.symm, rfl⟩
    · obtain ⟨k, hka⟩ : ∃ k : Nat, atI ps nm = (k : Int) := ⟨(atI ps nm).toNat, by omega⟩
      have hk : k < ps.length := by omega
      obtain ⟨g1, g2⟩ := goes_of hok hk
      have hd := wi_of_recB hok
      have b1 := evI_bd ps hd (ps[k]).t
      have b2 := evI_bd ps hd (ps[k]).e
      have hw := hd ps[k] (by simp)
      have HV : Hid (evL feI fpI 0 ps nm = fpI ps[k] (evL feI fpI 0 ps (ps[k]).t) (evL feI fpI 0 ps (ps[k]).e)) := evL_step hok feI fpI 0 nm hk hka
      have I1 : Hid (∀ w, RecAt w b o ps → Calls Tryz.prog 34 #[.slice (some ⟨b, o, none⟩) ps.length c, .string (ps[k]).t] w fun e w' => e = .returned (.int .i64 (evL feI fpI 0 ps (ps[k]).t)) ∧ w' = w) := by
        show _; intro w hr; exact ih _ w hr (by have := atI_later hok hk _ g1; omega)
      have I2 : Hid (∀ w, RecAt w b o ps → Calls Tryz.prog 34 #[.slice (some ⟨b, o, none⟩) ps.length c, .string (ps[k]).e] w fun e w' => e = .returned (.int .i64 (evL feI fpI 0 ps (ps[k]).e)) ∧ w' = w) := by
        show _; intro w hr; exact ih _ w hr (by have := atI_later hok hk _ g2; omega)
      obtain ⟨c0, c1, c2, c3, c4, c5, c6, c7⟩ := hr.cells k hk
      have HA : Hid (atI ps nm = (k : Int)) := hka
      have H5 : ∀ w, RecAt w b o ps → Calls Tryz.prog 46 #[.slice (some ⟨b, o, none⟩) ps.length c, .string nm] w fun e w' => e = .returned (.int .i64 (k : Int)) ∧ w' = w := fun w hr => by
        rw [← hka]; exact at_any _ _ _ _ _ _ hr hn
      have HH5 : Hid (∀ w, RecAt w b o ps → Calls Tryz.prog 46 #[.slice (some ⟨b, o, none⟩) ps.length c, .string nm] w fun e w' => e = .returned (.int .i64 (k : Int)) ∧ w' = w) := H5
      clear hka hf hlt ih hd H5 h0
      generalize hx : evL feI fpI 0 ps (ps[k]).t = x at *
      generalize hy : evL feI fpI 0 ps (ps[k]).e = y at *
      clear hx hy
      go_enter Tryz.func34, Tryz.ntmps34
      go_wp2_with fail
      refine (HH5.out _ hr).mono ?_
      rintro e w' ⟨rfl, hw⟩; obtain rfl := hw.symm; clear hw
      go_wp2_with fail
      refine (I1.out _ hr).mono ?_
      rintro e w' ⟨rfl, hw⟩; obtain rfl := hw.symm; clear hw
      go_wp2_with fail
      refine (I2.out _ hr).mono ?_
      rintro e w' ⟨rfl, hw⟩; obtain rfl := hw.symm; clear hw
      go_wp2_with fail
      all_goals
        go_ret
        exact ⟨ret_int (by rw [HV.out, fpI]; omega), rfl⟩

/-- What RecBound answers. -/
def boundV (ps : List Ph) (nm : ByteArray) : Int := if recB ps = true then evL feI fpI 0 ps nm else 0

theorem recBound_big (ps : List Ph) (b o c : Nat) (nm : ByteArray) (w : World) (hE : Ends w) (hr : RecAt w b o ps) (hb : b < w.heap.size) (hs : Sized ps) (hcap : ps.length ≤ c) (hc9 : c ≤ 9223372036854775807) :
    Calls Tryz.prog 72 #[.slice (some ⟨b, o, none⟩) ps.length c, .string nm] w fun e w' => e = .returned (.int .i64 (boundV ps nm)) ∧ Below w.heap.size w w' := by
  have HE : Hid (Ends w) := hE
  clear hE
  cases hok : recB ps
  · go_enter Tryz.func72, Tryz.ntmps72
    go_wp2_with (go_at_call 91; refine (recOk_big _ _ _ _ _ HE.out hr hb hs hcap hc9).mono ?_; rintro e w1 ⟨rfl, hb1⟩; (first | (have hB' := up_trans hB hb1; clear hB; have hB := hB'; clear hB') | (have hB := hb1)); clear hb1; (try clear hc hf); obtain ⟨hc, hf⟩ := bcell hB)
    go_ret
    exact ⟨ret_int (by simp [boundV, hok]), hB⟩
  · have h12 : ps.length ≤ 12 := ((recB_iff ps).1 hok).2.1
    have HV : Hid (boundV ps nm = look (fill feI fpI 0 ps) nm 0) := by
      show _ = _
      have hd := dist_drop hok 0
      rw [List.drop_zero] at hd
      simp only [boundV, hok, if_true, fill_look feI fpI 0 ps hd]
    have hlen : (fill feI fpI 0 ps).length ≤ 1048576 := by rw [fill_len]; omega
    go_enter Tryz.func72, Tryz.ntmps72
    go_wp2_with (go_at_call 91; refine (recOk_big _ _ _ _ _ HE.out hr hb hs hcap hc9).mono ?_; rintro e w1 ⟨rfl, hb1⟩; (first | (have hB' := up_trans hB hb1; clear hB; have hB := hB'; clear hB') | (have hB := hb1)); clear hb1; (try clear hc hf); obtain ⟨hc, hf⟩ := bcell hB)
    refine (fillI_any ps _ _ _ _ (HE.out.up hB) (hr.up hB hb) (Nat.lt_of_lt_of_le hb hB.size) hok).mono ?_
    rintro e w2 ⟨⟨g, cap, rfl, hT⟩, hb2⟩
    have hB2 := up_trans hB hb2
    clear hc hf
    go_wp2_with fail
    refine (ofI_any _ _ _ _ _ hT hlen).mono ?_
    rintro e w3 ⟨rfl, hb3⟩
    have hB3 := up_trans hB2 hb3
    go_wp2_with fail
    go_ret
    exact ⟨ret_int HV.out.symm, hB3⟩
theorem recBound_any (ps : List Ph) (b o c : Nat) (nm : ByteArray) (w : World) (hE : Ends w) (hr : RecAt w b o ps) (hb : b < w.heap.size) (hs : Sized ps) (hcap : ps.length ≤ c) (hc9 : c ≤ 1048576) :
    Calls Tryz.prog 72 #[.slice (some ⟨b, o, none⟩) ps.length c, .string nm] w fun e w' => e = .returned (.int .i64 (boundV ps nm)) ∧ Below w.heap.size w w' :=
  recBound_big ps b o c nm w hE hr hb hs hcap (by omega)
end Go.Proofs.YtlkpgiifdclijaaGreatDoor

/- The program's RunLeft (chapter 22). -/
namespace Go.Proofs.YtlkpgiifdclijaaGreatDoor
open Go.RowKit

/-- What is left of a batch. -/
def leftB (b : Rb) : Int := boundV b.ps b.ad - (if b.si = -1 then 0 else b.si)
def leftL (bs : List Rb) : Int := bs.foldl (fun s b => s + leftB b) 0
theorem leftL_take (bs : List Rb) (k : Nat) (hk : k < bs.length) : leftL (bs.take (k + 1)) = leftL (bs.take k) + leftB bs[k] := by
  unfold leftL
  rw [List.take_succ_eq_append_getElem hk, List.foldl_append]; rfl
theorem boundV_bd {ps : List Ph} (h : recB ps = true) (nm : ByteArray) : 0 ≤ boundV ps nm ∧ boundV ps nm ≤ 12000 := by
  have h12 : ps.length ≤ 12 := ((recB_iff ps).1 h).2.1
  have := evI_bd ps (wi_of_recB h) nm
  unfold boundV; rw [if_pos h]
  omega
theorem leftB_bd {b : Rb} (h : RbOk b) : -1000 ≤ leftB b ∧ leftB b ≤ 12000 := by
  obtain ⟨-, h2, -, -, h5, h6, h7⟩ := h
  have h1 := boundV_bd h2 b.ad
  have h8 := okB_wi (recB_ok h2 (phOf_mem h5))
  unfold leftB
  split <;> omega
theorem leftL_bd {bs : List Rb} (h : ∀ b ∈ bs, RbOk b) : ∀ k : Nat, -1000 * (k : Int) ≤ leftL (bs.take k) ∧ leftL (bs.take k) ≤ 12000 * (k : Int) := by
  intro k
  induction k with
  | zero => simp [leftL]
  | succ k ih =>
    by_cases hk : k < bs.length
    · rw [leftL_take bs k hk]
      have := leftB_bd (h bs[k] (by simp))
      omega
    · rw [List.take_of_length_le (by omega)] at ih ⊢
      omega
theorem leftOfP_any (x0 : Rb) (p q c g r d : Nat) (w : World) (hE : Ends w) (hv : RbV w x0 (.slice (some ⟨p, q, none⟩) x0.ps.length c) (.slice (some ⟨g, r, none⟩) x0.sl.length d)) (hok : RbOk x0) :
    Calls Tryz.prog 37 #[.agg #[.string x0.nm, .slice (some ⟨p, q, none⟩) x0.ps.length c, .slice (some ⟨g, r, none⟩) x0.sl.length d, .string x0.ad, .int .i64 x0.si, .int .i64 x0.st]] w fun e w' => e = .returned (.int .i64 (leftB x0)) ∧ Below w.heap.size w w' := by
  have hbd := boundV_bd hok.2.1 x0.ad
  have hwi := okB_wi (recB_ok hok.2.1 (phOf_mem hok.2.2.2.2.1))
  have h6 := hok.2.2.2.2.2.1
  have h7 := hok.2.2.2.2.2.2
  have HR : Hid (∀ W, Below w.heap.size w W → Calls Tryz.prog 72 #[.slice (some ⟨p, q, none⟩) x0.ps.length c, .string x0.ad] W fun e w' => e = .returned (.int .i64 (boundV x0.ps x0.ad)) ∧ Below W.heap.size W w') := fun W hB => by
    obtain ⟨b, o, c', e, hr, hb, hcap, hc9⟩ := (hv.up hB).r
    simp only [Value.slice.injEq, Option.some.injEq, Addr.mk.injEq] at e
    obtain ⟨⟨rfl, rfl, -⟩, -, rfl⟩ := e
    exact recBound_big x0.ps p q c x0.ad W (hE.up hB) hr hb hv.zp hcap hc9
  clear hv hE hok
  have hB0 := (Below.refl w.heap.size w).alloc (Nat.le_refl _) (.cells #[.string x0.nm, .slice (some ⟨p, q, none⟩) x0.ps.length c, .slice (some ⟨g, r, none⟩) x0.sl.length d, .string x0.ad, .int .i64 x0.si, .int .i64 x0.st] 51)
  have hC : CB (w.alloc (.cells #[.string x0.nm, .slice (some ⟨p, q, none⟩) x0.ps.length c, .slice (some ⟨g, r, none⟩) x0.sl.length d, .string x0.ad, .int .i64 x0.si, .int .i64 x0.st] 51)) w.heap.size [.string x0.nm, .slice (some ⟨p, q, none⟩) x0.ps.length c, .slice (some ⟨g, r, none⟩) x0.sl.length d, .string x0.ad, .int .i64 x0.si, .int .i64 x0.st] := cb_alloc w _ _
  go_enter Tryz.func37, Tryz.ntmps37
  go_upto_region 1 with fail
  generalize w.alloc (.cells #[.string x0.nm, .slice (some ⟨p, q, none⟩) x0.ps.length c, .slice (some ⟨g, r, none⟩) x0.sl.length d, .string x0.ad, .int .i64 x0.si, .int .i64 x0.st] 51) = W1 at *
  have hlt := hC.2.2
  by_cases hsi : x0.si = -1
  · have HL : Hid (leftB x0 = boundV x0.ps x0.ad) := by show _ = _; unfold leftB; rw [if_pos hsi]; omega
    rw [hsi] at hC
    obtain ⟨d0, d1, d2, d3, d4, d5⟩ := hC.c6
    clear hsi h6 h7
    generalize boundV x0.ps x0.ad = bv at *
    go_wp2_with fail
    refine (going_wait _ _ _ _ _ _ _ _ _ _).mono ?_
    rintro e w2 ⟨rfl, hB2⟩
    clear d0 d1 d2 d3 d4 d5
    obtain ⟨d0, d1, d2, d3, d4, d5⟩ := (hC.up hB2 hlt).c6
    have hB02 := up_trans hB0 hB2
    go_wp2_with fail
    refine (HR.out _ hB02).mono ?_
    rintro e w3 ⟨rfl, hB3⟩
    clear d0 d1 d2 d3 d4 d5
    go_wp2_with fail
    go_ret
    exact ⟨ret_int (by rw [HL.out]), up_trans hB02 hB3⟩
  · have HL : Hid (leftB x0 = boundV x0.ps x0.ad - x0.si) := by show _ = _; unfold leftB; rw [if_neg hsi]
    obtain ⟨d0, d1, d2, d3, d4, d5⟩ := hC.c6
    have Hs : Hid (¬ x0.si = -1) := hsi
    clear hsi
    generalize boundV x0.ps x0.ad = bv at *
    go_wp2_with fail
    refine (going_go _ _ _ _ _ _ _ _ _ _ _ Hs.out).mono ?_
    rintro e w2 ⟨rfl, hB2⟩
    clear d0 d1 d2 d3 d4 d5
    obtain ⟨d0, d1, d2, d3, d4, d5⟩ := (hC.up hB2 hlt).c6
    have hB02 := up_trans hB0 hB2
    go_wp2_with fail
    refine (HR.out _ hB02).mono ?_
    rintro e w3 ⟨rfl, hB3⟩
    clear d0 d1 d2 d3 d4 d5
    go_wp2_with fail
    go_ret
    exact ⟨ret_int (by rw [HL.out]), up_trans hB02 hB3⟩
theorem addP_any (x0 : Rb) (p q c g r d : Nat) (s : Int) (w : World) (hE : Ends w) (hv : RbV w x0 (.slice (some ⟨p, q, none⟩) x0.ps.length c) (.slice (some ⟨g, r, none⟩) x0.sl.length d)) (hok : RbOk x0) (hs : -1000000 ≤ s) (hs' : s ≤ 1000000) :
    Calls Tryz.prog 36 #[.int .i64 s, .agg #[.string x0.nm, .slice (some ⟨p, q, none⟩) x0.ps.length c, .slice (some ⟨g, r, none⟩) x0.sl.length d, .string x0.ad, .int .i64 x0.si, .int .i64 x0.st]] w fun e w' => e = .returned (.int .i64 (s + leftB x0)) ∧ Below w.heap.size w w' := by
  have hbd := leftB_bd hok
  have hB0 := (Below.refl w.heap.size w).alloc (Nat.le_refl _) (.cells #[.string x0.nm, .slice (some ⟨p, q, none⟩) x0.ps.length c, .slice (some ⟨g, r, none⟩) x0.sl.length d, .string x0.ad, .int .i64 x0.si, .int .i64 x0.st] 51)
  have hC : CB (w.alloc (.cells #[.string x0.nm, .slice (some ⟨p, q, none⟩) x0.ps.length c, .slice (some ⟨g, r, none⟩) x0.sl.length d, .string x0.ad, .int .i64 x0.si, .int .i64 x0.st] 51)) w.heap.size [.string x0.nm, .slice (some ⟨p, q, none⟩) x0.ps.length c, .slice (some ⟨g, r, none⟩) x0.sl.length d, .string x0.ad, .int .i64 x0.si, .int .i64 x0.st] := cb_alloc w _ _
  have hcall := leftOfP_any x0 p q c g r d (w.alloc (.cells #[.string x0.nm, .slice (some ⟨p, q, none⟩) x0.ps.length c, .slice (some ⟨g, r, none⟩) x0.sl.length d, .string x0.ad, .int .i64 x0.si, .int .i64 x0.st] 51)) (hE.up hB0) (hv.up hB0) hok
  have Hcall : Hid (Calls Tryz.prog 37 #[.agg #[.string x0.nm, .slice (some ⟨p, q, none⟩) x0.ps.length c, .slice (some ⟨g, r, none⟩) x0.sl.length d, .string x0.ad, .int .i64 x0.si, .int .i64 x0.st]] (w.alloc (.cells #[.string x0.nm, .slice (some ⟨p, q, none⟩) x0.ps.length c, .slice (some ⟨g, r, none⟩) x0.sl.length d, .string x0.ad, .int .i64 x0.si, .int .i64 x0.st] 51)) fun e w' => e = .returned (.int .i64 (leftB x0)) ∧ Below (w.alloc (.cells #[.string x0.nm, .slice (some ⟨p, q, none⟩) x0.ps.length c, .slice (some ⟨g, r, none⟩) x0.sl.length d, .string x0.ad, .int .i64 x0.si, .int .i64 x0.st] 51)).heap.size (w.alloc (.cells #[.string x0.nm, .slice (some ⟨p, q, none⟩) x0.ps.length c, .slice (some ⟨g, r, none⟩) x0.sl.length d, .string x0.ad, .int .i64 x0.si, .int .i64 x0.st] 51)) w') := hcall
  clear hcall hok hv hE
  go_enter Tryz.func36, Tryz.ntmps36
  go_upto_region 1 with fail
  generalize w.alloc (.cells #[.string x0.nm, .slice (some ⟨p, q, none⟩) x0.ps.length c, .slice (some ⟨g, r, none⟩) x0.sl.length d, .string x0.ad, .int .i64 x0.si, .int .i64 x0.st] 51) = W1 at *
  obtain ⟨d0, d1, d2, d3, d4, d5⟩ := hC.c6
  go_wp2_with fail
  refine Hcall.out.mono ?_
  rintro e w2 ⟨rfl, hB2⟩
  clear d0 d1 d2 d3 d4 d5
  go_wp2_with fail
  go_ret
  exact ⟨rfl, up_trans hB0 hB2⟩
set_option maxRecDepth 20000 in
set_option maxHeartbeats 4000000 in
theorem foldP_any (bs : List Rb) (v : Value) (w : World) (hE : Ends w) (h : Rbs w v bs) (hok : ∀ b ∈ bs, RbOk b) (hn : bs.length ≤ 5) :
    Calls Tryz.prog 35 #[v, .int .i64 0, .func (.func 36) #[] #[]] w fun e w' => e = .returned (.int .i64 (leftL bs)) ∧ Below w.heap.size w w' := by
  obtain ⟨a3, c3, rfl, -, hpos⟩ := h
  have HE : Hid (Ends w) := hE
  have HO : Hid (∀ b ∈ bs, RbOk b) := hok
  have HBD : Hid (∀ k, -1000 * ((k : Nat) : Int) ≤ leftL (bs.take k) ∧ leftL (bs.take k) ≤ 12000 * (k : Int)) := leftL_bd hok
  clear hE hok
  go_enter Tryz.func35, Tryz.ntmps35
  go_wp2_with fail
  go_loopw [1, 8, 11] (fun s _ i w' => ∃ k : Nat, k ≤ bs.length ∧ i = .int .i64 k ∧ s = .int .i64 (leftL (bs.take k)) ∧ Below w.heap.size w w') (fun _ _ i _ => bs.length - (intOf i).toNat)
  case atStart => exact ⟨0, by omega, rfl, rfl, Below.refl _ _⟩
  case round =>
    obtain ⟨k, hk, rfl, rfl, hB⟩ := hrel
    by_cases hp : k < bs.length
    · obtain ⟨b, o, ha3, hS, hb⟩ := hpos (by omega)
      subst ha3
      obtain ⟨p, q, c, g, r, d, ⟨e0, e1, e2, e3, e4, e5⟩, hv⟩ := ((hS.at hp).up hB hb).open
      have HL : Hid (leftL (bs.take (k + 1)) = leftL (bs.take k) + leftB bs[k]) := leftL_take bs k hp
      have Hok : Hid (RbOk bs[k]) := HO.out _ (by simp)
      have hbd := HBD.out k
      generalize bs[k] = x0 at *
      generalize leftL (bs.take k) = s at *
      clear hS
      have hB1 := hB.alloc hB.size (.cells #[.string x0.nm, .slice (some ⟨p, q, none⟩) x0.ps.length c, .slice (some ⟨g, r, none⟩) x0.sl.length d, .string x0.ad, .int .i64 x0.si, .int .i64 x0.st] 51)
      have hX : CB (wr.alloc (.cells #[.string x0.nm, .slice (some ⟨p, q, none⟩) x0.ps.length c, .slice (some ⟨g, r, none⟩) x0.sl.length d, .string x0.ad, .int .i64 x0.si, .int .i64 x0.st] 51)) wr.heap.size [.string x0.nm, .slice (some ⟨p, q, none⟩) x0.ps.length c, .slice (some ⟨g, r, none⟩) x0.sl.length d, .string x0.ad, .int .i64 x0.si, .int .i64 x0.st] := cb_alloc wr _ _
      have hv2 := hv.up ((Below.refl wr.heap.size wr).alloc (Nat.le_refl _) (.cells #[.string x0.nm, .slice (some ⟨p, q, none⟩) x0.ps.length c, .slice (some ⟨g, r, none⟩) x0.sl.length d, .string x0.ad, .int .i64 x0.si, .int .i64 x0.st] 51))
      go_upto_region 4 with fail
      generalize wr.alloc (.cells #[.string x0.nm, .slice (some ⟨p, q, none⟩) x0.ps.length c, .slice (some ⟨g, r, none⟩) x0.sl.length d, .string x0.ad, .int .i64 x0.si, .int .i64 x0.st] 51) = W2 at *
      obtain ⟨f0, f1, f2, f3, f4, f5⟩ := hX.c6
      clear e0 e1 e2 e3 e4 e5
      go_wp2_with fail
      refine (addP_any x0 p q c g r d s _ (HE.out.up hB1) hv2 Hok.out (by omega) (by omega)).mono ?_
      rintro e w3 ⟨rfl, hB3⟩
      have hB13 := up_trans hB1 hB3
      clear f0 f1 f2 f3 f4 f5
      rw [← HL.out]
      go_wp2_with fail
      go_roundw
      case rel => exact ⟨k + 1, by omega, by go_num, rfl, hB13⟩
      case measure => simp [intOf]; omega
    · have HK : Hid (leftL (bs.take k) = leftL bs) := by show _ = _; rw [List.take_of_length_le (by omega)]
      go_wp2_with fail
      go_ret
      exact ⟨ret_int HK.out, hB⟩
noncomputable def leftV (h : House) : Int := if pB (HouseOk h) = true then leftL h.bs else 0
theorem HouseOk.few {h : House} (t : HouseOk h) : h.bs.length ≤ 5 := by
  rw [t.2.2.2.1.1]
  exact t.2.2.1.book.2.1
theorem HouseOk.each {h : House} (t : HouseOk h) : ∀ b ∈ h.bs, RbOk b := fun b hb => by
  obtain ⟨i, hi, rfl⟩ := List.getElem_of_mem hb
  exact (t.2.2.2.2.1 i _ hi (List.getElem?_eq_getElem hi)).1
set_option maxRecDepth 20000 in
set_option maxHeartbeats 4000000 in
theorem leftP_any (h : House) (tv bv xv dv : Value) (w : World) (hE : Ends w) (H : HV w h tv bv xv dv) :
    Calls Tryz.prog 11 #[.agg #[.int .i64 h.now, .int .i64 h.last, tv, bv, xv, dv]] w fun e w' => e = .returned (.int .i64 (leftV h)) ∧ Below w.heap.size w w' := by
  have hcall := fun W (hB : Below w.heap.size w W) => houseOkP_any h tv bv xv dv W (hE.up hB) (H.up hB)
  obtain ⟨a1, c1, a2, c2, a3, c3, a4, c4, rfl, rfl, rfl, rfl⟩ := H.shapes
  have HH : Hid (∀ W, Below w.heap.size w W → Calls Tryz.prog 8 #[.agg #[.int .i64 h.now, .int .i64 h.last, .slice a1 h.sh.things.length c1, .slice a2 h.sh.bs.length c2, .slice a3 h.bs.length c3, .slice a4 h.ds.length c4]] W fun e w' => e = .returned (.bool (pB (HouseOk h))) ∧ Below W.heap.size W w') := hcall
  have HE : Hid (Ends w) := hE
  have HX := H.x
  clear hcall hE H
  have hB0 := (Below.refl w.heap.size w).alloc (Nat.le_refl _) (.cells #[.int .i64 h.now, .int .i64 h.last, .slice a1 h.sh.things.length c1, .slice a2 h.sh.bs.length c2, .slice a3 h.bs.length c3, .slice a4 h.ds.length c4] 38)
  have hC : CB (w.alloc (.cells #[.int .i64 h.now, .int .i64 h.last, .slice a1 h.sh.things.length c1, .slice a2 h.sh.bs.length c2, .slice a3 h.bs.length c3, .slice a4 h.ds.length c4] 38)) w.heap.size [.int .i64 h.now, .int .i64 h.last, .slice a1 h.sh.things.length c1, .slice a2 h.sh.bs.length c2, .slice a3 h.bs.length c3, .slice a4 h.ds.length c4] := cb_alloc w _ _
  go_enter Tryz.func11, Tryz.ntmps11
  go_upto_region 1 with fail
  generalize w.alloc (.cells #[.int .i64 h.now, .int .i64 h.last, .slice a1 h.sh.things.length c1, .slice a2 h.sh.bs.length c2, .slice a3 h.bs.length c3, .slice a4 h.ds.length c4] 38) = W1 at *
  have hlt := hC.2.2
  obtain ⟨d0, d1, d2, d3, d4, d5⟩ := hC.c6
  go_wp2_with fail
  refine (HH.out _ hB0).mono ?_
  rintro e w2 ⟨rfl, hB2⟩
  have hB02 := up_trans hB0 hB2
  clear d0 d1 d2 d3 d4 d5
  obtain ⟨d0, d1, d2, d3, d4, d5⟩ := (hC.up hB2 hlt).c6
  cases hq : pB (HouseOk h)
  · have HL : Hid (leftV h = 0) := by show _ = _; unfold leftV; rw [hq]; rfl
    go_wp2_with fail
    go_ret
    exact ⟨ret_int HL.out.symm, hB02⟩
  · have HL : Hid (leftV h = leftL h.bs) := by show _ = _; unfold leftV; rw [if_pos hq]
    have hh := pB_iff.1 hq
    go_wp2_with fail
    refine (foldP_any h.bs _ _ (HE.out.up hB02) (HX.up hB02) hh.each hh.few).mono ?_
    rintro e w3 ⟨rfl, hB3⟩
    clear d0 d1 d2 d3 d4 d5
    go_wp2_with fail
    go_ret
    exact ⟨ret_int HL.out.symm, up_trans hB02 hB3⟩
end Go.Proofs.YtlkpgiifdclijaaGreatDoor

/- The specification's RunLeft (chapter 22). -/
namespace Go.Proofs.YtlkpgiifdclijaaGreatDoor
open Go.RowKit

set_option maxRecDepth 20000 in
set_option maxHeartbeats 4000000 in
theorem leftS_any (h : House) (tv bv xv dv : Value) (w : World) (H : HV w h tv bv xv dv) :
    Calls Tryz.prog 10 #[.agg #[.int .i64 h.now, .int .i64 h.last, tv, bv, xv, dv]] w fun e w' => e = .returned (.int .i64 (leftV h)) ∧ Below w.heap.size w w' := by
  have hcall := fun W (hB : Below w.heap.size w W) => houseOkS_any h tv bv xv dv W (H.up hB)
  obtain ⟨a1, c1, a2, c2, a3, c3, a4, c4, rfl, rfl, rfl, rfl⟩ := H.shapes
  obtain ⟨hmax, hpos⟩ := H.x.inv rfl
  unfold maxLen at hmax
  have HH : Hid (∀ W, Below w.heap.size w W → Calls Tryz.prog 6 #[.agg #[.int .i64 h.now, .int .i64 h.last, .slice a1 h.sh.things.length c1, .slice a2 h.sh.bs.length c2, .slice a3 h.bs.length c3, .slice a4 h.ds.length c4]] W fun e w' => e = .returned (.bool (pB (HouseOk h))) ∧ Below W.heap.size W w') := hcall
  clear hcall H
  have hB0 := (Below.refl w.heap.size w).alloc (Nat.le_refl _) (.cells #[.int .i64 h.now, .int .i64 h.last, .slice a1 h.sh.things.length c1, .slice a2 h.sh.bs.length c2, .slice a3 h.bs.length c3, .slice a4 h.ds.length c4] 38)
  have hC : CB (w.alloc (.cells #[.int .i64 h.now, .int .i64 h.last, .slice a1 h.sh.things.length c1, .slice a2 h.sh.bs.length c2, .slice a3 h.bs.length c3, .slice a4 h.ds.length c4] 38)) w.heap.size [.int .i64 h.now, .int .i64 h.last, .slice a1 h.sh.things.length c1, .slice a2 h.sh.bs.length c2, .slice a3 h.bs.length c3, .slice a4 h.ds.length c4] := cb_alloc w _ _
  go_enter Tryz.func10, Tryz.ntmps10
  go_upto_region 1 with fail
  generalize w.alloc (.cells #[.int .i64 h.now, .int .i64 h.last, .slice a1 h.sh.things.length c1, .slice a2 h.sh.bs.length c2, .slice a3 h.bs.length c3, .slice a4 h.ds.length c4] 38) = W1 at *
  have hlt := hC.2.2
  go_wp2_with fail
  go_loopw [3, 4, 5] (fun s i _ w' => ∃ k : Nat, k ≤ h.bs.length ∧ i = .int .i64 k ∧ s = .int .i64 (leftL (h.bs.take k)) ∧ (0 < k → HouseOk h) ∧ Below W1.heap.size W1 w') (fun _ i _ _ => h.bs.length - (intOf i).toNat)
  case atStart => exact ⟨0, by omega, rfl, rfl, fun t => by omega, Below.refl _ _⟩
  case round =>
    obtain ⟨k, hk, rfl, rfl, hok, hB⟩ := hrel
    have Hok : Hid (0 < k → HouseOk h) := hok
    clear hok
    obtain ⟨d0, d1, d2, d3, d4, d5⟩ := (hC.up hB hlt).c6
    have hB01 := up_trans hB0 hB
    by_cases hp : k < h.bs.length
    · obtain ⟨b, o, ha3, hS, hb⟩ := hpos (by omega)
      subst ha3
      cases hq : pB (HouseOk h)
      · have HL : Hid (leftL (h.bs.take k) = leftV h) := by
          show _ = _
          have hk0 : k = 0 := by
            rcases Nat.eq_zero_or_pos k with e | e
            · exact e
            · exact absurd (Hok.out e) (pB_not.1 hq)
          unfold leftV
          rw [hq, hk0]; rfl
        go_wp2_with fail
        refine (HH.out _ hB01).mono ?_
        rw [hq]
        rintro e w2 ⟨rfl, hB2⟩
        clear d0 d1 d2 d3 d4 d5
        go_wp2_with fail
        go_ret
        exact ⟨ret_int HL.out, up_trans hB01 hB2⟩
      · have hh := pB_iff.1 hq
        have h5 := hh.few
        have hrb := hh.each h.bs[k] (by simp)
        have hbd := leftL_bd hh.each k
        have hb1 := boundV_bd hrb.2.1 (h.bs[k]).ad
        have hwi := okB_wi (recB_ok hrb.2.1 (phOf_mem hrb.2.2.2.2.1))
        have h6 := hrb.2.2.2.2.2.1
        have h7 := hrb.2.2.2.2.2.2
        have HL : Hid (leftL (h.bs.take (k + 1)) = leftL (h.bs.take k) + (boundV (h.bs[k]).ps (h.bs[k]).ad - if (h.bs[k]).si = -1 then 0 else (h.bs[k]).si)) := leftL_take h.bs k hp
        have Hh : Hid (HouseOk h) := hh
        have HC2 : Hid (∀ W, Below w.heap.size w W → ∃ p q c g r d, (W.cell? ⟨b, o + k * 6, none⟩ = some (.string (h.bs[k]).nm) ∧ W.cell? ⟨b, o + k * 6 + 1, none⟩ = some (.slice (some ⟨p, q, none⟩) (h.bs[k]).ps.length c) ∧ W.cell? ⟨b, o + k * 6 + 2, none⟩ = some (.slice (some ⟨g, r, none⟩) (h.bs[k]).sl.length d) ∧ W.cell? ⟨b, o + k * 6 + 3, none⟩ = some (.string (h.bs[k]).ad) ∧ W.cell? ⟨b, o + k * 6 + 4, none⟩ = some (.int .i64 (h.bs[k]).si) ∧ W.cell? ⟨b, o + k * 6 + 5, none⟩ = some (.int .i64 (h.bs[k]).st)) ∧ RbV W h.bs[k] (.slice (some ⟨p, q, none⟩) (h.bs[k]).ps.length c) (.slice (some ⟨g, r, none⟩) (h.bs[k]).sl.length d)) := fun W hW => ((hS.at hp).up hW hb).open
        have Hrb : Hid (RbOk h.bs[k]) := hrb
        clear hh hrb hS
        generalize h.bs[k] = x0 at *
        generalize leftL (h.bs.take k) = s at *
        go_wp2_with fail
        refine (HH.out _ hB01).mono ?_
        rw [hq]
        rintro e w2 ⟨rfl, hB2⟩
        have hB02 := up_trans hB01 hB2
        have hB12 := up_trans hB hB2
        obtain ⟨p, q, c, g, r, d, ⟨e0, e1, e2, e3, e4, e5⟩, hv⟩ := HC2.out w2 hB02
        clear d0 d1 d2 d3 d4 d5
        obtain ⟨d0, d1, d2, d3, d4, d5⟩ := (hC.up hB12 hlt).c6
        have hB3 := hB12.alloc hB12.size (.cells #[.string x0.nm, .slice (some ⟨p, q, none⟩) x0.ps.length c, .slice (some ⟨g, r, none⟩) x0.sl.length d, .string x0.ad, .int .i64 x0.si, .int .i64 x0.st] 51)
        have hX : CB (w2.alloc (.cells #[.string x0.nm, .slice (some ⟨p, q, none⟩) x0.ps.length c, .slice (some ⟨g, r, none⟩) x0.sl.length d, .string x0.ad, .int .i64 x0.si, .int .i64 x0.st] 51)) w2.heap.size [.string x0.nm, .slice (some ⟨p, q, none⟩) x0.ps.length c, .slice (some ⟨g, r, none⟩) x0.sl.length d, .string x0.ad, .int .i64 x0.si, .int .i64 x0.st] := cb_alloc w2 _ _
        have hv2 := hv.up ((Below.refl w2.heap.size w2).alloc (Nat.le_refl _) (.cells #[.string x0.nm, .slice (some ⟨p, q, none⟩) x0.ps.length c, .slice (some ⟨g, r, none⟩) x0.sl.length d, .string x0.ad, .int .i64 x0.si, .int .i64 x0.st] 51))
        go_upto_region 6 with fail
        generalize w2.alloc (.cells #[.string x0.nm, .slice (some ⟨p, q, none⟩) x0.ps.length c, .slice (some ⟨g, r, none⟩) x0.sl.length d, .string x0.ad, .int .i64 x0.si, .int .i64 x0.st] 51) = W2 at *
        clear d0 d1 d2 d3 d4 d5 e0 e1 e2 e3 e4 e5 hv
        obtain ⟨f0, f1, f2, f3, f4, f5⟩ := hX.c6
        have hbnd : Calls Tryz.prog 34 #[.slice (some ⟨p, q, none⟩) x0.ps.length c, .string x0.ad] W2 fun e w' => e = .returned (.int .i64 (boundV x0.ps x0.ad)) ∧ w' = W2 := by
          obtain ⟨b', o', c', e', hr', -, -, -⟩ := hv2.r
          simp only [Value.slice.injEq, Option.some.injEq, Addr.mk.injEq] at e'
          obtain ⟨⟨rfl, rfl, -⟩, -, rfl⟩ := e'
          have h12 : x0.ps.length ≤ 12 := ((recB_iff x0.ps).1 Hrb.out.2.1).2.1
          have := l2Bound_any x0.ps p q c Hrb.out.2.1 20 x0.ad W2 hr' (by omega)
          unfold boundV
          rw [if_pos Hrb.out.2.1]
          exact this
        generalize boundV x0.ps x0.ad = bd at *
        by_cases hsi : 0 < x0.si
        · have HE : Hid (leftL (h.bs.take (k + 1)) = s + bd - x0.si) := by
            show _ = _
            rw [HL.out, if_neg (by omega)]; omega
          go_wp2_with (go_at_call 34; refine hbnd.mono ?_; rintro e w' ⟨rfl, hw⟩; obtain rfl := hw.symm; clear hw)
          go_roundw
          case rel => exact ⟨k + 1, by omega, by go_num, by rw [HE.out], fun _ => Hh.out, hB3⟩
          case measure => simp [intOf]; omega
        · have HE : Hid (leftL (h.bs.take (k + 1)) = s + bd) := by
            show _ = _
            rw [HL.out]
            split <;> omega
          go_wp2_with (go_at_call 34; refine hbnd.mono ?_; rintro e w' ⟨rfl, hw⟩; obtain rfl := hw.symm; clear hw)
          go_roundw
          case rel => exact ⟨k + 1, by omega, by go_num, by rw [HE.out], fun _ => Hh.out, hB3⟩
          case measure => simp [intOf]; omega
    · have HL : Hid (leftL (h.bs.take k) = leftV h) := by
        show _ = _
        rw [List.take_of_length_le (by omega)]
        unfold leftV
        split
        · rfl
        · rename_i hn
          have hk0 : k = 0 := by
            rcases Nat.eq_zero_or_pos k with e | e
            · exact e
            · exact absurd (pB_yes (Hok.out e)) hn
          have : h.bs = [] := List.length_eq_zero_iff.1 (by omega)
          rw [this]; rfl
      go_wp2_with fail
      go_ret
      exact ⟨ret_int HL.out, hB01⟩
end Go.Proofs.YtlkpgiifdclijaaGreatDoor
