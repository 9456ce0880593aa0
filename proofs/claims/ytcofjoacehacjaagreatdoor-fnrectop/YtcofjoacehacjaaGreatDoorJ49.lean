/- The program's table of the instance []string: looking a name up. -/
import Derived.Test.YtcofjoacehacjaaGreatDoorJ48
import Derived.Test.YtcofjoacehacjaaGreatDoorJ14
import Derived.Deep.RegionHeld
namespace Go.Proofs.YtcofjoacehacjaaGreatDoor
open Go.RowKit

abbrev VK := Value × List Key
def nilR : VK := (.slice none 0 0, [])
def rowSS : List (ByteArray × VK) → List Value
  | [] => []
  | r :: rest => .string r.1 :: r.2.1 :: rowSS rest
theorem rowSS_append (a b : List (ByteArray × VK)) : rowSS (a ++ b) = rowSS a ++ rowSS b := by
  induction a with
  | nil => rfl
  | cons r rest ih => simp [rowSS, ih]
theorem rowSS_length (a : List (ByteArray × VK)) : (rowSS a).length = a.length * 2 := by
  induction a with
  | nil => rfl
  | cons r rest ih => simp [rowSS, ih]; omega
theorem rowSS_at : ∀ (a : List (ByteArray × VK)) (i : Nat) (h : i < a.length), (rowSS a)[i * 2]? = some (.string (a[i]).1) ∧ (rowSS a)[i * 2 + 1]? = some ((a[i]).2.1)
  | r :: rest, 0, _ => ⟨rfl, rfl⟩
  | r :: rest, i + 1, h => by
    have := rowSS_at rest i (by simpa using h)
    rw [show (i + 1) * 2 = i * 2 + 1 + 1 by omega]
    simpa [rowSS] using this
/-- What a value told of a name is: a list of its own. -/
def OwnV (w : World) (base : Nat) (x : VK) : Prop := w.ownsRow base 9 1 x.1 x.2.length ((namesOf x.2).map Value.string)
theorem OwnV.shape {w : World} {base : Nat} {x : VK} (h : OwnV w base x) : ∃ a n c, x.1 = .slice a n c := by
  rcases h.2 with ⟨h0, _⟩ | ⟨g, cap, _, hv, _⟩
  · exact ⟨_, _, _, h0⟩
  · exact ⟨_, _, _, hv⟩
theorem OwnV.up {w w' : World} {base : Nat} {x : VK} (h : OwnV w base x) (hb : Below w.heap.size w w') : OwnV w' base x := own_up h hb
theorem ownV_nil (w : World) (base : Nat) : OwnV w base nilR := World.ownsRow_nil _ _ _ _
theorem OwnV.lst {w : World} {base : Nat} {x : VK} (h : OwnV w base x) : Lst w x.1 (namesOf x.2) := by
  have hl : (namesOf x.2).length = x.2.length := by simp [namesOf]
  rcases h.2 with ⟨h0, h1⟩ | ⟨g, cap, cur, hv, _⟩
  · exact .inl ⟨h0, by cases hx : x.2 with
      | nil => rfl
      | cons a r => rw [hx] at h1; simp at h1⟩
  · exact .inr (Txt.own h hl ⟨g, cap, hv⟩)
/-- The table lies in block g; what it tells are lists of their own. -/
def TabS (w : World) (base g : Nat) (rows : List (ByteArray × VK)) : Prop := w.rangeAt g 0 (rowSS rows) ∧ g < w.heap.size ∧ ∀ r ∈ rows, OwnV w base r.2
theorem TabS.up {w w' : World} {base g : Nat} {rows : List (ByteArray × VK)} (h : TabS w base g rows) (hb : Below w.heap.size w w') : TabS w' base g rows :=
  ⟨fun j v hv => by rw [hb.cell (p := ⟨g, 0 + j, none⟩) h.2.1]; exact h.1 j v hv, Nat.lt_of_lt_of_le h.2.1 hb.size, fun r hr => (h.2.2 r hr).up hb⟩
theorem TabS.cells {w : World} {base g : Nat} {rows : List (ByteArray × VK)} (h : TabS w base g rows) (i : Nat) (hi : i < rows.length) : w.cell? ⟨g, i * 2, none⟩ = some (.string (rows[i]).1) ∧ w.cell? ⟨g, i * 2 + 1, none⟩ = some ((rows[i]).2.1) := by
  obtain ⟨h1, h2⟩ := rowSS_at rows i hi
  exact ⟨by simpa using h.1 _ _ h1, by simpa using h.1 _ _ h2⟩
theorem TabS.of_own {w : World} {base e g cap : Nat} {rows : List (ByteArray × VK)} (h : w.ownsRow base e 2 (.slice (some ⟨g, 0, none⟩) rows.length cap) rows.length (rowSS rows)) (hv : ∀ r ∈ rows, OwnV w base r.2) : TabS w base g rows := by
  refine ⟨fun j v hv => ?_, (h.lt g rfl).2, hv⟩
  have hj : j < rows.length * 2 := by rw [← rowSS_length]; exact (List.getElem?_eq_some_iff.1 hv).1
  rw [Nat.zero_add, h.cellAt j hj]; exact hv
theorem TabS.look {w : World} {base g : Nat} {rows : List (ByteArray × VK)} (h : TabS w base g rows) (nm : ByteArray) : OwnV w base (look rows nm nilR) := by
  unfold Go.Proofs.YtcofjoacehacjaaGreatDoor.look
  split
  · rename_i r hr
    exact h.2.2 r (List.mem_of_find?_eq_some hr)
  · exact ownV_nil _ _
def plainR (rows : List (ByteArray × VK)) : List (ByteArray × List Key) := rows.map fun r => (r.1, r.2.2)
theorem look_plain (rows : List (ByteArray × VK)) (nm : ByteArray) : look (plainR rows) nm [] = (look rows nm nilR).2 := by
  unfold look plainR
  rw [List.find?_map]
  have e : ((fun r : ByteArray × List Key => r.1.toList == nm.toList) ∘ fun r : ByteArray × VK => (r.1, r.2.2)) = fun r => r.1.toList == nm.toList := by funext r; rfl
  rw [e]
  cases rows.find? fun r => r.1.toList == nm.toList <;> rfl

theorem ofS_any (rows : List (ByteArray × VK)) (base g c : Nat) (nm : ByteArray) (w : World) (hr : TabS w base g rows) (hn : rows.length ≤ 1048576) :
    Calls Tryz.prog 44 #[.slice (some ⟨g, 0, none⟩) rows.length c, .string nm] w fun e w' => e = .returned (look rows nm nilR).1 ∧ Below w.heap.size w w' := by
  have hg := hr.2.1
  go_enter Tryz.func44, Tryz.ntmps44
  go_wp2
  go_loopw [10] (fun i w' => ∃ k : Nat, k ≤ rows.length ∧ i = .int .i64 k ∧ noneT rows nm k ∧ Below w.heap.size w w') (fun i _ => rows.length - (intOf i).toNat)
  case atStart => exact ⟨0, by omega, rfl, fun _ _ h => by omega, Below.refl _ _⟩
  case round =>
    obtain ⟨k, hk, rfl, hal, hB⟩ := hrel
    have Hal : Hid (noneT rows nm k) := hal
    clear hal
    by_cases hp : k < rows.length
    · obtain ⟨c0, c1⟩ := hr.cells k hp
      obtain ⟨a, n, cc, hsh⟩ := (hr.2.2 rows[k] (by simp)).shape
      rw [hsh] at c1
      obtain ⟨hc, hf⟩ := bcell hB
      cases hq : ((rows[k]).1.toList == nm.toList)
      · have Hq : Hid (((rows[k]).1.toList == nm.toList) = false) := hq
        go_wp2
        go_roundw
        case rel => exact ⟨k + 1, by omega, by go_num, noneT_succ Hal.out hp Hq.out, hB.alloc hB.size _⟩
        case measure => simp [intOf]; omega
      · have Hq : Hid (look rows nm nilR = (rows[k]).2) := look_hit nilR Hal.out hp hq
        have Hsh : Hid ((rows[k]).2.1 = .slice a n cc) := hsh
        clear hsh
        go_wp2
        go_ret
        exact ⟨by rw [Hq.out, Hsh.out]; rfl, hB.alloc hB.size _⟩
    · have Hq : Hid (look rows nm nilR = nilR) := look_miss nilR Hal.out hp
      go_wp2
      go_ret
      exact ⟨by rw [Hq.out]; rfl, hB⟩
end Go.Proofs.YtcofjoacehacjaaGreatDoor

/- The program fills its table of the instance []string. -/
namespace Go.Proofs.YtcofjoacehacjaaGreatDoor
open Go.RowKit

theorem size_held {W1 w0 : World} {B : Nat} {x0 x1 x2 x3 x4 x5 x6 x7 : Value} (h : Below W1.heap.size W1 w0 ∧ w0.cell? ⟨B, 0, none⟩ = some x0 ∧ w0.cell? ⟨B, 1, none⟩ = some x1 ∧ w0.cell? ⟨B, 2, none⟩ = some x2 ∧ w0.cell? ⟨B, 3, none⟩ = some x3 ∧ w0.cell? ⟨B, 4, none⟩ = some x4 ∧ w0.cell? ⟨B, 5, none⟩ = some x5 ∧ w0.cell? ⟨B, 6, none⟩ = some x6 ∧ w0.cell? ⟨B, 7, none⟩ = some x7) : W1.heap.size ≤ w0.heap.size := h.1.size
theorem endSlots_any (n : Int) (w : World) :
    Calls Tryz.prog 42 #[.int .i64 n] w fun e w' => e = .returned (.slice none 0 0) ∧ w' = w := by
  go_enter Tryz.func42, Tryz.ntmps42
  go_wp2
  go_ret
  exact ⟨rfl, rfl⟩
theorem infoRowS : (Tryz.prog.info? 93).map (fun i => (i.zero, i.size, i.bytes)) = some (some (.agg #[.string ⟨#[]⟩, .slice none 0 0]), 2, 40) := by kernel_rfl
theorem ownV_grow {W W' : World} {base base' m : Nat} {x : VK} {u : Value} {ys : List Value} (h : OwnV W base x) (ht : W.ownsRow base' 93 2 u m ys) (hg : W.grownBy W' u.ownBlock) : OwnV W' base x := by
  refine World.ownsRow.kept h hg ?_
  rcases h.2 with ⟨h0, _⟩ | ⟨g, cap, cur, hv, _, hh, _⟩
  · left; rw [h0]; rfl
  · right
    rw [hv]
    rcases ht.2 with ⟨k0, _⟩ | ⟨g', cap', cur', kv, _, kh, _⟩
    · rw [k0]; simp [Value.ownBlock]
    · rw [kv]
      intro e
      obtain rfl : g = g' := by simpa [Value.ownBlock] using e
      rw [hh] at kh
      have := Option.some.inj kh
      injection this with _ h2
      exact absurd h2 (by decide)
theorem kind_of_recB {ps : List Ph} (hok : recB ps = true) (p : Ph) (hp : p ∈ ps) : 1 ≤ p.k ∧ p.k ≤ 5 := by
  obtain ⟨_, _, ha⟩ := (recB_iff ps).1 hok
  obtain ⟨i, hi, rfl⟩ := List.getElem_of_mem hp
  have hs := ha i ps[i] hi (by simp [hi])
  simp only [stepI, Bool.and_eq_true, Ph.okB, phaseB] at hs
  have h := hs.1.1.1.1.1.2
  unfold argsB at h
  split at h
  · omega
  · split at h
    · omega
    · split at h
      · omega
      · split at h
        · rename_i h4; rcases h4 with h4 | h4 <;> omega
        · cases h
def endsS : List (ByteArray × VK) := [(good, nilR), (saved, nilR), (scrapped, nilR)]
theorem ends_plain : plainR endsS = fill feK fpK [] [] := rfl

set_option maxRecDepth 20000 in
set_option maxHeartbeats 4000000 in
theorem fillS_any (ps : List Ph) (b o c : Nat) (w : World) (hE : Ends w) (hr : RecAt w b o ps) (hb : b < w.heap.size) (hok : recB ps = true) :
    Calls Tryz.prog 41 #[.slice (some ⟨b, o, none⟩) ps.length c, .func (.func 42) #[] #[], .func (.func 43) #[] #[]] w
      fun e w' => (∃ g cap rs, e = .returned (.slice (some ⟨g, 0, none⟩) rs.length cap) ∧ plainR rs = fill feK fpK [] ps ∧ TabS w' w.heap.size g rs) ∧ Below w.heap.size w w' := by
  have HE : Hid (Ends w) := hE
  obtain ⟨g0, g1, g2, _⟩ := hE
  have i0 : ∀ w, (Instr.index 56 (.agg #[.string ⟨#[103, 111, 111, 100]⟩, .string ⟨#[115, 97, 118, 101, 100]⟩, .string ⟨#[115, 99, 114, 97, 112, 112, 101, 100]⟩]) (.int .i64 0)).run Tryz.prog w = .ok (.string ⟨#[103, 111, 111, 100]⟩) w := fun _ => by kernel_rfl
  have i1 : ∀ w, (Instr.index 56 (.agg #[.string ⟨#[103, 111, 111, 100]⟩, .string ⟨#[115, 97, 118, 101, 100]⟩, .string ⟨#[115, 99, 114, 97, 112, 112, 101, 100]⟩]) (.int .i64 1)).run Tryz.prog w = .ok (.string ⟨#[115, 97, 118, 101, 100]⟩) w := fun _ => by kernel_rfl
  have i2 : ∀ w, (Instr.index 56 (.agg #[.string ⟨#[103, 111, 111, 100]⟩, .string ⟨#[115, 97, 118, 101, 100]⟩, .string ⟨#[115, 99, 114, 97, 112, 112, 101, 100]⟩]) (.int .i64 2)).run Tryz.prog w = .ok (.string ⟨#[115, 99, 114, 97, 112, 112, 101, 100]⟩) w := fun _ => by kernel_rfl
  go_enter Tryz.func41, Tryz.ntmps41
  obtain ⟨ii, hi, hz0, hz1, hz2⟩ := info_parts infoRowS
  go_wp2_with fail
  go_loopw [7, 14] (fun v i w' => ∃ (k : Nat) (j : Int), k ≤ 3 ∧ j = k ∧ i = .int .i64 j ∧ w'.ownsRow w.heap.size 93 2 v (endsS.take k).length (rowSS (endsS.take k)) ∧ Below w.heap.size w w') (fun _ i _ => 3 - (intOf i).toNat)
  case atStart => exact ⟨0, 0, by omega, by omega, rfl, World.ownsRow_nil _ _ _ _, Below.refl _ _⟩
  case round =>
    obtain ⟨k, j, hk, hj, rfl, hown, hB⟩ := hrel
    obtain rfl | rfl | rfl | rfl : k = 0 ∨ k = 1 ∨ k = 2 ∨ k = 3 := by omega
    · obtain rfl : j = 0 := by omega
      clear hj
      go_wp2_with (first | (go_at_call 9; refine (recEnd_any _ _ (HE.out.up hB)).mono ?_; rintro e w' ⟨rfl, hw⟩; obtain rfl := hw.symm; clear hw) | (go_at_call 42; refine (endSlots_any _ _).mono ?_; rintro e w' ⟨rfl, hw⟩; obtain rfl := hw.symm; clear hw) | (at_builtin; refine wpList_append_own _ rfl _ _ 74 rfl w.heap.size 93 ii _ 2 40 Tryz.underlying74 hi hz0 hz1 hz2 rfl (by decide) _ _ _ rfl (hown.alloc _) ⟨wr.heap.size, 0, none⟩ 1 1 [.string ⟨#[103, 111, 111, 100]⟩, .slice none 0 0] rfl rfl (fun j u hj => new2 _ _ _ _ hj) (fun u hu => one2 rfl hu) (by simp [maxLen, endsS]) (by simp [endsS]) (by have := hB.size; simp; omega) ?_))
      intro v' w1 hown' hgrow _
      have hB1 : Below w.heap.size w w1 := (hB.alloc hB.size _).grown hgrow (by have := hB.size; simp; omega) (fun k hk => (hown.lt k hk).1)
      clear hgrow hown hB
      go_wp2_with fail
      go_roundw
      case rel => exact ⟨1, 1, by omega, by omega, rfl, by simpa [endsS, rowSS, nilR, good, saved, scrapped] using hown', hB1⟩
      case measure => simp [intOf]
    · obtain rfl : j = 1 := by omega
      clear hj
      go_wp2_with (first | (go_at_call 9; refine (recEnd_any _ _ (HE.out.up hB)).mono ?_; rintro e w' ⟨rfl, hw⟩; obtain rfl := hw.symm; clear hw) | (go_at_call 42; refine (endSlots_any _ _).mono ?_; rintro e w' ⟨rfl, hw⟩; obtain rfl := hw.symm; clear hw) | (at_builtin; refine wpList_append_own _ rfl _ _ 74 rfl w.heap.size 93 ii _ 2 40 Tryz.underlying74 hi hz0 hz1 hz2 rfl (by decide) _ _ _ rfl (hown.alloc _) ⟨wr.heap.size, 0, none⟩ 1 1 [.string ⟨#[115, 97, 118, 101, 100]⟩, .slice none 0 0] rfl rfl (fun j u hj => new2 _ _ _ _ hj) (fun u hu => one2 rfl hu) (by simp [maxLen, endsS]) (by simp [endsS]) (by have := hB.size; simp; omega) ?_))
      intro v' w1 hown' hgrow _
      have hB1 : Below w.heap.size w w1 := (hB.alloc hB.size _).grown hgrow (by have := hB.size; simp; omega) (fun k hk => (hown.lt k hk).1)
      clear hgrow hown hB
      go_wp2_with fail
      go_roundw
      case rel => exact ⟨2, 2, by omega, by omega, rfl, by simpa [endsS, rowSS, nilR, good, saved, scrapped] using hown', hB1⟩
      case measure => simp [intOf]
    · obtain rfl : j = 2 := by omega
      clear hj
      go_wp2_with (first | (go_at_call 9; refine (recEnd_any _ _ (HE.out.up hB)).mono ?_; rintro e w' ⟨rfl, hw⟩; obtain rfl := hw.symm; clear hw) | (go_at_call 42; refine (endSlots_any _ _).mono ?_; rintro e w' ⟨rfl, hw⟩; obtain rfl := hw.symm; clear hw) | (at_builtin; refine wpList_append_own _ rfl _ _ 74 rfl w.heap.size 93 ii _ 2 40 Tryz.underlying74 hi hz0 hz1 hz2 rfl (by decide) _ _ _ rfl (hown.alloc _) ⟨wr.heap.size, 0, none⟩ 1 1 [.string ⟨#[115, 99, 114, 97, 112, 112, 101, 100]⟩, .slice none 0 0] rfl rfl (fun j u hj => new2 _ _ _ _ hj) (fun u hu => one2 rfl hu) (by simp [maxLen, endsS]) (by simp [endsS]) (by have := hB.size; simp; omega) ?_))
      intro v' w1 hown' hgrow _
      have hB1 : Below w.heap.size w w1 := (hB.alloc hB.size _).grown hgrow (by have := hB.size; simp; omega) (fun k hk => (hown.lt k hk).1)
      clear hgrow hown hB
      go_wp2_with fail
      go_roundw
      case rel => exact ⟨3, 3, by omega, by omega, rfl, by simpa [endsS, rowSS, nilR, good, saved, scrapped] using hown', hB1⟩
      case measure => simp [intOf]
    · obtain rfl : j = 3 := by omega
      clear i0 i1 i2 g0 g1 g2 hj
      have h12 : ps.length ≤ 12 := ((recB_iff ps).1 hok).2.1
      have hown : wr.ownsRow w.heap.size 93 2 u7 endsS.length (rowSS endsS) := hown
      have hends : ∀ r ∈ endsS, OwnV wr w.heap.size r.2 := by
        intro r hr
        simp only [endsS, List.mem_cons, List.not_mem_nil, or_false] at hr
        rcases hr with rfl | rfl | rfl <;> exact ownV_nil _ _
      go_wp2_with fail
      go_loopw [7, 10] (fun v i w' => ∃ (k : Nat) (rs : List (ByteArray × VK)), k ≤ ps.length ∧ i = .int .i64 ((k : Int) - 1) ∧ plainR rs = fill feK fpK [] (ps.drop k) ∧ w'.ownsRow w.heap.size 93 2 v rs.length (rowSS rs) ∧ (∀ r ∈ rs, OwnV w' w.heap.size r.2) ∧ Below w.heap.size w w') (fun _ i _ => (intOf i + 1).toNat)
      case atStart => exact ⟨ps.length, endsS, Nat.le_refl _, rfl, by rw [List.drop_length]; exact ends_plain, hown, hends, hB⟩
      case round =>
        clear hown hends hB
        obtain ⟨k, rs, hk2, rfl, hpl, hown2, hvs, hB2⟩ := hrel
        have hrl : rs.length = (ps.drop k).length + 3 := by
          have := congrArg List.length hpl
          rw [fill_len] at this
          simpa [plainR] using this
        obtain ⟨g, cap, rfl⟩ := own_ptr hown2 (by omega)
        have hT := TabS.of_own hown2 hvs
        cases k with
        | zero =>
          simp only [List.drop_zero] at hpl
          clear hrl
          go_wp2_with fail
          go_ret
          exact ⟨⟨g, cap, rs, rfl, hpl, hT⟩, hB2⟩
        | succ m =>
          have hm : m < ps.length := by omega
          obtain ⟨c0, c1, c2, c3, c4, c5, c6, c7⟩ := hr.cells m hm
          obtain ⟨hc, hf⟩ := bcell hB2
          have Hrl : Hid (rs.length = (ps.drop (m + 1)).length + 3) := hrl
          clear hrl
          go_wp2_with fail
          have hkk := kind_of_recB hok ps[m] (by simp)
          have hlk : ∀ nm, (look rs nm nilR).2 = slI (ps.drop (m + 1)) nm := fun nm => by
            rw [← look_plain, hpl, fill_look _ _ _ _ (dist_drop hok (m + 1))]; rfl
          have hll : ∀ nm, (namesOf (look rs nm nilR).2).length ≤ 24 := fun nm => by
            have := slots_len (ps.drop (m + 1)) nm
            rw [hlk, namesOf, List.length_map]
            rw [List.length_drop] at this
            omega
          have HF : Hid (fill feK fpK [] (ps.drop m) = plainR rs ++ [((ps[m]).nm, fpK ps[m] (look rs (ps[m]).t nilR).2 (look rs (ps[m]).e nilR).2)]) := by
            show _ = _
            rw [fill_drop feK fpK [] hm, ← hpl, look_plain, look_plain]
          generalize ps[m] = p at *
          have hS : ∃ W1, W1 = wr.alloc (.cells #[.string p.nm, .int .i64 p.k, .string p.a, .string p.b, .int .i64 p.n, .int .i64 p.wi, .string p.t, .string p.e] 37) := ⟨_, rfl⟩
          obtain ⟨W1, hW1⟩ := hS
          rw [← hW1]
          have hW2 : wr.heap.size < W1.heap.size := by rw [hW1]; simp
          have hS : Below W1.heap.size W1 W1 ∧ W1.cell? ⟨wr.heap.size, 0, none⟩ = some (.string p.nm) ∧ W1.cell? ⟨wr.heap.size, 1, none⟩ = some (.int .i64 p.k) ∧ W1.cell? ⟨wr.heap.size, 2, none⟩ = some (.string p.a) ∧ W1.cell? ⟨wr.heap.size, 3, none⟩ = some (.string p.b) ∧ W1.cell? ⟨wr.heap.size, 4, none⟩ = some (.int .i64 p.n) ∧ W1.cell? ⟨wr.heap.size, 5, none⟩ = some (.int .i64 p.wi) ∧ W1.cell? ⟨wr.heap.size, 6, none⟩ = some (.string p.t) ∧ W1.cell? ⟨wr.heap.size, 7, none⟩ = some (.string p.e) := by rw [hW1]; exact ⟨Below.refl _ _, by simp, by simp, by simp, by simp, by simp, by simp, by simp, by simp⟩
          have hup : Below wr.heap.size wr W1 := by rw [hW1]; exact (Below.refl _ _).alloc (Nat.le_refl _) _
          have hT1 := hT.up hup
          have Hown := own_up hown2 hup
          have hB3 := up_trans hB2 hup
          have hlen : rs.length ≤ 1048576 := by have := Hrl.out; rw [List.length_drop] at this; omega
          have hl1 := hll p.t
          have hl2 := hll p.e
          clear hW1 c0 c1 c2 c3 c4 c5 c6 c7 hc hf hT hown2 hup hown hvs hlk hll hpl
          go_region_held (fun w' => Below W1.heap.size W1 w' ∧ w'.cell? ⟨wr.heap.size, 0, none⟩ = some (.string p.nm) ∧ w'.cell? ⟨wr.heap.size, 1, none⟩ = some (.int .i64 p.k) ∧ w'.cell? ⟨wr.heap.size, 2, none⟩ = some (.string p.a) ∧ w'.cell? ⟨wr.heap.size, 3, none⟩ = some (.string p.b) ∧ w'.cell? ⟨wr.heap.size, 4, none⟩ = some (.int .i64 p.n) ∧ w'.cell? ⟨wr.heap.size, 5, none⟩ = some (.int .i64 p.wi) ∧ w'.cell? ⟨wr.heap.size, 6, none⟩ = some (.string p.t) ∧ w'.cell? ⟨wr.heap.size, 7, none⟩ = some (.string p.e)) (first | exact held_drew hS | exact held_up hW2 (by assumption) (by assumption))
            (first
              | (go_at_call 44; refine (ofS_any rs w.heap.size g _ _ _ (hT1.up (And.left (by assumption))) hlen).mono ?_; rintro e w1 ⟨rfl, hb1⟩)
              | (go_at_call 43; have hszz := size_held (by assumption); refine (slotsFrom_any p (namesOf (look rs p.t nilR).2) (namesOf (look rs p.e nilR).2) _ _ _ hkk ((hT1.up (And.left (by assumption))).look _).lst ((hT1.up (And.left (by assumption))).look _).lst (by omega)).mono ?_; rintro e w3 ⟨⟨u, rfl, hou⟩, hb3⟩; rw [keys_names, keys_names] at hou; obtain ⟨a9, n9, c9, hu9⟩ := OwnV.shape (x := (u, _)) hou; subst hu9))
          rename_i hHeld
          obtain ⟨hU, e0, -⟩ := hHeld
          have hown3 := own_up Hown hU
          have hB4 := up_trans hB3 hU
          have hT3 := hT1.up hU
          have hx : OwnV w3 w.heap.size (.slice a9 n9 c9, fpK p (look rs p.t nilR).2 (look rs p.e nilR).2) := own_low hou (by have := hB3.size; omega)
          have hal : Below w3.heap.size w3 (w3.alloc (.cells #[.string p.nm, .slice a9 n9 c9] 93)) := (Below.refl _ _).alloc (Nat.le_refl _) _
          have hx1 := hx.up hal
          have hT4 := hT3.up hal
          have Hrl' : rs.length ≤ 16 := by have := Hrl.out; rw [List.length_drop] at this; omega
          clear hS hT1 Hown hU hB3 hou hT3 hx hal hb1 hb3
          go_wp2_with (at_builtin; refine wpList_append_own _ rfl _ _ 74 rfl w.heap.size 93 ii _ 2 40 Tryz.underlying74 hi hz0 hz1 hz2 rfl (by decide) _ _ _ rfl (hown3.alloc _) ⟨w3.heap.size, 0, none⟩ 1 1 [.string p.nm, .slice a9 n9 c9] rfl rfl (fun j u hj => new2 _ _ _ _ hj) (fun u hu => one2 rfl hu) (by simp only [maxLen]; omega) (by omega) (by have := hB4.size; simp; omega) ?_)
          intro v' w5 hown' hgrow _
          have hB5 : Below w.heap.size w w5 := (hB4.alloc hB4.size _).grown hgrow (by have := hB4.size; simp; omega) (fun k hk => (hown3.lt k hk).1)
          have hvs' : ∀ r ∈ rs ++ [(p.nm, ((.slice a9 n9 c9, fpK p (look rs p.t nilR).2 (look rs p.e nilR).2) : VK))], OwnV w5 w.heap.size r.2 := by
            intro r hr
            rcases List.mem_append.1 hr with hr | hr
            · exact ownV_grow (hT4.2.2 r hr) (hown3.alloc _) hgrow
            · simp only [List.mem_singleton] at hr
              subst hr
              exact ownV_grow hx1 (hown3.alloc _) hgrow
          clear hgrow hown3 hB4 hT4 hx1
          go_wp2_with fail
          go_roundw
          case rel => exact ⟨m, rs ++ [(p.nm, ((.slice a9 n9 c9, fpK p (look rs p.t nilR).2 (look rs p.e nilR).2) : VK))], by omega, by go_num, by rw [HF.out]; simp [plainR], by rw [rowSS_append, List.length_append]; exact hown', hvs', hB5⟩
          case measure => simp [intOf]
end Go.Proofs.YtcofjoacehacjaaGreatDoor
