/- Drawing: a number in decimals. -/
import Derived.Test.YtliebjbbomghiaaGreatDoorJ0
import Derived.Laws.IdiomStrings
import Derived.Deep.RegionWith
import Derived.Test.YtliebjbbomghiaaGreatDoorDr
import Derived.Test.YtliebjbbomghiaaGreatDoorJ40
import Derived.Test.YtliebjbbomghiaaGreatDoorJ9
namespace Go.Proofs.YtliebjbbomghiaaGreatDoor
open Go.RowKit

theorem digit_str (w : World) (n : Int) (h0 : 0 ≤ n) (h1 : n < 10) :
    (convert 22 9 (.slice (some ⟨w.heap.size, 0, none⟩) 1 1)).run Tryz.prog (w.alloc (.cells #[.int .u8 (48 + n)] 5)) = .ok (.string ⟨#[UInt8.ofNat (48 + n).toNat]⟩) (w.alloc (.cells #[.int .u8 (48 + n)] 5)) := by
  refine run_convert_bytes_back (P := Tryz.prog) (w.alloc (.cells #[.int .u8 (48 + n)] 5)) 22 9 5 ⟨w.heap.size, 0, none⟩ 1 [UInt8.ofNat (48 + n).toNat] Tryz.underlying22 Tryz.underlying5 Tryz.underlying9 (fun j hj => ?_)
  obtain rfl : j = 0 := by simpa using hj
  have e : ((UInt8.ofNat (48 + n).toNat).toNat : Int) = 48 + n := by
    rw [UInt8.toNat_ofNat']; omega
  simp only [List.getElem_cons_zero, e]
  simp [go_sem, Addr.add]

theorem dec1_any (n : Int) (w : World) (h0 : 0 ≤ n) (h1 : n < 10) :
    Calls Tryz.prog 77 #[.int .i64 n] w
      fun e w' => (∃ s : ByteArray, e = .returned (.string s) ∧ s.size ≤ 10) ∧ Below w.heap.size w w' := by
  have hcv := digit_str w n h0 h1
  go_enter Tryz.func77, Tryz.ntmps77
  go_wp2_with fail
  go_ret
  exact ⟨⟨_, rfl, by show 1 ≤ 10; omega⟩, by go_grown⟩

theorem digit_str2 (W : World) (g : Nat) (x : Int) (h0 : 0 ≤ x) (h1 : x < 256) (hc : W.cell? ⟨g, 0, none⟩ = some (.int .u8 x)) :
    (convert 22 9 (.slice (some ⟨g, 0, none⟩) 1 1)).run Tryz.prog W = .ok (.string ⟨#[UInt8.ofNat x.toNat]⟩) W := by
  refine run_convert_bytes_back (P := Tryz.prog) W 22 9 5 ⟨g, 0, none⟩ 1 [UInt8.ofNat x.toNat] Tryz.underlying22 Tryz.underlying5 Tryz.underlying9 (fun j hj => ?_)
  obtain rfl : j = 0 := by simpa using hj
  have e : ((UInt8.ofNat x.toNat).toNat : Int) = x := by
    rw [UInt8.toNat_ofNat']; omega
  simp only [List.getElem_cons_zero, e]
  exact hc

theorem size_add1 (s : ByteArray) (b : UInt8) (h : s.size ≤ 10) : (s ++ ⟨#[b]⟩ : ByteArray).size ≤ 20 := by
  rw [ByteArray.size_append]; show s.size + 1 ≤ 20; omega
theorem digA {w w1 : World} {x : Int} {t : TypeId} (h : Below (w.alloc (.cells #[.int .u8 x] t)).drew.heap.size (w.alloc (.cells #[.int .u8 x] t)).drew w1) : w1.cell? ⟨w.heap.size, 0, none⟩ = some (.int .u8 x) :=
  (h.cell (p := ⟨w.heap.size, 0, none⟩) (by simp)).trans (by simp [go_sem])
set_option maxRecDepth 20000 in
theorem dec2_any (n : Int) (w : World) (h0 : 10 ≤ n) (h1 : n < 100) :
    Calls Tryz.prog 77 #[.int .i64 n] w
      fun e w' => (∃ s : ByteArray, e = .returned (.string s) ∧ s.size ≤ 20) ∧ Below w.heap.size w w' := by
  have hq : Hid (IntKind.i64.wrap (n.tdiv 10) = n / 10) := by
    show _ = _; rw [IntKind.wrap_i64, Int.tdiv_eq_ediv_of_nonneg (by omega)]; omega
  have hX : Hid (0 ≤ IntKind.u8.wrap (IntKind.i64.wrap (48 + n.tmod 10)) ∧ IntKind.u8.wrap (IntKind.i64.wrap (48 + n.tmod 10)) < 256) := by
    show _ ∧ _
    generalize IntKind.i64.wrap (48 + n.tmod 10) = y
    rw [IntKind.wrap_u8]; omega
  go_enter Tryz.func77, Tryz.ntmps77
  go_wp2_with fail
  have hcv0 := digit_str2 (w.alloc (.cells #[.int .u8 (IntKind.u8.wrap (IntKind.i64.wrap (48 + n.tmod 10)))] 5)).drew w.heap.size _ hX.out.1 hX.out.2 (by simp [go_sem])
  go_region_with
    (go_at_call 77; refine (dec1_any _ _ (by rw [hq.out]; omega) (by rw [hq.out]; omega)).mono ?_; rintro e w1 ⟨⟨s, rfl, hs⟩, hB1⟩; first
      | (have hd := digA hB1; have hcv2 := digit_str2 w1 w.heap.size _ hX.out.1 hX.out.2 hd; clear hd)
      | have hcv1 := digit_str2 (w1.alloc (.cells #[.int .u8 (IntKind.u8.wrap (IntKind.i64.wrap (48 + n.tmod 10)))] 5)) w1.heap.size _ hX.out.1 hX.out.2 (by simp [go_sem]))
  all_goals
    go_wp2_with fail
    go_ret
    refine ⟨⟨_, rfl, size_add1 _ _ hs⟩, ?_⟩
    first
      | exact up_trans (Below.refl _ _).drew (up_trans hB1 ((Below.refl _ _).alloc (Nat.le_refl _) _))
      | exact up_trans (((Below.refl _ _).alloc (Nat.le_refl _) _).drew) hB1

theorem dec_any (n : Int) (w : World) (h0 : 0 ≤ n) (h1 : n < 100) :
    Calls Tryz.prog 77 #[.int .i64 n] w
      fun e w' => (∃ s : ByteArray, e = .returned (.string s) ∧ s.size ≤ 20) ∧ Below w.heap.size w w' := by
  by_cases h : n < 10
  · refine (dec1_any n w h0 h).mono ?_
    rintro e w' ⟨⟨s, rfl, hs⟩, hB⟩
    exact ⟨⟨s, rfl, by omega⟩, hB⟩
  · exact dec2_any n w (by omega) h1
end Go.Proofs.YtliebjbbomghiaaGreatDoor

/- Drawing a recipe. -/
namespace Go.Proofs.YtliebjbbomghiaaGreatDoor
open Go.RowKit

def rowP : List Ph → List Value
  | [] => []
  | p :: rest => p.cells ++ rowP rest
theorem rowP_append (a b : List Ph) : rowP (a ++ b) = rowP a ++ rowP b := by
  induction a with
  | nil => rfl
  | cons p rest ih => simp [rowP, ih]
theorem rowP_length (a : List Ph) : (rowP a).length = a.length * 8 := by
  induction a with
  | nil => rfl
  | cons p rest ih => simp [rowP, ih, Ph.cells]; omega
theorem rowP_at : ∀ (a : List Ph) (i : Nat) (p : Ph), a[i]? = some p → ∀ (j : Nat) (u : Value), p.cells[j]? = some u → (rowP a)[i * 8 + j]? = some u
  | q :: rest, 0, p, hp, j, u, hu => by
    simp at hp; subst hp
    have hj : j < q.cells.length := (List.getElem?_eq_some_iff.1 hu).1
    rw [rowP, Nat.zero_mul, Nat.zero_add, List.getElem?_append_left hj]; exact hu
  | q :: rest, i + 1, p, hp, j, u, hu => by
    have := rowP_at rest i p (by simpa using hp) j u hu
    have hl : q.cells.length = 8 := rfl
    rw [rowP, List.getElem?_append_right (by rw [hl]; omega), hl, show (i + 1) * 8 + j - 8 = i * 8 + j by omega]; exact this
theorem recAt_own {w : World} {base e g cap : Nat} {ps : List Ph} (h : w.ownsRow base e 8 (.slice (some ⟨g, 0, none⟩) ps.length cap) ps.length (rowP ps)) : RecAt w g 0 ps := fun i p hp j u hu => by
  have := rowP_at ps i p hp j u hu
  have hj : i * 8 + j < ps.length * 8 := by rw [← rowP_length]; exact (List.getElem?_eq_some_iff.1 this).1
  rw [Nat.zero_add, h.cellAt (i * 8 + j) hj]; exact this

theorem size_y (s : ByteArray) (h : s.size ≤ 20) : ((⟨#[121]⟩ : ByteArray) ++ s).size ≤ maxLen := by
  rw [ByteArray.size_append]; unfold maxLen; show 1 + s.size ≤ _; omega
theorem infoPh8 : (Tryz.prog.info? 34).map (fun i => (i.zero, i.size, i.bytes)) = some (some (.agg #[.string ⟨#[]⟩, .int .i64 0, .string ⟨#[]⟩, .string ⟨#[]⟩, .int .i64 0, .int .i64 0, .string ⟨#[]⟩, .string ⟨#[]⟩]), 8, 104) := by kernel_rfl
set_option maxRecDepth 20000 in
set_option maxHeartbeats 4000000 in
theorem recipe_any (rb len N : Nat) (v : Value) (w : World) (hR : Rd w rb v len N) (hN : N ≤ 800000) :
    Calls Tryz.prog 73 #[.pointer (some ⟨rb, 0, none⟩)] w
      fun e w' => (∃ (u : Value) (ps : List Ph), e = .returned u ∧ 1 ≤ ps.length ∧ ps.length ≤ 12 ∧ (∀ p ∈ ps, p.sz) ∧ w'.ownsRow w.heap.size 34 8 u ps.length (rowP ps)) ∧ Rd w' rb v len (N + 300) ∧ w.grownBy w' (some rb) := by
  have hlt := hR.lt
  have hlt' : rb < w.heap.size + 1 := by omega
  go_enter Tryz.func73, Tryz.ntmps73
  go_wp2_with fail
  refine (names_any w).mono ?_
  rintro e w1 ⟨rfl, rfl⟩
  go_wp2_with fail
  refine (pick_any rb len N v 8 _ (hR.alloc _) (by omega)).mono ?_
  rintro e w1 ⟨⟨x, rfl, hx0, hx1⟩, hR1, hg1⟩
  have hx2 := hx1 (by omega)
  obtain ⟨n, rfl⟩ : ∃ n : Nat, x = (n : Int) := ⟨x.toNat, by omega⟩
  have hS1 := (strsAt_alloc w namesL 9).kept hg1 (by omega)
  have hG1 := grown_trans (grown_alloc (grown_refl w (some rb)) (.cells (namesL.map Value.string).toArray 9)) hg1
  have hs1 := hg1.size
  clear hx1 hg1 hR
  obtain ⟨ii, hi, iz0, iz1, iz2⟩ := info_parts infoPh8
  go_wp2_with fail
  go_loopw [5, 6] (fun u i w' => ∃ (k : Nat) (ps : List Ph), k ≤ n + 1 ∧ i = .int .i64 k ∧ ps.length = k ∧ (∀ p ∈ ps, p.sz) ∧ w'.ownsRow (w.heap.size + 1) 34 8 u ps.length (rowP ps) ∧ Rd w' rb v len (N + 1 + 12 * k) ∧ w.grownBy w' (some rb) ∧ StrsAt w' w.heap.size 0 namesL) (fun _ i _ => n + 1 - (intOf i).toNat)
  case atStart => exact ⟨0, [], by omega, rfl, rfl, by simp, World.ownsRow_lit w1 #[] 0 (by simp at hs1; omega) (by unfold maxLen; omega) rfl, hR1.alloc _, grown_alloc hG1 _, hS1.alloc _⟩
  case round =>
    obtain ⟨k, ps, hk, rfl, hpl, hpz, hown, hRk, hGk, hSk⟩ := hrel
    have hws := hGk.size
    have hRlt := hRk.lt
    have hBw : w.heap.size + 1 ≤ wr.heap.size := World.block_lt_of_cell? wr _ (hSk 0 _ rfl)
    by_cases hkn : k < n + 1
    · have hk8 : k < namesL.length := by simp [namesL]; omega
      have hcell : wr.cell? ⟨w.heap.size, k, none⟩ = some (.string (namesL[k]'hk8)) := by
        have := hSk k (namesL[k]'hk8) (by simp)
        simpa using this
      have hnz : (namesL[k]'hk8).size ≤ maxLen := sz_lit (ss := namesL) (by decide) _ (by simp)
      have hLs : StrsAt wr w.heap.size (k + 1) ((namesL.take (n + 1)).drop (k + 1)) := by
        have := (hSk.take (n + 1)).drop (k + 1)
        simpa using this
      have hLz : SzS ((namesL.take (n + 1)).drop (k + 1)) := fun s hs => sz_lit (ss := namesL) (by decide) s (List.mem_of_mem_take (List.mem_of_mem_drop hs))
      have hLl : ((namesL.take (n + 1)).drop (k + 1)).length = n - k := by simp [namesL]; omega
      generalize hX : namesL[k]'hk8 = nm at *
      generalize hY : (namesL.take (n + 1)).drop (k + 1) = lat at *
      clear hX hY
      have HSk : Hid (StrsAt wr w.heap.size 0 namesL) := hSk
      clear hSk
      go_wp2_with fail
      have hki : (k : Int) < 8 := by omega
      have hw1 : IntKind.i64.wrap ((k : Int) + 1) = (k : Int) + 1 := by rw [IntKind.wrap_i64]; omega
      have hw2 : (k : Int) + 1 ≤ 1 + (n : Int) := by omega
      have hw3 : 1 + (n : Int) ≤ 8 := by omega
      have hw4 : ¬ 1 + (n : Int) < (k : Int) + 1 := by omega
      have hw5 : 0 ≤ (k : Int) + 1 := by omega
      obtain ⟨o2, ho2⟩ : ∃ o2 : Nat, (if k = 7 then some (⟨w.heap.size, 0, none⟩ : Addr) else some ⟨w.heap.size, k + 1, none⟩) = some ⟨w.heap.size, o2, none⟩ ∧ StrsAt wr w.heap.size o2 lat := by
        by_cases h7 : k = 7
        · exact ⟨0, by rw [if_pos h7], fun i s hs => by
            have := (List.getElem?_eq_some_iff.1 hs).1; omega⟩
        · exact ⟨k + 1, by rw [if_neg h7], hLs⟩
      obtain ⟨ho2, hLs2⟩ := ho2
      have hn2 : (1 + (n : Int)).toNat - (k + 1) = n - k := by omega
      clear hLs
      go_region_law (first
        | (go_simp; go_at_call 75; refine (phase_any rb len _ v nm lat w.heap.size o2 _ (n - k) wr.drew hRk.drew (by omega) hnz hLz hLl (by omega) hLs2.drew (by omega)).mono ?_; rintro e w2 ⟨⟨q, rfl, hq⟩, hR2, hg2⟩; have hw2s : wr.heap.size ≤ w2.heap.size := hg2.size; have hown3 := (own_grown (own_drew hown) hg2 (by omega)).alloc (.cells #[.string q.nm, .int .i64 q.k, .string q.a, .string q.b, .int .i64 q.n, .int .i64 q.wi, .string q.t, .string q.e] 34))
        | (refine step_append_own rfl _ _ 23 rfl (w.heap.size + 1) 34 ii _ 8 104 Tryz.underlying23 hi iz0 iz1 iz2 rfl (by decide) u5 _ _ rfl hown3 ⟨w2.heap.size, 0, none⟩ 1 1 q.cells rfl rfl (fun j u hj => new8 _ _ _ hj) (one8 q) (by unfold maxLen; omega) (by omega) (by simp; omega) ?_; intro v' w3 hown4 hgrow4))
      have hR3 := (hR2.alloc (.cells #[.string q.nm, .int .i64 q.k, .string q.a, .string q.b, .int .i64 q.n, .int .i64 q.wi, .string q.t, .string q.e] 34)).own hown3 hgrow4 (by omega)
      have hG3 := grown_own (grown_alloc (grown_trans (grown_drew hGk) hg2) _) hown3 hgrow4 (by omega)
      have HS3 := (((HSk.out.drew).kept hg2 (by omega)).alloc (.cells #[.string q.nm, .int .i64 q.k, .string q.a, .string q.b, .int .i64 q.n, .int .i64 q.wi, .string q.t, .string q.e] 34)).own hown3 hgrow4 (by omega)
      have Hpz : Hid (∀ p ∈ ps ++ [q], p.sz) := by
        show _; intro p hp
        rcases List.mem_append.1 hp with hp | hp
        · exact hpz p hp
        · obtain rfl : p = q := by simpa using hp
          exact hq
      clear hgrow4 hown3 hown hg2 hGk hR2 HSk hpz hRk hcell hLs2 hLz ho2 hn2 hw1 hw2 hw3 hw4 hw5 hki hq
      go_wp2_with fail
      go_roundw
      case rel => exact ⟨k + 1, ps ++ [q], by omega, by go_num, by simp [hpl], Hpz.out, by rw [rowP_append, List.length_append]; simpa [rowP] using hown4, hR3.mono (by omega), hG3, HS3⟩
      case measure => simp [intOf]; omega
    · obtain rfl : k = n + 1 := by omega
      obtain ⟨g, cap, rfl⟩ := own_ptr2 hown (by omega)
      go_wp2_with fail
      refine (pick_any rb len _ v 20 _ hRk (by omega)).mono ?_
      rintro e w2 ⟨⟨y, rfl, hy0, hy1⟩, hR2, hg2⟩
      have hown2 := own_grown hown hg2 (by omega)
      have hG2 := grown_trans hGk hg2
      have hs2 := hg2.size
      clear hown hg2 hGk hRk hy1 hSk
      have hown2' := hown2
      rw [hpl] at hown2'
      by_cases hy : y = 0
      · subst hy
        go_wp2_with fail
        go_loopw [5, 7] (fun u i w' => ∃ (k : Nat) (ps : List Ph), i = .int .i64 k ∧ ps.length = n + 1 + k ∧ ps.length ≤ 12 ∧ (∀ p ∈ ps, p.sz) ∧ w'.ownsRow (w.heap.size + 1) 34 8 u ps.length (rowP ps) ∧ Rd w' rb v len (N + 102 + 12 * k) ∧ w.grownBy w' (some rb) ∧ w.heap.size + 1 ≤ w'.heap.size) (fun _ i _ => 12 - (intOf i).toNat)
        case atStart => exact ⟨0, ps, rfl, hpl, by omega, hpz, by rw [hpl]; exact hown2', hR2.mono (by omega), hG2, by omega⟩
        case round =>
          clear hown2 hown2' hR2 hG2 hpz hpl hs2 hBw hws hRlt
          obtain ⟨k, qs, rfl, hql, hq12, hqz, hown, hRk, hGk, hBk⟩ := hrel
          obtain ⟨g, cap, rfl⟩ := own_ptr2 hown (by omega)
          have Hql : Hid (qs.length = n + 1 + k) := hql
          have hkb : n + 1 + k ≤ 12 := by omega
          by_cases hq : qs.length < 12
          · have hkc : n + 1 + k < 12 := by omega
            clear hql
            have hk9 : (k : Int) < 100 := by omega
            go_wp2_with fail
            refine (dec_any k wr (by omega) (by omega)).mono ?_
            rintro e w3 ⟨⟨s, rfl, hs⟩, hB3⟩
            have hw3 := hB3.size
            have hR3 := (hRk.kept hB3).alloc (.cells #[] 9)
            have hG3 := grown_alloc (grown_trans hGk (grown_below hB3)) (.cells #[] 9)
            have hown3 := (own_grown hown (grown_below hB3) hlt').alloc (.cells #[] 9)
            clear hRk hGk hown
            go_wp2_with fail
            refine (phase_any rb len _ v _ [] w3.heap.size 0 0 0 _ hR3 (by omega) (size_y s hs) (fun s hs => by simp at hs) rfl (by omega) (fun i s hs => by simp at hs) (by omega)).mono ?_
            rintro e w4 ⟨⟨q, rfl, hq4⟩, hR4, hg4⟩
            have hw4 : w3.heap.size ≤ w4.heap.size := by have := hg4.size; simp at this; omega
            have hown4 := (own_grown hown3 hg4 hlt').alloc (.cells #[.string q.nm, .int .i64 q.k, .string q.a, .string q.b, .int .i64 q.n, .int .i64 q.wi, .string q.t, .string q.e] 34)
            have hG4 := grown_alloc (grown_trans hG3 hg4) (.cells #[.string q.nm, .int .i64 q.k, .string q.a, .string q.b, .int .i64 q.n, .int .i64 q.wi, .string q.t, .string q.e] 34)
            have Hpz : Hid (∀ p ∈ qs ++ [q], p.sz) := by
              show _; intro p hp
              rcases List.mem_append.1 hp with hp | hp
              · exact hqz p hp
              · obtain rfl : p = q := by simpa using hp
                exact hq4
            clear hR3 hG3 hown3 hg4 hqz hq4
            go_wp2_with (at_builtin; refine wpList_append_own _ rfl _ _ 23 rfl (w.heap.size + 1) 34 ii _ 8 104 Tryz.underlying23 hi iz0 iz1 iz2 rfl (by decide) (.slice (some ⟨g, 0, none⟩) qs.length cap) _ _ rfl hown4 ⟨w4.heap.size, 0, none⟩ 1 1 q.cells rfl rfl (fun j u hj => new8 _ _ _ hj) (one8 q) (by unfold maxLen; omega) (by omega) (by simp; omega) ?_)
            intro v' w5 hown5 hgrow5 _
            have hR5 := (hR4.alloc (.cells #[.string q.nm, .int .i64 q.k, .string q.a, .string q.b, .int .i64 q.n, .int .i64 q.wi, .string q.t, .string q.e] 34)).own hown4 hgrow5 hlt'
            have hG5 := grown_own hG4 hown4 hgrow5 (by omega)
            have hw5 : w4.heap.size ≤ w5.heap.size := by have := hgrow5.size; simp at this; omega
            clear hR4 hG4 hgrow5 hown4
            go_wp2_with fail
            go_roundw
            case rel => exact ⟨k + 1, qs ++ [q], by go_num, by rw [List.length_append, Hql.out]; simp; omega, by rw [List.length_append]; simp; omega, Hpz.out, by rw [rowP_append, List.length_append]; simpa [rowP] using hown5, hR5.mono (by omega), hG5, by omega⟩
            case measure => simp [intOf]; omega
          · clear hql
            go_wp2_with fail
            go_ret
            exact ⟨⟨_, qs, rfl, by omega, hq12, hqz, own_low hown (Nat.le_succ _)⟩, hRk.mono (by omega), hGk⟩
      · have hy1 : (y == 0) = false := by simpa using hy
        go_wp2_with fail
        go_ret
        exact ⟨⟨_, ps, rfl, by omega, by omega, hpz, by rw [hpl]; exact own_low hown2' (Nat.le_succ _)⟩, hR2.mono (by omega), hG2⟩
end Go.Proofs.YtliebjbbomghiaaGreatDoor
