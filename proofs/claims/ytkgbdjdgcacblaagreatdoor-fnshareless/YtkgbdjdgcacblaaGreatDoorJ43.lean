/- The program's chapter 13: lists joined; those of names that are in one of the lists. -/
import Derived.Test.YtkgbdjdgcacblaaGreatDoorShelf
import Derived.Test.YtkgbdjdgcacblaaGreatDoorJ4
import Derived.Test.YtkgbdjdgcacblaaGreatDoorJ36
import Derived.Laws.AppendOwnNone
import Derived.Test.YtkgbdjdgcacblaaGreatDoorJ12
import Derived.Test.YtkgbdjdgcacblaaGreatDoorJ0
import Derived.Deep.MidRow
import Derived.Test.YtkgbdjdgcacblaaGreatDoorJ8
import Derived.Lib.SlicesCompact
namespace Go.Proofs.YtkgbdjdgcacblaaGreatDoor
open Go.RowKit Go.Shelf

theorem growA_any (n : Nat) (w : World) (h1 : 1 ≤ n) (h2 : n ≤ 1000) :
    Calls Tryz.prog 87 #[.slice none 0 0, .int .i64 (n : Int)] w
      fun e w' => (∃ u, e = .returned u ∧ OwnT w' w.heap.size u []) ∧ Below w.heap.size w w' := by
  obtain ⟨ii, hi, iz0, iz1, iz2⟩ := info_parts infoStr
  have h := Any8.slices_Grow_grow Tryz.growS ii (.string ⟨#[]⟩) hi iz0 (by omega) none 0 0 n [] w (Nat.le_refl _) (by omega) (by rw [iz2]; omega) (by omega) (by simp) (fun _ => rfl) (fun a ha => by cases ha)
  refine Calls.mono h ?_
  rintro e w' ⟨rfl, rfl⟩
  have hge := grownCap_ge w (0 + n) 0 9
  have hle := grownCap_le_maxLen w (0 + n) 0 9 (by unfold maxLen; omega)
  refine ⟨⟨_, rfl, rfl, .inr ⟨_, _, _, rfl, Nat.le_refl _, heap_alloc_new _ _, Nat.zero_le _, hle, ?_, by simp⟩⟩, (Below.refl _ _).drew.alloc (by simp) _⟩
  have hz : (Value.string ⟨#[]⟩).cells.size = 1 := rfl
  rw [Array.size_append, Array.size_append, size_zeroCells, size_zeroCells, hz]
  simp only [List.size_toArray, List.length_nil]
  show 0 + (0 + n - 0) * 1 + (grownCap w (0 + n) 0 9 - (0 + n)) * 1 = grownCap w (0 + n) 0 9 * 1
  omega
set_option maxRecDepth 20000 in
theorem grow0_any (w : World) : Calls Tryz.prog 87 #[.slice none 0 0, .int .i64 0] w fun e w' => (∃ u, e = .returned u ∧ OwnT w' w.heap.size u []) ∧ Below w.heap.size w w' := by
  go_enter Tryz.func87, Tryz.ntmps87
  go_wp2
  go_ret
  exact ⟨⟨_, rfl, World.ownsRow_nil _ _ _ _⟩, Below.refl _ _⟩
theorem growN_any (n : Nat) (w : World) (h2 : n ≤ 1000) : Calls Tryz.prog 87 #[.slice none 0 0, .int .i64 (n : Int)] w fun e w' => (∃ u, e = .returned u ∧ OwnT w' w.heap.size u []) ∧ Below w.heap.size w w' := by
  rcases Nat.eq_zero_or_pos n with h | h
  · subst h; exact grow0_any w
  · exact growA_any n w h h2
/-- Any list appended to one of one's own. -/
theorem app_ls {w : World} {base : Nat} {u v : Value} {xs ss : List ByteArray} (ho : OwnT w base u xs) (h : Ls w v ss) (hn : xs.length + ss.length ≤ 1000) (hb : base ≤ w.heap.size) :
    ∃ u' w', (Builtin.append_ #[23, 23] 23 #[u, v]).run Tryz.prog w = .ok u' w' ∧ OwnT w' base u' (xs ++ ss) ∧ w.grownBy w' u.ownBlock := by
  obtain ⟨ii, hi, iz0, iz1, iz2⟩ := info_parts infoStr
  obtain ⟨a, c, rfl, -, -, hpos⟩ := h
  rcases Nat.eq_zero_or_pos ss.length with h0 | h0
  · obtain rfl := List.length_eq_zero_iff.1 h0
    exact ⟨u, w, run_append_zero base 23 23 9 ii 1 Tryz.underlying23 hi _ _ _ ho a c, by simpa using ho, grown_refl _ _⟩
  · obtain ⟨g, o, rfl, hS, hg⟩ := hpos h0
    obtain ⟨v1, w1, hr, hown1, hgr1, -⟩ := run_append_own (P := Tryz.prog) w base 23 23 9 ii _ 1 16 Tryz.underlying23 hi iz0 iz1 iz2 rfl (by decide) u xs.length (xs.map Value.string) ho ⟨g, o, none⟩ ss.length c (ss.map Value.string) (by simp) (news_of hS) (oneS ss) (by unfold maxLen; omega) (by omega) hb
    refine ⟨v1, w1, hr, ?_, hgr1⟩
    unfold OwnT
    rw [List.length_append, List.map_append]
    exact hown1
/-- The lists up to place k, joined. -/
def catL (L : List (Value × List ByteArray)) (k : Nat) : List ByteArray := ((L.take k).map (·.2)).flatten
theorem catL_succ (L : List (Value × List ByteArray)) (k : Nat) (hk : k < L.length) : catL L (k + 1) = catL L k ++ (L[k]).2 := by
  rw [catL, catL, List.take_succ_eq_append_getElem hk, List.map_append, List.flatten_append]; simp
theorem catL_le (L : List (Value × List ByteArray)) : ∀ (d k : Nat), k + d ≤ L.length → (catL L k).length ≤ (catL L (k + d)).length
  | 0, _, _ => Nat.le_refl _
  | d + 1, k, h => by
    have h1 := catL_le L d k (by omega)
    have h2 := catL_succ L (k + d) (by omega)
    rw [← Nat.add_assoc, h2, List.length_append]; omega
def CellsL (w : World) (sb : Nat) (L : List (Value × List ByteArray)) : Prop := ∀ (i : Nat) (f : Value × List ByteArray), L[i]? = some f → w.cell? ⟨sb, i, none⟩ = some f.1 ∧ Ls w f.1 f.2
theorem CellsL.up {w w' : World} {sb : Nat} {L : List (Value × List ByteArray)} (h : CellsL w sb L) (hb : Below w.heap.size w w') (hs : sb < w.heap.size) : CellsL w' sb L := fun i f hf => ⟨(hb.cell (p := ⟨sb, i, none⟩) hs).trans (h i f hf).1, (h i f hf).2.up hb⟩
set_option maxRecDepth 20000 in
set_option maxHeartbeats 4000000 in
theorem concatN_any (L : List (Value × List ByteArray)) (sb : Nat) (w : World) (h : CellsL w sb L) (hsb : sb < w.heap.size) (hL : L.length ≤ 10) (hn : (catL L L.length).length ≤ 900) :
    Calls Tryz.prog 77 #[.slice (some ⟨sb, 0, none⟩) L.length L.length] w
      fun e w' => (∃ u, e = .returned u ∧ OwnT w' w.heap.size u (catL L L.length)) ∧ Below w.heap.size w w' := by
  have Hle : Hid (∀ k, k ≤ L.length → (catL L k).length ≤ 900) := fun k hk => by
    have := catL_le L (L.length - k) k (by omega)
    rw [show k + (L.length - k) = L.length by omega] at this
    omega
  go_enter Tryz.func77, Tryz.ntmps77
  go_wp2_with fail
  go_loop [3, 11] (fun z i => ∃ k : Nat, k ≤ L.length ∧ i = .int .i64 (k : Int) ∧ z = .int .i64 ((catL L k).length : Int)) (fun _ i => L.length - (intOf i).toNat)
  case atStart => exact ⟨0, by omega, rfl, by simp [catL]⟩
  case round =>
    obtain ⟨k, hk, rfl, rfl⟩ := hrel
    have hb1 := Hle.out k hk
    by_cases hp : k < L.length
    · obtain ⟨c0, l0⟩ := h k _ (List.getElem?_eq_getElem hp)
      have hb2 := Hle.out (k + 1) hp
      have HS : Hid ((catL L (k + 1)).length = (catL L k).length + (L[k]).2.length) := by show _ = _; rw [catL_succ L k hp, List.length_append]
      rw [HS.out] at hb2
      generalize L[k] = f0 at *
      obtain ⟨fv, fs⟩ := f0
      simp only at c0 l0 hb2 HS
      obtain ⟨fa, fc, hfv, -⟩ := id l0
      subst hfv
      clear l0
      generalize hcl : (catL L k).length = n0 at *
      go_wp2_with fail
      go_round
      case rel => exact ⟨k + 1, by omega, by go_num, by rw [HS.out]; go_num⟩
      case measure => simp [intOf]; omega
    · obtain rfl : k = L.length := by omega
      go_wp2_with fail
      refine (growN_any (catL L L.length).length w (by omega)).mono ?_
      rintro e w1 ⟨⟨u, rfl, ho⟩, hB1⟩
      have HC : Hid (CellsL w sb L) := h
      clear h hn hb1
      obtain ⟨ua, uc, hu⟩ := own_shape ho
      subst hu
      go_wp2_with fail
      go_loopw [6, 27] (fun u i w' => ∃ (k : Nat), k ≤ L.length ∧ i = .int .i64 (k : Int) ∧ OwnT w' w.heap.size u (catL L k) ∧ Below w.heap.size w w') (fun _ i _ => L.length - (intOf i).toNat)
      case atStart => exact ⟨0, by omega, rfl, by simpa [catL] using ho, hB1⟩
      case round =>
        clear ho hB1
        obtain ⟨k, hk, rfl, ho, hB⟩ := hrel
        by_cases hp : k < L.length
        · obtain ⟨c0, l0⟩ := (HC.out.up hB hsb) k _ (List.getElem?_eq_getElem hp)
          have hb2 := Hle.out (k + 1) hp
          rw [catL_succ L k hp, List.length_append] at hb2
          obtain ⟨u', w', hr, ho', hg'⟩ := app_ls ho l0 (by omega) hB.size
          have hB' := below_own hB ho hg' (Nat.le_refl _)
          rw [← catL_succ L k hp] at ho'
          generalize L[k] = f0 at *
          obtain ⟨fv, fs⟩ := f0
          simp only at c0 l0 hr
          obtain ⟨fa, fc, hfv, -⟩ := id l0
          subst hfv
          clear hb2 ho hg' l0
          go_wp2_with (at_builtin; refine wpList_append_run _ rfl _ _ _ _ rfl _ _ _ _ rfl rfl hr ?_)
          go_roundw
          case rel => exact ⟨k + 1, by omega, by go_num, ho', hB'⟩
          case measure => simp [intOf]; omega
        · obtain rfl : k = L.length := by omega
          go_wp2_with fail
          go_ret
          exact ⟨⟨_, rfl, ho⟩, hB⟩
end Go.Proofs.YtkgbdjdgcacblaaGreatDoor

/- The program's chapter 13: those of names that are in one of the lists. -/
namespace Go.Proofs.YtkgbdjdgcacblaaGreatDoor
open Go.RowKit

theorem catL_mem {L : List (Value × List ByteArray)} {s : ByteArray} (h : s ∈ catL L L.length) : ∃ i, ∃ hi : i < L.length, s ∈ (L[i]).2 := by
  rw [catL, List.take_length, List.mem_flatten] at h
  obtain ⟨l, hl, hs⟩ := h
  obtain ⟨f, hf, rfl⟩ := List.mem_map.1 hl
  obtain ⟨i, hi, rfl⟩ := List.getElem_of_mem hf
  exact ⟨i, hi, hs⟩
theorem catL_size {w : World} {sb : Nat} {L : List (Value × List ByteArray)} (h : CellsL w sb L) : ∀ s ∈ catL L L.length, s.size ≤ maxLen := fun s hs => by
  obtain ⟨i, hi, hm⟩ := catL_mem hs
  obtain ⟨_, _, _, _, hz, _⟩ := (h i _ (List.getElem?_eq_getElem hi)).2
  exact hz s hm
theorem filt_take {ss : List ByteArray} {f : ByteArray → Bool} {k : Nat} (hk : k < ss.length) : (ss.take (k + 1)).filter f = (ss.take k).filter f ++ (if f ss[k] = true then [ss[k]] else []) := by
  rw [List.take_succ_eq_append_getElem hk, List.filter_append]
  congr 1
  by_cases h : f ss[k] = true
  · simp [h]
  · simp [h]
theorem filt_len (ss : List ByteArray) (f : ByteArray → Bool) (k : Nat) : ((ss.take k).filter f).length ≤ k := by
  have h1 := List.length_filter_le f (ss.take k)
  rw [List.length_take] at h1
  omega
set_option maxRecDepth 20000 in
set_option maxHeartbeats 4000000 in
theorem among_any (ss : List ByteArray) (v : Value) (L : List (Value × List ByteArray)) (sb : Nat) (w : World) (h : Ls w v ss) (hs : ss.length ≤ 100) (hc : CellsL w sb L) (hsb : sb < w.heap.size) (hL : L.length ≤ 10) (hn : (catL L L.length).length ≤ 900) :
    Calls Tryz.prog 62 #[v, .slice (some ⟨sb, 0, none⟩) L.length L.length] w fun e w' => (∃ u, e = .returned u ∧ OwnT w' w.heap.size u (ss.filter (memS (catL L L.length)))) ∧ Below w.heap.size w w' := by
  obtain ⟨ii, hi, iz0, iz1, iz2⟩ := info_parts infoStr
  have Hz := catL_size hc
  obtain ⟨a, c, rfl, -, -, hpos⟩ := h
  go_enter Tryz.func62, Tryz.ntmps62
  go_wp2_with fail
  refine (concatN_any L sb w hc hsb hL hn).mono ?_
  rintro e w1 ⟨⟨u, rfl, ho⟩, hB1⟩
  have HL : Hid (∀ W, Below w1.heap.size w1 W → Ls W u (catL L L.length)) := fun W hW => (ho.lst.ls Hz).up hW
  obtain ⟨ua, uc, hu⟩ := own_shape ho
  subst hu
  clear ho Hz hc hn
  generalize hcat : catL L L.length = cat at *
  have Hcat : Hid (catL L L.length = cat) := hcat
  clear hcat
  have hpos1 : Hid (0 < ss.length → ∃ b o, a = some ⟨b, o, none⟩ ∧ StrsAt w1 b o ss ∧ b < w1.heap.size) := fun hp => by
    obtain ⟨g, o, e, hS, hg⟩ := hpos hp
    exact ⟨g, o, e, hS.up hB1 hg, Nat.lt_of_lt_of_le hg hB1.size⟩
  clear hpos
  go_wp2_with fail
  go_loopw [6, 13] (fun x i w' => ∃ k : Nat, k ≤ ss.length ∧ i = .int .i64 (k : Int) ∧ OwnT w' w1.heap.size x ((ss.take k).filter (memS cat)) ∧ Below w1.heap.size w1 w') (fun _ i _ => ss.length - (intOf i).toNat)
  case atStart => exact ⟨0, by omega, rfl, World.ownsRow_nil _ _ _ _, Below.refl _ _⟩
  case round =>
    obtain ⟨k, hk, rfl, hx, hB⟩ := hrel
    by_cases hp : k < ss.length
    · obtain ⟨g, o, rfl, hS, hg⟩ := hpos1.out (by omega)
      have c0 := (hS.up hB hg).cell hp
      have HF := filt_take (f := memS cat) hp
      have Hl := filt_len ss (memS cat) k
      have HC := HL.out wr hB
      generalize ss[k] = s0 at *
      go_wp2_with fail
      refine (containsS_any cat _ s0 _ HC).mono ?_
      rintro e w2 ⟨rfl, hw2⟩
      obtain rfl := hw2.symm
      clear c0
      cases hq : memS cat s0
      · rw [hq, if_neg (by simp), List.append_nil] at HF
        have HX : Hid (OwnT wr w1.heap.size u6 ((ss.take (k + 1)).filter (memS cat))) := by show _; rw [HF]; exact hx
        clear hx HF
        go_wp2_with fail
        go_roundw
        case rel => exact ⟨k + 1, by omega, by go_num, HX.out, hB⟩
        case measure => simp [intOf]; omega
      · rw [hq, if_pos rfl] at HF
        have HF' : Hid ((ss.take (k + 1)).filter (memS cat) = (ss.take k).filter (memS cat) ++ [s0]) := HF
        clear HF
        generalize (ss.take k).filter (memS cat) = xs at *
        have hownA := World.ownsRow.alloc hx (.cells #[.string s0] 9)
        have hBA := hB.alloc hB.size (.cells #[.string s0] 9)
        have hzA := hB.size
        obtain ⟨xa, xc, hxs⟩ := own_shape hx
        subst hxs
        clear hx
        go_wp2_with (at_builtin; refine wpList_append_own _ rfl _ _ 23 rfl w1.heap.size 9 ii _ 1 16 Tryz.underlying23 hi iz0 iz1 iz2 rfl (by decide) _ _ _ rfl hownA ⟨wr.heap.size, 0, none⟩ 1 1 [.string s0] rfl rfl (one_new _ _ _) (oneV s0) (by unfold maxLen; omega) (by omega) (by simp; omega) ?_)
        intro v' w2 hown2 hgr2 _
        have hB2 := below_own hBA hownA hgr2 (Nat.le_refl _)
        have hO2 : OwnT w2 w1.heap.size v' (xs ++ [s0]) := by unfold OwnT; simpa using hown2
        obtain ⟨ya, yc, hys⟩ := own_shape hO2
        subst hys
        clear hownA hgr2 hown2 hBA
        go_wp2_with fail
        go_roundw
        case rel => exact ⟨k + 1, by omega, by go_num, by rw [HF'.out]; exact hO2, hB2⟩
        case measure => simp [intOf]; omega
    · obtain rfl : k = ss.length := by omega
      rw [List.take_length] at hx
      have hBB := up_trans hB1 hB
      have hz1 := hB1.size
      obtain ⟨xa, xc, hxs⟩ := own_shape hx
      subst hxs
      go_wp2_with fail
      go_ret
      have e := Hcat.out
      subst e
      exact ⟨⟨_, rfl, own_low hx hz1⟩, hBB⟩
end Go.Proofs.YtkgbdjdgcacblaaGreatDoor

/- Books of one's own, batch by batch: rows and families. -/
namespace Go.Proofs.YtkgbdjdgcacblaaGreatDoor
open Go.RowKit

theorem rowsB_nm : ∀ (ps : List Bv) (k : Nat) (p : Bv) (s : ByteArray), ps[k]? = some p → (rowsB ps).set (k * 3) (.string s) = rowsB (ps.set k ((⟨s, p.1.has, p.1.needs⟩, p.2.1, p.2.2) : Bv))
  | q :: r, 0, p, s, h => by
    obtain rfl : q = p := by simpa using h
    simp [rowsB, rowB]
  | q :: r, k + 1, p, s, h => by
    have := rowsB_nm r k p s (by simpa using h)
    rw [show (k + 1) * 3 = k * 3 + 3 by omega]
    simp [rowsB, rowB, this]
/-- What a row shows of a batch is its name and its two lists' places. -/
theorem rowsB_same : ∀ (ps : List Bv) (k : Nat) (p : Bv) (x : Ba), ps[k]? = some p → x.nm = p.1.nm → rowsB (ps.set k ((x, p.2.1, p.2.2) : Bv)) = rowsB ps
  | q :: r, 0, p, x, h, e => by
    obtain rfl : q = p := by simpa using h
    simp [rowsB, rowB, e]
  | q :: r, k + 1, p, x, h, e => by
    have := rowsB_same r k p x (by simpa using h) e
    simp [rowsB, this]
theorem famB_at : ∀ (qs : List Bv) (k : Nat) (p : Bv), qs[k]? = some p → (famB qs).Perm ((p.2.1, p.1.has) :: (p.2.2, p.1.needs) :: famB (qs.eraseIdx k))
  | [], _, _, h => by simp at h
  | q :: r, 0, p, h => by
    obtain rfl : q = p := by simpa using h
    simp [famB]
  | q :: r, k + 1, p, h => by
    have ih := famB_at r k p (by simpa using h)
    simp only [famB, List.eraseIdx_cons_succ]
    refine ((ih.cons _).cons _).trans ?_
    exact (List.perm_append_comm (l₁ := [(q.2.1, q.1.has), (q.2.2, q.1.needs)]) (l₂ := [(p.2.1, p.1.has), (p.2.2, p.1.needs)])).append_right (famB (r.eraseIdx k))
theorem turn3 {α : Type} (t a b : α) (l : List α) : (t :: a :: b :: l).Perm (a :: b :: t :: l) := (List.perm_append_comm (l₁ := [t]) (l₂ := [a, b])).append_right l
/-- The lists of one batch put ahead of the others. -/
theorem Fam.front {w : World} {B : Nat} {q : Option Nat} {t : Value × List ByteArray} {ps : List Bv} {k : Nat} {p : Bv} (h : Fam w B q (t :: famB ps)) (hp : ps[k]? = some p) : Fam w B q ((p.2.1, p.1.has) :: (p.2.2, p.1.needs) :: t :: famB (ps.eraseIdx k)) :=
  h.perm (((famB_at ps k p hp).cons t).trans (turn3 _ _ _ _))
theorem Fam.back {w : World} {B : Nat} {q : Option Nat} {t : Value × List ByteArray} {ps : List Bv} {k : Nat} {p : Bv} (h : Fam w B q ((p.2.1, p.1.has) :: (p.2.2, p.1.needs) :: t :: famB (ps.eraseIdx k))) (hk : k < ps.length) : Fam w B q (t :: famB (ps.set k p)) := by
  refine h.perm (List.Perm.symm ?_)
  have h1 := famB_at (ps.set k p) k p (by rw [List.getElem?_set_self hk])
  rw [List.eraseIdx_set_eq] at h1
  exact (h1.cons t).trans (turn3 _ _ _ _)
/-- The first is written over. -/
theorem Fam.over {w w' : World} {B G : Nat} {u : Value} {ss ss' : List ByteArray} {fs : List (Value × List ByteArray)} (h : Fam w B (some G) ((u, ss) :: fs)) (hG : G < w.heap.size) (hg : w.grownBy w' u.ownBlock) (hu : OwnT w' B u ss') : Fam w' B (some G) ((u, ss') :: fs) :=
  h.app hg hu (fun _ hg => .inl hg) (fun _ h => by cases h; exact hG)
theorem Fam.off {w w' : World} {B G : Nat} {u : Value} {ss : List ByteArray} {fs : List (Value × List ByteArray)} (h : Fam w B (some G) ((u, ss) :: fs)) (hG : G < w.heap.size) (hg : w.grownBy w' u.ownBlock) : w'.heap[G]? = w.heap[G]? :=
  hg.block G hG (fun e => h.av _ List.mem_cons_self G e.symm rfl)
/-- A row of batches stays while a list is written over. -/
theorem row_step {W W' : World} {base b2 n : Nat} {u v : Value} {ss : List ByteArray} {xs : List Value} (hrow : W.ownsRow b2 45 3 v n xs) (h : OwnT W base u ss) (hg : W.grownBy W' u.ownBlock) : W'.ownsRow b2 45 3 v n xs :=
  own_keep2 hrow hg (own_apart2 hrow h (by decide))
/-- A book of one's own whose lists lie apart, and off a block. -/
def BkG (w : World) (base : Nat) (q : Option Nat) (v : Value) (b : Bk) : Prop := ∃ a1 c1 a2 c2 ps, v = .agg #[.slice a1 b.things.length c1, .slice a2 b.bs.length c2] ∧ BsW w base (.slice a2 b.bs.length c2) ps ∧ ps.map (·.1) = b.bs ∧ Fam w base q ((.slice a1 b.things.length c1, b.things) :: famB ps) ∧ ∀ g, (Value.slice a2 b.bs.length c2).ownBlock = some g → some g ≠ q
theorem BkF.off {w : World} {base G : Nat} {v : Value} {b : Bk} (h : BkF w base v b) (hG : w.heap.size ≤ G) : BkG w base (some G) v b := by
  obtain ⟨a1, c1, a2, c2, ps, e, h1, h2, h3⟩ := h
  refine ⟨a1, c1, a2, c2, ps, e, h1, h2, h3.avoid hG, fun g hg e => ?_⟩
  have := (h1.1.lt g hg).2
  obtain rfl := Option.some.inj e
  omega
theorem BkG.free {w : World} {base : Nat} {q : Option Nat} {v : Value} {b : Bk} (h : BkG w base q v b) : BkF w base v b := by
  obtain ⟨a1, c1, a2, c2, ps, e, h1, h2, h3, -⟩ := h
  exact ⟨a1, c1, a2, c2, ps, e, h1, h2, h3.free⟩
theorem BkG.up {w w' : World} {base : Nat} {q : Option Nat} {v : Value} {b : Bk} (h : BkG w base q v b) (hb : Below w.heap.size w w') : BkG w' base q v b := by
  obtain ⟨a1, c1, a2, c2, ps, e, h1, h2, h3, h4⟩ := h
  exact ⟨a1, c1, a2, c2, ps, e, h1.up hb, h2, h3.up hb, h4⟩
end Go.Proofs.YtkgbdjdgcacblaaGreatDoor

/- Recipes: plain facts. -/
namespace Go.Proofs.YtkgbdjdgcacblaaGreatDoor
open Go.RowKit
structure Ph where
  nm : ByteArray
  k : Int
  a : ByteArray
  b : ByteArray
  n : Int
  wi : Int
  t : ByteArray
  e : ByteArray
def Ph.cells (p : Ph) : List Value := [.string p.nm, .int .i64 p.k, .string p.a, .string p.b, .int .i64 p.n, .int .i64 p.wi, .string p.t, .string p.e]
def Ph.okB (p : Ph) : Bool := phaseB p.nm p.k p.a p.b p.n p.wi p.t p.e
/-- The recipe lies in block b from cell o on. -/
def RecAt (w : World) (b o : Nat) (ps : List Ph) : Prop := ∀ (i : Nat) (p : Ph), ps[i]? = some p → w.rangeAt b (o + i * 8) p.cells
/-- Its texts have sizes. -/
def Sized (ps : List Ph) : Prop := ∀ p ∈ ps, p.nm.size ≤ maxLen ∧ p.a.size ≤ maxLen ∧ p.b.size ≤ maxLen ∧ p.t.size ≤ maxLen ∧ p.e.size ≤ maxLen
def hasB (ps : List Ph) (nm : ByteArray) : Bool := ps.any fun p => p.nm.toList == nm.toList
def atI (ps : List Ph) (nm : ByteArray) : Int := match ps.findIdx? fun p => p.nm.toList == nm.toList with
  | some i => i
  | none => -1
theorem RecAt.cells {w : World} {b o : Nat} {ps : List Ph} (h : RecAt w b o ps) (i : Nat) (hi : i < ps.length) :
    w.cell? ⟨b, o + i * 8, none⟩ = some (.string (ps[i]).nm) ∧ w.cell? ⟨b, o + i * 8 + 1, none⟩ = some (.int .i64 (ps[i]).k) ∧ w.cell? ⟨b, o + i * 8 + 2, none⟩ = some (.string (ps[i]).a) ∧ w.cell? ⟨b, o + i * 8 + 3, none⟩ = some (.string (ps[i]).b) ∧
    w.cell? ⟨b, o + i * 8 + 4, none⟩ = some (.int .i64 (ps[i]).n) ∧ w.cell? ⟨b, o + i * 8 + 5, none⟩ = some (.int .i64 (ps[i]).wi) ∧ w.cell? ⟨b, o + i * 8 + 6, none⟩ = some (.string (ps[i]).t) ∧ w.cell? ⟨b, o + i * 8 + 7, none⟩ = some (.string (ps[i]).e) := by
  have hr := h i ps[i] (by simp [hi])
  exact ⟨hr 0 _ rfl, hr 1 _ rfl, hr 2 _ rfl, hr 3 _ rfl, hr 4 _ rfl, hr 5 _ rfl, hr 6 _ rfl, hr 7 _ rfl⟩
theorem RecAt.drop {w : World} {b o : Nat} {ps : List Ph} (h : RecAt w b o ps) (i : Nat) : RecAt w b (o + i * 8) (ps.drop i) := fun j p hp => by
  have := h (i + j) p (by simpa [List.getElem?_drop] using hp)
  rwa [show o + i * 8 + j * 8 = o + (i + j) * 8 by omega]
theorem RecAt.up {w w' : World} {b o B : Nat} {ps : List Ph} (h : RecAt w b o ps) (hb : Below B w w') (hB : b < B) : RecAt w' b o ps := fun i p hp j v hv => by
  rw [hb.cell (p := ⟨b, o + i * 8 + j, none⟩) hB]; exact h i p hp j v hv
theorem hasB_take (ps : List Ph) (nm : ByteArray) (k : Nat) (h : k < ps.length) : hasB (ps.take (k + 1)) nm = (hasB (ps.take k) nm || ((ps[k]).nm.toList == nm.toList)) := by
  unfold hasB; rw [List.take_succ_eq_append_getElem h, List.any_append]; simp
theorem hasB_all (ps : List Ph) (nm : ByteArray) (k : Nat) (h : ¬ k < ps.length) (hn : hasB (ps.take k) nm = false) : hasB ps nm = false := by
  rwa [List.take_of_length_le (by omega)] at hn
theorem hasB_yes (ps : List Ph) (nm : ByteArray) (k : Nat) (h : k < ps.length) (he : ((ps[k]).nm.toList == nm.toList) = true) : hasB ps nm = true := by
  unfold hasB; rw [List.any_eq_true]; exact ⟨ps[k], by simp, he⟩
theorem hasB_iff (ps : List Ph) (nm : ByteArray) : hasB ps nm = true ↔ ∃ (j : Nat) (q : Ph), ps[j]? = some q ∧ (q.nm.toList == nm.toList) = true := by
  unfold hasB; rw [List.any_eq_true]
  constructor
  · rintro ⟨q, hq, he⟩
    obtain ⟨j, hj, rfl⟩ := List.getElem_of_mem hq
    exact ⟨j, ps[j], by simp [hj], he⟩
  · rintro ⟨j, q, hq, he⟩
    exact ⟨q, List.mem_of_getElem? hq, he⟩
theorem atI_none (ps : List Ph) (nm : ByteArray) (h : hasB ps nm = false) : atI ps nm = -1 := by
  have : (ps.findIdx? fun p => p.nm.toList == nm.toList) = none := by
    rw [List.findIdx?_eq_none_iff]; simpa [hasB] using h
  simp only [atI, this]
theorem atI_found (ps : List Ph) (nm : ByteArray) (k : Nat) (h : k < ps.length) (hn : hasB (ps.take k) nm = false) (he : ((ps[k]).nm.toList == nm.toList) = true) : atI ps nm = k := by
  have : (ps.findIdx? fun p => p.nm.toList == nm.toList) = some k := by
    rw [List.findIdx?_eq_some_iff_getElem]
    refine ⟨h, he, fun j hj => ?_⟩
    intro hc
    have : hasB (ps.take k) nm = true := by
      rw [hasB_iff]
      exact ⟨j, ps[j], by simp [hj, Nat.lt_trans hj h], hc⟩
    rw [hn] at this; cases this
  simp only [atI, this]
def goesB (later : List Ph) (nm : ByteArray) : Bool := endN nm != 0 || hasB later nm
end Go.Proofs.YtkgbdjdgcacblaaGreatDoor

/- When a recipe is ok: both sides' tests are one. -/
namespace Go.Proofs.YtkgbdjdgcacblaaGreatDoor
/-- The program's test of the phase at place i. -/
def stepI (ps : List Ph) (i : Nat) (p : Ph) : Bool := p.okB && !hasB (ps.drop (i + 1)) p.nm && goesB (ps.drop (i + 1)) p.t && goesB (ps.drop (i + 1)) p.e
/-- The specification's. -/
def stepS (ps : List Ph) (i : Nat) (p : Ph) : Bool := p.okB && atI ps p.nm == (i : Int) && !(endN p.t == 0 && decide (atI ps p.t ≤ (i : Int))) && !(endN p.e == 0 && decide (atI ps p.e ≤ (i : Int)))
def allI (ps : List Ph) (k : Nat) : Prop := ∀ (i : Nat) (p : Ph), i < k → ps[i]? = some p → stepI ps i p = true
def allS (ps : List Ph) (k : Nat) : Prop := ∀ (i : Nat) (p : Ph), i < k → ps[i]? = some p → stepS ps i p = true
/-- A recipe that is ok. -/
def recB (ps : List Ph) : Bool := decide (1 ≤ ps.length) && decide (ps.length ≤ 12) && (List.range ps.length).all fun i => (ps[i]?.map (stepI ps i)).getD true
theorem recB_iff (ps : List Ph) : recB ps = true ↔ 1 ≤ ps.length ∧ ps.length ≤ 12 ∧ allI ps ps.length := by
  simp only [recB, Bool.and_eq_true, decide_eq_true_eq, List.all_eq_true, List.mem_range, allI, and_assoc]
  refine and_congr_right fun _ => and_congr_right fun _ => ⟨fun h i p hi hp => ?_, fun h i hi => ?_⟩
  · have := h i hi; simpa [hp] using this
  · have hg : ps[i]? = some ps[i] := by simp [hi]
    rw [hg]; simpa using h i ps[i] hi hg
theorem hasB_drop (ps : List Ph) (nm : ByteArray) (i : Nat) : hasB (ps.drop i) nm = true ↔ ∃ (j : Nat) (q : Ph), i ≤ j ∧ ps[j]? = some q ∧ (q.nm.toList == nm.toList) = true := by
  rw [hasB_iff]
  constructor
  · rintro ⟨j, q, hq, he⟩
    exact ⟨i + j, q, by omega, by simpa [List.getElem?_drop] using hq, he⟩
  · rintro ⟨j, q, hj, hq, he⟩
    exact ⟨j - i, q, by rw [List.getElem?_drop, show i + (j - i) = j by omega]; exact hq, he⟩
theorem atI_cases (ps : List Ph) (nm : ByteArray) : (hasB ps nm = false ∧ atI ps nm = -1) ∨ ∃ (j : Nat) (q : Ph), ps[j]? = some q ∧ (q.nm.toList == nm.toList) = true ∧ atI ps nm = (j : Int) ∧ ∀ (l : Nat) (r : Ph), l < j → ps[l]? = some r → (r.nm.toList == nm.toList) = false := by
  cases h : ps.findIdx? fun p => p.nm.toList == nm.toList with
  | none =>
    left
    rw [List.findIdx?_eq_none_iff] at h
    exact ⟨by simpa [hasB] using h, by simp only [atI, List.findIdx?_eq_none_iff.2 h]⟩
  | some j =>
    right
    have h' := h
    rw [List.findIdx?_eq_some_iff_getElem] at h
    obtain ⟨hj, he, hl⟩ := h
    refine ⟨j, ps[j], by simp [hj], he, by simp only [atI, h'], fun l r hlj hr => ?_⟩
    obtain ⟨hl', rfl⟩ := List.getElem?_eq_some_iff.1 hr
    simpa using hl l hlj
theorem beq_trans' {a b c : List UInt8} (h1 : (a == b) = true) (h2 : (c == b) = true) : (a == c) = true := by
  rw [beq_iff_eq] at *; rw [h1, h2]
/-- The two tests over the whole recipe say one thing. -/
theorem allI_iff_allS (ps : List Ph) : allI ps ps.length ↔ allS ps ps.length := by
  have lt_of : ∀ {i : Nat} {p : Ph}, ps[i]? = some p → i < ps.length := fun h => (List.getElem?_eq_some_iff.1 h).1
  -- what follows where names are found once
  have key : ∀ (i : Nat) (nm : ByteArray), (∀ (l j : Nat) (r q : Ph), ps[l]? = some r → ps[j]? = some q → (r.nm.toList == q.nm.toList) = true → l = j) →
      (goesB (ps.drop (i + 1)) nm = true ↔ (!(endN nm == 0 && decide (atI ps nm ≤ (i : Int)))) = true) := by
    intro i nm hu
    unfold goesB
    by_cases h0 : endN nm = 0
    · simp only [h0, bne_self_eq_false, Bool.false_or, beq_self_eq_true, Bool.true_and, Bool.not_eq_true', decide_eq_false_iff_not]
      rw [hasB_drop]
      rcases atI_cases ps nm with ⟨hn, ha⟩ | ⟨j, q, hq, he, ha, _⟩
      · rw [ha]
        constructor
        · rintro ⟨l, r, _, hr, hre⟩
          have : hasB ps nm = true := (hasB_iff _ _).2 ⟨l, r, hr, hre⟩
          rw [hn] at this; cases this
        · intro h; omega
      · rw [ha]
        constructor
        · rintro ⟨l, r, hl, hr, hre⟩
          have := hu l j r q hr hq (beq_trans' hre he)
          omega
        · intro h
          exact ⟨j, q, by omega, hq, he⟩
    · have : (endN nm == 0) = false := by simpa using h0
      simp [this, bne]
  constructor
  · intro h i p hi hp
    have hu : ∀ (l j : Nat) (r q : Ph), ps[l]? = some r → ps[j]? = some q → (r.nm.toList == q.nm.toList) = true → l = j := by
      intro l j r q hr hq he
      rcases Nat.lt_trichotomy l j with hlj | rfl | hlj
      · have hs := h l r (lt_of hr) hr
        simp only [stepI, Bool.and_eq_true, Bool.not_eq_true'] at hs
        have : hasB (ps.drop (l + 1)) r.nm = true := (hasB_drop _ _ _).2 ⟨j, q, hlj, hq, by rw [Bool.beq_comm]; exact he⟩
        rw [hs.1.1.2] at this; cases this
      · rfl
      · have hs := h j q (lt_of hq) hq
        simp only [stepI, Bool.and_eq_true, Bool.not_eq_true'] at hs
        have : hasB (ps.drop (j + 1)) q.nm = true := (hasB_drop _ _ _).2 ⟨l, r, hlj, hr, he⟩
        rw [hs.1.1.2] at this; cases this
    have hs := h i p hi hp
    simp only [stepI, Bool.and_eq_true] at hs
    simp only [stepS, Bool.and_eq_true]
    refine ⟨⟨⟨hs.1.1.1, ?_⟩, (key i p.t hu).1 hs.1.2⟩, (key i p.e hu).1 hs.2⟩
    rcases atI_cases ps p.nm with ⟨hn, _⟩ | ⟨j, q, hq, he, ha, _⟩
    · have : hasB ps p.nm = true := (hasB_iff _ _).2 ⟨i, p, hp, by simp⟩
      rw [hn] at this; cases this
    · rw [ha, hu j i q p hq hp he]; simp
  · intro h i p hi hp
    have hu : ∀ (l j : Nat) (r q : Ph), ps[l]? = some r → ps[j]? = some q → (r.nm.toList == q.nm.toList) = true → l = j := by
      intro l j r q hr hq he
      have h1 := h l r (lt_of hr) hr
      have h2 := h j q (lt_of hq) hq
      simp only [stepS, Bool.and_eq_true, beq_iff_eq] at h1 h2
      have : atI ps r.nm = atI ps q.nm := by
        have e : r.nm.toList = q.nm.toList := by simpa using he
        simp only [atI, e]
      have := h1.1.1.2.symm.trans (this.trans h2.1.1.2)
      omega
    have hs := h i p hi hp
    simp only [stepS, Bool.and_eq_true] at hs
    simp only [stepI, Bool.and_eq_true]
    refine ⟨⟨⟨hs.1.1.1, ?_⟩, (key i p.t hu).2 hs.1.2⟩, (key i p.e hu).2 hs.2⟩
    rw [Bool.not_eq_true', ← Bool.not_eq_true]
    intro hc
    obtain ⟨j, q, hj, hq, he⟩ := (hasB_drop _ _ _).1 hc
    have := hu j i q p hq hp he
    omega
theorem recB_iffS (ps : List Ph) : recB ps = true ↔ 1 ≤ ps.length ∧ ps.length ≤ 12 ∧ allS ps ps.length := by rw [recB_iff, allI_iff_allS]
theorem nand_of {x : Bool} {Q : Prop} [Decidable Q] (h : ¬ (x = true ∧ Q)) : (!(x && decide Q)) = true := by cases x <;> simp_all
theorem recB_noS (ps : List Ph) (k : Nat) (hk : k < ps.length) (h : stepS ps k ps[k] = false) : recB ps = false := by
  rw [← Bool.not_eq_true, recB_iffS]
  rintro ⟨_, _, ha⟩
  have := ha k ps[k] hk (by simp [hk])
  rw [h] at this; cases this
theorem recB_noI (ps : List Ph) (k : Nat) (hk : k < ps.length) (h : stepI ps k ps[k] = false) : recB ps = false := by
  rw [← Bool.not_eq_true, recB_iff]
  rintro ⟨_, _, ha⟩
  have := ha k ps[k] hk (by simp [hk])
  rw [h] at this; cases this
theorem recB_len (ps : List Ph) (h : ¬ (1 ≤ ps.length ∧ ps.length ≤ 12)) : recB ps = false := by
  rw [← Bool.not_eq_true, recB_iff]
  rintro ⟨h1, h2, _⟩; exact h ⟨h1, h2⟩
theorem allS_succ {ps : List Ph} {k : Nat} (h : allS ps k) (hk : k < ps.length) (hs : stepS ps k ps[k] = true) : allS ps (k + 1) := fun i p hi hp => by
  rcases Nat.lt_or_ge i k with h' | h'
  · exact h i p h' hp
  · obtain rfl : i = k := by omega
    obtain ⟨_, rfl⟩ := List.getElem?_eq_some_iff.1 hp
    exact hs
theorem allI_succ {ps : List Ph} {k : Nat} (h : allI ps k) (hk : k < ps.length) (hs : stepI ps k ps[k] = true) : allI ps (k + 1) := fun i p hi hp => by
  rcases Nat.lt_or_ge i k with h' | h'
  · exact h i p h' hp
  · obtain rfl : i = k := by omega
    obtain ⟨_, rfl⟩ := List.getElem?_eq_some_iff.1 hp
    exact hs
theorem allS_zero (ps : List Ph) : allS ps 0 := fun _ _ h => by omega
theorem allI_zero (ps : List Ph) : allI ps 0 := fun _ _ h => by omega
theorem recB_yesS (ps : List Ph) (k : Nat) (h1 : 1 ≤ ps.length ∧ ps.length ≤ 12) (hk : k ≤ ps.length) (hk' : ¬ k < ps.length) (ha : allS ps k) : recB ps = true := by
  obtain rfl : k = ps.length := by omega
  exact (recB_iffS ps).2 ⟨h1.1, h1.2, ha⟩
theorem recB_yesI (ps : List Ph) (k : Nat) (h1 : 1 ≤ ps.length ∧ ps.length ≤ 12) (hk : k ≤ ps.length) (hk' : ¬ k < ps.length) (ha : allI ps k) : recB ps = true := by
  obtain rfl : k = ps.length := by omega
  exact (recB_iff ps).2 ⟨h1.1, h1.2, ha⟩
end Go.Proofs.YtkgbdjdgcacblaaGreatDoor

/- Slots in plain: lists joined. -/
namespace Go.Proofs.YtkgbdjdgcacblaaGreatDoor

def bothL (a : List ByteArray) (b : List ByteArray) : List ByteArray := b.foldl insL a
theorem bothL_take (a b : List ByteArray) (k : Nat) (hk : k < b.length) : bothL a (b.take (k + 1)) = insL (bothL a (b.take k)) b[k] := by
  unfold bothL; rw [List.take_succ_eq_append_getElem hk, List.foldl_append]; rfl
theorem bothL_len (a : List ByteArray) : ∀ b : List ByteArray, (bothL a b).length ≤ a.length + b.length
  | [] => by simp [bothL]
  | x :: r => by
    have h1 := bothL_len (insL a x) r
    have h2 := insL_len a x
    simp only [bothL, List.foldl_cons, List.length_cons] at *
    omega
/-- The slots of a phase alone. -/
def ofL (p : Ph) : List ByteArray := if p.k = 2 then insL [p.a] p.b else [p.a]
end Go.Proofs.YtkgbdjdgcacblaaGreatDoor

/- Names in order: plain facts. -/
namespace Go.Proofs.YtkgbdjdgcacblaaGreatDoor

theorem less_eq : ∀ (x y : List UInt8), Op.bytesLess x y = decide (x < y)
  | [], [] => by simp [Op.bytesLess]
  | _ :: _, [] => by simp [Op.bytesLess]
  | [], _ :: _ => by simp [Op.bytesLess]
  | a :: x, b :: y => by
    rw [Op.bytesLess, less_eq x y]
    simp only [List.cons_lt_cons_iff]
    by_cases h1 : a < b <;> by_cases h2 : a = b <;> by_cases h3 : x < y <;> simp [h1, h2, h3]
abbrev Key := List UInt8
theorem key_irrefl (x : Key) : ¬ x < x := List.lt_irrefl x
theorem key_trans {x y z : Key} (h : x < y) (k : y < z) : x < z := List.lt_trans h k
theorem key_tri (x y : Key) : x < y ∨ x = y ∨ y < x := by
  rcases Decidable.em (x < y) with h | h
  · exact .inl h
  · rcases Decidable.em (y < x) with k | k
    · exact .inr (.inr k)
    · exact .inr (.inl (List.le_antisymm (List.not_lt.1 k) (List.not_lt.1 h)))
theorem key_le {x y : Key} : x ≤ y ↔ x < y ∨ x = y := by
  constructor
  · intro h
    rcases key_tri x y with k | k | k
    · exact .inl k
    · exact .inr k
    · exact absurd k (List.not_lt.2 h)
  · rintro (h | rfl)
    · exact List.not_lt.1 fun k => key_irrefl _ (key_trans h k)
    · exact List.le_refl _
/-- Two ascending lists of the same names are one. -/
theorem asc_unique : ∀ (a b : List Key), a.Pairwise (· < ·) → b.Pairwise (· < ·) → (∀ x, x ∈ a ↔ x ∈ b) → a = b
  | [], [], _, _, _ => rfl
  | [], y :: s, _, _, h => by have := (h y).2 (by simp); simp at this
  | x :: r, [], _, _, h => by have := (h x).1 (by simp); simp at this
  | x :: r, y :: s, ha, hb, h => by
    obtain ⟨ha1, ha2⟩ := List.pairwise_cons.1 ha
    obtain ⟨hb1, hb2⟩ := List.pairwise_cons.1 hb
    have e : x = y := by
      rcases List.mem_cons.1 ((h x).1 (by simp)) with e | e
      · exact e
      · rcases List.mem_cons.1 ((h y).2 (by simp)) with e' | e'
        · exact e'.symm
        · exact absurd (key_trans (hb1 x e) (ha1 y e')) (key_irrefl _)
    subst e
    rw [asc_unique r s ha2 hb2 fun z => ?_]
    constructor
    · intro hz
      rcases List.mem_cons.1 ((h z).1 (by simp [hz])) with e | e
      · subst e; exact absurd (ha1 z hz) (key_irrefl _)
      · exact e
    · intro hz
      rcases List.mem_cons.1 ((h z).2 (by simp [hz])) with e | e
      · subst e; exact absurd (hb1 z hz) (key_irrefl _)
      · exact e
/-- The names' bytes. -/
def keys (ss : List ByteArray) : List Key := ss.map (·.toList)
theorem key_inj {a b : ByteArray} (h : a.toList = b.toList) : a = b := by
  rw [Go.ByteArray.toList_eq, Go.ByteArray.toList_eq] at h
  cases a; cases b; simp at h; rw [h]
theorem ins_keys (ss : List ByteArray) (x : ByteArray) : (∀ z, z ∈ keys (insL ss x) ↔ z ∈ keys ss ∨ z = x.toList) ∧ ((keys ss).Pairwise (· < ·) → (keys (insL ss x)).Pairwise (· < ·)) := by
  induction ss with
  | nil => simp [insL, keys]
  | cons y r ih =>
    obtain ⟨im, ip⟩ := ih
    rw [insL]
    by_cases h1 : lessB y x = true
    · rw [if_pos h1]
      have h1' : y.toList < x.toList := by rw [lessB, less_eq] at h1; simpa using h1
      refine ⟨fun z => ?_, fun hp => ?_⟩
      · have := im z
        simp only [keys, List.map_cons, List.mem_cons] at this ⊢
        rw [this]; constructor
        · rintro (h | h | h)
          · exact .inl (.inl h)
          · exact .inl (.inr h)
          · exact .inr h
        · rintro ((h | h) | h)
          · exact .inl h
          · exact .inr (.inl h)
          · exact .inr (.inr h)
      · simp only [keys, List.map_cons] at hp ⊢
        obtain ⟨p1, p2⟩ := List.pairwise_cons.1 hp
        refine List.pairwise_cons.2 ⟨fun z hz => ?_, ip p2⟩
        rcases (im z).1 hz with h | h
        · exact p1 z h
        · subst h; exact h1'
    · rw [if_neg h1]
      have h1' : ¬ y.toList < x.toList := by rw [lessB, less_eq] at h1; simpa using h1
      by_cases h2 : sameB y x = true
      · rw [if_pos h2]
        have e : y.toList = x.toList := by simpa [sameB] using h2
        refine ⟨fun z => ?_, fun hp => hp⟩
        simp only [keys, List.map_cons, List.mem_cons]
        rw [e]; constructor
        · exact .inl
        · rintro (h | h)
          · exact h
          · exact .inl h
      · rw [if_neg h2]
        have e : y.toList ≠ x.toList := by simpa [sameB] using h2
        have lt : x.toList < y.toList := by
          rcases key_tri y.toList x.toList with k | k | k
          · exact absurd k h1'
          · exact absurd k e
          · exact k
        refine ⟨fun z => ?_, fun hp => ?_⟩
        · simp only [keys, List.map_cons, List.mem_cons]
          constructor
          · rintro (h | h | h)
            · exact .inr h
            · exact .inl (.inl h)
            · exact .inl (.inr h)
          · rintro ((h | h) | h)
            · exact .inr (.inl h)
            · exact .inr (.inr h)
            · exact .inl h
        · simp only [keys, List.map_cons] at hp ⊢
          refine List.pairwise_cons.2 ⟨fun z hz => ?_, hp⟩
          rcases List.mem_cons.1 hz with h | h
          · subst h; exact lt
          · exact key_trans lt ((List.pairwise_cons.1 hp).1 z h)
theorem both_keys (b : List ByteArray) : ∀ a : List ByteArray, (∀ z, z ∈ keys (bothL a b) ↔ z ∈ keys a ∨ z ∈ keys b) ∧ ((keys a).Pairwise (· < ·) → (keys (bothL a b)).Pairwise (· < ·)) := by
  induction b with
  | nil => intro a; exact ⟨fun z => by simp [bothL, keys], fun h => h⟩
  | cons x r ih =>
    intro a
    obtain ⟨im, ip⟩ := ih (insL a x)
    obtain ⟨jm, jp⟩ := ins_keys a x
    refine ⟨fun z => ?_, fun h => ip (jp h)⟩
    have h1 := im z
    have h2 := jm z
    show z ∈ keys (bothL (insL a x) r) ↔ _
    rw [h1, h2]
    simp only [keys, List.map_cons, List.mem_cons]
    constructor
    · rintro ((h | h) | h)
      · exact .inl h
      · exact .inr (.inl h)
      · exact .inr (.inr h)
    · rintro (h | h | h)
      · exact .inl (.inl h)
      · exact .inl (.inr h)
      · exact .inr h
/-- What is left of a list in order where neighbours are one: ascending, the same names. -/
theorem compact_keys (zs : List Key) (hs : zs.Pairwise (· ≤ ·)) : ∀ m, m ≤ zs.length → (Lib.compactUpTo zs.toArray m).Pairwise (· < ·) ∧ (∀ x, x ∈ Lib.compactUpTo zs.toArray m ↔ ∃ j, j < m ∧ zs[j]? = some x) ∧ (∀ x ∈ Lib.compactUpTo zs.toArray m, ∀ y, zs[m - 1]? = some y → x ≤ y) := by
  intro m
  induction m with
  | zero => intro _; simp [Lib.compactUpTo]
  | succ m ih =>
    intro hm
    obtain ⟨h1, h2, h3⟩ := ih (by omega)
    have hml : m < zs.length := by omega
    have hd : (zs.toArray)[m]! = zs[m] := by simp [hml]
    rw [Lib.compactUpTo_succ, hd]
    by_cases hk : Lib.keeps zs.toArray m = true
    · rw [if_pos hk]
      have hlt : ∀ x ∈ Lib.compactUpTo zs.toArray m, x < zs[m] := by
        intro x hx
        rcases Nat.eq_zero_or_pos m with h0 | h0
        · subst h0; simp [Lib.compactUpTo] at hx
        · have hm1 : m - 1 < zs.length := by omega
          have hle := h3 x hx zs[m - 1] (by simp [hm1])
          have hne : zs[m] ≠ zs[m - 1] := by
            simp only [Lib.keeps, decide_eq_true_eq] at hk
            rcases hk with hk | hk
            · omega
            · simpa [hml, hm1] using hk
          have hle2 : zs[m - 1] ≤ zs[m] := List.pairwise_iff_getElem.1 hs (m - 1) m hm1 hml (by omega)
          have hlt2 : zs[m - 1] < zs[m] := by
            rcases key_le.1 hle2 with k | k
            · exact k
            · exact absurd k.symm hne
          rcases key_le.1 hle with k | k
          · exact key_trans k hlt2
          · rw [k]; exact hlt2
      refine ⟨List.pairwise_append.2 ⟨h1, by simp, fun x hx y hy => by simp at hy; subst hy; exact hlt x hx⟩, fun x => ?_, fun x hx y hy => ?_⟩
      · rw [List.mem_append, h2, List.mem_singleton]
        constructor
        · rintro (⟨j, hj, e⟩ | rfl)
          · exact ⟨j, by omega, e⟩
          · exact ⟨m, by omega, by simp [hml]⟩
        · rintro ⟨j, hj, e⟩
          rcases Nat.lt_or_ge j m with h | h
          · exact .inl ⟨j, h, e⟩
          · obtain rfl : j = m := by omega
            right; rw [List.getElem?_eq_getElem hml] at e; exact (Option.some.inj e).symm
      · simp only [Nat.add_sub_cancel] at hy
        rw [List.getElem?_eq_getElem hml] at hy
        obtain rfl := Option.some.inj hy
        rcases List.mem_append.1 hx with h | h
        · exact key_le.2 (.inl (hlt x h))
        · simp at h; subst h; exact List.le_refl _
    · rw [if_neg hk, List.append_nil]
      have h0 : 0 < m := by
        rcases Nat.eq_zero_or_pos m with h | h
        · subst h; simp [Lib.keeps] at hk
        · exact h
      have hm1 : m - 1 < zs.length := by omega
      have he : zs[m] = zs[m - 1] := by
        simp only [Lib.keeps, decide_eq_true_eq, not_or, Decidable.not_not] at hk
        have := hk.2
        simpa [hml, hm1] using this
      refine ⟨h1, fun x => ?_, fun x hx y hy => ?_⟩
      · rw [h2]
        constructor
        · rintro ⟨j, hj, e⟩; exact ⟨j, by omega, e⟩
        · rintro ⟨j, hj, e⟩
          rcases Nat.lt_or_ge j m with h | h
          · exact ⟨j, h, e⟩
          · obtain rfl : j = m := by omega
            exact ⟨j - 1, by omega, by rw [List.getElem?_eq_getElem hml] at e; rw [List.getElem?_eq_getElem hm1, ← he]; exact e⟩
      · simp only [Nat.add_sub_cancel] at hy
        rw [List.getElem?_eq_getElem hml, he] at hy
        exact h3 x hx y (by rw [List.getElem?_eq_getElem hm1]; exact hy)
/-- What the program makes of three lists. -/
def uniq (l : List Key) : List Key := Lib.compact (l.mergeSort fun x y => decide (x ≤ y))
theorem uniq_keys (l : List Key) : (uniq l).Pairwise (· < ·) ∧ ∀ x, x ∈ uniq l ↔ x ∈ l := by
  have hs : (l.mergeSort fun x y => decide (x ≤ y)).Pairwise (· ≤ ·) := by
    have := List.pairwise_mergeSort (le := fun (x y : Key) => decide (x ≤ y)) (fun a b c h k => by
      simp only [decide_eq_true_eq] at *; exact List.le_trans h k) (fun a b => by
      simp only [Bool.or_eq_true, decide_eq_true_eq]; exact List.le_total a b) l
    simpa using this
  obtain ⟨h1, h2, _⟩ := compact_keys _ hs _ (Nat.le_refl _)
  refine ⟨h1, fun x => ?_⟩
  have := h2 x
  unfold uniq Lib.compact
  rw [this]
  have hm : x ∈ (l.mergeSort fun x y => decide (x ≤ y)) ↔ x ∈ l := List.mem_mergeSort
  rw [← hm, List.mem_iff_getElem?]
  constructor
  · rintro ⟨j, _, e⟩; exact ⟨j, e⟩
  · rintro ⟨j, e⟩; exact ⟨j, (List.getElem?_eq_some_iff.1 e).1, e⟩
end Go.Proofs.YtkgbdjdgcacblaaGreatDoor
