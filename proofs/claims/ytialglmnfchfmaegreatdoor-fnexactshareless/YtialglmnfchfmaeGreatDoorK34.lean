/- The program's chapter 13: those of names that are in one of the lists. -/
import Derived.Test.YtialglmnfchfmaeGreatDoorK33
import Derived.Test.YtialglmnfchfmaeGreatDoorK0
import Derived.Deep.MidRow
import Derived.Test.YtialglmnfchfmaeGreatDoorK14
namespace Go.Proofs.YtialglmnfchfmaeGreatDoor
open Go.RowKit

theorem catL_mem {L : List (Value × List ByteArray)} {s : ByteArray} (h : s ∈ catL L L.length) : ∃ i, ∃ hi : i < L.length, s ∈ (L[i]).2 := by
  rw [catL, List.take_length, List.mem_flatten] at h
  obtain ⟨l, hl, hs⟩ := h
  obtain ⟨f, hf, rfl⟩ := List.mem_map.1 hl
  obtain ⟨i, hi, rfl⟩ := List.getElem_of_mem hf
  exact ⟨i, hi, hs⟩
theorem catL_size {w : World} {sb : Nat} {L : List (Value × List ByteArray)} (h : CellsL w sb L) : ∀ s ∈ catL L L.length, s.size ≤ maxLen := fun s hs => by
  obtain ⟨i, hi, hm⟩ := catL_mem hs
  obtain ⟨_, _, _, _, hz, _⟩ := (h i _ (List.getElem?_eq_getElem hi)).2
  exact hz s hm
theorem filt_take {ss : List ByteArray} {f : ByteArray → Bool} {k : Nat} (hk : k < ss.length) : (ss.take (k + 1)).filter f = (ss.take k).filter f ++ (if f ss[k] = true then [ss[k]] else []) := by
  rw [List.take_succ_eq_append_getElem hk, List.filter_append]
  congr 1
  by_cases h : f ss[k] = true
  · simp [h]
  · simp [h]
theorem filt_len (ss : List ByteArray) (f : ByteArray → Bool) (k : Nat) : ((ss.take k).filter f).length ≤ k := by
  have h1 := List.length_filter_le f (ss.take k)
  rw [List.length_take] at h1
  omega
set_option maxRecDepth 20000 in
set_option maxHeartbeats 4000000 in
theorem among_any (ss : List ByteArray) (v : Value) (L : List (Value × List ByteArray)) (sb : Nat) (w : World) (h : Ls w v ss) (hs : ss.length ≤ 100) (hc : CellsL w sb L) (hsb : sb < w.heap.size) (hL : L.length ≤ 10) (hn : (catL L L.length).length ≤ 900) :
    Calls Tryz.prog 114 #[v, .slice (some ⟨sb, 0, none⟩) L.length L.length] w fun e w' => (∃ u, e = .returned u ∧ OwnT w' w.heap.size u (ss.filter (memS (catL L L.length)))) ∧ Below w.heap.size w w' := by
  obtain ⟨ii, hi, iz0, iz1, iz2⟩ := info_parts infoStr
  have Hz := catL_size hc
  obtain ⟨a, c, rfl, -, -, hpos⟩ := h
  go_enter Tryz.func114, Tryz.ntmps114
  go_wp2_with fail
  refine (concatN_any L sb w hc hsb hL hn).mono ?_
  rintro e w1 ⟨⟨u, rfl, ho⟩, hB1⟩
  have HL : Hid (∀ W, Below w1.heap.size w1 W → Ls W u (catL L L.length)) := fun W hW => (ho.lst.ls Hz).up hW
  obtain ⟨ua, uc, hu⟩ := own_shape ho
  subst hu
  clear ho Hz hc hn
  generalize hcat : catL L L.length = cat at *
  have Hcat : Hid (catL L L.length = cat) := hcat
  clear hcat
  have hpos1 : Hid (0 < ss.length → ∃ b o, a = some ⟨b, o, none⟩ ∧ StrsAt w1 b o ss ∧ b < w1.heap.size) := fun hp => by
    obtain ⟨g, o, e, hS, hg⟩ := hpos hp
    exact ⟨g, o, e, hS.up hB1 hg, Nat.lt_of_lt_of_le hg hB1.size⟩
  clear hpos
  go_wp2_with fail
  go_loopw [6, 13] (fun x i w' => ∃ k : Nat, k ≤ ss.length ∧ i = .int .i64 (k : Int) ∧ OwnT w' w1.heap.size x ((ss.take k).filter (memS cat)) ∧ Below w1.heap.size w1 w') (fun _ i _ => ss.length - (intOf i).toNat)
  case atStart => exact ⟨0, by omega, rfl, World.ownsRow_nil _ _ _ _, Below.refl _ _⟩
  case round =>
    obtain ⟨k, hk, rfl, hx, hB⟩ := hrel
    by_cases hp : k < ss.length
    · obtain ⟨g, o, rfl, hS, hg⟩ := hpos1.out (by omega)
      have c0 := (hS.up hB hg).cell hp
      have HF := filt_take (f := memS cat) hp
      have Hl := filt_len ss (memS cat) k
      have HC := HL.out wr hB
      generalize ss[k] = s0 at *
      go_wp2_with fail
      refine (containsS_any cat _ s0 _ HC).mono ?_
      rintro e w2 ⟨rfl, hw2⟩
      obtain rfl := hw2.symm
      clear c0
      cases hq : memS cat s0
      · rw [hq, if_neg (by simp), List.append_nil] at HF
        have HX : Hid (OwnT wr w1.heap.size u6 ((ss.take (k + 1)).filter (memS cat))) := by show _; rw [HF]; exact hx
        clear hx HF
        go_wp2_with fail
        go_roundw
        case rel => exact ⟨k + 1, by omega, by go_num, HX.out, hB⟩
        case measure => simp [intOf]; omega
      · rw [hq, if_pos rfl] at HF
        have HF' : Hid ((ss.take (k + 1)).filter (memS cat) = (ss.take k).filter (memS cat) ++ [s0]) := HF
        clear HF
        generalize (ss.take k).filter (memS cat) = xs at *
        have hownA := World.ownsRow.alloc hx (.cells #[.string s0] 9)
        have hBA := hB.alloc hB.size (.cells #[.string s0] 9)
        have hzA := hB.size
        obtain ⟨xa, xc, hxs⟩ := own_shape hx
        subst hxs
        clear hx
        go_wp2_with (at_builtin; refine wpList_append_own _ rfl _ _ 22 rfl w1.heap.size 9 ii _ 1 16 Tryz.underlying22 hi iz0 iz1 iz2 rfl (by decide) _ _ _ rfl hownA ⟨wr.heap.size, 0, none⟩ 1 1 [.string s0] rfl rfl (one_new _ _ _) (oneV s0) (by unfold maxLen; omega) (by omega) (by simp; omega) ?_)
        intro v' w2 hown2 hgr2 _
        have hB2 := below_own hBA hownA hgr2 (Nat.le_refl _)
        have hO2 : OwnT w2 w1.heap.size v' (xs ++ [s0]) := by unfold OwnT; simpa using hown2
        obtain ⟨ya, yc, hys⟩ := own_shape hO2
        subst hys
        clear hownA hgr2 hown2 hBA
        go_wp2_with fail
        go_roundw
        case rel => exact ⟨k + 1, by omega, by go_num, by rw [HF'.out]; exact hO2, hB2⟩
        case measure => simp [intOf]; omega
    · obtain rfl : k = ss.length := by omega
      rw [List.take_length] at hx
      have hBB := up_trans hB1 hB
      have hz1 := hB1.size
      obtain ⟨xa, xc, hxs⟩ := own_shape hx
      subst hxs
      go_wp2_with fail
      go_ret
      have e := Hcat.out
      subst e
      exact ⟨⟨_, rfl, own_low hx hz1⟩, hBB⟩
end Go.Proofs.YtialglmnfchfmaeGreatDoor

/- Recipes: plain facts. -/
namespace Go.Proofs.YtialglmnfchfmaeGreatDoor
open Go.RowKit
structure Ph where
  nm : ByteArray
  k : Int
  a : ByteArray
  b : ByteArray
  n : Int
  wi : Int
  t : ByteArray
  e : ByteArray
def Ph.cells (p : Ph) : List Value := [.string p.nm, .int .i64 p.k, .string p.a, .string p.b, .int .i64 p.n, .int .i64 p.wi, .string p.t, .string p.e]
def Ph.okB (p : Ph) : Bool := phaseB p.nm p.k p.a p.b p.n p.wi p.t p.e
/-- The recipe lies in block b from cell o on. -/
def RecAt (w : World) (b o : Nat) (ps : List Ph) : Prop := ∀ (i : Nat) (p : Ph), ps[i]? = some p → w.rangeAt b (o + i * 8) p.cells
/-- Its texts have sizes. -/
def Sized (ps : List Ph) : Prop := ∀ p ∈ ps, p.nm.size ≤ maxLen ∧ p.a.size ≤ maxLen ∧ p.b.size ≤ maxLen ∧ p.t.size ≤ maxLen ∧ p.e.size ≤ maxLen
def hasB (ps : List Ph) (nm : ByteArray) : Bool := ps.any fun p => p.nm.toList == nm.toList
def atI (ps : List Ph) (nm : ByteArray) : Int := match ps.findIdx? fun p => p.nm.toList == nm.toList with
  | some i => i
  | none => -1
theorem RecAt.cells {w : World} {b o : Nat} {ps : List Ph} (h : RecAt w b o ps) (i : Nat) (hi : i < ps.length) :
    w.cell? ⟨b, o + i * 8, none⟩ = some (.string (ps[i]).nm) ∧ w.cell? ⟨b, o + i * 8 + 1, none⟩ = some (.int .i64 (ps[i]).k) ∧ w.cell? ⟨b, o + i * 8 + 2, none⟩ = some (.string (ps[i]).a) ∧ w.cell? ⟨b, o + i * 8 + 3, none⟩ = some (.string (ps[i]).b) ∧
    w.cell? ⟨b, o + i * 8 + 4, none⟩ = some (.int .i64 (ps[i]).n) ∧ w.cell? ⟨b, o + i * 8 + 5, none⟩ = some (.int .i64 (ps[i]).wi) ∧ w.cell? ⟨b, o + i * 8 + 6, none⟩ = some (.string (ps[i]).t) ∧ w.cell? ⟨b, o + i * 8 + 7, none⟩ = some (.string (ps[i]).e) := by
  have hr := h i ps[i] (by simp [hi])
  exact ⟨hr 0 _ rfl, hr 1 _ rfl, hr 2 _ rfl, hr 3 _ rfl, hr 4 _ rfl, hr 5 _ rfl, hr 6 _ rfl, hr 7 _ rfl⟩
theorem RecAt.drop {w : World} {b o : Nat} {ps : List Ph} (h : RecAt w b o ps) (i : Nat) : RecAt w b (o + i * 8) (ps.drop i) := fun j p hp => by
  have := h (i + j) p (by simpa [List.getElem?_drop] using hp)
  rwa [show o + i * 8 + j * 8 = o + (i + j) * 8 by omega]
theorem RecAt.up {w w' : World} {b o B : Nat} {ps : List Ph} (h : RecAt w b o ps) (hb : Below B w w') (hB : b < B) : RecAt w' b o ps := fun i p hp j v hv => by
  rw [hb.cell (p := ⟨b, o + i * 8 + j, none⟩) hB]; exact h i p hp j v hv
theorem hasB_take (ps : List Ph) (nm : ByteArray) (k : Nat) (h : k < ps.length) : hasB (ps.take (k + 1)) nm = (hasB (ps.take k) nm || ((ps[k]).nm.toList == nm.toList)) := by
  unfold hasB; rw [List.take_succ_eq_append_getElem h, List.any_append]; simp
theorem hasB_all (ps : List Ph) (nm : ByteArray) (k : Nat) (h : ¬ k < ps.length) (hn : hasB (ps.take k) nm = false) : hasB ps nm = false := by
  rwa [List.take_of_length_le (by omega)] at hn
theorem hasB_yes (ps : List Ph) (nm : ByteArray) (k : Nat) (h : k < ps.length) (he : ((ps[k]).nm.toList == nm.toList) = true) : hasB ps nm = true := by
  unfold hasB; rw [List.any_eq_true]; exact ⟨ps[k], by simp, he⟩
theorem hasB_iff (ps : List Ph) (nm : ByteArray) : hasB ps nm = true ↔ ∃ (j : Nat) (q : Ph), ps[j]? = some q ∧ (q.nm.toList == nm.toList) = true := by
  unfold hasB; rw [List.any_eq_true]
  constructor
  · rintro ⟨q, hq, he⟩
    obtain ⟨j, hj, rfl⟩ := List.getElem_of_mem hq
    exact ⟨j, ps[j], by simp [hj], he⟩
  · rintro ⟨j, q, hq, he⟩
    exact ⟨q, List.mem_of_getElem? hq, he⟩
theorem atI_none (ps : List Ph) (nm : ByteArray) (h : hasB ps nm = false) : atI ps nm = -1 := by
  have : (ps.findIdx? fun p => p.nm.toList == nm.toList) = none := by
    rw [List.findIdx?_eq_none_iff]; simpa [hasB] using h
  simp only [atI, this]
theorem atI_found (ps : List Ph) (nm : ByteArray) (k : Nat) (h : k < ps.length) (hn : hasB (ps.take k) nm = false) (he : ((ps[k]).nm.toList == nm.toList) = true) : atI ps nm = k := by
  have : (ps.findIdx? fun p => p.nm.toList == nm.toList) = some k := by
    rw [List.findIdx?_eq_some_iff_getElem]
    refine ⟨h, he, fun j hj => ?_⟩
    intro hc
    have : hasB (ps.take k) nm = true := by
      rw [hasB_iff]
      exact ⟨j, ps[j], by simp [hj, Nat.lt_trans hj h], hc⟩
    rw [hn] at this; cases this
  simp only [atI, this]
def goesB (later : List Ph) (nm : ByteArray) : Bool := endN nm != 0 || hasB later nm
end Go.Proofs.YtialglmnfchfmaeGreatDoor

/- When a recipe is ok: both sides' tests are one. -/
namespace Go.Proofs.YtialglmnfchfmaeGreatDoor
/-- The program's test of the phase at place i. -/
def stepI (ps : List Ph) (i : Nat) (p : Ph) : Bool := p.okB && !hasB (ps.drop (i + 1)) p.nm && goesB (ps.drop (i + 1)) p.t && goesB (ps.drop (i + 1)) p.e
/-- The specification's. -/
def stepS (ps : List Ph) (i : Nat) (p : Ph) : Bool := p.okB && atI ps p.nm == (i : Int) && !(endN p.t == 0 && decide (atI ps p.t ≤ (i : Int))) && !(endN p.e == 0 && decide (atI ps p.e ≤ (i : Int)))
def allI (ps : List Ph) (k : Nat) : Prop := ∀ (i : Nat) (p : Ph), i < k → ps[i]? = some p → stepI ps i p = true
def allS (ps : List Ph) (k : Nat) : Prop := ∀ (i : Nat) (p : Ph), i < k → ps[i]? = some p → stepS ps i p = true
/-- A recipe that is ok. -/
def recB (ps : List Ph) : Bool := decide (1 ≤ ps.length) && decide (ps.length ≤ 12) && (List.range ps.length).all fun i => (ps[i]?.map (stepI ps i)).getD true
theorem recB_iff (ps : List Ph) : recB ps = true ↔ 1 ≤ ps.length ∧ ps.length ≤ 12 ∧ allI ps ps.length := by
  simp only [recB, Bool.and_eq_true, decide_eq_true_eq, List.all_eq_true, List.mem_range, allI, and_assoc]
  refine and_congr_right fun _ => and_congr_right fun _ => ⟨fun h i p hi hp => ?_, fun h i hi => ?_⟩
  · have := h i hi; simpa [hp] using this
  · have hg : ps[i]? = some ps[i] := by simp [hi]
    rw [hg]; simpa using h i ps[i] hi hg
theorem hasB_drop (ps : List Ph) (nm : ByteArray) (i : Nat) : hasB (ps.drop i) nm = true ↔ ∃ (j : Nat) (q : Ph), i ≤ j ∧ ps[j]? = some q ∧ (q.nm.toList == nm.toList) = true := by
  rw [hasB_iff]
  constructor
  · rintro ⟨j, q, hq, he⟩
    exact ⟨i + j, q, by omega, by simpa [List.getElem?_drop] using hq, he⟩
  · rintro ⟨j, q, hj, hq, he⟩
    exact ⟨j - i, q, by rw [List.getElem?_drop, show i + (j - i) = j by omega]; exact hq, he⟩
theorem atI_cases (ps : List Ph) (nm : ByteArray) : (hasB ps nm = false ∧ atI ps nm = -1) ∨ ∃ (j : Nat) (q : Ph), ps[j]? = some q ∧ (q.nm.toList == nm.toList) = true ∧ atI ps nm = (j : Int) ∧ ∀ (l : Nat) (r : Ph), l < j → ps[l]? = some r → (r.nm.toList == nm.toList) = false := by
  cases h : ps.findIdx? fun p => p.nm.toList == nm.toList with
  | none =>
    left
    rw [List.findIdx?_eq_none_iff] at h
    exact ⟨by simpa [hasB] using h, by simp only [atI, List.findIdx?_eq_none_iff.2 h]⟩
  | some j =>
    right
    have h' := h
    rw [List.findIdx?_eq_some_iff_getElem] at h
    obtain ⟨hj, he, hl⟩ := h
    refine ⟨j, ps[j], by simp [hj], he, by simp only [atI, h'], fun l r hlj hr => ?_⟩
    obtain ⟨hl', rfl⟩ := List.getElem?_eq_some_iff.1 hr
    simpa using hl l hlj
theorem beq_trans' {a b c : List UInt8} (h1 : (a == b) = true) (h2 : (c == b) = true) : (a == c) = true := by
  rw [beq_iff_eq] at *; rw [h1, h2]
/-- The two tests over the whole recipe say one thing. -/
theorem allI_iff_allS (ps : List Ph) : allI ps ps.length ↔ allS ps ps.length := by
  have lt_of : ∀ {i : Nat} {p : Ph}, ps[i]? = some p → i < ps.length := fun h => (List.getElem?_eq_some_iff.1 h).1
  -- what follows where names are found once
  have key : ∀ (i : Nat) (nm : ByteArray), (∀ (l j : Nat) (r q : Ph), ps[l]? = some r → ps[j]? = some q → (r.nm.toList == q.nm.toList) = true → l = j) →
      (goesB (ps.drop (i + 1)) nm = true ↔ (!(endN nm == 0 && decide (atI ps nm ≤ (i : Int)))) = true) := by
    intro i nm hu
    unfold goesB
    by_cases h0 : endN nm = 0
    · simp only [h0, bne_self_eq_false, Bool.false_or, beq_self_eq_true, Bool.true_and, Bool.not_eq_true', decide_eq_false_iff_not]
      rw [hasB_drop]
      rcases atI_cases ps nm with ⟨hn, ha⟩ | ⟨j, q, hq, he, ha, _⟩
      · rw [ha]
        constructor
        · rintro ⟨l, r, _, hr, hre⟩
          have : hasB ps nm = true := (hasB_iff _ _).2 ⟨l, r, hr, hre⟩
          rw [hn] at this; cases this
        · intro h; omega
      · rw [ha]
        constructor
        · rintro ⟨l, r, hl, hr, hre⟩
          have := hu l j r q hr hq (beq_trans' hre he)
          omega
        · intro h
          exact ⟨j, q, by omega, hq, he⟩
    · have : (endN nm == 0) = false := by simpa using h0
      simp [this, bne]
  constructor
  · intro h i p hi hp
    have hu : ∀ (l j : Nat) (r q : Ph), ps[l]? = some r → ps[j]? = some q → (r.nm.toList == q.nm.toList) = true → l = j := by
      intro l j r q hr hq he
      rcases Nat.lt_trichotomy l j with hlj | rfl | hlj
      · have hs := h l r (lt_of hr) hr
        simp only [stepI, Bool.and_eq_true, Bool.not_eq_true'] at hs
        have : hasB (ps.drop (l + 1)) r.nm = true := (hasB_drop _ _ _).2 ⟨j, q, hlj, hq, by rw [Bool.beq_comm]; exact he⟩
        rw [hs.1.1.2] at this; cases this
      · rfl
      · have hs := h j q (lt_of hq) hq
        simp only [stepI, Bool.and_eq_true, Bool.not_eq_true'] at hs
        have : hasB (ps.drop (j + 1)) q.nm = true := (hasB_drop _ _ _).2 ⟨l, r, hlj, hr, he⟩
        rw [hs.1.1.2] at this; cases this
    have hs := h i p hi hp
    simp only [stepI, Bool.and_eq_true] at hs
    simp only [stepS, Bool.and_eq_true]
    refine ⟨⟨⟨hs.1.1.1, ?_⟩, (key i p.t hu).1 hs.1.2⟩, (key i p.e hu).1 hs.2⟩
    rcases atI_cases ps p.nm with ⟨hn, _⟩ | ⟨j, q, hq, he, ha, _⟩
    · have : hasB ps p.nm = true := (hasB_iff _ _).2 ⟨i, p, hp, by simp⟩
      rw [hn] at this; cases this
    · rw [ha, hu j i q p hq hp he]; simp
  · intro h i p hi hp
    have hu : ∀ (l j : Nat) (r q : Ph), ps[l]? = some r → ps[j]? = some q → (r.nm.toList == q.nm.toList) = true → l = j := by
      intro l j r q hr hq he
      have h1 := h l r (lt_of hr) hr
      have h2 := h j q (lt_of hq) hq
      simp only [stepS, Bool.and_eq_true, beq_iff_eq] at h1 h2
      have : atI ps r.nm = atI ps q.nm := by
        have e : r.nm.toList = q.nm.toList := by simpa using he
        simp only [atI, e]
      have := h1.1.1.2.symm.trans (this.trans h2.1.1.2)
      omega
    have hs := h i p hi hp
    simp only [stepS, Bool.and_eq_true] at hs
    simp only [stepI, Bool.and_eq_true]
    refine ⟨⟨⟨hs.1.1.1, ?_⟩, (key i p.t hu).2 hs.1.2⟩, (key i p.e hu).2 hs.2⟩
    rw [Bool.not_eq_true', ← Bool.not_eq_true]
    intro hc
    obtain ⟨j, q, hj, hq, he⟩ := (hasB_drop _ _ _).1 hc
    have := hu j i q p hq hp he
    omega
theorem recB_iffS (ps : List Ph) : recB ps = true ↔ 1 ≤ ps.length ∧ ps.length ≤ 12 ∧ allS ps ps.length := by rw [recB_iff, allI_iff_allS]
theorem nand_of {x : Bool} {Q : Prop} [Decidable Q] (h : ¬ (x = true ∧ Q)) : (!(x && decide Q)) = true := by cases x <;> simp_all
theorem recB_noS (ps : List Ph) (k : Nat) (hk : k < ps.length) (h : stepS ps k ps[k] = false) : recB ps = false := by
  rw [← Bool.not_eq_true, recB_iffS]
  rintro ⟨_, _, ha⟩
  have := ha k ps[k] hk (by simp [hk])
  rw [h] at this; cases this
theorem recB_noI (ps : List Ph) (k : Nat) (hk : k < ps.length) (h : stepI ps k ps[k] = false) : recB ps = false := by
  rw [← Bool.not_eq_true, recB_iff]
  rintro ⟨_, _, ha⟩
  have := ha k ps[k] hk (by simp [hk])
  rw [h] at this; cases this
theorem recB_len (ps : List Ph) (h : ¬ (1 ≤ ps.length ∧ ps.length ≤ 12)) : recB ps = false := by
  rw [← Bool.not_eq_true, recB_iff]
  rintro ⟨h1, h2, _⟩; exact h ⟨h1, h2⟩
theorem allS_succ {ps : List Ph} {k : Nat} (h : allS ps k) (hk : k < ps.length) (hs : stepS ps k ps[k] = true) : allS ps (k + 1) := fun i p hi hp => by
  rcases Nat.lt_or_ge i k with h' | h'
  · exact h i p h' hp
  · obtain rfl : i = k := by omega
    obtain ⟨_, rfl⟩ := List.getElem?_eq_some_iff.1 hp
    exact hs
theorem allI_succ {ps : List Ph} {k : Nat} (h : allI ps k) (hk : k < ps.length) (hs : stepI ps k ps[k] = true) : allI ps (k + 1) := fun i p hi hp => by
  rcases Nat.lt_or_ge i k with h' | h'
  · exact h i p h' hp
  · obtain rfl : i = k := by omega
    obtain ⟨_, rfl⟩ := List.getElem?_eq_some_iff.1 hp
    exact hs
theorem allS_zero (ps : List Ph) : allS ps 0 := fun _ _ h => by omega
theorem allI_zero (ps : List Ph) : allI ps 0 := fun _ _ h => by omega
theorem recB_yesS (ps : List Ph) (k : Nat) (h1 : 1 ≤ ps.length ∧ ps.length ≤ 12) (hk : k ≤ ps.length) (hk' : ¬ k < ps.length) (ha : allS ps k) : recB ps = true := by
  obtain rfl : k = ps.length := by omega
  exact (recB_iffS ps).2 ⟨h1.1, h1.2, ha⟩
theorem recB_yesI (ps : List Ph) (k : Nat) (h1 : 1 ≤ ps.length ∧ ps.length ≤ 12) (hk : k ≤ ps.length) (hk' : ¬ k < ps.length) (ha : allI ps k) : recB ps = true := by
  obtain rfl : k = ps.length := by omega
  exact (recB_iff ps).2 ⟨h1.1, h1.2, ha⟩
end Go.Proofs.YtialglmnfchfmaeGreatDoor

/- Slots in plain: lists joined. -/
namespace Go.Proofs.YtialglmnfchfmaeGreatDoor

def bothL (a : List ByteArray) (b : List ByteArray) : List ByteArray := b.foldl insL a
theorem bothL_take (a b : List ByteArray) (k : Nat) (hk : k < b.length) : bothL a (b.take (k + 1)) = insL (bothL a (b.take k)) b[k] := by
  unfold bothL; rw [List.take_succ_eq_append_getElem hk, List.foldl_append]; rfl
theorem bothL_len (a : List ByteArray) : ∀ b : List ByteArray, (bothL a b).length ≤ a.length + b.length
  | [] => by simp [bothL]
  | x :: r => by
    have h1 := bothL_len (insL a x) r
    have h2 := insL_len a x
    simp only [bothL, List.foldl_cons, List.length_cons] at *
    omega
/-- The slots of a phase alone. -/
def ofL (p : Ph) : List ByteArray := if p.k = 2 then insL [p.a] p.b else [p.a]
end Go.Proofs.YtialglmnfchfmaeGreatDoor
