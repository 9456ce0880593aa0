/- The names of those who are noted: what picked does behind shareNoted (chapter 14). -/
import Derived.Test.YtafgabakhaipnaaJ36
import Derived.Test.YtafgabakhaipnaaJ25
import Derived.Test.YtafgabakhaipnaaLawKu
namespace Go.Proofs.Ytafgabakhaipnaa
open Go.RowKit

/-- Of a list's first k those whose place is noted. -/
def pk (hb : Nat → Bool) (l : List ByteArray) : Nat → List ByteArray
  | 0 => []
  | k + 1 => pk hb l k ++ if hb k = true then [l.getD k ByteArray.empty] else []
theorem pk_congr {hb hb' : Nat → Bool} (l : List ByteArray) : ∀ n, (∀ k, k < n → hb k = hb' k) → pk hb l n = pk hb' l n
  | 0, _ => rfl
  | n + 1, h => by rw [pk, pk, pk_congr l n fun k hk => h k (by omega), h n (by omega)]
theorem pk_length (hb : Nat → Bool) (l : List ByteArray) : ∀ n, (pk hb l n).length ≤ n
  | 0 => by simp [pk]
  | n + 1 => by have := pk_length hb l n; rw [pk, List.length_append]; split <;> simp <;> omega
theorem pk_mem {hb : Nat → Bool} {l : List ByteArray} : ∀ {n : Nat}, n ≤ l.length → ∀ s ∈ pk hb l n, s ∈ l
  | 0, _, s, h => by simp [pk] at h
  | n + 1, hn, s, h => by
    rw [pk, List.mem_append] at h
    rcases h with h | h
    · exact pk_mem (by omega) s h
    · split at h
      · simp at h; subst h; rw [List.getElem?_eq_getElem (by omega)]; exact List.getElem_mem _
      · simp at h

noncomputable def bodyP : Code := Try.f21.body.getD .skip
theorem bit_u32 {s : Nat} (hs : s < 4294967296) (k : Nat) : (bits .and .u32 ((s : Int) / 2 ^ k) 1 == 1) = s.testBit k := by
  have h1 : ((s : Int) / 2 ^ k) = ((s / 2 ^ k : Nat) : Int) := by simp
  have h2 : s / 2 ^ k < 4294967296 := Nat.lt_of_le_of_lt (Nat.div_le_self _ _) hs
  rw [h1, show (1 : Int) = ((1 : Nat) : Int) from rfl, u32_and_nat _ _ h2 (by omega), Nat.and_one_is_mod, Nat.testBit_eq_decide_div_mod_eq]
  rw [Bool.eq_iff_iff]
  simp only [beq_iff_eq, decide_eq_true_eq]
  omega

/-- What comes behind the noting. -/
noncomputable def RP : Code := match bodyP with | .seq _ (.seq _ r) => r | _ => .skip

set_option maxRecDepth 20000 in
set_option maxHeartbeats 4000000 in
theorem pickTail (tb : Nat) (things : List ByteArray) (ts : List Tr) (s : Nat) (fv : Value) (x9 x10 x11 x12 x13 x14 x15 : Value) (w : World) (h : Tab w tb things ts) (h5 : ts.length ≤ 5) (hs : s < 4294967296) {R : Value → World → Prop} (HR : Hid (∀ v w', OwnT w' w.heap.size v (pk (fun k => s.testBit k) (ts.map (·.1.nm)) ts.length) → Below w.heap.size w w' → R v w')) :
    RP.wp Try.prog (bodyPost Try.prog Try.f21 fun e w' => ∃ v, e = .returned v ∧ R v w')
      ⟨#[.pointer (some ⟨tb, 0, none⟩), fv, undef, undef, .slice none 0 0, .int .u32 s, undef, undef, undef, x9, x10, x11, x12, x13, x14, x15, undef, undef, undef, undef, undef, undef, undef, undef, undef, undef, undef, undef, undef, undef, undef, undef, undef, undef, undef, undef, undef, undef], []⟩ w := by
  obtain ⟨rv, hC, hown⟩ := h
  obtain ⟨t0, t1⟩ := hC.c2'
  obtain ⟨ii, hi, iz0, iz1, iz2⟩ := info_parts infoStr
  have htl := hC.2.2
  obtain ⟨ra, rc, rfl⟩ : ∃ ra rc, rv = .slice ra ts.length rc := by
    rcases hown.2 with ⟨h0, h1⟩ | ⟨g, cap, cur, hv, _⟩
    · exact ⟨none, 0, by rw [h0, h1]⟩
    · exact ⟨_, _, hv⟩
  simp only [RP, bodyP, Try.f21, Option.getD_some]
  go_wp2_with fail
  go_loopw [6, 7, 8, 21] (fun u _ _ i w' => ∃ k : Nat, k ≤ ts.length ∧ i = .int .i64 k ∧ OwnT w' w.heap.size u (pk (fun k => s.testBit k) (ts.map (·.1.nm)) k) ∧ Below w.heap.size w w') (fun _ _ _ i _ => ts.length - (intOf i).toNat)
  case atStart => exact ⟨0, by omega, rfl, ⟨by simp [pk], .inl ⟨rfl, rfl⟩⟩, Below.refl _ _⟩
  case round =>
    obtain ⟨k, hk, rfl, hown2, hB⟩ := hrel
    by_cases hp : k < ts.length
    · obtain ⟨p, hpt⟩ : ∃ p, ts[k]? = some p := ⟨_, List.getElem?_eq_getElem hp⟩
      obtain ⟨g, cap, hv⟩ := own_ptr2 hown (by omega)
      cases hv
      obtain ⟨r0, r1, r2, r3⟩ := row_cells (own_up hown hB) hpt
      have Hn : Hid ((ts.map (·.1.nm)).getD k ByteArray.empty = p.1.nm) := by
        show _ = _
        rw [List.getD_eq_getElem?_getD, List.getElem?_map, hpt]; rfl
      have Hl := pk_length (fun k => s.testBit k) (ts.map (·.1.nm)) k
      generalize p.1.nm = nm at *
      generalize bitsN things (memS p.1.has) = hb at *
      generalize bitsN things (memS p.1.needs) = nb at *
      generalize p.2 = gone at *
      obtain ⟨W1, hW1, kX, hB1, hs1⟩ : ∃ W1, wr.alloc (.cells #[.string nm, .int .u64 (hb : Nat), .int .u64 (nb : Nat), .bool gone] 71) = W1 ∧ CB W1 wr.heap.size [.string nm, .int .u64 (hb : Nat), .int .u64 (nb : Nat), .bool gone] ∧ Below wr.heap.size wr W1 ∧ W1.heap.size = wr.heap.size + 1 := ⟨_, rfl, cb1 wr _ _⟩
      clear hown hC t0 t1
      go_upto_region 6 with fail
      try rw [hW1]
      clear hW1 r0 r1 r2 r3
      have hneg : ¬ ((k : Int) < 0) := by omega
      have hbit := bit_u32 hs k
      have HB1 : Hid (Below w.heap.size w W1) := hB.trans (hB1.mono hB.size)
      have hown1 : OwnT W1 w.heap.size u6 (pk (fun k => s.testBit k) (ts.map (·.1.nm)) k) := OwnT.up hown2 hB1
      clear hown2
      cases ht : s.testBit k with
      | false =>
        rw [ht] at hbit
        have Hpk : Hid (pk (fun k => s.testBit k) (ts.map (·.1.nm)) (k + 1) = pk (fun k => s.testBit k) (ts.map (·.1.nm)) k) := by
          show _ = _
          rw [pk]; simp [ht]
        clear ht
        go_wp2_with fail
        go_roundw
        case rel => exact ⟨k + 1, by omega, by go_num, by rw [Hpk.out]; exact hown1, HB1.out⟩
        case measure => simp [intOf]; omega
      | true =>
        rw [ht] at hbit
        have Hpk : Hid (pk (fun k => s.testBit k) (ts.map (·.1.nm)) (k + 1) = pk (fun k => s.testBit k) (ts.map (·.1.nm)) k ++ [nm]) := by
          show _ = _
          rw [pk]; simp only [ht, if_true]; rw [Hn.out]
        clear ht Hn
        clear hs1
        have e0 := kX.1 0 _ rfl
        generalize pk (fun k => s.testBit k) (ts.map (·.1.nm)) k = pl at *
        have hown3 := own_up hown1 ((Below.refl W1.heap.size W1).alloc (Nat.le_refl _) (.cells #[.string nm] 9))
        have HB2 : Hid (Below w.heap.size w (W1.alloc (.cells #[.string nm] 9))) := HB1.out.alloc HB1.out.size (.cells #[.string nm] 9)
        go_wp2_with (at_builtin; refine wpList_append_own _ rfl _ _ 22 rfl w.heap.size 9 ii _ 1 16 Try.underlying22 hi iz0 iz1 iz2 rfl (by decide) _ _ _ rfl hown3 ⟨W1.heap.size, 0, none⟩ 1 1 [.string nm] rfl rfl (one_new _ _ _) (oneV _) (by unfold maxLen; omega) (by omega) HB2.out.size ?_)
        intro v1 w1 hown4 hgrow4 _
        have HB3 : Hid (Below w.heap.size w w1) := below_own HB2.out hown3 hgrow4 (Nat.le_refl _)
        clear hown1 hown3 hgrow4 e0 kX
        have Ho4 : Hid (OwnT w1 w.heap.size v1 (pk (fun k => s.testBit k) (ts.map (·.1.nm)) (k + 1))) := by
          show OwnT _ _ _ _
          rw [Hpk.out]; unfold OwnT; rw [List.length_append, List.map_append]; exact hown4
        clear hown4
        go_wp2_with fail
        go_roundw
        case rel => exact ⟨k + 1, by omega, by go_num, Ho4.out, HB3.out⟩
        case measure => simp [intOf]; omega
    · have Ho : Hid (∀ u, OwnT wr w.heap.size u (pk (fun k => s.testBit k) (ts.map (·.1.nm)) k) → OwnT wr w.heap.size u (pk (fun k => s.testBit k) (ts.map (·.1.nm)) ts.length)) := fun u h => by
        obtain rfl : k = ts.length := by omega
        exact h
      go_wp2_with fail
      go_ret
      exact ⟨_, rfl, HR.out _ _ (Ho.out _ hown2) hB⟩
end Go.Proofs.Ytafgabakhaipnaa

/- The laws' marks over books. -/
namespace Go.Proofs.Ytafgabakhaipnaa
open Go.RowKit

/-- Worlds that are alike outside of a range of blocks. -/
def Out (lo hi : Nat) (w w' : World) : Prop := w'.os = w.os ∧ w'.tape = w.tape ∧ w'.output = w.output ∧ w.heap.size ≤ w'.heap.size ∧ ∀ i, i < w.heap.size → (i < lo ∨ hi ≤ i) → w'.heap[i]? = w.heap[i]?
theorem Out.refl (lo hi : Nat) (w : World) : Out lo hi w w := ⟨rfl, rfl, rfl, Nat.le_refl _, fun _ _ _ => rfl⟩
theorem Out.grown {lo hi : Nat} {a b c : World} {q : Nat} (h : Out lo hi a b) (hg : b.grownBy c (some q)) (hq : lo ≤ q ∧ q < hi) : Out lo hi a c :=
  ⟨hg.os.trans h.1, hg.tape.trans h.2.1, hg.output.trans h.2.2.1, Nat.le_trans h.2.2.2.1 hg.size, fun i hi hr => (hg.block i (Nat.lt_of_lt_of_le hi h.2.2.2.1) (by simp; omega)).trans (h.2.2.2.2 i hi hr)⟩
theorem Out.up {lo hi : Nat} {a b c : World} (h : Out lo hi a b) (hb : Below b.heap.size b c) : Out lo hi a c :=
  ⟨hb.os.trans h.1, hb.tape.trans h.2.1, hb.output.trans h.2.2.1, Nat.le_trans h.2.2.2.1 hb.size, fun i hi hr => (hb.block i (Nat.lt_of_lt_of_le hi h.2.2.2.1)).trans (h.2.2.2.2 i hi hr)⟩
theorem Out.blk {lo hi : Nat} {a b : World} (h : Out lo hi a b) {i : Nat} (h1 : i < a.heap.size) (h2 : i < lo ∨ hi ≤ i) : b.heap[i]? = a.heap[i]? := h.2.2.2.2 i h1 h2
/-- The shape of a list, of batches, of a book that may be marked. -/
def LsR (w : World) (lo hi : Nat) (v : Value) (N : Nat) : Prop := ∃ bb, v = .slice (some ⟨bb, 0, none⟩) N N ∧ w.there bb 0 N ∧ lo ≤ bb ∧ bb < hi ∧ hi ≤ w.heap.size
theorem LsR.thr {w w' : World} {lo hi : Nat} {v : Value} {N : Nat} (h : LsR w lo hi v N) (ht : Thr w w') (hz : w.heap.size ≤ w'.heap.size) : LsR w' lo hi v N := by
  obtain ⟨bb, rfl, h1, h2, h3, h4⟩ := h
  exact ⟨bb, rfl, ht bb N (by omega) h1, h2, h3, by omega⟩
theorem LsO.lsR {w : World} {lo base : Nat} {v : Value} {ss : List ByteArray} (h : LsO w base v ss) (hb : lo ≤ base) : LsR w lo w.heap.size v ss.length := by
  obtain ⟨b, rfl, -, ht, h0, h2, -⟩ := h
  exact ⟨b, rfl, ht, by omega, h2, Nat.le_refl _⟩
/-- A batch's cells in block b0; its lists behind it. -/
def BaR (w : World) (hi b0 o : Nat) (x : Ba) : Prop := ∃ hv nv, w.cell? ⟨b0, o + 1, none⟩ = some hv ∧ w.cell? ⟨b0, o + 2, none⟩ = some nv ∧ LsR w (b0 + 1) hi hv x.has.length ∧ LsR w (b0 + 1) hi nv x.needs.length
def BsR (w : World) (lo hi b0 : Nat) (bs : List Ba) : Prop := w.there b0 0 (bs.length * 3) ∧ lo ≤ b0 ∧ b0 < hi ∧ hi ≤ w.heap.size ∧ ∀ (i : Nat) (x : Ba), bs[i]? = some x → BaR w hi b0 (i * 3) x
theorem BaR.keep {w w' : World} {hi b0 o : Nat} {x : Ba} (h : BaR w hi b0 o x) (ht : Thr w w') (hz : w.heap.size ≤ w'.heap.size) (h1 : w'.cell? ⟨b0, o + 1, none⟩ = w.cell? ⟨b0, o + 1, none⟩) (h2 : w'.cell? ⟨b0, o + 2, none⟩ = w.cell? ⟨b0, o + 2, none⟩) : BaR w' hi b0 o x := by
  obtain ⟨hv, nv, c1, c2, l1, l2⟩ := h
  exact ⟨hv, nv, h1.trans c1, h2.trans c2, l1.thr ht hz, l2.thr ht hz⟩
/-- Another block turns; a name of the batches turns. -/
theorem BsR.other {w w' : World} {lo hi b0 q : Nat} {bs : List Ba} (h : BsR w lo hi b0 bs) (hg : w.grownBy w' (some q)) (ht : Thr w w') (hq : q ≠ b0) : BsR w' lo hi b0 bs := by
  obtain ⟨h1, h2, h3, h4, h5⟩ := h
  have hk := hg.block b0 (by omega) (by simp; omega)
  exact ⟨ht _ _ (by omega) h1, h2, h3, Nat.le_trans h4 hg.size, fun i x hx => (h5 i x hx).keep ht hg.size (World.cell?_of_block (w := w) hk) (World.cell?_of_block (w := w) hk)⟩
theorem BsR.up {w w' : World} {lo hi b0 : Nat} {bs : List Ba} (h : BsR w lo hi b0 bs) (hb : Below w.heap.size w w') : BsR w' lo hi b0 bs := by
  obtain ⟨h1, h2, h3, h4, h5⟩ := h
  have hk := hb.block b0 (by omega)
  exact ⟨there_up h1 hb (by omega), h2, h3, Nat.le_trans h4 hb.size, fun i x hx => (h5 i x hx).keep (thr_up hb) hb.size (World.cell?_of_block (w := w) hk) (World.cell?_of_block (w := w) hk)⟩
theorem BsR.name {w : World} {lo hi b0 k : Nat} {bs : List Ba} (h : BsR w lo hi b0 bs) (u : Value) : BsR (w.setCell ⟨b0, k * 3, none⟩ u) lo hi b0 bs := by
  obtain ⟨h1, h2, h3, h4, h5⟩ := h
  refine ⟨thr_set _ _ (by omega) h1, h2, h3, by simpa using h4, fun i x hx => (h5 i x hx).keep thr_set (by simp) ?_ ?_⟩
  · exact World.cell?_setCell_other _ _ _ _ (by simp <;> omega)
  · exact World.cell?_setCell_other _ _ _ _ (by simp <;> omega)
theorem BsO.bsR {w : World} {base lo : Nat} {v : Value} {bs : List Ba} (h : BsO w base v bs) (hb : lo ≤ base) : ∃ b0, v = .slice (some ⟨b0, 0, none⟩) bs.length bs.length ∧ BsR w lo w.heap.size b0 bs := by
  obtain ⟨b0, rfl, h1, ht, h0, h2, -⟩ := h
  refine ⟨b0, rfl, ht, by omega, h2, Nat.le_refl _, fun i x hx => ?_⟩
  obtain ⟨hv, nv, hr, l1, l2, -⟩ := h1 i x hx
  exact ⟨hv, nv, hr 1 _ rfl, hr 2 _ rfl, l1.lsR (Nat.le_refl _), l2.lsR (Nat.le_refl _)⟩

set_option maxHeartbeats 2000000 in
theorem mkBs_any (bs : List Ba) (lo hi b0 : Nat) (m : Int) (w : World) (h : BsR w lo hi b0 bs) (hn : bs.length ≤ 1048576) (hsm : ∀ x ∈ bs, x.has.length ≤ 1048576 ∧ x.needs.length ≤ 1048576) (hm : 1 ≤ m) (hm9 : m ≤ 2000000) :
    Calls Try.prog 24 #[.slice (some ⟨b0, 0, none⟩) bs.length bs.length, .int .i64 m] w fun e w' => (∃ k : Int, e = .returned (.int .i64 k) ∧ 1 ≤ k ∧ k ≤ 3000000000000) ∧ Out lo hi w w' := by
  go_enter Try.func24, Try.ntmps24
  go_wp2
  go_loopw [1, 5] (fun kk i w' => ∃ (k : Nat) (y : Int), k ≤ bs.length ∧ i = .int .i64 k ∧ kk = .int .i64 y ∧ 1 ≤ y ∧ y ≤ 2000000 + 2097153 * (k : Int) ∧ BsR w' lo hi b0 bs ∧ Out lo hi w w') (fun _ i _ => bs.length - (intOf i).toNat)
  case atStart => exact ⟨0, m, by omega, rfl, rfl, hm, by omega, h, Out.refl _ _ _⟩
  case round =>
    clear h
    obtain ⟨k, y, hk, rfl, rfl, hy, hy9, hR, hO⟩ := hrel
    by_cases hp : k < bs.length
    · obtain ⟨s1, s2⟩ := hsm bs[k] (by simp)
      have Hx : Hid (bs[k]? = some bs[k]) := List.getElem?_eq_getElem hp
      generalize bs[k] = x0 at *
      go_wp2_with fail
      refine (mark_any y wr (by omega)).mono ?_
      rintro e w1 ⟨rfl, hB1⟩
      have hR1 := hR.up hB1
      have hO1 := hO.up hB1
      obtain ⟨ht, hlo, hhi, hsz, -⟩ := id hR1
      have hc := ht (k * 3) (by omega)
      rw [Nat.zero_add] at hc
      obtain ⟨z0, c0⟩ := Option.isSome_iff_exists.1 hc.1
      have f0 := hc.2
      have hR2 := hR1.name (k := k) (.string (mkB y))
      have hO2 := hO1.grown (grown_setCell (off := k * 3) (grown_refl w1 (some b0)) (.string (mkB y))) ⟨hlo, hhi⟩
      clear hR hO hB1 hR1 hO1 hc ht
      generalize mkB y = mb at *
      go_upto_region 6 with fail
      clear c0 f0
      generalize w1.setCell ⟨b0, k * 3, none⟩ (.string mb) = W2 at *
      obtain ⟨hv, nv, c1, c2, ⟨bh, rfl, th, hl1, hl2, hl3⟩, -⟩ := hR2.2.2.2.2 k x0 Hx.out
      go_wp2_with fail
      refine (mkLs_any x0.has.length bh (y + 1) _ th (by omega) s1 (by omega) (by omega)).mono ?_
      rintro e w3 ⟨rfl, hg3, ht3⟩
      have hR3 := hR2.other hg3 ht3 (by omega)
      have hO3 := hO2.grown hg3 ⟨by omega, hl2⟩
      clear hR2 hO2 c1 c2 th hg3 ht3
      obtain ⟨hv, nv, c1, c2, -, ⟨bn, rfl, tn, hn1, hn2, hn3⟩⟩ := hR3.2.2.2.2 k x0 Hx.out
      go_wp2_with fail
      refine (mkLs_any x0.needs.length bn (y + 1 + x0.has.length) _ tn (by omega) s2 (by omega) (by omega)).mono ?_
      rintro e w4 ⟨rfl, hg4, ht4⟩
      have hR4 := hR3.other hg4 ht4 (by omega)
      have hO4 := hO3.grown hg4 ⟨by omega, hn2⟩
      clear hR3 hO3 c1 c2 tn hg4 ht4
      go_wp2_with fail
      go_roundw
      case rel => exact ⟨k + 1, _, by omega, by go_num, rfl, by omega, by omega, hR4, hO4⟩
      case measure => simp [intOf]; omega
    · go_wp2_with fail
      go_ret
      exact ⟨⟨_, rfl, hy, by omega⟩, hO⟩

theorem CB.blk {w w' : World} {b : Nat} {cs : List Value} (h : CB w b cs) (hb : w'.heap[b]? = w.heap[b]?) (hz : w.heap.size ≤ w'.heap.size) : CB w' b cs := by
  refine ⟨fun j v hv => ?_, fun j hj => ?_, Nat.lt_of_lt_of_le h.2.2 hz⟩
  · rw [World.cell?_of_block (w := w) (a := ⟨b, 0 + j, none⟩) hb]; exact h.1 j v hv
  · rw [World.cell?_of_block (w := w) (a := ⟨b, 0 + j, none⟩) hb, World.frozen?_of_block (w := w) (a := ⟨b, 0 + j, none⟩) hb]; exact h.2.1 j hj
/-- A book that may be marked, all of it in a range of blocks. -/
def BkR (w : World) (lo hi : Nat) (v : Value) (b : Bk) : Prop := ∃ bt b0 mid, v = .agg #[.slice (some ⟨bt, 0, none⟩) b.things.length b.things.length, .slice (some ⟨b0, 0, none⟩) b.bs.length b.bs.length] ∧ w.there bt 0 b.things.length ∧ lo ≤ bt ∧ bt < hi ∧ bt < mid ∧ lo ≤ mid ∧ hi ≤ w.heap.size ∧ BsR w mid hi b0 b.bs
theorem BkO.bkR {w : World} {base : Nat} {v : Value} {b : Bk} (h : BkO w base v b) : BkR w base w.heap.size v b := by
  obtain ⟨tv, bv, mid, rfl, h1, h2, hmid, hown⟩ := h
  obtain ⟨bt, rfl, tt, hb1, hb2, hb3⟩ := h1.lsR (Nat.le_refl _)
  have hbm := hown bt rfl
  obtain ⟨b0, rfl, hR⟩ := h2.bsR (Nat.le_refl _)
  exact ⟨bt, b0, mid, rfl, tt, hb1, hb2, hbm, hmid, Nat.le_refl _, hR⟩
theorem BkR.up {w w' : World} {lo hi : Nat} {v : Value} {b : Bk} (h : BkR w lo hi v b) (hb : Below w.heap.size w w') : BkR w' lo hi v b := by
  obtain ⟨bt, b0, mid, rfl, h1, h2, h3, h4, h5, h6, h7⟩ := h
  exact ⟨bt, b0, mid, rfl, there_up h1 hb (by omega), h2, h3, h4, h5, Nat.le_trans h6 hb.size, h7.up hb⟩
/-- A list of its own that lies outside. -/
theorem OwnT.out {w w' : World} {lo hi base : Nat} {u : Value} {ss : List ByteArray} (h : OwnT w base u ss) (ho : Out lo hi w w') (hr : ∀ g, u.ownBlock = some g → g < lo ∨ hi ≤ g) : OwnT w' base u ss := by
  refine ⟨h.1, ?_⟩
  rcases h.2 with h0 | ⟨g, cap, cur, hv, hb, hh, q⟩
  · exact .inl h0
  · refine .inr ⟨g, cap, cur, hv, hb, ?_, q⟩
    rw [ho.blk (Array.getElem?_eq_some_iff.1 hh).1 (hr g (by rw [hv]; rfl))]; exact hh

set_option maxHeartbeats 2000000 in
theorem mkBook_any (b : Bk) (lo hi : Nat) (v : Value) (w : World) (h : BkR w lo hi v b) (hs : Small b) :
    Calls Try.prog 10 #[v, .int .i64 1] w fun e w' => (∃ k : Int, e = .returned (.int .i64 k) ∧ 1 ≤ k ∧ k ≤ 3000000000000) ∧ Out lo hi w w' := by
  obtain ⟨bt, b0, mid, rfl, tt, hb1, hb2, hbm, hmid, hb3, hR⟩ := h
  obtain ⟨g1, g2, g3⟩ := hs
  have hb0 := hR.2.1
  obtain ⟨W1, hW1, kA, hB1, hs1⟩ : ∃ W1, w.alloc (.cells #[.slice (some ⟨bt, 0, none⟩) b.things.length b.things.length, .slice (some ⟨b0, 0, none⟩) b.bs.length b.bs.length] 30) = W1 ∧ CB W1 w.heap.size [.slice (some ⟨bt, 0, none⟩) b.things.length b.things.length, .slice (some ⟨b0, 0, none⟩) b.bs.length b.bs.length] ∧ Below w.heap.size w W1 ∧ W1.heap.size = w.heap.size + 1 := ⟨_, rfl, cb1 w _ _⟩
  have hR1 := hR.up hB1
  have tt1 := there_up tt hB1 (by omega)
  have hO1 := (Out.refl lo hi w).up hB1
  go_enter Try.func10, Try.ntmps10
  go_upto_region 1 with fail
  try rw [hW1]
  clear hW1 hR tt
  obtain ⟨p0, p1⟩ := kA.c2'
  go_wp2_with fail
  refine (mkLs_any b.things.length bt 1 _ tt1 (by omega) g1 (by omega) (by omega)).mono ?_
  rintro e w2 ⟨rfl, hg2, ht2⟩
  have hR2 := hR1.other hg2 ht2 (by omega)
  have hO2 := hO1.grown hg2 ⟨hb1, hb2⟩
  have kA2 := kA.kept hg2 (by simp; omega)
  clear p0 p1 kA hR1 hO1 hg2 ht2 tt1
  obtain ⟨p0, p1⟩ := kA2.c2'
  go_wp2_with fail
  refine (mkBs_any b.bs mid hi b0 (1 + b.things.length) _ hR2 g2 g3 (by omega) (by omega)).mono ?_
  rintro e w3 ⟨⟨k, rfl, hk1⟩, hO3⟩
  have hO4 : Out lo hi w w3 := ⟨hO3.1.trans hO2.1, hO3.2.1.trans hO2.2.1, hO3.2.2.1.trans hO2.2.2.1, Nat.le_trans hO2.2.2.2.1 hO3.2.2.2.1, fun i hi hr => (hO3.2.2.2.2 i (Nat.lt_of_lt_of_le hi hO2.2.2.2.1) (by omega)).trans (hO2.2.2.2.2 i hi hr)⟩
  clear p0 p1
  go_wp2_with fail
  go_ret
  exact ⟨⟨_, rfl, hk1⟩, hO4⟩
end Go.Proofs.Ytafgabakhaipnaa
