/- Drawing for the share: a book that is spoilt: its walk. -/
import Derived.Test.YtnojjmkmkelbgaaGreatDn9
import Derived.Test.YtnojjmkmkelbgaaGreatJ14
namespace Go.Proofs.YtnojjmkmkelbgaaGreat
open Go.RowKit


def litsT : List ByteArray := [⟨#[]⟩, ⟨#[65]⟩, ⟨#[97]⟩, ⟨#[122, 122]⟩]
def litsM : List ByteArray := [⟨#[]⟩, ⟨#[66]⟩, ⟨#[122, 122]⟩, ⟨#[97]⟩]
def litsW : List ByteArray := [⟨#[]⟩, ⟨#[122, 122]⟩, ⟨#[107, 101, 103]⟩, ⟨#[119]⟩]
theorem dec15_any (n : Int) (w : World) (h0 : 0 ≤ n) (h1 : n < 100) :
    Calls Tryz.prog 51 #[.int .i64 n] w fun e w' => (∃ s : ByteArray, e = .returned (.string s) ∧ s.size ≤ 20) ∧ Below w.heap.size w w' := by
  go_enter Tryz.func51, Tryz.ntmps51
  go_wp2_with fail
  refine (dec_any n _ h0 h1).mono ?_
  rintro e w1 ⟨⟨s, rfl, hs⟩, hb⟩
  go_wp2_with fail
  go_ret
  exact ⟨⟨s, rfl, hs⟩, hb⟩
/-- What a spoilt book keeps. -/
theorem loose_of {ts : List ByteArray} {ps : List Bv} (ht : ∀ s ∈ ts, s.size ≤ maxLen) (htl : ts.length ≤ 50) (hpl : ps.length ≤ 50) (hp : ∀ p ∈ ps, p.1.nm.size ≤ maxLen ∧ p.1.has.length ≤ 50 ∧ p.1.needs.length ≤ 50 ∧ (∀ s ∈ p.1.has, s.size ≤ maxLen) ∧ ∀ s ∈ p.1.needs, s.size ≤ maxLen) : Szb ⟨ts, ps.map (·.1)⟩ ∧ Loose ⟨ts, ps.map (·.1)⟩ := by
  have hm : ∀ x ∈ ps.map (·.1), ∃ p ∈ ps, p.1 = x := fun x hx => by simpa using List.mem_map.1 hx
  refine ⟨⟨ht, fun x hx => ?_⟩, htl, by simpa using hpl, fun x hx => ?_⟩
  · obtain ⟨p, hp', rfl⟩ := hm x hx
    exact (hp p hp').2.2.2
  · obtain ⟨p, hp', rfl⟩ := hm x hx
    exact ⟨(hp p hp').2.1, (hp p hp').2.2.1⟩
theorem Psz.loose {ps : List Bv} (h : Psz ps) : ∀ p ∈ ps, p.1.nm.size ≤ maxLen ∧ p.1.has.length ≤ 50 ∧ p.1.needs.length ≤ 50 ∧ (∀ s ∈ p.1.has, s.size ≤ maxLen) ∧ ∀ s ∈ p.1.needs, s.size ≤ maxLen := fun p hp => by
  obtain ⟨h1, h2, h3, h4⟩ := h p hp
  exact ⟨h1, by omega, by omega, h4⟩
theorem Psz.set {ps : List Bv} (h : Psz ps) {k : Nat} {p' : Bv} (h' : p'.1.nm.size ≤ maxLen ∧ p'.1.has.length ≤ 50 ∧ p'.1.needs.length ≤ 50 ∧ (∀ s ∈ p'.1.has, s.size ≤ maxLen) ∧ ∀ s ∈ p'.1.needs, s.size ≤ maxLen) :
    ∀ p ∈ ps.set k p', p.1.nm.size ≤ maxLen ∧ p.1.has.length ≤ 50 ∧ p.1.needs.length ≤ 50 ∧ (∀ s ∈ p.1.has, s.size ≤ maxLen) ∧ ∀ s ∈ p.1.needs, s.size ≤ maxLen := fun p hp => by
  rcases List.mem_or_eq_of_mem_set hp with hp | rfl
  · exact h.loose p hp
  · exact h'
theorem sz_snoc {ss : List ByteArray} {s : ByteArray} (h : ∀ t ∈ ss, t.size ≤ maxLen) (hs : s.size ≤ maxLen) : ∀ t ∈ ss ++ [s], t.size ≤ maxLen := fun t ht => by
  rcases List.mem_append.1 ht with h1 | h1
  · exact h t h1
  · obtain rfl : t = s := by simpa using h1
    exact hs
theorem XF.parts {w W : World} {rb len N q : Nat} {v tv xv : Value} {b : Bk} (h : XF w W rb len N q v tv xv b) : ∃ a1 c1 a2 c2, tv = .slice a1 b.things.length c1 ∧ xv = .slice a2 b.bs.length c2 := by
  obtain ⟨a1, c1, a2, c2, _, e, _⟩ := h.bk.parts
  simp at e
  exact ⟨a1, c1, a2, c2, e.1, e.2⟩
theorem XF.fin {w W : World} {rb len N M q : Nat} {v tv xv : Value} {b : Bk} (h : XF w W rb len N q v tv xv b) (hrb : rb < w.heap.size) (hM : N ≤ M) :
    (∃ (u : Value) (b' : Bk), Ending.returned (.agg #[tv, xv]) = .returned u ∧ DkL ((W.setCell ⟨w.heap.size + 1, 0, none⟩ tv).setCell ⟨w.heap.size + 1, 1, none⟩ xv) w.heap.size u b') ∧
    Rd ((W.setCell ⟨w.heap.size + 1, 0, none⟩ tv).setCell ⟨w.heap.size + 1, 1, none⟩ xv) rb v len M ∧ w.grownBy ((W.setCell ⟨w.heap.size + 1, 0, none⟩ tv).setCell ⟨w.heap.size + 1, 1, none⟩ xv) (some rb) :=
  ⟨⟨_, b, rfl, ((h.bk.set (by omega)).set (by omega)).low (by omega), h.z⟩, ((h.rd.setCell (by omega)).setCell (by omega)).mono hM, grown_setNew (grown_setNew h.g (by omega) _) (by omega) _⟩

set_option maxRecDepth 20000 in
set_option maxHeartbeats 4000000 in
theorem spoil15_any (rb len N B : Nat) (v bkv : Value) (b : Bk) (w : World) (hR : Rd w rb v len N) (hN : N ≤ 800000) (hD : Dk w B bkv b) :
    Calls Tryz.prog 34 #[.pointer (some ⟨rb, 0, none⟩), bkv] w
      fun e w' => (∃ (u : Value) (b' : Bk), e = .returned u ∧ DkL w' w.heap.size u b') ∧ Rd w' rb v len (N + 20) ∧ w.grownBy w' (some rb) := by
  have hrl := hR.lt
  have hbk := hD.bk
  obtain ⟨-, hzb, ht1, ht2, ht3⟩ := hD
  obtain ⟨a1, c1, a2, c2, rfl, -, -⟩ := hbk.parts
  obtain ⟨is, his, js0, js1, js2⟩ := info_parts infoStr
  obtain ⟨ib, hib, jb0, jb1, jb2⟩ := info_parts infoBat1
  go_enter Tryz.func34, Tryz.ntmps34
  go_upto_region 1 with fail
  obtain ⟨W1, hW1, kA, kR, hB1, hs1⟩ : ∃ W1, (w.alloc (.cells #[.slice a1 b.things.length c1, .slice a2 b.bs.length c2] 26)).alloc (.cells #[.slice none 0 0, .slice none 0 0] 26) = W1 ∧ CB W1 w.heap.size [.slice a1 b.things.length c1, .slice a2 b.bs.length c2] ∧ CB W1 (w.heap.size + 1) [.slice none 0 0, .slice none 0 0] ∧ Below w.heap.size w W1 ∧ W1.heap.size = w.heap.size + 2 := ⟨_, rfl, cb2 w _ _ _ _⟩
  rw [hW1]
  clear hW1
  obtain ⟨e0, e1⟩ := kA.c2'
  have hk := hbk.up hB1
  have hs1' : w.heap.size + 2 ≤ W1.heap.size := by omega
  clear hbk hs1
  go_wp2_with fail
  refine (copyF_any b _ _ hk (by omega) (by omega) (fun y hy => by have := ht3 y hy; omega)).mono ?_
  rintro e w2 ⟨⟨a3, c3, a4, c4, ps, rfl, x2, x3, hF⟩, hb2⟩
  have hl : b.bs.length = ps.length := by rw [← x3, List.length_map]
  have kR := kR.up hb2 kR.2.2
  have hR2 := (hR.kept hB1).kept hb2
  have hG2 := grown_trans (grown_below (r := some rb) hB1) (grown_below hb2)
  have hz2 := hb2.size
  rw [hl]
  rw [hl] at x2
  have hpz : Psz ps := fun p hp => by
    have hm : p.1 ∈ b.bs := by rw [← x3]; exact List.mem_map_of_mem hp
    exact ⟨(x2.2 p hp).2.2, (ht3 _ hm).1, (ht3 _ hm).2, (hzb.2 _ hm).1, (hzb.2 _ hm).2⟩
  have htz := hzb.1
  have hpl : ps.length ≤ 40 := by omega
  clear e0 e1 kA hk hB1 hb2 x3 hl ht2 ht3 hzb hR
  generalize b.things = ts at *
  go_upto_region 2 with fail
  obtain ⟨W3, hW3, kX, hb3, hs3⟩ : ∃ W3, w2.alloc (.cells #[(.slice a3 ts.length c3), (.slice a4 ps.length c4)] 26) = W3 ∧ CB W3 w2.heap.size [(.slice a3 ts.length c3), (.slice a4 ps.length c4)] ∧ Below w2.heap.size w2 W3 ∧ W3.heap.size = w2.heap.size + 1 := ⟨_, rfl, cb1 w2 _ _⟩
  rw [hW3]
  have Q3 : SQ w W3 rb len N w2.heap.size v (.slice a3 ts.length c3) (.slice a4 ps.length c4) ts ps :=
    ⟨kR.up hb3 kR.2.2, kX, hR2.kept hb3, grown_trans hG2 (grown_below hb3), own_low (own_up x2.1 hb3) hs1', ((hF.avoid (Nat.le_refl _)).up hb3).low hs1', fun m hm e => by
      have h1 := (x2.1.lt m hm).2
      have : m = w2.heap.size := by simpa using e
      omega, by omega⟩
  clear hW3 kX hb3 hs3 kR hR2 hG2 hz2 x2 hF hs1'
  generalize w2.heap.size = q at *
  have Hpz : Hid (Psz ps) := hpz
  have Htz : Hid (∀ s ∈ ts, s.size ≤ maxLen) := htz
  clear hpz htz
  go_cut [19] (fun c19 wc => ∃ (M : Nat) (c : Bool), c19 = .bool c ∧ M ≤ N + 1 ∧ (c = false → 0 < ps.length) ∧ SQ w wc rb len M q v (.slice a3 ts.length c3) (.slice a4 ps.length c4) ts ps)
  case first =>
    obtain ⟨z0, z1⟩ := Q3.x.c2'
    by_cases h0 : ps.length = 0
    · have h0' : ((ps.length : Int) == 0) = true := by simp [h0]
      clear h0
      go_wp2_with fail
      go_meet
      case rel => exact ⟨N, true, rfl, by omega, fun h => (by cases h), Q3⟩
    · have h0' : ((ps.length : Int) == 0) = false := by rw [beq_eq_false_iff_ne]; omega
      have Hp0 : Hid (0 < ps.length) := (by omega : 0 < ps.length)
      clear h0
      go_wp2_with fail
      refine (pick15_any rb len _ v 4 _ Q3.rd (by omega)).mono ?_
      rintro e w4 ⟨⟨x, rfl, -, -⟩, hR4, hg4⟩
      have Q4 := Q3.gr hrl hg4 hR4
      clear Q3 hR4 hg4 z0 z1
      go_wp2_with fail
      go_meet
      case rel => exact ⟨_, _, rfl, by omega, fun _ => Hp0.out, Q4⟩
  case rest =>
    obtain ⟨M, c, rfl, hM, hc, Q4⟩ := hcut
    clear Q3
    cases c
    case true =>
      clear hc
      have hltG := Q4.rd.lt
      have hqz := Q4.qz
      have hS1 : World.cell? wc.drew ⟨q, 0, none⟩ = some (.slice a3 ts.length c3) := Q4.x.c2'.1
      have QA := Q4.drew.alloc (.cells (litsT.map Value.string).toArray 9)
      have hSA : World.cell? (wc.drew.alloc (.cells (litsT.map Value.string).toArray 9)) ⟨q, 0, none⟩ = some (.slice a3 ts.length c3) := QA.x.c2'.1
      have hstr : StrsAt (wc.drew.alloc (.cells (litsT.map Value.string).toArray 9)) wc.heap.size 0 litsT := strsAt_alloc wc.drew litsT 9
      go_wp2_with fail
      refine wp_region_x 8 (fun w' => World.cell? w' ⟨q, 0, none⟩ = some (.slice a3 ts.length c3)) (by kernel_rfl) ?_
      refine tkx 0 rfl hS1 ?_
      refine tkx 1 rfl hS1 ?_
      refine tkx 2 rfl hS1 ?_
      refine onx 3 rfl (fun K hK => ?_)
      go_simp
      refine gox hK hSA ?_; clear hK K
      refine onx 4 rfl (fun K hK => ?_)
      go_simp
      go_wp2_with (go_at_call 50; refine (of15_any rb len _ v litsT 4 wc.heap.size 0 4 _ rfl QA.rd (by omega) hstr (by omega) (by omega) (by omega)).mono ?_; rintro e wN ⟨⟨s9, hs9, rfl⟩, hRN, hgN⟩; have QN := QA.gr hrl hgN hRN; have hs9z : s9.size ≤ maxLen := sz_lit (ss := litsT) (by decide) s9 hs9; have hSN : World.cell? wN ⟨q, 0, none⟩ = some (.slice a3 ts.length c3) := QN.x.c2'.1)
      clear QA Q4 hgN hRN hstr hs9
      refine gox hK hSN ?_; clear hK K
      have QB := QN.alloc (.cells #[.string s9] 9)
      have hSB : World.cell? (wN.alloc (.cells #[.string s9] 9)) ⟨q, 0, none⟩ = some (.slice a3 ts.length c3) := QB.x.c2'.1
      have hzB := QB.z
      have hownB := QB.head
      refine onx 5 rfl (fun K hK => ?_)
      go_simp
      refine gox hK hSB ?_; clear hK K
      refine onx 6 rfl (fun K hK => ?_)
      refine step_append_at rfl _ _ 23 rfl (w.heap.size + 2) 9 is _ 1 16 Tryz.underlying23 his js0 js1 js2 rfl (by decide) _ _ _ rfl hownB ⟨wN.heap.size, 0, none⟩ 1 1 [.string s9] rfl rfl (one_new _ _ _) (oneV s9) (by omega) (by unfold maxLen; omega) (by omega) hzB ?_
      intro v' wP hownP hgrP hwhP
      have hO : OwnT wP (w.heap.size + 2) v' (ts ++ [s9]) := by unfold OwnT; simpa using hownP
      have hSP : World.cell? wP ⟨q, 0, none⟩ = some (.slice a3 ts.length c3) := (QB.x.kept hgrP fun e => QB.fam.av ((.slice a3 ts.length c3), ts) (by simp) q e.symm rfl).c2'.1
      have QT := QB.things hrl hgrP hO hwhP
      have kP := QB.x.kept hgrP fun e => QB.fam.av ((.slice a3 ts.length c3), ts) (by simp) q e.symm rfl
      obtain ⟨⟨j0, j1⟩, m0, m1⟩ := kP.c2
      obtain ⟨aP, cP, rfl⟩ := hO.lst.shape
      have hts9 : (ts ++ [s9]).length ≤ 50 := by simp; omega
      have Hts9 : Hid (∀ s ∈ ts ++ [s9], s.size ≤ maxLen) := sz_snoc Htz.out hs9z
      clear QN QB hownB hgrP hownP hwhP hSN hSB hO kP
      generalize ts ++ [s9] = ts9 at *
      refine gox hK hSP ?_; clear hK K
      refine tkx 7 rfl hSP ?_
      refine onx 8 rfl (fun K hK => ?_)
      go_simp
      refine finx hK ?_
      clear hK K
      refine anyX_done (by kernel_rfl) ?_ _
      clear hS1 hSA hSP j0 j1 m0 m1
      generalize wP.setCell ⟨q, 0, none⟩ (.slice aP ts9.length cP) = wT at *
      have hX := QT.fin (fun p hp => (Hpz.out p hp).1) (loose_of Hts9.out hts9 (by omega) Hpz.out.loose)
      have kR := QT.r
      obtain ⟨j0, j1⟩ := QT.x.c2'
      obtain ⟨⟨y0, y1⟩, g0, g1⟩ := kR.c2
      clear QT
      go_wp2_with fail
      refine end_cb2 Tryz.results34 Tryz.underlying26 rfl sizeBk1 kR rfl ?_
      exact hX.fin hrl (by omega)
    case false =>
      have hp0 := hc rfl
      clear hc
      obtain ⟨z0, z1⟩ := Q4.x.c2'
      go_wp2_with fail
      refine (pick15_any rb len _ v _ _ Q4.rd (by omega)).mono ?_
      rintro e w5 ⟨⟨y, rfl, hy0, hy1⟩, hR5, hg5⟩
      have hy2 := hy1 (by omega)
      obtain ⟨k, rfl⟩ : ∃ k : Nat, y = (k : Int) := ⟨y.toNat, by omega⟩
      have hk : k < ps.length := by omega
      have Q5 := Q4.gr hrl hg5 hR5
      clear Q4 hR5 hg5 hy0 hy1 hy2 z0 z1
      go_upto_region 6 with fail
      go_cut [35] (fun v35 wc => ∃ (M : Nat) (x : Int), v35 = .int .i64 x ∧ 0 ≤ x ∧ M ≤ N + 5 ∧ SQ w wc rb len M q v (.slice a3 ts.length c3) (.slice a4 ps.length c4) ts ps)
      case first =>
        go_wp2_with fail
        refine (pick15_any rb len _ v 5 _ Q5.rd (by omega)).mono ?_
        rintro e w8 ⟨⟨x, rfl, hx0, -⟩, hR8, hg8⟩
        have Q8 := Q5.gr hrl hg8 hR8
        clear Q5 hR8 hg8
        go_wp2_with fail
        go_meet
        case rel => exact ⟨_, x, rfl, hx0, by omega, Q8⟩
      case rest =>
        obtain ⟨M8, x, rfl, hx0, hM8, Q8⟩ := hcut
        clear Q5
        obtain ⟨gg, cg, hgg⟩ := own_ptr2 Q8.row (by omega)
        obtain ⟨rfl, -, rfl⟩ := Value.slice.inj hgg
        clear hgg
        obtain ⟨⟨x0, hv, nv⟩, hp⟩ : ∃ p : Bv, ps[k]? = some p := ⟨_, List.getElem?_eq_getElem hk⟩
        obtain ⟨pz0, pz1, pz2, pz3, pz4⟩ := Hpz.out _ (List.mem_of_getElem? hp)
        have pz1 : x0.has.length ≤ 40 := pz1
        have pz2 : x0.needs.length ≤ 40 := pz2
        have Hfm := famB_mem (List.mem_of_getElem? hp)
        obtain ⟨ah, ch, hah⟩ := (show OwnT wc (w.heap.size + 2) hv x0.has from Q8.fam.own _ (List.mem_cons_of_mem _ Hfm.1)).lst.shape
        obtain ⟨an, cn, han⟩ := (show OwnT wc (w.heap.size + 2) nv x0.needs from Q8.fam.own _ (List.mem_cons_of_mem _ Hfm.2)).lst.shape
        subst hah han
        have Hp : Hid (ps[k]? = some ((x0, .slice ah x0.has.length ch, .slice an x0.needs.length cn) : Bv)) := hp
        have HM : Hid ((.slice ah x0.has.length ch, x0.has) ∈ ((.slice a3 ts.length c3), ts) :: famB ps ∧ (.slice an x0.needs.length cn, x0.needs) ∈ ((.slice a3 ts.length c3), ts) :: famB ps) := ⟨List.mem_cons_of_mem _ Hfm.1, List.mem_cons_of_mem _ Hfm.2⟩
        have Hp3 : Hid ((∀ s ∈ x0.has, s.size ≤ maxLen) ∧ ∀ s ∈ x0.needs, s.size ≤ maxLen) := ⟨pz3, pz4⟩
        have Hp0 : Hid (x0.nm.size ≤ maxLen) := pz0
        clear hp pz3 pz4 Hfm pz0
        apply_assumption
        go_cut [7, 8, 55, 65, 83, 101] (fun _ _ _ _ _ _ wc => ∃ (M : Nat) (tv xv : Value) (b' : Bk), M ≤ N + 20 ∧ XF w wc rb len M q v tv xv b')
        case first =>
          rcases (by omega : x = 0 ∨ x = 1 ∨ x = 2 ∨ x = 3 ∨ 4 ≤ x) with hx | hx | hx | hx | hx
          · subst hx
            have hS1 : World.cell? wc.drew ⟨q, 1, none⟩ = some (.slice (some ⟨gg, 0, none⟩) ps.length c4) := Q8.x.c2'.2
            have QA := Q8.drew.alloc (.cells (litsM.map Value.string).toArray 9)
            have hSA : World.cell? (wc.drew.alloc (.cells (litsM.map Value.string).toArray 9)) ⟨q, 1, none⟩ = some (.slice (some ⟨gg, 0, none⟩) ps.length c4) := QA.x.c2'.2
            have hstr : StrsAt (wc.drew.alloc (.cells (litsM.map Value.string).toArray 9)) wc.heap.size 0 litsM := strsAt_alloc wc.drew litsM 9
            have hltG := Q8.rd.lt
            go_wp2_with fail
            refine wp_region_x 8 (fun w' => World.cell? w' ⟨q, 1, none⟩ = some (.slice (some ⟨gg, 0, none⟩) ps.length c4)) (by kernel_rfl) ?_
            refine tkx 0 rfl hS1 ?_
            refine tkx 1 rfl hS1 ?_
            refine tkx 2 rfl hS1 ?_
            refine tkx 3 rfl hS1 ?_
            refine onx 4 rfl (fun K hK => ?_)
            go_simp
            refine gox hK hSA ?_; clear hK K
            refine onx 5 rfl (fun K hK => ?_)
            go_simp
            go_wp2_with (go_at_call 50; refine (of15_any rb len _ v litsM 4 wc.heap.size 0 4 _ rfl QA.rd (by omega) hstr (by omega) (by omega) (by omega)).mono ?_; rintro e wN ⟨⟨s9, hs9, rfl⟩, hRN, hgN⟩; have QN := QA.gr hrl hgN hRN; have hs9z : s9.size ≤ maxLen := sz_lit (ss := litsM) (by decide) s9 hs9; have hSN : World.cell? wN ⟨q, 1, none⟩ = some (.slice (some ⟨gg, 0, none⟩) ps.length c4) := QN.x.c2'.2)
            clear QA Q8 hgN hRN hstr hs9
            refine gox hK hSN ?_; clear hK K
            have r0 := (QN.row.cellAt (k * 3) (by omega)).trans (rowsB_at ps k _ Hp.out 0 _ rfl)
            have f0 := QN.row.frozenAt (k * 3)
            refine onx 6 rfl (fun K hK => ?_)
            go_simp
            refine gox hK hSN ?_; clear hK K
            refine tkx 7 rfl hSN ?_
            refine onx 8 rfl (fun K hK => ?_)
            go_simp
            refine finx hK ?_
            clear hK K
            refine anyX_done (by kernel_rfl) ?_ _
            have QT := QN.store hrl rfl (k * 3) (.string s9) (List.length_set ..) (rowsB_set0 ps k _ ⟨s9, x0.has, x0.needs⟩ Hp.out) (famB_name ps k _ s9 Hp.out)
            have hset := Hpz.out.set (k := k) (p' := ((⟨s9, x0.has, x0.needs⟩, .slice ah x0.has.length ch, .slice an x0.needs.length cn) : Bv)) ⟨hs9z, by show x0.has.length ≤ 50; omega, by show x0.needs.length ≤ 50; omega, Hp3.out⟩
            have hX := QT.fin (fun y hy => (hset y hy).1) (loose_of Htz.out (by omega) (by rw [List.length_set]; omega) hset)
            clear hset
            clear QT QN hS1 hSA hSN r0 f0
            go_wp2_with fail
            go_meet
            case rel => exact ⟨_, _, _, _, by omega, hX⟩
          · subst hx
            have HS : Hid (∀ (W : World) (M : Nat), SQ w W rb len M q v (.slice a3 ts.length c3) (.slice (some ⟨gg, 0, none⟩) ps.length c4) ts ps → (World.cell? W ⟨q, 1, none⟩ = some (.slice (some ⟨gg, 0, none⟩) ps.length c4) ∧ World.cell? W ⟨gg, k * 3 + 2, none⟩ = some (.slice an (x0.needs).length cn))) := fun W M Q => ⟨Q.x.c2'.2, (Q.row.cellAt (k * 3 + 2) (by omega)).trans (rowsB_at ps k _ Hp.out 2 _ rfl)⟩
            have hS1 := HS.out _ _ Q8.drew
            have QA := Q8.drew.alloc (.cells (litsW.map Value.string).toArray 9)
            have hSA := HS.out _ _ QA
            have hstr : StrsAt (wc.drew.alloc (.cells (litsW.map Value.string).toArray 9)) wc.heap.size 0 litsW := strsAt_alloc wc.drew litsW 9
            have hltG := Q8.rd.lt
            go_wp2_with fail
            refine wp_region_x 16 (fun w' => (World.cell? w' ⟨q, 1, none⟩ = some (.slice (some ⟨gg, 0, none⟩) ps.length c4) ∧ World.cell? w' ⟨gg, k * 3 + 2, none⟩ = some (.slice an (x0.needs).length cn))) (by kernel_rfl) ?_
            refine tkx 0 rfl hS1 ?_
            refine tkx 1 rfl hS1 ?_
            refine tkx 2 rfl hS1 ?_
            refine tkx 3 rfl hS1 ?_
            refine tkx 4 rfl hS1 ?_
            refine tkx 5 rfl hS1 ?_
            refine tkx 6 rfl hS1 ?_
            refine tkx 7 rfl hS1 ?_
            refine tkx 8 rfl hS1 ?_
            refine tkx 9 rfl hS1 ?_
            refine onx 10 rfl (fun K hK => ?_)
            go_simp
            refine gox hK hSA ?_; clear hK K
            refine onx 11 rfl (fun K hK => ?_)
            go_simp
            go_wp2_with (go_at_call 50; refine (of15_any rb len _ v litsW 4 wc.heap.size 0 4 _ rfl QA.rd (by omega) hstr (by omega) (by omega) (by omega)).mono ?_; rintro e wN ⟨⟨s9, hs9, rfl⟩, hRN, hgN⟩; have QN := QA.gr hrl hgN hRN; have hs9z : s9.size ≤ maxLen := sz_lit (ss := litsW) (by decide) s9 hs9; have hSN := HS.out _ _ QN)
            clear QA Q8 hgN hRN hstr hs9 hSA
            refine gox hK hSN ?_; clear hK K
            have QB := QN.alloc (.cells #[.string s9] 9)
            have hSB := HS.out _ _ QB
            have hzB := QB.z
            have hownB : OwnT (wN.alloc (.cells #[.string s9] 9)) (w.heap.size + 2) (.slice an x0.needs.length cn) x0.needs := QB.fam.own _ HM.out.2
            refine onx 12 rfl (fun K hK => ?_)
            go_simp
            refine gox hK hSB ?_; clear hK K
            refine onx 13 rfl (fun K hK => ?_)
            refine step_append_at rfl _ _ 23 rfl (w.heap.size + 2) 9 is _ 1 16 Tryz.underlying23 his js0 js1 js2 rfl (by decide) _ _ _ rfl hownB ⟨wN.heap.size, 0, none⟩ 1 1 [.string s9] rfl rfl (one_new _ _ _) (oneV s9) (by omega) (by unfold maxLen; omega) (by omega) hzB ?_
            intro v' wP hownP hgrP hwhP
            have hO : OwnT wP (w.heap.size + 2) v' (x0.needs ++ [s9]) := by unfold OwnT; simpa using hownP
            obtain ⟨-, eX, -, -, eR⟩ := QB.list hrl hownB (fun e => QB.fam.av _ HM.out.2 q e.symm rfl) hgrP
            have r2 := (eR.cellAt (k * 3 + 2) (by omega)).trans (rowsB_at ps k _ Hp.out 2 _ rfl)
            have f2 := eR.frozenAt (k * 3 + 2)
            have hSP : (World.cell? wP ⟨q, 1, none⟩ = some (.slice (some ⟨gg, 0, none⟩) ps.length c4) ∧ World.cell? wP ⟨gg, k * 3 + 2, none⟩ = some (.slice an (x0.needs).length cn)) := ⟨eX.c2'.2, r2⟩
            have QT := QB.needs hrl Hp.out rfl hgrP hO hwhP
            obtain ⟨aP, cP, rfl⟩ := hO.lst.shape
            have hl9 : (x0.needs ++ [s9]).length ≤ 50 := by simp; omega
            have H9 : Hid (∀ s ∈ x0.needs ++ [s9], s.size ≤ maxLen) := sz_snoc Hp3.out.2 hs9z
            clear QN QB hownB hgrP hownP hwhP hSN hSB hO eX eR hs9z
            generalize x0.needs ++ [s9] = l9 at *
            refine gox hK hSP ?_; clear hK K
            refine onx 14 rfl (fun K hK => ?_)
            go_simp
            refine gox hK hSP ?_; clear hK K
            refine tkx 15 rfl hSP ?_
            refine onx 16 rfl (fun K hK => ?_)
            go_simp
            refine finx hK ?_
            clear hK K
            refine anyX_done (by kernel_rfl) ?_ _
            have hset := Hpz.out.set (k := k) (p' := ((⟨x0.nm, x0.has, l9⟩, .slice ah x0.has.length ch, .slice aP l9.length cP) : Bv)) ⟨Hp0.out, by first | exact hl9 | (show x0.has.length ≤ 50; omega), by first | exact hl9 | (show x0.needs.length ≤ 50; omega), by first | exact H9.out | exact Hp3.out.1, by first | exact H9.out | exact Hp3.out.2⟩
            have hX := QT.fin (fun y hy => (hset y hy).1) (loose_of Htz.out (by omega) (by rw [List.length_set]; omega) hset)
            clear QT hset hS1 hSP r2 f2 HS
            go_wp2_with fail
            go_meet
            case rel => exact ⟨_, _, _, _, by omega, hX⟩
          · subst hx
            have HS : Hid (∀ (W : World) (M : Nat), SQ w W rb len M q v (.slice a3 ts.length c3) (.slice (some ⟨gg, 0, none⟩) ps.length c4) ts ps → (World.cell? W ⟨q, 1, none⟩ = some (.slice (some ⟨gg, 0, none⟩) ps.length c4) ∧ World.cell? W ⟨gg, k * 3 + 1, none⟩ = some (.slice ah (x0.has).length ch))) := fun W M Q => ⟨Q.x.c2'.2, (Q.row.cellAt (k * 3 + 1) (by omega)).trans (rowsB_at ps k _ Hp.out 1 _ rfl)⟩
            have hS1 := HS.out _ _ Q8.drew
            have QA := Q8.drew.alloc (.cells (litsW.map Value.string).toArray 9)
            have hSA := HS.out _ _ QA
            have hstr : StrsAt (wc.drew.alloc (.cells (litsW.map Value.string).toArray 9)) wc.heap.size 0 litsW := strsAt_alloc wc.drew litsW 9
            have hltG := Q8.rd.lt
            go_wp2_with fail
            refine wp_region_x 16 (fun w' => (World.cell? w' ⟨q, 1, none⟩ = some (.slice (some ⟨gg, 0, none⟩) ps.length c4) ∧ World.cell? w' ⟨gg, k * 3 + 1, none⟩ = some (.slice ah (x0.has).length ch))) (by kernel_rfl) ?_
            refine tkx 0 rfl hS1 ?_
            refine tkx 1 rfl hS1 ?_
            refine tkx 2 rfl hS1 ?_
            refine tkx 3 rfl hS1 ?_
            refine tkx 4 rfl hS1 ?_
            refine tkx 5 rfl hS1 ?_
            refine tkx 6 rfl hS1 ?_
            refine tkx 7 rfl hS1 ?_
            refine tkx 8 rfl hS1 ?_
            refine tkx 9 rfl hS1 ?_
            refine onx 10 rfl (fun K hK => ?_)
            go_simp
            refine gox hK hSA ?_; clear hK K
            refine onx 11 rfl (fun K hK => ?_)
            go_simp
            go_wp2_with (go_at_call 50; refine (of15_any rb len _ v litsW 4 wc.heap.size 0 4 _ rfl QA.rd (by omega) hstr (by omega) (by omega) (by omega)).mono ?_; rintro e wN ⟨⟨s9, hs9, rfl⟩, hRN, hgN⟩; have QN := QA.gr hrl hgN hRN; have hs9z : s9.size ≤ maxLen := sz_lit (ss := litsW) (by decide) s9 hs9; have hSN := HS.out _ _ QN)
            clear QA Q8 hgN hRN hstr hs9 hSA
            refine gox hK hSN ?_; clear hK K
            have QB := QN.alloc (.cells #[.string s9] 9)
            have hSB := HS.out _ _ QB
            have hzB := QB.z
            have hownB : OwnT (wN.alloc (.cells #[.string s9] 9)) (w.heap.size + 2) (.slice ah x0.has.length ch) x0.has := QB.fam.own _ HM.out.1
            refine onx 12 rfl (fun K hK => ?_)
            go_simp
            refine gox hK hSB ?_; clear hK K
            refine onx 13 rfl (fun K hK => ?_)
            refine step_append_at rfl _ _ 23 rfl (w.heap.size + 2) 9 is _ 1 16 Tryz.underlying23 his js0 js1 js2 rfl (by decide) _ _ _ rfl hownB ⟨wN.heap.size, 0, none⟩ 1 1 [.string s9] rfl rfl (one_new _ _ _) (oneV s9) (by omega) (by unfold maxLen; omega) (by omega) hzB ?_
            intro v' wP hownP hgrP hwhP
            have hO : OwnT wP (w.heap.size + 2) v' (x0.has ++ [s9]) := by unfold OwnT; simpa using hownP
            obtain ⟨-, eX, -, -, eR⟩ := QB.list hrl hownB (fun e => QB.fam.av _ HM.out.1 q e.symm rfl) hgrP
            have r2 := (eR.cellAt (k * 3 + 1) (by omega)).trans (rowsB_at ps k _ Hp.out 1 _ rfl)
            have f2 := eR.frozenAt (k * 3 + 1)
            have hSP : (World.cell? wP ⟨q, 1, none⟩ = some (.slice (some ⟨gg, 0, none⟩) ps.length c4) ∧ World.cell? wP ⟨gg, k * 3 + 1, none⟩ = some (.slice ah (x0.has).length ch)) := ⟨eX.c2'.2, r2⟩
            have QT := QB.has hrl Hp.out rfl hgrP hO hwhP
            obtain ⟨aP, cP, rfl⟩ := hO.lst.shape
            have hl9 : (x0.has ++ [s9]).length ≤ 50 := by simp; omega
            have H9 : Hid (∀ s ∈ x0.has ++ [s9], s.size ≤ maxLen) := sz_snoc Hp3.out.1 hs9z
            clear QN QB hownB hgrP hownP hwhP hSN hSB hO eX eR hs9z
            generalize x0.has ++ [s9] = l9 at *
            refine gox hK hSP ?_; clear hK K
            refine onx 14 rfl (fun K hK => ?_)
            go_simp
            refine gox hK hSP ?_; clear hK K
            refine tkx 15 rfl hSP ?_
            refine onx 16 rfl (fun K hK => ?_)
            go_simp
            refine finx hK ?_
            clear hK K
            refine anyX_done (by kernel_rfl) ?_ _
            have hset := Hpz.out.set (k := k) (p' := ((⟨x0.nm, l9, x0.needs⟩, .slice aP l9.length cP, .slice an x0.needs.length cn) : Bv)) ⟨Hp0.out, by first | exact hl9 | (show x0.has.length ≤ 50; omega), by first | exact hl9 | (show x0.needs.length ≤ 50; omega), by first | exact H9.out | exact Hp3.out.1, by first | exact H9.out | exact Hp3.out.2⟩
            have hX := QT.fin (fun y hy => (hset y hy).1) (loose_of Htz.out (by omega) (by rw [List.length_set]; omega) hset)
            clear QT hset hS1 hSP r2 f2 HS
            go_wp2_with fail
            go_meet
            case rel => exact ⟨_, _, _, _, by omega, hX⟩
          · subst hx
            have hS1 : World.cell? wc.drew ⟨q, 1, none⟩ = some (.slice (some ⟨gg, 0, none⟩) ps.length c4) := Q8.x.c2'.2
            have QA := Q8.drew.alloc (.cells #[.string x0.nm, .slice ah x0.has.length ch, .slice an x0.needs.length cn] 32)
            have hSA : World.cell? (wc.drew.alloc (.cells #[.string x0.nm, .slice ah x0.has.length ch, .slice an x0.needs.length cn] 32)) ⟨q, 1, none⟩ = some (.slice (some ⟨gg, 0, none⟩) ps.length c4) := QA.x.c2'.2
            have r0 : wc.drew.cell? ⟨gg, k * 3, none⟩ = _ := (Q8.drew.row.cellAt (k * 3) (by omega)).trans (rowsB_at ps k _ Hp.out 0 _ rfl)
            have r1 : wc.drew.cell? ⟨gg, k * 3 + 1, none⟩ = _ := (Q8.drew.row.cellAt (k * 3 + 1) (by omega)).trans (rowsB_at ps k _ Hp.out 1 _ rfl)
            have r2 : wc.drew.cell? ⟨gg, k * 3 + 2, none⟩ = _ := (Q8.drew.row.cellAt (k * 3 + 2) (by omega)).trans (rowsB_at ps k _ Hp.out 2 _ rfl)
            go_wp2_with fail
            refine wp_region_x 10 (fun w' => World.cell? w' ⟨q, 1, none⟩ = some (.slice (some ⟨gg, 0, none⟩) ps.length c4)) (by kernel_rfl) ?_
            refine tkx 0 rfl hS1 ?_
            refine tkx 1 rfl hS1 ?_
            refine tkx 2 rfl hS1 ?_
            refine tkx 3 rfl hS1 ?_
            refine tkx 4 rfl hS1 ?_
            refine tkx 5 rfl hS1 ?_
            refine onx 6 rfl (fun K hK => ?_)
            go_simp
            refine gox hK hS1 ?_; clear hK K
            clear r0 r1 r2
            refine onx 7 rfl (fun K hK => ?_)
            go_simp
            refine gox hK hSA ?_; clear hK K
            have hzA := QA.z
            have hrowA := QA.row
            refine onx 8 rfl (fun K hK => ?_)
            refine step_append_at rfl _ _ 24 rfl (w.heap.size + 2) 32 ib _ 3 64 Tryz.underlying24 hib jb0 jb1 jb2 rfl (by decide) _ _ _ rfl hrowA ⟨wc.heap.size, 0, none⟩ 1 1 [.string x0.nm, .slice ah x0.has.length ch, .slice an x0.needs.length cn] rfl rfl (fun j u hj => hnew3 _ _ _ _ _ hj) (by simp [Value.oneCell']) (by omega) (by unfold maxLen; omega) (by omega) hzA ?_
            intro v6 w6 hown6 hgr6 hwh6
            have hX := QA.twice hrl Hp.out hgr6 hwh6 hown6 (fun y hy => (Hpz.out y hy).1) (loose_of Htz.out (by omega) (by simp; omega) (fun y hy => by
              rcases List.mem_append.1 hy with h1 | h1
              · exact Hpz.out.loose y h1
              · obtain rfl : y = _ := by simpa using h1
                exact Hpz.out.loose _ (List.mem_of_getElem? Hp.out)))
            have a6 := QA.x.kept hgr6 fun e => QA.rq q e.symm rfl
            have hS6 : World.cell? w6 ⟨q, 1, none⟩ = some (.slice (some ⟨gg, 0, none⟩) ps.length c4) := a6.c2'.2
            obtain ⟨⟨j0, j1⟩, m0, m1⟩ := a6.c2
            obtain ⟨a7, c7, rfl⟩ := own_shape hown6
            clear hown6 hgr6 hwh6 QA hrowA Q8 a6
            refine gox hK hS6 ?_; clear hK K
            refine tkx 9 rfl hS6 ?_
            refine onx 10 rfl (fun K hK => ?_)
            go_simp
            refine finx hK ?_
            clear hK K
            refine anyX_done (by kernel_rfl) ?_ _
            clear hS1 hSA hS6 j0 j1 m0 m1
            go_wp2_with fail
            go_meet
            case rel => exact ⟨_, _, _, _, by omega, hX⟩
          · have hx1 : (x == 0) = false := by simp; omega
            have hx2 : (x == 1) = false := by simp; omega
            have hx3 : (x == 2) = false := by simp; omega
            have hx4 : (x == 3) = false := by simp; omega
            clear hx Hp Hp3 Hp0 HM pz1 pz2
            go_wp2_with fail
            refine (pick15_any rb len _ v 2 _ Q8.rd (by omega)).mono ?_
            rintro e w9 ⟨⟨d, rfl, hd0, hd1⟩, hR9, hg9⟩
            have hd2 := hd1 (by omega)
            have Q9 := Q8.gr hrl hg9 hR9
            clear Q8 hR9 hg9 hd1
            go_wp2_with fail
            go_loopw [8] (fun i w' => ∃ (j : Nat) (a5 : Option Addr) (c5 : Nat) (qs : List Bv), i = .int .i64 j ∧ j ≤ qs.length ∧ qs.length ≤ 40 ∧ Psz qs ∧ SQ w w' rb len (M8 + 1) q v (.slice a3 ts.length c3) (.slice a5 qs.length c5) ts qs) (fun i _ => 10 - (intOf i).toNat)
            case atStart => exact ⟨0, _, _, ps, rfl, by omega, by omega, Hpz.out, Q9⟩
            case round =>
              clear Q9 Hpz hk hp0 hpl
              obtain ⟨j, a5, c5, qs, rfl, hj, hql, hqz, Q1⟩ := hrel
              have Hqz : Hid (Psz qs) := hqz
              clear hqz
              obtain ⟨z0, z1⟩ := Q1.x.c2'
              by_cases hlt : (qs.length : Int) < 5 + d
              · have hj6 : j < 6 := by omega
                have hS1 : World.cell? wr.drew ⟨q, 1, none⟩ = some (.slice a5 qs.length c5) := z1
                have hxl := Q1.x.2.2
                go_wp2_with fail
                refine wp_region_x 9 (fun w' => World.cell? w' ⟨q, 1, none⟩ = some (.slice a5 qs.length c5)) (by kernel_rfl) ?_
                refine tkx 0 rfl hS1 ?_
                refine tkx 1 rfl hS1 ?_
                refine tkx 2 rfl hS1 ?_
                refine onx 3 rfl (fun K hK => ?_)
                go_simp
                go_wp2_with (go_at_call 51; refine (dec15_any _ _ (by omega) (by omega)).mono ?_; rintro e w2 ⟨⟨s, rfl, hs⟩, hb2⟩; have Q2 := Q1.drew.up hb2; have hS2 : World.cell? w2 ⟨q, 1, none⟩ = some (.slice a5 qs.length c5) := Q2.x.c2'.2)
                have hsz : (⟨#[122]⟩ ++ s : ByteArray).size ≤ maxLen := by rw [ByteArray.size_append]; unfold maxLen; show 1 + s.size ≤ _; omega
                clear Q1 hb2 z0 z1
                refine gox hK hS2 ?_; clear hK K
                have hs63 : ¬ 9223372036854775807 < 1 + s.size := by omega
                refine onx 4 rfl (fun K hK => ?_)
                go_simp
                refine gox hK hS2 ?_; clear hK K
                refine onx 5 rfl (fun K hK => ?_)
                go_simp
                refine gox hK hS2 ?_; clear hK K
                generalize (⟨#[122]⟩ ++ s : ByteArray) = s9 at *
                have QA := Q2.alloc (.cells #[.string s9, .slice none 0 0, .slice none 0 0] 32)
                have hSA : World.cell? (w2.alloc (.cells #[.string s9, .slice none 0 0, .slice none 0 0] 32)) ⟨q, 1, none⟩ = some (.slice a5 qs.length c5) := QA.x.c2'.2
                refine onx 6 rfl (fun K hK => ?_)
                go_simp
                refine gox hK hSA ?_; clear hK K
                have hzA := QA.z
                have hrowA := QA.row
                refine onx 7 rfl (fun K hK => ?_)
                refine step_append_at rfl _ _ 24 rfl (w.heap.size + 2) 32 ib _ 3 64 Tryz.underlying24 hib jb0 jb1 jb2 rfl (by decide) _ _ _ rfl hrowA ⟨w2.heap.size, 0, none⟩ 1 1 [.string s9, .slice none 0 0, .slice none 0 0] rfl rfl (fun j u hj => hnew3 _ _ _ _ _ hj) (by simp [Value.oneCell']) (by omega) (by unfold maxLen; omega) (by omega) hzA ?_
                intro v6 w6 hown6 hgr6 hwh6
                have QT := QA.push hrl hgr6 hwh6 hown6
                have hqz6 : Psz (qs ++ [((⟨s9, [], []⟩, .slice none 0 0, .slice none 0 0) : Bv)]) := Hqz.out.snoc hsz (by simp) (by simp) (fun s hs => by simp at hs) (fun s hs => by simp at hs)
                have hql6 : (qs ++ [((⟨s9, [], []⟩, .slice none 0 0, .slice none 0 0) : Bv)]).length = qs.length + 1 := by simp
                have a6 := QA.x.kept hgr6 fun e => QA.rq q e.symm rfl
                have hS6 : World.cell? w6 ⟨q, 1, none⟩ = some (.slice a5 qs.length c5) := a6.c2'.2
                obtain ⟨⟨j0, j1⟩, m0, m1⟩ := a6.c2
                obtain ⟨a7, c7, rfl⟩ := own_shape hown6
                rw [← hql6] at QT
                have Hql6 : Hid ((qs ++ [((⟨s9, [], []⟩, .slice none 0 0, .slice none 0 0) : Bv)]).length = qs.length + 1) := hql6
                clear hown6 hgr6 hwh6 QA hrowA Q2 a6 hql6
                refine gox hK hS6 ?_; clear hK K
                refine tkx 8 rfl hS6 ?_
                refine onx 9 rfl (fun K hK => ?_)
                go_simp
                refine finx hK ?_
                clear hK K
                refine anyX_done (by kernel_rfl) ?_ _
                clear hS1 hSA hS6 j0 j1 m0 m1 hS2
                rw [Hql6.out] at QT
                go_wp2_with fail
                go_roundw
                case rel => exact ⟨j + 1, a7, c7, _, by go_num, by rw [Hql6.out]; omega, by rw [Hql6.out]; omega, hqz6, by rw [Hql6.out]; exact QT⟩
                case measure => simp [intOf]; omega
              · have hX := Q1.fin (fun p hp => (Hqz.out p hp).1) (loose_of Htz.out (by omega) (by omega) Hqz.out.loose)
                clear Q1
                go_wp2_with fail
                go_meet
                case rel => exact ⟨_, _, _, _, by omega, hX⟩
        case rest =>
          obtain ⟨M9, tv9, xv9, b9, hM9, hX⟩ := hcut
          clear Q8 hx0 Hp Hp3 Hp0 HM pz1 pz2
          obtain ⟨a5, c5, a6, c6, rfl, rfl⟩ := hX.parts
          have kR := hX.r
          obtain ⟨j0, j1⟩ := hX.x.c2'
          obtain ⟨⟨y0, y1⟩, g0, g1⟩ := kR.c2
          go_wp2_with fail
          refine end_cb2 Tryz.results34 Tryz.underlying26 rfl sizeBk1 kR rfl ?_
          exact hX.fin hrl (by omega)
end Go.Proofs.YtnojjmkmkelbgaaGreat
