/- Drawing for the share: a book, a name and things; the draws of two laws. -/
import Derived.Test.YtkgbdjdgcacblaaGreatDoorJ32
import Derived.Test.YtkgbdjdgcacblaaGreatDoorDn6
namespace Go.Proofs.YtkgbdjdgcacblaaGreatDoor
open Go.RowKit


theorem ret_cb3 {P : Program} {fn : Func} {q q2 q3 : Tmp} {T : TypeId} (h : fn.results = #[.cell q T, .tmp q2, .tmp q3]) {d : TypeDesc} (hu : P.underlying T = some d) (hd : d.isRow = true) {tmps : Array Value} {Z : World} {rk : Nat} {cs : List Value} (hi : (P.info? T).map (·.size) = some cs.length)
    {v u : Value} (ht : tmps.getD q undef = .pointer (some ⟨rk, 0, none⟩)) (hv : tmps.getD q2 undef = v) (hu' : tmps.getD q3 undef = u) (hZ : CB Z rk cs) : (results fn tmps).run P Z = .ok (.tuple #[.agg cs.toArray, v, u]) Z := by
  have hl := run_loadVar_mid (P := P) Z rk 0 T cs d hZ.1 hu hd hi
  have ha : (asAddr (.pointer (some ⟨rk, 0, none⟩))).run P Z = .ok ⟨rk, 0, none⟩ Z := by simp [go_sem]
  have ht' : tmps[q]?.getD undef = .pointer (some ⟨rk, 0, none⟩) := by simpa using ht
  have hv' : tmps[q2]?.getD undef = v := by simpa using hv
  have hw' : tmps[q3]?.getD undef = u := by simpa using hu'
  simp only [results, h]
  simp [Sem.run_bind, Result.andThen, ht', hv', hw', ha, hl]
theorem end_cb2c {P : Program} {fn : Func} {q q2 q3 : Tmp} {T : TypeId} (h : fn.results = #[.cell q T, .tmp q2, .tmp q3]) {d : TypeDesc} (hu : P.underlying T = some d) (hd : d.isRow = true) (hi : (P.info? T).map (·.size) = some 2) {R : Ending → World → Prop} {tmps : Array Value} {w : World} {rk : Nat} {y0 y1 x0 x1 v u : Value}
    (k : CB w rk [y0, y1]) (ht : tmps.getD q undef = .pointer (some ⟨rk, 0, none⟩)) (hv : tmps.getD q2 undef = v) (hu' : tmps.getD q3 undef = u) (hR : R (.returned (.tuple #[.agg #[x0, x1], v, u])) ((w.setCell ⟨rk, 0, none⟩ x0).setCell ⟨rk, 1, none⟩ x1)) :
    bodyPost P fn R .ret { tmps := tmps, defers := [] } ((w.setCell ⟨rk, 0, none⟩ x0).setCell ⟨rk, 1, none⟩ x1) :=
  bodyPost_ret (ret_cb3 (cs := [x0, x1]) h hu hd hi ht hv hu' (k.copy2 x0 x1)) rfl hR

theorem end_cb2cd {P : Program} {fn : Func} {q q2 q3 : Tmp} {T : TypeId} (h : fn.results = #[.cell q T, .tmp q2, .tmp q3]) {d : TypeDesc} (hu : P.underlying T = some d) (hd : d.isRow = true) (hi : (P.info? T).map (·.size) = some 2) {R : Ending → World → Prop} {tmps : Array Value} {w : World} {rk : Nat} {y0 y1 x0 x1 v u : Value}
    (k : CB w rk [y0, y1]) (ht : tmps.getD q undef = .pointer (some ⟨rk, 0, none⟩)) (hv : tmps.getD q2 undef = v) (hu' : tmps.getD q3 undef = u) (hR : R (.returned (.tuple #[.agg #[x0, x1], v, u])) ((w.setCell ⟨rk, 0, none⟩ x0).setCell ⟨rk, 1, none⟩ x1).drew) :
    bodyPost P fn R .ret { tmps := tmps, defers := [] } ((w.setCell ⟨rk, 0, none⟩ x0).setCell ⟨rk, 1, none⟩ x1).drew :=
  bodyPost_ret (ret_cb3 (cs := [x0, x1]) h hu hd hi ht hv hu' (k.copy2 x0 x1)) rfl hR

/-- What is drawn: a book, a name, things. -/
def Asked (w w' : World) (e : Ending) : Prop := ∃ (u : Value) (b : Bk) (nm : ByteArray) (al : Option Addr) (cl : Nat) (list : List ByteArray), e = .returned (.tuple #[u, .string nm, .slice al list.length cl]) ∧ DkL w' w.heap.size u b ∧ nm.size ≤ maxLen ∧ OwnT w' w.heap.size (.slice al list.length cl) list ∧ (∀ s ∈ list, s.size ≤ maxLen) ∧ list.length ≤ 101

set_option maxRecDepth 20000 in
set_option maxHeartbeats 4000000 in
theorem asks15_any (a : Option Addr) (n cap : Nat) (w : World) (h : BytesAt w w.heap.size (.slice a n cap) n) (hcap : n ≤ cap) (hbig : cap ≤ maxLen) :
    Calls Tryz.prog 14 #[.slice a n cap] w fun e w' => Asked w w' e ∧ Below w.heap.size w w' := by
  go_enter Tryz.func14, Tryz.ntmps14
  go_upto_region 1 with fail
  obtain ⟨W1, hW1, kR, hB1, hs1⟩ : ∃ W1, w.alloc (.cells #[.slice none 0 0, .slice none 0 0] 26) = W1 ∧ CB W1 w.heap.size [.slice none 0 0, .slice none 0 0] ∧ Below w.heap.size w W1 ∧ W1.heap.size = w.heap.size + 1 := ⟨_, rfl, cb1 w _ _⟩
  rw [hW1]
  clear hW1
  go_wp2_with fail
  refine (open_any a n cap _ (h.up hB1 (by omega)) hcap hbig).mono ?_
  rintro e w2 ⟨⟨rb, len, v, rfl, hR2, hrb⟩, hb2⟩
  have kR := kR.up hb2 (by omega)
  have hB2 := up_trans hB1 hb2
  have hrb' : w.heap.size + 1 ≤ rb := by omega
  have hrl := hR2.lt
  clear hB1 hb2 hs1 hrb
  go_wp2_with fail
  refine (any15_any rb len 0 v _ hR2 (by omega)).mono ?_
  rintro e w3 ⟨⟨u, b, rfl, hD⟩, hR3, hg3⟩
  have kR := kR.kept hg3 (by simp; omega)
  have hB3 := below_gr hB2 hg3 (by omega)
  have hz3 := hg3.size
  obtain ⟨a1, c1, a2, c2, rfl⟩ := hD.parts
  clear hB2 hg3 hR2
  go_upto_region 3 with fail
  obtain ⟨W4, hW4, kX, hb4, hs4⟩ : ∃ W4, w3.alloc (.cells #[.slice a1 b.things.length c1, .slice a2 b.bs.length c2] 26) = W4 ∧ CB W4 w3.heap.size [.slice a1 b.things.length c1, .slice a2 b.bs.length c2] ∧ Below w3.heap.size w3 W4 ∧ W4.heap.size = w3.heap.size + 1 := ⟨_, rfl, cb1 w3 _ _⟩
  rw [hW4]
  have kR := kR.up hb4 kR.2.2
  have hB4 := up_trans hB3 hb4
  have hD4 := hD.up hb4
  have hR4 := hR3.kept hb4
  clear hW4 hB3 hb4 hD hR3
  have hqz : w.heap.size + 1 ≤ w3.heap.size := by omega
  have hqr : w3.heap.size ≠ rb := by omega
  generalize w3.heap.size = q at *
  obtain ⟨z0, z1⟩ := kX.c2'
  go_wp2_with fail
  refine (does15_any rb len _ w2.heap.size v _ b _ hR4 (by omega) hD4 hrl).mono ?_
  rintro e w5 ⟨⟨kd, nm, al, cl, list, rfl, hol, hnz, hlz, hll⟩, -, hg5⟩
  have kX := kX.kept hg5 (by simp; omega)
  have kR := kR.kept hg5 (by simp; omega)
  have hB5 := below_gr hB4 hg5 (by omega)
  have hD5 := hD4.gr hg5 hrl
  have hL5 := hol.lst.ls hlz
  have hz5 := hg5.size
  clear z0 z1 hR4 hD4 hB4 hg5 hL5
  go_upto_region 4 with fail
  obtain ⟨W6, hW6, kD, hb6, hs6⟩ : ∃ W6, w5.alloc (.cells #[.int .i64 kd, .string nm, .slice al list.length cl] 61) = W6 ∧ CB W6 w5.heap.size [.int .i64 kd, .string nm, .slice al list.length cl] ∧ Below w5.heap.size w5 W6 ∧ W6.heap.size = w5.heap.size + 1 := ⟨_, rfl, cb1 w5 _ _⟩
  try rw [hW6]
  have kX := kX.up hb6 kX.2.2
  have kR := kR.up hb6 kR.2.2
  have hB6 := up_trans hB5 hb6
  have hD6 := hD5.up hb6
  have hol := hol.up hb6
  clear hW6 hb6 hB5 hD5 hs6
  obtain ⟨z0, z1⟩ := kX.c2'
  obtain ⟨⟨d0, d1, d2⟩, -⟩ := kD.c3
  obtain ⟨⟨y0, y1⟩, g0, g1⟩ := kR.c2
  have hrl6 := kR.2.2
  have hn5 : w.heap.size + 1 ≤ w5.heap.size := by omega
  have hn6 : ¬ w5.heap.size = w.heap.size := by omega
  have hn7 : ¬ w.heap.size = w5.heap.size := by omega
  have hD7 := ((hD6.1.set (j := 0) (u := .slice a1 b.things.length c1) (show w.heap.size < w2.heap.size by omega)).set (j := 1) (u := .slice a2 b.bs.length c2) (show w.heap.size < w2.heap.size by omega)).low (show w.heap.size ≤ w2.heap.size by omega)
  have hB7 := below_set2 hB6 (Nat.le_refl _) (.slice a1 b.things.length c1) (.slice a2 b.bs.length c2)
  have hol7 : OwnT ((W6.setCell ⟨w.heap.size, 0, none⟩ (.slice a1 b.things.length c1)).setCell ⟨w.heap.size, 1, none⟩ (.slice a2 b.bs.length c2)) W4.heap.size (.slice al list.length cl) list := own_grown hol (grown_setCell (rb := w.heap.size) (grown_setCell (rb := w.heap.size) (grown_refl W6 _) _) _) (by omega)
  have hol8 := own_low hol7 (show w.heap.size ≤ W4.heap.size by omega)
  go_region
  all_goals
    go_wp2_with fail
    refine end_cb2cd Tryz.results14 Tryz.underlying26 rfl sizeBk1 kR rfl rfl rfl ?_
    exact ⟨⟨_, b, nm, al, cl, list, rfl, ⟨hD7.up (Below.refl _ _).drew, hD6.2⟩, hnz, hol8, hlz, by omega⟩, hB7.drew⟩

set_option maxRecDepth 20000 in
set_option maxHeartbeats 4000000 in
theorem drawLess_any (a : Option Addr) (n cap : Nat) (w : World) (h : BytesAt w w.heap.size (.slice a n cap) n) (hcap : n ≤ cap) (hbig : cap ≤ maxLen) :
    Calls Tryz.prog 4 #[.slice a n cap] w fun e w' => Asked w w' e ∧ Below w.heap.size w w' := by
  go_enter Tryz.func4, Tryz.ntmps4
  go_upto_region 1 with fail
  obtain ⟨W1, hW1, kR, hB1, hs1⟩ : ∃ W1, w.alloc (.cells #[.slice none 0 0, .slice none 0 0] 26) = W1 ∧ CB W1 w.heap.size [.slice none 0 0, .slice none 0 0] ∧ Below w.heap.size w W1 ∧ W1.heap.size = w.heap.size + 1 := ⟨_, rfl, cb1 w _ _⟩
  rw [hW1]
  clear hW1
  go_wp2_with fail
  refine (asks15_any a n cap _ (h.up hB1 (by omega)) hcap hbig).mono ?_
  rintro e w2 ⟨⟨u, b, nm, al, cl, list, rfl, hD, hnz, hol, hlz, hll⟩, hb2⟩
  have hz2 := hb2.size
  have kR := kR.up hb2 (by omega)
  have hB2 := up_trans hB1 hb2
  obtain ⟨a1, c1, a2, c2, rfl⟩ := hD.parts
  obtain ⟨⟨y0, y1⟩, g0, g1⟩ := kR.c2
  clear hB1 hb2
  go_wp2_with fail
  refine end_cb2c Tryz.results4 Tryz.underlying26 rfl sizeBk1 kR rfl rfl rfl ?_
  refine ⟨⟨_, b, nm, al, cl, list, rfl, ⟨((hD.1.set (by omega)).set (by omega)).low (by omega), hD.2⟩, hnz, ?_, hlz, hll⟩, below_set2 hB2 (Nat.le_refl _) _ _⟩
  exact own_low (own_grown hol (grown_setCell (rb := w.heap.size) (grown_setCell (rb := w.heap.size) (grown_refl w2 _) _) _) (by omega)) (by omega)

def lits3e : List ByteArray := [⟨#[]⟩, ⟨#[122, 122]⟩, ⟨#[97]⟩]
def lits8e : List ByteArray := [⟨#[97, 108, 101]⟩, ⟨#[98]⟩, ⟨#[99, 45, 99]⟩, ⟨#[100, 97, 114, 107]⟩, ⟨#[120, 57]⟩, ⟨#[122, 122]⟩, ⟨#[122, 122]⟩, ⟨#[]⟩]
set_option maxRecDepth 20000 in
set_option maxHeartbeats 4000000 in
theorem drawEnter_any (a : Option Addr) (n cap : Nat) (w : World) (h : BytesAt w w.heap.size (.slice a n cap) n) (hcap : n ≤ cap) (hbig : cap ≤ maxLen) :
    Calls Tryz.prog 11 #[.slice a n cap] w fun e w' => Asked w w' e ∧ Below w.heap.size w w' := by
  obtain ⟨is, his, js0, js1, js2⟩ := info_parts infoStr
  go_enter Tryz.func11, Tryz.ntmps11
  go_upto_region 1 with fail
  obtain ⟨W1, hW1, kR, hB1, hs1⟩ : ∃ W1, w.alloc (.cells #[.slice none 0 0, .slice none 0 0] 26) = W1 ∧ CB W1 w.heap.size [.slice none 0 0, .slice none 0 0] ∧ Below w.heap.size w W1 ∧ W1.heap.size = w.heap.size + 1 := ⟨_, rfl, cb1 w _ _⟩
  rw [hW1]
  clear hW1
  go_wp2_with fail
  refine (open_any a n cap _ (h.up hB1 (by omega)) hcap hbig).mono ?_
  rintro e w2 ⟨⟨rb, len, v, rfl, hR2, hrb⟩, hb2⟩
  have kR := kR.up hb2 (by omega)
  have hB2 := up_trans hB1 hb2
  have hrb' : w.heap.size + 1 ≤ rb := by omega
  have hrl := hR2.lt
  clear hB1 hb2 hs1 hrb
  go_wp2_with fail
  refine (any15_any rb len 0 v _ hR2 (by omega)).mono ?_
  rintro e w3 ⟨⟨u, b, rfl, hD⟩, hR3, hg3⟩
  have kR := kR.kept hg3 (by simp; omega)
  have hB3 := below_gr hB2 hg3 (by omega)
  have hz3 := hg3.size
  obtain ⟨a1, c1, a2, c2, rfl⟩ := hD.parts
  clear hB2 hg3 hR2
  go_upto_region 3 with fail
  obtain ⟨W4, hW4, kX, hb4, hs4⟩ : ∃ W4, w3.alloc (.cells #[.slice a1 b.things.length c1, .slice a2 b.bs.length c2] 26) = W4 ∧ CB W4 w3.heap.size [.slice a1 b.things.length c1, .slice a2 b.bs.length c2] ∧ Below w3.heap.size w3 W4 ∧ W4.heap.size = w3.heap.size + 1 := ⟨_, rfl, cb1 w3 _ _⟩
  rw [hW4]
  have kR := kR.up hb4 kR.2.2
  have hB4 := up_trans hB3 hb4
  have hD4 := hD.up hb4
  have hR4 := hR3.kept hb4
  clear hW4 hB3 hb4 hD hR3
  have hqz : w.heap.size + 1 ≤ w3.heap.size := by omega
  have hqr : w3.heap.size ≠ rb := by omega
  generalize w3.heap.size = q at *
  obtain ⟨z0, z1⟩ := kX.c2'
  obtain ⟨⟨tu, bu, ps, hv, o1, -, -⟩, hz, ht, -, -⟩ := id hD4
  obtain ⟨rfl, rfl⟩ : tu = .slice a1 b.things.length c1 ∧ bu = .slice a2 b.bs.length c2 := by simp at hv; exact ⟨hv.1.symm, hv.2.symm⟩
  have hz1 := hz.1
  clear hv hz
  go_wp2_with fail
  refine (some15_any rb len _ v _ 2 b.things _ hR4 (by omega) (o1.lst.ls hz1) ht (fun a m c e => by
    have hb := World.ownsRow.lt o1 a.block (by rw [e]; rfl)
    omega)).mono ?_
  rintro e w5 ⟨⟨u, ss, rfl, hou, hsl, hsm⟩, hR5, hg5⟩
  have hz5 := hg5.size
  replace kX := kX.kept hg5 (by simp; omega)
  replace kR := kR.kept hg5 (by simp; omega)
  have hB5 := below_gr hB4 hg5 (by omega)
  have hD5 := hD4.gr hg5 hrl
  have hssz : ∀ s ∈ ss, s.size ≤ maxLen := fun s hs => hz1 s (hsm s hs)
  have hs50 : ss.length ≤ 50 := by omega
  obtain ⟨au, cu, rfl⟩ := own_shape hou
  clear z0 z1 hR4 hB4 hD5 o1 hz1 hsm hsl ht
  have hW4q : q + 1 ≤ W4.heap.size := by omega
  have hrb4 : rb < W4.heap.size := by omega
  have hrq : rb + 1 ≤ q := by omega
  clear hs4
  go_upto_region 4 with fail
  go_cut [18] (fun v18 wc => ∃ c : Bool, v18 = .bool c ∧ OwnT wc W4.heap.size (.slice au ss.length cu) ss ∧ CB wc q [.slice a1 b.things.length c1, .slice a2 b.bs.length c2] ∧ CB wc w.heap.size [.slice none 0 0, .slice none 0 0] ∧ Rd wc rb v len 11051 ∧ Below w.heap.size w wc ∧ W4.grownBy wc (some rb))
  case first =>
    go_wp2_with fail
    refine (pick_any rb len _ v 12 _ hR5 (by omega)).mono ?_
    rintro e w6 ⟨⟨x, rfl, -, -⟩, hR6, hg6⟩
    have kX := kX.kept hg6 (by simp; omega)
    have kR := kR.kept hg6 (by simp; omega)
    have hB6 := below_gr hB5 hg6 (by omega)
    have hG6 := grown_trans hg5 hg6
    have hou : OwnT w6 W4.heap.size (.slice au ss.length cu) ss := own_grown hou hg6 hrb4
    clear hR5 hB5 hg6 hg5
    go_wp2_with fail
    go_meet
    case rel => exact ⟨_, rfl, hou, kX, kR, hR6, hB6, hG6⟩
  case rest =>
    obtain ⟨c, rfl, hol, kX, kR, hR7, hB7, hG7⟩ := hcut
    clear hR5 hB5 hg5
    have hz6 := hG7.size
    cases c
    case false =>
      have hlz := hssz
      have hll : ss.length ≤ 101 := by omega
      have hltG := hR7.lt
      have hS1 : World.cell? wc.drew ⟨q, 0, none⟩ = some (.slice a1 b.things.length c1) ∧ World.cell? wc.drew ⟨q, 1, none⟩ = some (.slice a2 b.bs.length c2) := kX.c2'
      have hba : Below wc.heap.size wc (wc.drew.alloc (.cells (lits8e.map Value.string).toArray 9)) := (Below.refl _ _).drew.alloc (Nat.le_refl _) _
      have kXA := kX.up hba kX.2.2
      have kRA := kR.up hba kR.2.2
      have hRA := hR7.kept hba
      have hBA := up_trans hB7 hba
      have hGA := grown_trans hG7 (grown_below (r := some rb) hba)
      have hoA := OwnT.up hol hba
      have hSA : World.cell? (wc.drew.alloc (.cells (lits8e.map Value.string).toArray 9)) ⟨q, 0, none⟩ = some (.slice a1 b.things.length c1) ∧ World.cell? (wc.drew.alloc (.cells (lits8e.map Value.string).toArray 9)) ⟨q, 1, none⟩ = some (.slice a2 b.bs.length c2) := kXA.c2'
      have hstr : StrsAt (wc.drew.alloc (.cells (lits8e.map Value.string).toArray 9)) wc.heap.size 0 lits8e := strsAt_alloc wc.drew lits8e 9
      have hzA := hba.size
      clear kX kR hR7 hB7 hG7 hol hba
      go_wp2_with fail
      refine wp_region_x 7 (fun w' => World.cell? w' ⟨q, 0, none⟩ = some (.slice a1 b.things.length c1) ∧ World.cell? w' ⟨q, 1, none⟩ = some (.slice a2 b.bs.length c2)) (by kernel_rfl) ?_
      refine anyX_take (i := 0) (v := ?_) rfl (by kernel_rfl) (by kernel_rfl) (by kernel_rfl) (by kernel_rfl) (fun _ _ _ h => h) (by rfl) hS1 ?_ ?_; rotate_left; focus (intro w hSw; (try dsimp only at hSw); go_simp; try with_reducible rfl); (try simp only [Act.put, List.setIfInBounds_toArray, List.set_cons_zero, List.set_cons_succ])
      refine anyX_take (i := 1) (v := ?_) rfl (by kernel_rfl) (by kernel_rfl) (by kernel_rfl) (by kernel_rfl) (fun _ _ _ h => h) (by rfl) hS1 ?_ ?_; rotate_left; focus (intro w hSw; (try dsimp only at hSw); go_simp; try with_reducible rfl); (try simp only [Act.put, List.setIfInBounds_toArray, List.set_cons_zero, List.set_cons_succ])
      refine anyX_take (i := 4) (v := ?_) rfl (by kernel_rfl) (by kernel_rfl) (by kernel_rfl) (by kernel_rfl) (fun _ _ _ h => h) (by rfl) hS1 ?_ ?_; rotate_left; focus (intro w hSw; (try dsimp only at hSw); go_simp; try with_reducible rfl); (try simp only [Act.put, List.setIfInBounds_toArray, List.set_cons_zero, List.set_cons_succ])
      refine anyX_one (i := 2) (by kernel_rfl) rfl (fun K hK => ?_)
      go_simp
      refine hK.out _ _ (fun _ => hSA) ?_; clear hK K; (try simp only [Act.put, List.setIfInBounds_toArray, List.set_cons_zero, List.set_cons_succ])
      refine anyX_one (i := 3) (by kernel_rfl) rfl (fun K hK => ?_)
      go_simp
      go_wp2_with (go_at_call 28; refine (of_any rb len _ v lits8e 8 wc.heap.size 0 8 _ rfl hRA (by omega) hstr (by omega) (by omega) (by omega)).mono ?_; rintro e w8 ⟨⟨nm, hnm, rfl⟩, -, hg8⟩)
      have hnz : nm.size ≤ maxLen := sz_lit (ss := lits8e) (by decide) nm hnm
      have kX8 := kXA.kept hg8 (by simp; omega)
      have kR8 := kRA.kept hg8 (by simp; omega)
      have hB8 := below_gr hBA hg8 (by omega)
      have hD8 := hD4.gr (grown_trans hGA hg8) hrl
      have ho8 : OwnT w8 W4.heap.size (.slice au ss.length cu) ss := own_grown hoA hg8 hrb4
      have hS8 : World.cell? w8 ⟨q, 0, none⟩ = some (.slice a1 b.things.length c1) ∧ World.cell? w8 ⟨q, 1, none⟩ = some (.slice a2 b.bs.length c2) := kX8.c2'
      clear kXA kRA hRA hBA hGA hoA hSA hstr hg8 hnm hD4
      refine hK.out _ _ (fun _ => hS8) ?_; clear hK K; (try simp only [Act.put, List.setIfInBounds_toArray, List.set_cons_zero, List.set_cons_succ])
      obtain ⟨⟨y0, y1⟩, g0, g1⟩ := kR8.c2
      have kX9 := (kX8.other (q := w.heap.size) (j := 0) (u := .slice a1 b.things.length c1) (by omega)).other (q := w.heap.size) (j := 1) (u := .slice a2 b.bs.length c2) (by omega)
      have hS9 : World.cell? ((w8.setCell ⟨w.heap.size, 0, none⟩ (.slice a1 b.things.length c1)).setCell ⟨w.heap.size, 1, none⟩ (.slice a2 b.bs.length c2)) ⟨q, 0, none⟩ = some (.slice a1 b.things.length c1) ∧ World.cell? ((w8.setCell ⟨w.heap.size, 0, none⟩ (.slice a1 b.things.length c1)).setCell ⟨w.heap.size, 1, none⟩ (.slice a2 b.bs.length c2)) ⟨q, 1, none⟩ = some (.slice a2 b.bs.length c2) := kX9.c2'
      refine anyX_one (i := 5) (by kernel_rfl) rfl (fun K hK => ?_)
      go_simp
      refine hK.out _ _ (fun _ => hS9) ?_; clear hK K; (try simp only [Act.put, List.setIfInBounds_toArray, List.set_cons_zero, List.set_cons_succ])
      refine anyX_one (i := 6) (by kernel_rfl) rfl (fun K hK => ?_)
      go_simp
      refine hK.out _ _ (fun _ => hS9) ?_; clear hK K; (try simp only [Act.put, List.setIfInBounds_toArray, List.set_cons_zero, List.set_cons_succ])
      refine anyX_one (i := 7) (by kernel_rfl) rfl (fun K hK => ?_)
      go_simp
      refine hK.out _ _ (fun h => absurd rfl h) ?_
      clear hK K
      refine anyX_done (by kernel_rfl) ?_ _
      clear hS1 hS8 hS9 kX8 kX9
      go_wp2_with fail
      refine end_cb2c Tryz.results11 Tryz.underlying26 rfl sizeBk1 kR8 rfl rfl rfl ?_
      refine ⟨⟨_, b, nm, au, cu, ss, rfl, ⟨((hD8.1.set (by omega)).set (by omega)).low (by omega), hD8.2⟩, hnz, ?_, hlz, hll⟩, below_set2 hB8 (Nat.le_refl _) _ _⟩
      exact own_low (own_grown ho8 (grown_setCell (rb := w.heap.size) (grown_setCell (rb := w.heap.size) (grown_refl w8 _) _) _) (by omega)) (by omega)
    case true =>
      have hltG := hR7.lt
      go_wp2_with fail
      refine (of_any rb len _ v lits3e 3 wc.heap.size 0 3 _ rfl (hR7.alloc _) (by omega) (strsAt_alloc wc lits3e 9) (by omega) (by omega) (by omega)).mono ?_
      rintro e w7 ⟨⟨s, hs, rfl⟩, hR8, hg7⟩
      have hsz : s.size ≤ maxLen := sz_lit (ss := lits3e) (by decide) s hs
      have hba : Below wc.heap.size wc (wc.alloc (.cells (lits3e.map Value.string).toArray 9)) := (Below.refl _ _).alloc (Nat.le_refl _) _
      have hz7 := hg7.size
      have hGG := grown_trans (grown_below (r := some rb) hba) hg7
      replace kX := kX.kept hGG (by simp; omega)
      replace kR := kR.kept hGG (by simp; omega)
      have hB8 := below_gr hB7 hGG (by omega)
      have hG8 := grown_trans hG7 hGG
      have hou : OwnT w7 W4.heap.size (.slice au ss.length cu) ss := own_grown hol hGG hrb4
      have hzz := hGG.size
      clear hR7 hB7 hG7 hGG hg7 hba hs hol
      have hb8 : Below w7.heap.size w7 (w7.alloc (.cells #[.string s] 9)) := (Below.refl _ _).alloc (Nat.le_refl _) _
      have hownB := World.ownsRow.alloc hou (.cells #[.string s] 9)
      have hwB : W4.heap.size ≤ (w7.alloc (.cells #[.string s] 9)).heap.size := by simp; omega
      replace kX := kX.up hb8 kX.2.2
      replace kR := kR.up hb8 kR.2.2
      have hB9 := up_trans hB8 hb8
      have hG9 := grown_trans hG8 (grown_below (r := some rb) hb8)
      have hR9 := hR8.kept hb8
      clear hR8 hB8 hb8 hou hG8
      go_wp2_with (at_builtin; refine wpList_append_own _ rfl _ _ 23 rfl W4.heap.size 9 is _ 1 16 Tryz.underlying23 his js0 js1 js2 rfl (by decide) _ _ _ rfl hownB ⟨w7.heap.size, 0, none⟩ 1 1 [.string s] rfl rfl (one_new _ _ _) (oneV s) (by unfold maxLen; omega) (by omega) hwB ?_)
      intro v' wP hownP hgrP _
      have hol : OwnT wP W4.heap.size v' (ss ++ [s]) := by unfold OwnT; simpa using hownP
      obtain ⟨aP, cP, rfl⟩ := own_shape hol
      replace kX := kX.kept hgrP (own_ne hownB (by omega))
      replace kR := kR.kept hgrP (own_ne hownB (by omega))
      have hB7 := below_own hB9 hownB hgrP (by omega)
      have hR7 := hR9.own hownB hgrP hrb4
      have hG7 := grown_own hG9 hownB hgrP (Nat.le_refl _)
      have hlz : ∀ t ∈ ss ++ [s], t.size ≤ maxLen := fun t ht => by
        rcases List.mem_append.1 ht with h | h
        · exact hssz t h
        · obtain rfl : t = s := by simpa using h
          exact hsz
      have hll : (ss ++ [s]).length ≤ 101 := by simp; omega
      have hzP := hG7.size
      clear hownP hownB hgrP hB9 hG9 hR9 hwB hzz hz7 hltG hssz hsz
      generalize ss ++ [s] = ls at *
      have hltG := hR7.lt
      have hS1 : World.cell? wP.drew ⟨q, 0, none⟩ = some (.slice a1 b.things.length c1) ∧ World.cell? wP.drew ⟨q, 1, none⟩ = some (.slice a2 b.bs.length c2) := kX.c2'
      have hba : Below wP.heap.size wP (wP.drew.alloc (.cells (lits8e.map Value.string).toArray 9)) := (Below.refl _ _).drew.alloc (Nat.le_refl _) _
      have kXA := kX.up hba kX.2.2
      have kRA := kR.up hba kR.2.2
      have hRA := hR7.kept hba
      have hBA := up_trans hB7 hba
      have hGA := grown_trans hG7 (grown_below (r := some rb) hba)
      have hoA := OwnT.up hol hba
      have hSA : World.cell? (wP.drew.alloc (.cells (lits8e.map Value.string).toArray 9)) ⟨q, 0, none⟩ = some (.slice a1 b.things.length c1) ∧ World.cell? (wP.drew.alloc (.cells (lits8e.map Value.string).toArray 9)) ⟨q, 1, none⟩ = some (.slice a2 b.bs.length c2) := kXA.c2'
      have hstr : StrsAt (wP.drew.alloc (.cells (lits8e.map Value.string).toArray 9)) wP.heap.size 0 lits8e := strsAt_alloc wP.drew lits8e 9
      have hzA := hba.size
      clear kX kR hR7 hB7 hG7 hol hba
      go_wp2_with fail
      refine wp_region_x 7 (fun w' => World.cell? w' ⟨q, 0, none⟩ = some (.slice a1 b.things.length c1) ∧ World.cell? w' ⟨q, 1, none⟩ = some (.slice a2 b.bs.length c2)) (by kernel_rfl) ?_
      refine anyX_take (i := 0) (v := ?_) rfl (by kernel_rfl) (by kernel_rfl) (by kernel_rfl) (by kernel_rfl) (fun _ _ _ h => h) (by rfl) hS1 ?_ ?_; rotate_left; focus (intro w hSw; (try dsimp only at hSw); go_simp; try with_reducible rfl); (try simp only [Act.put, List.setIfInBounds_toArray, List.set_cons_zero, List.set_cons_succ])
      refine anyX_take (i := 1) (v := ?_) rfl (by kernel_rfl) (by kernel_rfl) (by kernel_rfl) (by kernel_rfl) (fun _ _ _ h => h) (by rfl) hS1 ?_ ?_; rotate_left; focus (intro w hSw; (try dsimp only at hSw); go_simp; try with_reducible rfl); (try simp only [Act.put, List.setIfInBounds_toArray, List.set_cons_zero, List.set_cons_succ])
      refine anyX_take (i := 4) (v := ?_) rfl (by kernel_rfl) (by kernel_rfl) (by kernel_rfl) (by kernel_rfl) (fun _ _ _ h => h) (by rfl) hS1 ?_ ?_; rotate_left; focus (intro w hSw; (try dsimp only at hSw); go_simp; try with_reducible rfl); (try simp only [Act.put, List.setIfInBounds_toArray, List.set_cons_zero, List.set_cons_succ])
      refine anyX_one (i := 2) (by kernel_rfl) rfl (fun K hK => ?_)
      go_simp
      refine hK.out _ _ (fun _ => hSA) ?_; clear hK K; (try simp only [Act.put, List.setIfInBounds_toArray, List.set_cons_zero, List.set_cons_succ])
      refine anyX_one (i := 3) (by kernel_rfl) rfl (fun K hK => ?_)
      go_simp
      go_wp2_with (go_at_call 28; refine (of_any rb len _ v lits8e 8 wP.heap.size 0 8 _ rfl hRA (by omega) hstr (by omega) (by omega) (by omega)).mono ?_; rintro e w8 ⟨⟨nm, hnm, rfl⟩, -, hg8⟩)
      have hnz : nm.size ≤ maxLen := sz_lit (ss := lits8e) (by decide) nm hnm
      have kX8 := kXA.kept hg8 (by simp; omega)
      have kR8 := kRA.kept hg8 (by simp; omega)
      have hB8 := below_gr hBA hg8 (by omega)
      have hD8 := hD4.gr (grown_trans hGA hg8) hrl
      have ho8 : OwnT w8 W4.heap.size (.slice aP ls.length cP) ls := own_grown hoA hg8 hrb4
      have hS8 : World.cell? w8 ⟨q, 0, none⟩ = some (.slice a1 b.things.length c1) ∧ World.cell? w8 ⟨q, 1, none⟩ = some (.slice a2 b.bs.length c2) := kX8.c2'
      clear kXA kRA hRA hBA hGA hoA hSA hstr hg8 hnm hD4
      refine hK.out _ _ (fun _ => hS8) ?_; clear hK K; (try simp only [Act.put, List.setIfInBounds_toArray, List.set_cons_zero, List.set_cons_succ])
      obtain ⟨⟨y0, y1⟩, g0, g1⟩ := kR8.c2
      have kX9 := (kX8.other (q := w.heap.size) (j := 0) (u := .slice a1 b.things.length c1) (by omega)).other (q := w.heap.size) (j := 1) (u := .slice a2 b.bs.length c2) (by omega)
      have hS9 : World.cell? ((w8.setCell ⟨w.heap.size, 0, none⟩ (.slice a1 b.things.length c1)).setCell ⟨w.heap.size, 1, none⟩ (.slice a2 b.bs.length c2)) ⟨q, 0, none⟩ = some (.slice a1 b.things.length c1) ∧ World.cell? ((w8.setCell ⟨w.heap.size, 0, none⟩ (.slice a1 b.things.length c1)).setCell ⟨w.heap.size, 1, none⟩ (.slice a2 b.bs.length c2)) ⟨q, 1, none⟩ = some (.slice a2 b.bs.length c2) := kX9.c2'
      refine anyX_one (i := 5) (by kernel_rfl) rfl (fun K hK => ?_)
      go_simp
      refine hK.out _ _ (fun _ => hS9) ?_; clear hK K; (try simp only [Act.put, List.setIfInBounds_toArray, List.set_cons_zero, List.set_cons_succ])
      refine anyX_one (i := 6) (by kernel_rfl) rfl (fun K hK => ?_)
      go_simp
      refine hK.out _ _ (fun _ => hS9) ?_; clear hK K; (try simp only [Act.put, List.setIfInBounds_toArray, List.set_cons_zero, List.set_cons_succ])
      refine anyX_one (i := 7) (by kernel_rfl) rfl (fun K hK => ?_)
      go_simp
      refine hK.out _ _ (fun h => absurd rfl h) ?_
      clear hK K
      refine anyX_done (by kernel_rfl) ?_ _
      clear hS1 hS8 hS9 kX8 kX9
      go_wp2_with fail
      refine end_cb2c Tryz.results11 Tryz.underlying26 rfl sizeBk1 kR8 rfl rfl rfl ?_
      refine ⟨⟨_, b, nm, aP, cP, ls, rfl, ⟨((hD8.1.set (by omega)).set (by omega)).low (by omega), hD8.2⟩, hnz, ?_, hlz, hll⟩, below_set2 hB8 (Nat.le_refl _) _ _⟩
      exact own_low (own_grown ho8 (grown_setCell (rb := w.heap.size) (grown_setCell (rb := w.heap.size) (grown_refl w8 _) _) _) (by omega)) (by omega)
end Go.Proofs.YtkgbdjdgcacblaaGreatDoor
