/- Drawing for the share: a book and an order. -/
import Derived.Test.YthpcadlohahblabKsm
namespace Go.Proofs.Ythpcadlohahblab
open Go.RowKit

/-- What lies where while an order is drawn: the result's block, the book's, the reader; the order is a list of its own. -/
structure FJ (w W : World) (rb len N q B : Nat) (v tv xv bv : Value) (b : Bk) (os : List ByteArray) (ov : Value) : Prop where
  r : CB W w.heap.size [.slice none 0 0, .slice none 0 0]
  x : CB W q [tv, xv]
  rd : Rd W rb v len N
  g : Below w.heap.size w W
  b0 : ∃ W0, DkL W0 B bv b ∧ W0.heap.size ≤ q ∧ W0.grownBy W (some rb)
  o : OwnT W (q + 1) ov os
  oz : ∀ s ∈ os, s.size ≤ maxLen
  qz : w.heap.size + 1 ≤ q
  qb : w.heap.size + 1 ≤ rb ∧ rb < B ∧ B ≤ q
variable {w W X : World} {rb len N M q B : Nat} {v tv xv bv ov ov' : Value} {b : Bk} {os os' : List ByteArray}
theorem FJ.gr (h : FJ w W rb len N q B v tv xv bv b os ov) (hg : W.grownBy X (some rb)) (hr : Rd X rb v len M) : FJ w X rb len M q B v tv xv bv b os ov :=
  have := h.qb
  ⟨h.r.kept hg (by simp; omega), h.x.kept hg (by simp; omega), hr, below_gr h.g hg (by omega), (let ⟨W0, h1, h2, h3⟩ := h.b0; ⟨W0, h1, h2, grown_trans h3 hg⟩), own_grown h.o hg (by omega), h.oz, h.qz, h.qb⟩
theorem FJ.up (h : FJ w W rb len N q B v tv xv bv b os ov) (hb : Below W.heap.size W X) : FJ w X rb len N q B v tv xv bv b os ov :=
  ⟨h.r.up hb h.r.2.2, h.x.up hb h.x.2.2, h.rd.kept hb, up_trans h.g hb, (let ⟨W0, h1, h2, h3⟩ := h.b0; ⟨W0, h1, h2, grown_trans h3 (grown_below hb)⟩), h.o.up hb, h.oz, h.qz, h.qb⟩
theorem FJ.mono (h : FJ w W rb len N q B v tv xv bv b os ov) (hM : N ≤ M) : FJ w W rb len M q B v tv xv bv b os ov := ⟨h.r, h.x, h.rd.mono hM, h.g, h.b0, h.o, h.oz, h.qz, h.qb⟩
theorem FJ.bk (h : FJ w W rb len N q B v tv xv bv b os ov) : DkL W B bv b := by
  obtain ⟨W0, h1, -, h3⟩ := h.b0
  exact h1.gr h3 h.qb.2.1
/-- Another list in its place. -/
theorem FJ.put {n : Nat} (h : FJ w W rb len N q B v tv xv bv b os ov) (ho : OwnT W n ov' os') (hn : q + 1 ≤ n) (hz : ∀ s ∈ os', s.size ≤ maxLen) : FJ w W rb len N q B v tv xv bv b os' ov' :=
  ⟨h.r, h.x, h.rd, h.g, h.b0, own_low ho hn, hz, h.qz, h.qb⟩
theorem Ls.drop0 {w : World} {g c : Nat} {ss : List ByteArray} (h : Ls w (.slice (some ⟨g, 0, none⟩) ss.length c) ss) {k : Nat} (hk : k ≤ ss.length) (hc : ss.length ≤ c) {a : Option Addr} (ha : a = if c = k then some ⟨g, 0, none⟩ else some ⟨g, k, none⟩) : Ls w (.slice a (ss.length - k) (c - k)) (ss.drop k) := by
  obtain ⟨a', c', e, h1, h2, h3⟩ := h
  obtain ⟨rfl, -, rfl⟩ := Value.slice.inj e
  have hl : (ss.drop k).length = ss.length - k := List.length_drop ..
  refine ⟨a, _, by rw [hl], by rw [hl]; omega, fun s hs => h2 s (List.mem_of_mem_drop hs), fun hp => ?_⟩
  rw [hl] at hp
  obtain ⟨b, o, hb, hS, hlt⟩ := h3 (by omega)
  simp at hb
  obtain ⟨rfl, rfl⟩ := hb
  rw [if_neg (by omega)] at ha
  exact ⟨g, 0 + k, by rw [ha, Nat.zero_add], hS.drop k, hlt⟩
theorem own_caps {w : World} {base e size n n' c : Nat} {a : Option Addr} {xs : List Value} (h : w.ownsRow base e size (.slice a n c) n' xs) : n ≤ c ∧ c ≤ maxLen := by
  rcases h.2 with ⟨h0, _⟩ | ⟨g, cap, cur, h', _, _, hc, hm, _⟩
  · obtain ⟨-, rfl, rfl⟩ := Value.slice.inj h0
    exact ⟨Nat.le_refl _, Nat.zero_le _⟩
  · obtain ⟨-, rfl, rfl⟩ := Value.slice.inj h'
    exact ⟨hc, hm⟩
def lits3f : List ByteArray := [⟨#[]⟩, ⟨#[97, 108, 101]⟩, ⟨#[122, 122]⟩]
theorem order_len {b : Bk} {ss : List ByteArray} {ok : Bool} (h : OrderIs b ss ok) : ss.length ≤ b.bs.length := by
  rcases h with ⟨-, -, hg⟩ | ⟨-, rfl, -⟩
  · rw [hg.length]; exact Nat.le_refl _
  · simp

set_option maxRecDepth 20000 in
set_option maxHeartbeats 4000000 in
theorem drawFits_any (a : Option Addr) (n cap : Nat) (w : World) (h : BytesAt w w.heap.size (.slice a n cap) n) (hcap : n ≤ cap) (hbig : cap ≤ maxLen) :
    Calls Try.prog 14 #[.slice a n cap] w
      fun e w' => (∃ (u : Value) (b : Bk) (ao : Option Addr) (co : Nat) (os : List ByteArray), e = .returned (.tuple #[u, .slice ao os.length co]) ∧ DkL w' w.heap.size u b ∧ Ls w' (.slice ao os.length co) os ∧ os.length ≤ co ∧ co ≤ maxLen) ∧ Below w.heap.size w w' := by
  obtain ⟨is, his, js0, js1, js2⟩ := info_parts infoStr
  go_enter Try.func14, Try.ntmps14
  go_upto_region 1 with fail
  obtain ⟨W1, hW1, kR, hB1, hs1⟩ : ∃ W1, w.alloc (.cells #[.slice none 0 0, .slice none 0 0] 26) = W1 ∧ CB W1 w.heap.size [.slice none 0 0, .slice none 0 0] ∧ Below w.heap.size w W1 ∧ W1.heap.size = w.heap.size + 1 := ⟨_, rfl, cb1 w _ _⟩
  rw [hW1]
  clear hW1
  go_wp2_with fail
  refine (open_any a n cap _ (h.up hB1 (by omega)) hcap hbig).mono ?_
  rintro e w2 ⟨⟨rb, len, v, rfl, hR2, hrb⟩, hb2⟩
  have kR := kR.up hb2 (by omega)
  have hB2 := up_trans hB1 hb2
  have hrb' : w.heap.size + 1 ≤ rb := by omega
  have hrl := hR2.lt
  clear hB1 hb2 hs1 hrb
  go_wp2_with fail
  refine (any15_any rb len 0 v _ hR2 (by omega)).mono ?_
  rintro e w3 ⟨⟨u, b, rfl, hD⟩, hR3, hg3⟩
  have kR := kR.kept hg3 (by simp; omega)
  have hB3 := below_gr hB2 hg3 (by omega)
  have hz3 := hg3.size
  obtain ⟨a1, c1, a2, c2, rfl⟩ := hD.parts
  have hbl := hD.2.2.2.1
  clear hB2 hg3 hR2
  generalize w2.heap.size = B at *
  go_upto_region 3 with fail
  obtain ⟨W4, hW4, kX, hb4, hs4⟩ : ∃ W4, w3.alloc (.cells #[.slice a1 b.things.length c1, .slice a2 b.bs.length c2] 26) = W4 ∧ CB W4 w3.heap.size [.slice a1 b.things.length c1, .slice a2 b.bs.length c2] ∧ Below w3.heap.size w3 W4 ∧ W4.heap.size = w3.heap.size + 1 := ⟨_, rfl, cb1 w3 _ _⟩
  rw [hW4]
  have kR := kR.up hb4 kR.2.2
  have hB4 := up_trans hB3 hb4
  have hD4 := hD.up hb4
  have hR4 := hR3.kept hb4
  have hs4' : w3.heap.size + 1 ≤ W4.heap.size := by omega
  have hG0 := grown_below (r := some rb) hb4
  have hq0 := Nat.le_refl w3.heap.size
  have hD0 : ∃ W0, DkL W0 B (.agg #[.slice a1 b.things.length c1, .slice a2 b.bs.length c2]) b ∧ W0.heap.size ≤ w3.heap.size ∧ W0.grownBy W4 (some rb) := ⟨w3, hD, hq0, hG0⟩
  clear hW4 hB3 hb4 hs4 hD hR3 hG0 hq0
  have hqz : w.heap.size + 1 ≤ w3.heap.size := by omega
  generalize w3.heap.size = q at *
  obtain ⟨z0, z1⟩ := kX.c2'
  go_wp2_with fail
  refine (specOrder_any b _ _ hD4.bk).mono ?_
  rintro e w5 ⟨⟨ov, os, ok, rfl, hord, hown, hoz⟩, hb5⟩
  have hol := order_len hord
  have J5 : FJ w w5 rb len 11000 q B v (.slice a1 b.things.length c1) (.slice a2 b.bs.length c2) (.agg #[.slice a1 b.things.length c1, .slice a2 b.bs.length c2]) b os ov := ⟨kR.up hb5 kR.2.2, kX.up hb5 kX.2.2, (hR4.kept hb5).mono (by omega), up_trans hB4 hb5, (let ⟨W0, h1, h2, h3⟩ := hD0; ⟨W0, h1, h2, grown_trans h3 (grown_below hb5)⟩), own_low hown hs4', hoz, hqz, hrb', hrl, hz3⟩
  obtain ⟨ao, co, rfl⟩ := hown.lst.shape
  clear kR kX hR4 hB4 hD4 hD0 hown hoz hqz hs4' z0 z1 hb5 hord
  go_upto_region 4 with fail
  go_cut [25] (fun c25 wc => ∃ (M : Nat) (c : Bool), c25 = .bool c ∧ M ≤ 11001 ∧ FJ w wc rb len M q B v (.slice a1 b.things.length c1) (.slice a2 b.bs.length c2) (.agg #[.slice a1 b.things.length c1, .slice a2 b.bs.length c2]) b os (.slice ao os.length co))
  case first =>
    cases ok
    · go_wp2_with fail
      go_meet
      case rel => exact ⟨_, true, rfl, by omega, J5⟩
    · go_wp2_with fail
      refine (pick_any rb len _ v 2 _ J5.rd (by omega)).mono ?_
      rintro e w6 ⟨⟨x, rfl, -, -⟩, hR6, hg6⟩
      have J6 := J5.gr hg6 hR6
      clear J5 hR6 hg6
      go_wp2_with fail
      go_meet
      case rel => exact ⟨_, _, rfl, by omega, J6⟩
  case rest =>
    obtain ⟨M, c, rfl, hM, J6⟩ := hcut
    clear J5
    go_upto_if 25 with fail
    go_cut [6, 8, 9] (fun v6 _ _ wc => ∃ (M : Nat) (ao : Option Addr) (co : Nat) (os : List ByteArray), v6 = .slice ao os.length co ∧ M ≤ 12000 ∧ os.length ≤ 60 ∧ FJ w wc rb len M q B v (.slice a1 b.things.length c1) (.slice a2 b.bs.length c2) (.agg #[.slice a1 b.things.length c1, .slice a2 b.bs.length c2]) b os (.slice ao os.length co))
    case first =>
      cases c
      · go_wp2_with fail
        go_meet
        case rel => exact ⟨_, _, _, os, rfl, by omega, by omega, J6⟩
      · have hqw := J6.x.2.2
        have J7 : FJ w (wc.alloc (.cells #[] 9)) rb len M q B v (.slice a1 b.things.length c1) (.slice a2 b.bs.length c2) (.agg #[.slice a1 b.things.length c1, .slice a2 b.bs.length c2]) b [] (.slice (some ⟨wc.heap.size, 0, none⟩) 0 0) := (J6.up ((Below.refl _ _).alloc (Nat.le_refl _) _)).put (ownT_lit0 wc) hqw (fun s hs => by simp at hs)
        clear J6 hol
        go_upto_region 6 with fail
        generalize wc.alloc (.cells #[] 9) = W7 at *
        generalize wc.heap.size = g7 at *
        go_wp2_with fail
        go_loopw [6, 8, 9] (fun v6 i _ w' => ∃ (k g co : Nat) (os : List ByteArray), k ≤ b.bs.length ∧ i = .int .i64 k ∧ v6 = .slice (some ⟨g, 0, none⟩) os.length co ∧ os.length = k ∧ FJ w w' rb len (M + k) q B v (.slice a1 b.things.length c1) (.slice a2 b.bs.length c2) (.agg #[.slice a1 b.things.length c1, .slice a2 b.bs.length c2]) b os (.slice (some ⟨g, 0, none⟩) os.length co)) (fun _ i _ _ => b.bs.length - (intOf i).toNat)
        case atStart => exact ⟨0, g7, 0, [], by omega, rfl, rfl, rfl, J7⟩
        case round =>
          clear J7
          obtain ⟨k, g, co, os, hk, rfl, rfl, hlen, J0⟩ := hrel
          have hok : os.length ≤ k := by omega
          have Hlen : Hid (os.length = k) := hlen
          clear hlen
          obtain ⟨z0, z1⟩ := J0.x.c2'
          by_cases hp : k < b.bs.length
          · go_wp2_with fail
            refine (pick_any rb len _ v _ _ J0.rd (by omega)).mono ?_
            rintro e wr ⟨⟨y, rfl, hy0, hy1⟩, hR8, hg8⟩
            have hy2 := hy1 (by omega)
            obtain ⟨kx, rfl⟩ : ∃ kx : Nat, y = (kx : Int) := ⟨y.toNat, by omega⟩
            have hkx : kx ≤ os.length := by omega
            have J1 := J0.gr hg8 hR8
            clear J0 hR8 hg8 hy0 hy1 hy2 z0 z1
            obtain ⟨z0, z1⟩ := J1.x.c2'
            obtain ⟨-, hpos⟩ := J1.bk.bk.bsOf.at
            obtain ⟨bb, o, rfl, hS, hb⟩ := hpos (by omega)
            obtain ⟨_, _, _, _, c3', -, -, -, -, hnz⟩ := (hS.at hp).cells
            generalize (b.bs[k]).nm = nm at *
            have hxl := J1.x.2.2
            have mk : ∀ X, Below wr.heap.size wr X → (World.cell? X ⟨q, 1, none⟩ = some (.slice (some ⟨bb, o, none⟩) b.bs.length c2) ∧ World.cell? X ⟨bb, o + k * 3, none⟩ = some (.string nm)) := fun X hX => ⟨(hX.cell (p := ⟨q, 1, none⟩) hxl).trans z1, (hX.cell (p := ⟨bb, o + k * 3, none⟩) hb).trans c3'⟩
            have Mk : Hid (∀ X, Below wr.heap.size wr X → (World.cell? X ⟨q, 1, none⟩ = some (.slice (some ⟨bb, o, none⟩) b.bs.length c2) ∧ World.cell? X ⟨bb, o + k * 3, none⟩ = some (.string nm))) := mk
            have hS1 := Mk.out wr.drew (Below.refl _ _).drew
            have hLo := J1.o.lst.ls J1.oz
            obtain ⟨hcc, hcm⟩ := own_cap2 J1.o
            unfold maxLen at hcm
            have hLt := hLo.take hkx co
            obtain ⟨o2, ho2⟩ : ∃ o2 : Nat, (if co = kx then some (⟨g, 0, none⟩ : Addr) else some ⟨g, kx, none⟩) = some ⟨g, o2, none⟩ := by
              by_cases h7 : co = kx
              · exact ⟨0, by rw [if_pos h7]⟩
              · exact ⟨kx, by rw [if_neg h7]⟩
            have hLd := hLo.drop0 hkx hcc ho2.symm
            have hkc : kx ≤ co := by omega
            have hw4 : ¬ (os.length : Int) < (kx : Int) := by omega
            have hqw : q + 1 ≤ wr.heap.size := hxl
            have htl : (os.take kx).length = kx := by rw [List.length_take]; omega
            have htz : ∀ s ∈ os.take kx, s.size ≤ maxLen := fun s hs => J1.oz s (List.mem_of_mem_take hs)
            have Hz5 : Hid (∀ s ∈ os.take kx ++ [nm] ++ os.drop kx, s.size ≤ maxLen) := fun s hs => by
              rcases List.mem_append.1 hs with h1 | h1
              · exact sz_snoc htz hnz s h1
              · exact J1.oz s (List.mem_of_mem_drop h1)
            have Hnz : Hid (nm.size ≤ maxLen) := hnz
            have HL6 : Hid ((os.take kx ++ [nm] ++ os.drop kx).length = os.length + 1) := by show _ = _; rw [List.length_append, List.length_append, htl, List.length_drop]; simp; omega
            have h5l : (os.take kx ++ [nm]).length ≤ 100 := by rw [List.length_append, htl]; simp; omega
            have hdl : (os.drop kx).length ≤ 100 := by rw [List.length_drop]; omega
            have htl' : (os.take kx).length ≤ 90 := by omega
            clear mk z0 z1 c3' hS hnz hpos hLo htz htl
            generalize os.take kx = ot at *
            generalize os.drop kx = od at *
            go_wp2_with fail
            refine wp_region_x 99 (fun w' => (World.cell? w' ⟨q, 1, none⟩ = some (.slice (some ⟨bb, o, none⟩) b.bs.length c2) ∧ World.cell? w' ⟨bb, o + k * 3, none⟩ = some (.string nm))) (by kernel_rfl) ?_
            refine anyX_take (i := 1) (v := ?_) rfl (by kernel_rfl) (by kernel_rfl) (by kernel_rfl) (by kernel_rfl) (fun _ _ _ h => h) (by kernel_rfl) hS1 ?_ ?_; rotate_left; focus (intro w hSw; (try dsimp only at hSw); go_simp; try with_reducible rfl); (try simp only [Act.put, List.setIfInBounds_toArray, List.set_cons_zero, List.set_cons_succ])
            refine anyX_take (i := 2) (v := ?_) rfl (by kernel_rfl) (by kernel_rfl) (by kernel_rfl) (by kernel_rfl) (fun _ _ _ h => h) (by kernel_rfl) hS1 ?_ ?_; rotate_left; focus (intro w hSw; (try dsimp only at hSw); go_simp; try with_reducible rfl); (try simp only [Act.put, List.setIfInBounds_toArray, List.set_cons_zero, List.set_cons_succ])
            refine anyX_take (i := 3) (v := ?_) rfl (by kernel_rfl) (by kernel_rfl) (by kernel_rfl) (by kernel_rfl) (fun _ _ _ h => h) (by kernel_rfl) hS1 ?_ ?_; rotate_left; focus (intro w hSw; (try dsimp only at hSw); go_simp; try with_reducible rfl); (try simp only [Act.put, List.setIfInBounds_toArray, List.set_cons_zero, List.set_cons_succ])
            refine anyX_take (i := 5) (v := ?_) rfl (by kernel_rfl) (by kernel_rfl) (by kernel_rfl) (by kernel_rfl) (fun _ _ _ h => h) (by kernel_rfl) hS1 ?_ ?_; rotate_left; focus (intro w hSw; (try dsimp only at hSw); go_simp; try with_reducible rfl); (try simp only [Act.put, List.setIfInBounds_toArray, List.set_cons_zero, List.set_cons_succ])
            refine anyX_take (i := 6) (v := ?_) rfl (by kernel_rfl) (by kernel_rfl) (by kernel_rfl) (by kernel_rfl) (fun _ _ _ h => h) (by kernel_rfl) hS1 ?_ ?_; rotate_left; focus (intro w hSw; (try dsimp only at hSw); go_simp; try with_reducible rfl); (try simp only [Act.put, List.setIfInBounds_toArray, List.set_cons_zero, List.set_cons_succ])
            refine anyX_take (i := 7) (v := ?_) rfl (by kernel_rfl) (by kernel_rfl) (by kernel_rfl) (by kernel_rfl) (fun _ _ _ h => h) (by kernel_rfl) hS1 ?_ ?_; rotate_left; focus (intro w hSw; (try dsimp only at hSw); go_simp; try with_reducible rfl); (try simp only [Act.put, List.setIfInBounds_toArray, List.set_cons_zero, List.set_cons_succ])
            refine anyX_take (i := 8) (v := ?_) rfl (by kernel_rfl) (by kernel_rfl) (by kernel_rfl) (by kernel_rfl) (fun _ _ _ h => h) (by kernel_rfl) hS1 ?_ ?_; rotate_left; focus (intro w hSw; (try dsimp only at hSw); go_simp; try with_reducible rfl); (try simp only [Act.put, List.setIfInBounds_toArray, List.set_cons_zero, List.set_cons_succ])
            refine anyX_take (i := 9) (v := ?_) rfl (by kernel_rfl) (by kernel_rfl) (by kernel_rfl) (by kernel_rfl) (fun _ _ _ h => h) (by kernel_rfl) hS1 ?_ ?_; rotate_left; focus (intro w hSw; (try dsimp only at hSw); go_simp; try with_reducible rfl); (try simp only [Act.put, List.setIfInBounds_toArray, List.set_cons_zero, List.set_cons_succ])
            refine anyX_take (i := 10) (v := ?_) rfl (by kernel_rfl) (by kernel_rfl) (by kernel_rfl) (by kernel_rfl) (fun _ _ _ h => h) (by kernel_rfl) hS1 ?_ ?_; rotate_left; focus (intro w hSw; (try dsimp only at hSw); go_simp; try with_reducible rfl); (try simp only [Act.put, List.setIfInBounds_toArray, List.set_cons_zero, List.set_cons_succ])
            refine anyX_take (i := 13) (v := ?_) rfl (by kernel_rfl) (by kernel_rfl) (by kernel_rfl) (by kernel_rfl) (fun _ _ _ h => h) (by kernel_rfl) hS1 ?_ ?_; rotate_left; focus (intro w hSw; (try dsimp only at hSw); go_simp; try with_reducible rfl); (try simp only [Act.put, List.setIfInBounds_toArray, List.set_cons_zero, List.set_cons_succ])
            refine anyX_take (i := 14) (v := ?_) rfl (by kernel_rfl) (by kernel_rfl) (by kernel_rfl) (by kernel_rfl) (fun _ _ _ h => h) (by kernel_rfl) hS1 ?_ ?_; rotate_left; focus (intro w hSw; (try dsimp only at hSw); go_simp; try with_reducible rfl); (try simp only [Act.put, List.setIfInBounds_toArray, List.set_cons_zero, List.set_cons_succ])
            refine anyX_take (i := 15) (v := ?_) rfl (by kernel_rfl) (by kernel_rfl) (by kernel_rfl) (by kernel_rfl) (fun _ _ _ h => h) (by kernel_rfl) hS1 ?_ ?_; rotate_left; focus (intro w hSw; (try dsimp only at hSw); go_simp; try with_reducible rfl); (try simp only [Act.put, List.setIfInBounds_toArray, List.set_cons_zero, List.set_cons_succ])
            have hbA : Below wr.heap.size wr (wr.drew.alloc (.cells #[] 9)) := (Below.refl _ _).drew.alloc (Nat.le_refl _) _
            have hOA : OwnT (wr.drew.alloc (.cells #[] 9)) wr.heap.size (.slice (some ⟨wr.heap.size, 0, none⟩) 0 0) [] := ownT_lit0 wr.drew
            have hzA : (wr.drew.alloc (.cells #[] 9)).heap.size = wr.heap.size + 1 := by simp
            have hSA := Mk.out _ hbA
            have hbN : Below wr.heap.size wr (wr.drew.alloc (.cells #[.string nm] 9)) := (Below.refl _ _).drew.alloc (Nat.le_refl _) _
            have hLN : Ls (wr.drew.alloc (.cells #[.string nm] 9)) (.slice (some ⟨wr.heap.size, 0, none⟩) 1 1) [nm] := lsOne wr.drew nm 9 Hnz.out
            have hzN : (wr.drew.alloc (.cells #[.string nm] 9)).heap.size = wr.heap.size + 1 := by simp
            have hSN := Mk.out _ hbN
            refine anyX_two (i := 0) (j := 11) (by kernel_rfl) rfl rfl (fun K hK => ?_) (fun K hK => ?_)
            · go_simp
              refine hK.out _ _ (fun _ => hSA) ?_; clear hK K; (try simp only [Act.put, List.setIfInBounds_toArray, List.set_cons_zero, List.set_cons_succ])
              refine anyX_two (i := 4) (j := 11) (by kernel_rfl) rfl rfl (fun K hK => ?_) (fun K hK => ?_)
              · refine step_append_ls (by kernel_rfl) _ _ rfl wr.heap.size _ _ [] ot rfl hOA rfl (hLt.up hbA) (by simp; omega) hbA.size ?_
                intro v3 w3 hO3 hg3
                rw [List.nil_append] at hO3
                have hb3 := below_own hbA hOA hg3 (Nat.le_refl _)
                have hS3 := Mk.out _ hb3
                obtain ⟨a3', c3', rfl⟩ := hO3.lst.shape
                clear hOA hbA hzA hSA hbN hLN hzN hSN hg3
                refine hK.out _ _ (fun _ => hS3) ?_; clear hK K; (try simp only [Act.put, List.setIfInBounds_toArray])
                have hL4 := lsOne w3 nm 9 Hnz.out
                have hb4 : Below wr.heap.size wr (w3.alloc (.cells #[.string nm] 9)) := hb3.alloc hb3.size _
                have hO4 := World.ownsRow.alloc hO3 (.cells #[.string nm] 9)
                have hS4 := Mk.out _ hb4
                refine anyX_one (i := 11) (by kernel_rfl) rfl (fun K hK => ?_)
                go_simp
                refine hK.out _ _ (fun _ => hS4) ?_; clear hK K; (try simp only [Act.put, List.setIfInBounds_toArray, List.set_cons_zero, List.set_cons_succ])
                refine anyX_one (i := 12) (by kernel_rfl) rfl (fun K hK => ?_)
                refine step_append_ls (by kernel_rfl) _ _ rfl wr.heap.size _ _ ot [nm] rfl hO4 rfl hL4 (by simp; omega) hb4.size ?_
                intro v5 w5 hO5 hg5
                have hb5 := below_own hb4 hO4 hg5 (Nat.le_refl _)
                have hS5 := Mk.out _ hb5
                clear hO4 hL4 hb4 hS4 hS3 hb3 hO3 hg5
                obtain ⟨a5, c5, rfl⟩ := hO5.lst.shape
                have hL6 := hLd.up hb5
                generalize ot ++ [nm] = o5 at *
                refine hK.out _ _ (fun _ => hS5) ?_; clear hK K; (try simp only [Act.put, List.setIfInBounds_toArray])
                refine anyX_one (i := 16) (by kernel_rfl) rfl (fun K hK => ?_)
                refine step_append_ls (by kernel_rfl) _ _ rfl wr.heap.size _ _ o5 od rfl hO5 rfl hL6 (by omega) hb5.size ?_
                intro v6 w6 hO6 hg6
                have hb6 := below_own hb5 hO5 hg6 (Nat.le_refl _)
                have hS6 := Mk.out _ hb6
                obtain ⟨g6, c6, hgc⟩ := own_ptr2 hO6 (by have := HL6.out; omega)
                subst hgc
                have J6 := (J1.up hb6).put hO6 hqw (fun s hs => Hz5.out s hs)
                clear hO5 hb5 hS5 hL6 hg6 hO6 J1
                generalize o5 ++ od = o6 at *
                refine hK.out _ _ (fun _ => hS6) ?_; clear hK K; (try simp only [Act.put])
                refine anyX_one (i := 17) (by kernel_rfl) rfl (fun K hK => ?_)
                go_simp
                refine hK.out _ _ (fun _ => hS6) ?_
                clear hK K
                refine anyX_done (by kernel_rfl) ?_ _
                clear hS1 hS6 hb6 Mk
                go_wp2_with fail
                go_roundw
                case rel => exact ⟨k + 1, g6, c6, o6, by omega, by go_num, rfl, by rw [HL6.out, Hlen.out], J6.mono (by omega)⟩
                case measure => simp [intOf]; omega
              · have hb3 : Below wr.heap.size wr ((wr.drew.alloc (.cells #[] 9)).alloc (.cells #[.string nm] 9)) := hbA.alloc hbA.size _
                have hS3 := Mk.out _ hb3
                have hO3 := World.ownsRow.alloc hOA (.cells #[.string nm] 9)
                have hL3 := lsOne (wr.drew.alloc (.cells #[] 9)) nm 9 Hnz.out
                rw [hzA] at hL3
                go_simp
                refine hK.out _ _ (fun _ => hS3) ?_; clear hK K; (try simp only [Act.put, List.setIfInBounds_toArray, List.set_cons_zero, List.set_cons_succ])
                refine anyX_one (i := 4) (by kernel_rfl) rfl (fun K hK => ?_)
                refine step_append_ls (by kernel_rfl) _ _ rfl wr.heap.size (.slice (some ⟨wr.heap.size, 0, none⟩) 0 0) _ [] ot rfl hO3 rfl (hLt.up hb3) (by simp; omega) hb3.size ?_
                intro v4 w4 hO4 hg4
                rw [List.nil_append] at hO4
                have hb4 := below_own hb3 hO3 hg4 (Nat.le_refl _)
                have hL4 : Ls w4 (.slice (some ⟨wr.heap.size + 1, 0, none⟩) 1 1) [nm] := hL3.gr1 hg4 (by simp [Value.ownBlock])
                have hS4 := Mk.out _ hb4
                obtain ⟨a3', c3', rfl⟩ := hO4.lst.shape
                clear hOA hbA hzA hSA hbN hLN hzN hSN hg4 hO3 hL3 hb3 hS3
                refine hK.out _ _ (fun _ => hS4) ?_; clear hK K; (try simp only [Act.put, List.setIfInBounds_toArray])
                refine anyX_one (i := 12) (by kernel_rfl) rfl (fun K hK => ?_)
                refine step_append_ls (by kernel_rfl) _ _ rfl wr.heap.size _ _ ot [nm] rfl hO4 rfl hL4 (by simp; omega) hb4.size ?_
                intro v5 w5 hO5 hg5
                have hb5 := below_own hb4 hO4 hg5 (Nat.le_refl _)
                have hS5 := Mk.out _ hb5
                clear hO4 hL4 hb4 hS4 hg5
                obtain ⟨a5, c5, rfl⟩ := hO5.lst.shape
                have hL6 := hLd.up hb5
                generalize ot ++ [nm] = o5 at *
                refine hK.out _ _ (fun _ => hS5) ?_; clear hK K; (try simp only [Act.put])
                refine anyX_one (i := 16) (by kernel_rfl) rfl (fun K hK => ?_)
                refine step_append_ls (by kernel_rfl) _ _ rfl wr.heap.size _ _ o5 od rfl hO5 rfl hL6 (by omega) hb5.size ?_
                intro v6 w6 hO6 hg6
                have hb6 := below_own hb5 hO5 hg6 (Nat.le_refl _)
                have hS6 := Mk.out _ hb6
                obtain ⟨g6, c6, hgc⟩ := own_ptr2 hO6 (by have := HL6.out; omega)
                subst hgc
                have J6 := (J1.up hb6).put hO6 hqw (fun s hs => Hz5.out s hs)
                clear hO5 hb5 hS5 hL6 hg6 hO6 J1
                generalize o5 ++ od = o6 at *
                refine hK.out _ _ (fun _ => hS6) ?_; clear hK K; (try simp only [Act.put])
                refine anyX_one (i := 17) (by kernel_rfl) rfl (fun K hK => ?_)
                go_simp
                refine hK.out _ _ (fun _ => hS6) ?_
                clear hK K
                refine anyX_done (by kernel_rfl) ?_ _
                clear hS1 hS6 hb6 Mk
                go_wp2_with fail
                go_roundw
                case rel => exact ⟨k + 1, g6, c6, o6, by omega, by go_num, rfl, by rw [HL6.out, Hlen.out], J6.mono (by omega)⟩
                case measure => simp [intOf]; omega
            · go_simp
              refine hK.out _ _ (fun _ => hSN) ?_; clear hK K; (try simp only [Act.put, List.setIfInBounds_toArray, List.set_cons_zero, List.set_cons_succ])
              have hb3 : Below wr.heap.size wr ((wr.drew.alloc (.cells #[.string nm] 9)).alloc (.cells #[] 9)) := hbN.alloc hbN.size _
              have hS3 := Mk.out _ hb3
              have hO3 : OwnT ((wr.drew.alloc (.cells #[.string nm] 9)).alloc (.cells #[] 9)) (wr.heap.size + 1) (.slice (some ⟨wr.heap.size + 1, 0, none⟩) 0 0) [] := by
                have := ownT_lit0 (wr.drew.alloc (.cells #[.string nm] 9))
                rw [hzN] at this
                exact this
              have hL3 := hLN.up ((Below.refl _ _).alloc (Nat.le_refl _) (.cells #[] 9))
              refine anyX_one (i := 0) (by kernel_rfl) rfl (fun K hK => ?_)
              go_simp
              refine hK.out _ _ (fun _ => hS3) ?_; clear hK K; (try simp only [Act.put, List.setIfInBounds_toArray, List.set_cons_zero, List.set_cons_succ])
              refine anyX_one (i := 4) (by kernel_rfl) rfl (fun K hK => ?_)
              refine step_append_ls (by kernel_rfl) _ _ rfl (wr.heap.size + 1) (.slice (some ⟨wr.heap.size + 1, 0, none⟩) 0 0) _ [] ot rfl hO3 rfl (hLt.up hb3) (by simp; omega) (by simp) ?_
              intro v4 w4 hO4 hg4
              rw [List.nil_append] at hO4
              have hb4 := below_own hb3 hO3 hg4 (Nat.le_succ _)
              have hL4 : Ls w4 (.slice (some ⟨wr.heap.size, 0, none⟩) 1 1) [nm] := hL3.gr1 hg4 (by simp [Value.ownBlock])
              have hO4 : OwnT w4 wr.heap.size v4 ot := own_low hO4 (Nat.le_succ wr.heap.size)
              have hS4 := Mk.out _ hb4
              obtain ⟨a3', c3', rfl⟩ := hO4.lst.shape
              clear hOA hbA hzA hSA hbN hLN hzN hSN hg4 hO3 hL3 hb3 hS3
              refine hK.out _ _ (fun _ => hS4) ?_; clear hK K; (try simp only [Act.put, List.setIfInBounds_toArray])
              refine anyX_one (i := 12) (by kernel_rfl) rfl (fun K hK => ?_)
              refine step_append_ls (by kernel_rfl) _ _ rfl wr.heap.size _ _ ot [nm] rfl hO4 rfl hL4 (by simp; omega) hb4.size ?_
              intro v5 w5 hO5 hg5
              have hb5 := below_own hb4 hO4 hg5 (Nat.le_refl _)
              have hS5 := Mk.out _ hb5
              clear hO4 hL4 hb4 hS4 hg5
              obtain ⟨a5, c5, rfl⟩ := hO5.lst.shape
              have hL6 := hLd.up hb5
              generalize ot ++ [nm] = o5 at *
              refine hK.out _ _ (fun _ => hS5) ?_; clear hK K; (try simp only [Act.put])
              refine anyX_one (i := 16) (by kernel_rfl) rfl (fun K hK => ?_)
              refine step_append_ls (by kernel_rfl) _ _ rfl wr.heap.size _ _ o5 od rfl hO5 rfl hL6 (by omega) hb5.size ?_
              intro v6 w6 hO6 hg6
              have hb6 := below_own hb5 hO5 hg6 (Nat.le_refl _)
              have hS6 := Mk.out _ hb6
              obtain ⟨g6, c6, hgc⟩ := own_ptr2 hO6 (by have := HL6.out; omega)
              subst hgc
              have J6 := (J1.up hb6).put hO6 hqw (fun s hs => Hz5.out s hs)
              clear hO5 hb5 hS5 hL6 hg6 hO6 J1
              generalize o5 ++ od = o6 at *
              refine hK.out _ _ (fun _ => hS6) ?_; clear hK K; (try simp only [Act.put])
              refine anyX_one (i := 17) (by kernel_rfl) rfl (fun K hK => ?_)
              go_simp
              refine hK.out _ _ (fun _ => hS6) ?_
              clear hK K
              refine anyX_done (by kernel_rfl) ?_ _
              clear hS1 hS6 hb6 Mk
              go_wp2_with fail
              go_roundw
              case rel => exact ⟨k + 1, g6, c6, o6, by omega, by go_num, rfl, by rw [HL6.out, Hlen.out], J6.mono (by omega)⟩
              case measure => simp [intOf]; omega
          · go_wp2_with fail
            go_meet
            case rel => exact ⟨_, _, _, os, rfl, by omega, by omega, J0⟩
    case rest =>
      obtain ⟨M7, ao7, co7, os7, rfl, hM7, hl7, J7⟩ := hcut
      clear J6 hol
      go_upto_region 11 with fail
      go_cut [63] (fun c63 wc => ∃ (M : Nat) (c : Bool), c63 = .bool c ∧ M ≤ 12001 ∧ (c = true → 0 < os7.length) ∧ FJ w wc rb len M q B v (.slice a1 b.things.length c1) (.slice a2 b.bs.length c2) (.agg #[.slice a1 b.things.length c1, .slice a2 b.bs.length c2]) b os7 (.slice ao7 os7.length co7))
      case first =>
        by_cases h0 : os7.length = 0
        · have h0' : ¬ (0 : Int) < (os7.length : Int) := by omega
          clear h0
          go_wp2_with fail
          go_meet
          case rel => exact ⟨_, false, rfl, by omega, fun h => (by cases h), J7⟩
        · have h0' : (0 : Int) < (os7.length : Int) := by omega
          have Hp0 : Hid (0 < os7.length) := (by omega : 0 < os7.length)
          clear h0
          go_wp2_with fail
          refine (pick_any rb len _ v 12 _ J7.rd (by omega)).mono ?_
          rintro e w8 ⟨⟨x, rfl, -, -⟩, hR8, hg8⟩
          have J8 := J7.gr hg8 hR8
          clear J7 hR8 hg8
          go_wp2_with fail
          go_meet
          case rel => exact ⟨_, _, rfl, by omega, fun _ => Hp0.out, J8⟩
      case rest =>
        obtain ⟨M8, c, rfl, hM8, hc, J8⟩ := hcut
        clear J7
        go_upto_if 63 with fail
        go_cut [] (fun wc => ∃ (M : Nat) (os : List ByteArray), os.length = os7.length ∧ FJ w wc rb len M q B v (.slice a1 b.things.length c1) (.slice a2 b.bs.length c2) (.agg #[.slice a1 b.things.length c1, .slice a2 b.bs.length c2]) b os (.slice ao7 os7.length co7))
        case first =>
          cases c
          · go_wp2_with fail
            go_meet
            case rel => exact ⟨_, os7, rfl, J8⟩
          · have hp0 := hc rfl
            clear hc
            obtain ⟨g, cg, hgg⟩ := own_ptr2 J8.o hp0
            obtain ⟨rfl, -, rfl⟩ := Value.slice.inj hgg
            clear hgg
            go_wp2_with fail
            refine (pick_any rb len _ v _ _ J8.rd (by omega)).mono ?_
            rintro e w9 ⟨⟨y, rfl, hy0, hy1⟩, hR9, hg9⟩
            have hy2 := hy1 (by omega)
            obtain ⟨kx, rfl⟩ : ∃ kx : Nat, y = (kx : Int) := ⟨y.toNat, by omega⟩
            have hkx : kx < os7.length := by omega
            have J9 := J8.gr hg9 hR9
            have hlt9 := J9.rd.lt
            clear J8 hR9 hg9 hy0 hy1 hy2
            go_wp2_with fail
            refine (of_any rb len _ v lits3f 3 w9.heap.size 0 3 _ rfl (J9.rd.alloc _) (by omega) (strsAt_alloc w9 lits3f 9) (by omega) (by omega) (by omega)).mono ?_
            rintro e w10 ⟨⟨s, hs, rfl⟩, hR10, hg10⟩
            have J10 := (J9.up ((Below.refl _ _).alloc (Nat.le_refl _) (.cells (lits3f.map Value.string).toArray 9))).gr hg10 hR10
            have hsz : s.size ≤ maxLen := sz_lit (ss := lits3f) (by decide) s hs
            clear J9 hR10 hg10 hs
            have c10 := J10.o.cellAt kx (by simpa using hkx)
            have f10 := J10.o.frozenAt kx
            have st := World.ownsRow.stored J10.o kx (.string s)
            have hset : (os7.map Value.string).set kx (.string s) = (os7.set kx s).map Value.string := by rw [List.map_set]
            rw [hset] at st
            obtain ⟨st1, st2⟩ := st
            have c10' : w10.cell? ⟨g, kx, none⟩ = some (.string os7[kx]) := by simpa [hkx] using c10
            have hgq := (World.ownsRow.lt J10.o g rfl).1
            have hqb := J10.qb
            have hqz := J10.qz
            have hgo : (Value.slice (some ⟨g, 0, none⟩) os7.length co7).ownBlock = some g := rfl
            have J11 : FJ w (w10.setCell ⟨g, kx, none⟩ (.string s)) rb len (M8 + 1 + 1) q B v (.slice a1 b.things.length c1) (.slice a2 b.bs.length c2) (.agg #[.slice a1 b.things.length c1, .slice a2 b.bs.length c2]) b (os7.set kx s) (.slice (some ⟨g, 0, none⟩) os7.length co7) := by
              refine ⟨J10.r.kept st2 (by simp; omega), J10.x.kept st2 (by simp; omega), J10.rd.own J10.o st2 (by omega), below_gr J10.g st2 (by omega), ?_, ?_, fun t ht => ?_, J10.qz, J10.qb⟩
              · obtain ⟨W0, h1, h2, h3⟩ := J10.b0
                exact ⟨W0, h1, h2, grown_setNew h3 (by omega) _⟩
              · unfold OwnT; rw [List.length_set]; exact st1
              · rcases List.mem_or_eq_of_mem_set ht with h1 | rfl
                · exact J10.oz t h1
                · exact hsz
            clear st1 st2 c10 hset
            generalize os7[kx] = s7 at *
            go_wp2_with fail
            go_meet
            case rel => exact ⟨_, os7.set kx s, by simp, J11⟩
        case rest =>
          obtain ⟨M9, os9, hl9, J9⟩ := hcut
          clear J8 hc
          have kR := J9.r
          obtain ⟨z0, z1⟩ := J9.x.c2'
          obtain ⟨⟨y0, y1⟩, g0, g1⟩ := kR.c2
          go_wp2_with fail
          refine end_cb2b Try.results14 Try.underlying26 rfl sizeBk1 kR rfl rfl ?_
          have hqb := J9.qb
          have hqz := J9.qz
          have hD := J9.bk
          have hLs : OwnT ((wc.setCell ⟨w.heap.size, 0, none⟩ (.slice a1 b.things.length c1)).setCell ⟨w.heap.size, 1, none⟩ (.slice a2 b.bs.length c2)) (q + 1) (.slice ao7 os7.length co7) os9 := own_grown (own_grown J9.o (grown_setCell (rb := w.heap.size) (off := 0) (grown_refl _ _) _) (by omega)) (grown_setCell (rb := w.heap.size) (off := 1) (grown_refl _ _) _) (by omega)
          have hcp := own_caps J9.o
          rw [← hl9] at hLs hcp ⊢
          exact ⟨⟨_, b, ao7, co7, os9, rfl, ⟨((hD.1.set (by omega)).set (by omega)).low (by omega), hD.2⟩, hLs.lst.ls J9.oz, hcp.1, hcp.2⟩, below_set2 J9.g (Nat.le_refl _) _ _⟩
end Go.Proofs.Ythpcadlohahblab
