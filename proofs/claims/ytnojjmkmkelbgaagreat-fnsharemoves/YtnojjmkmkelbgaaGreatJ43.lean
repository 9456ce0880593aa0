/- The share's goroutines, 13: who moves (ShareMoves), whole. -/
import Derived.Test.YtnojjmkmkelbgaaGreatJ35
import Derived.Test.YtnojjmkmkelbgaaGreatJ37
import Derived.Test.YtnojjmkmkelbgaaGreatJ36
import Derived.Test.YtnojjmkmkelbgaaGreatJ38
import Derived.Test.YtnojjmkmkelbgaaGreatJ39
import Derived.Test.YtnojjmkmkelbgaaGreatJ34
namespace Go.Proofs.YtnojjmkmkelbgaaGreat
open Go.Conc Go.ConcN Go.RowKit Go.Conc.Lib Go.ConcR.Gen Go.ConcN.Gen
open Go.ConcR (KK wgBlock WgAt stA smA rd wr mk Payload DC0)

def frW (b : Bk) : Nat := bitsN b.things (freeL (ts0 b.bs b.bs.length))
def hbM (b : Bk) (j : Nat) : Bool := bits .andNot .u64 (neW b j : Int) ((frW b : Int) + (haW b j : Int)) == 0
noncomputable def movesL (b : Bk) : List ByteArray := if bookB b = true then pk (hbM b) (nms b.bs) b.bs.length else []

noncomputable def bM : Frame := base 5
noncomputable def ops4M : Array Oper := match B4M with | .seq (.region _ o _) _ => o | _ => #[]

section
variable {X : Nat → Prop} {Shun : Loc → Prop} {c : Frame} {cs : List Frame}
theorem enterM (bv : Value) : Frame.enter Tryz.prog 5 #[bv] .normal = bM.at ⟨slM bv, []⟩ [.code bodyM] := by
  simp [Frame.enter, Frame.at, Tryz.func5, bM, base, slM, bodyM, Tryz.f5]

set_option maxRecDepth 100000 in
theorem outM1 {T : Array Value} (hT : T.size = 13) (ht : T[6]? = some (.bool true)) (w : World) :
    Go.Conc.Goes Tryz.prog true AtRel (DE fun _ => False) (fun g w' => g = G (c.finish (.slice none 0 0)) cs ∧ AtRel w w') 20 (G (bM.at ⟨T, []⟩ [.code condM, .code B2M]) (c :: cs)) w := by
  obtain ⟨v0, v1, v2, v3, v4, v5, v6, v7, v8, v9, v10, v11, v12, rfl⟩ := array13 T hT
  simp only [List.getElem?_toArray, List.getElem?_cons_succ, List.getElem?_cons_zero, Option.some.injEq] at ht
  subst ht
  simp only [condM, B2M, bodyM, Tryz.f5, Option.getD_some]
  have rl : ∀ {V w w₁ : World}, AtRel V w → AtRel w w₁ → AtRel V w₁ := fun h r => atRel_trans _ _ _ h r
  have hF : AtRel w w := atRel_refl w
  u_cond true rl hF
  u_c stepG_seq rl hF
  u_reg rl hF
  u_op rl hF
  u_c stepG_region_end rl hF
  u_c stepG_ret' rl hF
  u_in rl hF
  rw [stepG_leave (b := bM) rfl rfl Tryz.func5 (results_tmp rfl _ _ _) (events_results_tmp rfl _ _)]
  simp only [goes_go]
  refine ⟨by u_nil, ?_⟩
  exact Go.Conc.Goes.stop fun w₁ r => ⟨rfl, rl hF r⟩


set_option maxRecDepth 100000 in
theorem intoM {W : World} {tb : Nat} {T : Array Value} (hT : T.size = 13) (t3 : T[3]? = some (.pointer (some ⟨tb, 0, none⟩))) :
    Go.Conc.Goes Tryz.prog true AtRel (DE fun _ => False) (fun g w => (∃ T', T'.size = 13 ∧ g = G (Frame.enter Tryz.prog 20 #[.pointer (some ⟨tb, 0, none⟩), fvC tb] .normal) (bM.at ⟨T', []⟩ (.inRegion ops4M [3, 4] :: [.code .ret]) :: c :: cs)) ∧ AtRel W w) 20 (G (bM.at ⟨T, []⟩ [.code B4M]) (c :: cs)) W := by
  obtain ⟨v0, v1, v2, v3, v4, v5, v6, v7, v8, v9, v10, v11, v12, rfl⟩ := array13 T hT
  simp only [List.getElem?_toArray, List.getElem?_cons_succ, List.getElem?_cons_zero, Option.some.injEq] at t3
  subst t3
  simp only [B4M, ops4M, bodyM, Tryz.f5, Option.getD_some]
  have rl : ∀ {V w w₁ : World}, AtRel V w → AtRel w w₁ → AtRel V w₁ := fun h r => atRel_trans _ _ _ h r
  have hF : AtRel W W := atRel_refl W
  u_c stepG_seq rl hF
  u_reg rl hF
  u_op rl hF
  u_op rl hF
  u_op rl hF
  u_in rl hF
  refine goes_call rfl rfl (by k_ne) rfl Tryz.func20 (by kernel_rfl) rfl ⟨fun e he => by simp at he, ?_⟩
  walk_nrmf Tryz.f20
  refine Go.Conc.Goes.stop fun w₁ r => ⟨⟨#[v0, v1, v2, .pointer (some ⟨tb, 0, none⟩), v4, v5, v6, v7, v8, .pointer (some ⟨tb, 0, none⟩), .pointer (some ⟨tb, 0, none⟩), fvC tb, v12], rfl, ?_⟩, rl hF r⟩
  rw [enterP]
  simp only [fvC, bodyP, Tryz.f20, Option.getD_some]
  rfl

set_option maxRecDepth 100000 in
theorem outM {T : Array Value} (hT : T.size = 13) (v : Value) (w : World) :
    Go.Conc.Goes Tryz.prog true AtRel (DE fun _ => False) (fun g w' => g = G (c.finish v) cs ∧ AtRel w w') 10 (G ((bM.at ⟨T, []⟩ (.inRegion ops4M [3, 4] :: [.code .ret])).finish v) (c :: cs)) w := by
  obtain ⟨v0, v1, v2, v3, v4, v5, v6, v7, v8, v9, v10, v11, v12, rfl⟩ := array13 T hT
  rw [Frame.finish_at]
  simp only [ops4M, B4M, bodyM, Tryz.f5, Option.getD_some]
  have rl : ∀ {V w w₁ : World}, AtRel V w → AtRel w w₁ → AtRel V w₁ := fun h r => atRel_trans _ _ _ h r
  have hF : AtRel w w := atRel_refl w
  walk_nrm
  u_op rl hF
  u_c stepG_region_end rl hF
  u_c stepG_ret' rl hF
  u_in rl hF
  rw [stepG_leave (b := bM) rfl rfl Tryz.func5 (results_tmp rfl _ _ _) (events_results_tmp rfl _ _)]
  simp only [goes_go]
  refine ⟨by u_nil, ?_⟩
  exact Go.Conc.Goes.stop fun w₁ r => ⟨rfl, rl hF r⟩
end

theorem moves_no {b : Bk} (h : bookB b = false) : movesL b = [] := by simp [movesL, h]
theorem atM_tl (b : Bk) (a : Act) : Tapeless (AtM b (fun _ => True) a) := fun _ _ _ h => h
theorem bodyM1 : bodyM = joinC [r0M] (.seq (.seq r1M condM) B2M) := by simp only [joinC, r0M, r1M, condM, B2M, bodyM, Tryz.f5, Option.getD_some]
theorem bodyM3 : bodyM = joinC [r0M, c1M, r3M] B4M := by simp only [joinC, r0M, c1M, r3M, B4M, bodyM, Tryz.f5, Option.getD_some]
theorem okM : ∀ r ∈ [r0M, r1M, c1M, r3M], codeOk Tryz.prog (fun g => fsW.contains g) r = true := by
  intro r hr
  simp only [List.mem_cons, List.not_mem_nil, or_false] at hr
  rcases hr with rfl | rfl | rfl | rfl <;> kernel_rfl
theorem frM : FrB Tryz.prog bM := ⟨rfl, _, Tryz.func5⟩

theorem moves_g {X : Nat → Prop} {Shun : Loc → Prop} {W : World} {b : Bk} {bv : Value} (hX : ShIn Shun X) (hbW : Base X W) (hB : ∀ τ d, BkV (pzT X W τ d) bv b) :
    GCalls Tryz.prog 5 #[bv] X Shun W fun v u => OwnT u W.heap.size v (movesL b) := by
  intro Post c cs gs sl t hh k
  rw [enterM] at hh
  have hR0 : ∀ τ d, Hid (∀ u, Below (pzT X W τ d).heap.size (pzT X W τ d) u → ∃ τ d, True ∧ Below W.heap.size (pzT X W τ d) u) := fun τ d u hu => ⟨τ, d, trivial, by rw [pz_size] at hu; exact hu⟩
  have fin : movesL b = [] → ∀ gs w sl t, Here Tryz.prog Shun gs (G (c.finish (.slice none 0 0)) cs) t → Base X w → (∀ τ d, Held (fun u => ∃ τ d, True ∧ Below W.heap.size (pzT X W τ d) u) (pzT X w τ d)) → EndsG Tryz.prog Post (crowd gs w sl) t := fun hL gs w sl t h1 h2 h3 =>
    k X Shun gs w sl t _ hX (fun b hb => .inl hb) h1 h2 fun τ d => ⟨by rw [hL]; exact own_nil _ _, (below_held (Q := fun _ => True) (fun _ _ _ h => h) (h3 τ d)).2⟩
  cases hbk : bookB b with
  | false =>
    rw [bodyM1] at hh
    refine ends_run hX hh (nest_in setW frM r1M condM B2M (okM _ (by simp)) [] (c :: cs) [r0M] (fun r hr => okM r (by simp at hr; simp [hr])) rfl hbW (fun τ d => held_of hbW (fun τ d => nestM_no b bv _ (hB τ d) hbk (hR0 τ d)) τ d)) fun gs1 a1 w1 sl1 t1 hh1 hst => ?_
    obtain ⟨a, rfl, hd, hb1, hQ⟩ := hst
    obtain ⟨u0, ⟨⟨T, rfl, hT, ht⟩, -⟩, -⟩ := hQ (fun _ _ => 0) 0
    refine ends_walk (D := DE fun _ => False) (B0 := 0) (fun _ _ _ h e he => (h e he).elim) hh1 (outM1 hT ht w1) fun gs2 a2 w2 sl2 t2 hh2 hst2 => ?_
    obtain ⟨rfl, d2, rfl⟩ := hst2
    exact fin (moves_no hbk) _ _ _ _ hh2 (hb1.at d2) fun τ d => (hQ τ d).imp fun u h => h.2
  | true =>
    have hok : BookOk b := pB_iff.1 hbk
    rw [bodyM3] at hh
    refine ends_run hX hh (nest_run setW frM B4M [] (c :: cs) [r0M, c1M, r3M] (fun r hr => okM r (by simp at hr; rcases hr with rfl | rfl | rfl <;> simp)) rfl hbW (fun τ d => held_of hbW (fun τ d => nestM_ok b bv _ (hB τ d) hok hbk (hR0 τ d)) τ d)) fun gs1 a1 w1 sl1 t1 hh1 hst => ?_
    obtain ⟨a, rfl, hd, hb1, hQ⟩ := hst
    have hbel : ∀ τ d, Below W.heap.size (pzT X W τ d) (pzT X w1 τ d) := fun τ d => (below_held (Q := fun _ => True) (fun _ _ _ h => h) ((hQ τ d).imp fun u h => let ⟨_, _, _, _, _, _, h⟩ := h; h)).2
    obtain ⟨T, tb, rfl, hT, t3, hTab0, -⟩ := Held.out (atM_tl b a) ((hQ (fun _ _ => 0) 0).imp fun u h => let ⟨T, tb, h1, h2, h3, h4, _⟩ := h; ⟨T, tb, h1, h2, h3, h4, trivial⟩)
    have hTab : ∀ τ d, Tab (pzT X w1 τ d) tb b.things (ts0 b.bs b.bs.length) := fun τ d => tab_tl tb _ _ _ τ d hTab0
    refine ends_walk (D := DE fun _ => False) (B0 := 0) (fun _ _ _ h e he => (h e he).elim) hh1 (intoM hT t3) fun gs2 a2 w2 sl2 t2 hh2 hst2 => ?_
    obtain ⟨⟨T', hT', rfl⟩, d2, rfl⟩ := hst2
    have hlen : (ts0 b.bs b.bs.length).length = b.bs.length := ts0_length (Nat.le_refl _)
    have h5 : b.bs.length ≤ 5 := hok.2.1
    have hW : Asked Shun (w1.at d2) b.bs.length (hbM b) (fvC tb) := by
      by_cases hn : b.bs.length = 0
      · intro p _ _ _ _ _ _ _ _ _ j hj
        omega
      obtain ⟨rv, hC, hown⟩ := hTab0
      rw [hlen] at hown
      obtain ⟨g, cap, rfl⟩ := own_ptr2 hown (by omega)
      have r := fun (i : Nat) (hi : i < b.bs.length) => row_cells (things := b.things) (ts := ts0 b.bs b.bs.length) (by rw [hlen]; exact hown) (ts0_get hi)
      have cc : ∀ {a : Addr} {v : Value}, (pzT X w1 (fun _ _ => 0) 0).cell? a = some v → (w1.at d2).cell? a = some v ∧ ¬ X a.block := fun h => pz_cell (W := w1.at d2) h
      have h0 : ∀ i, i < b.bs.length → ∃ s, (w1.at d2).cell? ⟨g, i * 4, none⟩ = some (.string s) := fun i hi => ⟨_, (cc (r i hi).1).1⟩
      have h1 : ∀ i, i < b.bs.length → (w1.at d2).cell? ⟨g, i * 4 + 1, none⟩ = some (.int .u64 (haW b i)) := fun i hi => by
        rw [(cc (r i hi).2.1).1, haW, List.getElem?_eq_getElem hi]; rfl
      have h2 : ∀ i, i < b.bs.length → (w1.at d2).cell? ⟨g, i * 4 + 2, none⟩ = some (.int .u64 (neW b i)) := fun i hi => by
        rw [(cc (r i hi).2.2.1).1, neW, List.getElem?_eq_getElem hi]; rfl
      have h3 : ∀ i, i < b.bs.length → (w1.at d2).cell? ⟨g, i * 4 + 3, none⟩ = some (.bool false) := fun i hi => (cc (r i hi).2.2.2).1
      have h8 : b.things.length ≤ 8 := hok.1.1
      exact asked_can hX (hb1.at d2) h5 (cc (hC.1 0 _ rfl)).1 (cc (hC.1 0 _ rfl)).2 (cc (hC.1 1 _ rfl)).1 (cc (r 0 (by omega)).2.1).2 (fun i => bitsN_small h8 _) (bitsN_small h8 _) h0 h1 h2 h3
    refine picked_g (f := 21) hX (hb1.at d2) (fun τ d => hTab τ d) (by rw [hlen]; exact h5) (hb := hbM b) (by rw [hlen]; exact hW) Post _ (c :: cs) gs2 sl2 t2 hh2 fun X' Shun' gs' w' sl' t' v hX' hW' hh' hb' hR' => ?_
    refine ends_walk (D := DE fun _ => False) (B0 := 0) (fun _ _ _ h e he => (h e he).elim) hh' (outM hT' v w') fun gs3 a3 w3 sl3 t3 hh3 hst3 => ?_
    obtain ⟨rfl, d3, rfl⟩ := hst3
    have hsz : W.heap.size ≤ w1.heap.size := by have := (hbel (fun _ _ => 0) 0).size; rwa [pz_size, pz_size] at this
    refine k X' Shun' gs3 _ sl3 t3 v hX' (fun b hb => (hW' b hb).imp id fun h => Nat.le_trans hsz h) hh3 (hb'.at d3) fun τ d => ?_
    obtain ⟨h1, h2⟩ := hR' τ d
    rw [ts0_names, hlen] at h1
    refine ⟨?_, (hbel τ d).trans (h2.mono hsz)⟩
    have : movesL b = pk (hbM b) (nms b.bs) b.bs.length := by rw [movesL, if_pos hbk]
    rw [this]
    exact own_low h1 hsz
end Go.Proofs.YtnojjmkmkelbgaaGreat

/- Who moves: both lists are one (out of LawMo0). -/
namespace Go.Proofs.YtnojjmkmkelbgaaGreat
open Go.RowKit

theorem moves_eq (b : Bk) : movesL b = movesS b := by
  by_cases h : OkM b
  · have hok : BookOk b := pB_iff.1 h
    have hb : bookB b = true := h
    rw [movesL, if_pos hb, movesS, if_pos h]
    refine pk_congr _ _ fun k hk => ?_
    have h8 : b.things.length ≤ 8 := hok.1.1
    have hg := ts0_get hk
    have ht := can_tab hok (ts := ts0 b.bs b.bs.length) (by rw [ts0_fst, List.take_length]) (gone := []) (fun i p hp => by
      rw [ts0, List.take_length, List.getElem?_map] at hp
      obtain ⟨x, -, rfl⟩ := Option.map_eq_some_iff.1 hp
      rfl) hg rfl
    have hn : neW b k = bitsN b.things (memS (b.bs[k]).needs) := by rw [neW, List.getElem?_eq_getElem hk]; rfl
    have hh : haW b k = bitsN b.things (memS (b.bs[k]).has) := by rw [haW, List.getElem?_eq_getElem hk]; rfl
    rw [hbM, sbM, Bool.eq_iff_iff, pB_iff, ← ht, hn, hh, frW]
    have n1 := bitsN_small h8 (memS (b.bs[k]).has)
    have n2 := bitsN_small h8 (memS (b.bs[k]).needs)
    have n3 := bitsN_small h8 (freeL (ts0 b.bs b.bs.length))
    rw [← Int.natCast_add, andNot_small _ _ n2 (by omega), beq_iff_eq]
    exact Int.natCast_eq_zero
  · rw [movesS, if_neg h]
    exact moves_no (by rw [OkM] at h; simpa using h)
theorem moves_small {w : World} {v : Value} {b : Bk} (h : BkV w v b) : ∀ s ∈ movesS b, s.size ≤ maxLen := fun s hs => by
  rw [movesS] at hs
  split at hs
  · exact nm_small h s (pk_mem (by rw [nms_length]; exact Nat.le_refl _) s hs)
  · simp at hs
theorem moves_short (b : Bk) : (movesS b).length ≤ 5 := by
  rw [movesS]
  split
  · next h => exact Nat.le_trans (pk_length _ _ _) (pB_iff.1 h : BookOk b).2.1
  · simp

end Go.Proofs.YtnojjmkmkelbgaaGreat

/- The share's goroutines: nobody moves, though somebody shares (ShareStuck), whole. -/
namespace Go.Proofs.YtnojjmkmkelbgaaGreat
open Go.Conc Go.ConcN Go.RowKit Go.Conc.Lib Go.ConcR.Gen Go.ConcN.Gen
open Go.ConcR (KK wgBlock WgAt stA smA rd wr mk Payload DC0)


theorem array17K (T : Array Value) (h : T.size = 17) : ∃ v0 v1 v2 v3 v4 v5 v6 v7 v8 v9 v10 v11 v12 v13 v14 v15 v16 : Value, T = #[v0, v1, v2, v3, v4, v5, v6, v7, v8, v9, v10, v11, v12, v13, v14, v15, v16] := array17 T h
noncomputable def bK : Frame := base 8
noncomputable def bodyK : Code := Tryz.f8.body.getD .skip
noncomputable def r0K : Code := match bodyK with | .seq r _ => r | _ => .skip
noncomputable def B1K : Code := match bodyK with | .seq _ r => r | _ => .skip
noncomputable def ops1K : Array Oper := match B1K with | .seq (.region _ o _) _ => o | _ => #[]
def slK (bv : Value) : Array Value := #[bv, undef, undef, undef, undef, undef, undef, undef, undef, undef, undef, undef, undef, undef, undef, undef, undef]
def AtK (b : Bk) (R : World → Prop) (a : Act) (u : World) : Prop :=
  ∃ T bx a1 c1 a2 c2, a = ⟨T, []⟩ ∧ T.size = 17 ∧ T[1]? = some (.pointer (some ⟨bx, 0, none⟩)) ∧ CB u bx [.slice a1 b.things.length c1, .slice a2 b.bs.length c2] ∧ BkV u (.agg #[.slice a1 b.things.length c1, .slice a2 b.bs.length c2]) b ∧ R u

set_option maxRecDepth 20000 in
set_option maxHeartbeats 2000000 in
theorem nestK (b : Bk) (bv : Value) (w : World) (h : BkV w bv b) {R : World → Prop} (HR : Hid (∀ u, Below w.heap.size w u → R u)) :
    Nest Tryz.prog [r0K] (fun e a u => e = .normal ∧ AtK b R a u) ⟨slK bv, []⟩ w := by
  obtain ⟨a1, c1, a2, c2, rfl, h1, h2⟩ := h.parts
  clear h1 h2
  simp only [r0K, slK, bodyK, Tryz.f8, Option.getD_some]
  obtain ⟨W1, hW1, kA, hB1, hs1⟩ : ∃ W1, w.alloc (.cells #[.slice a1 b.things.length c1, .slice a2 b.bs.length c2] 26) = W1 ∧ CB W1 w.heap.size [.slice a1 b.things.length c1, .slice a2 b.bs.length c2] ∧ Below w.heap.size w W1 ∧ W1.heap.size = w.heap.size + 1 := ⟨_, rfl, cb1 w _ _⟩
  apply nest_k; intro K hK
  go_wp2_with fail
  try rw [hW1]
  exact ⟨rfl, _, w.heap.size, a1, c1, a2, c2, rfl, rfl, rfl, kA, h.up hB1, HR.out _ hB1⟩

section
variable {X : Nat → Prop} {Shun : Loc → Prop} {c : Frame} {cs : List Frame} {T : Array Value} {w : World}
theorem enterK (bv : Value) : Frame.enter Tryz.prog 8 #[bv] .normal = bK.at ⟨slK bv, []⟩ [.code bodyK] := by
  simp [Frame.enter, Frame.at, Tryz.func8, bK, base, slK, bodyK, Tryz.f8]

set_option maxRecDepth 100000 in
set_option maxHeartbeats 2000000 in
theorem intoK1 (hX : ShIn Shun X) {bx : Nat} {s1 s2 : Value} (hT : T.size = 17) (t1 : T[1]? = some (.pointer (some ⟨bx, 0, none⟩))) {τ : Nat → Question → Nat} {d : Nat} (hc0 : (pzT X w τ d).cell? ⟨bx, 0, none⟩ = some s1) (hc1 : (pzT X w τ d).cell? ⟨bx, 1, none⟩ = some s2) :
    Go.Conc.Goes Tryz.prog true AtRel (DE (EvL Shun w.heap.size)) (fun g w' => (∃ T', g = G (Frame.enter Tryz.prog 18 #[.agg #[s1, s2]] .normal) (bK.at ⟨T', []⟩ (.inRegion ops1K [1, 2, 3, 4, 5, 6, 7, 8, 9, 10, 11, 12, 13, 14] :: [.code .ret]) :: c :: cs) ∧ T'.size = 17 ∧ T'[1]? = some (.pointer (some ⟨bx, 0, none⟩))) ∧ AtRel w w') 20 (G (bK.at ⟨T, []⟩ [.code B1K]) (c :: cs)) w := by
  obtain ⟨hc0, hx⟩ := pz_cell hc0; obtain ⟨hc1, -⟩ := pz_cell hc1; have hlt := World.block_lt_of_cell? w _ hc0; have hns : ∀ o, ¬ Shun (.cell ⟨bx, o, none⟩) := fun o h => by (obtain ⟨a, e, ha⟩ := hX _ h; cases e; exact hx ha)
  obtain ⟨v0, v1, v2, v3, v4, v5, v6, v7, v8, v9, v10, v11, v12, v13, v14, v15, v16, rfl⟩ := array17K T hT
  simp only [List.getElem?_toArray, List.getElem?_cons_succ, List.getElem?_cons_zero, Option.some.injEq] at t1
  subst t1
  simp only [B1K, ops1K, bodyK, Tryz.f8, Option.getD_some]
  have rl : ∀ {V w w₁ : World}, AtRel V w → AtRel w w₁ → AtRel V w₁ := fun h r => atRel_trans _ _ _ h r
  have hF : AtRel w w := atRel_refl w
  u_c stepG_seq rl hF
  u_reg rl hF
  u_in rl hF; refine goes_oper_k rfl rfl (by k_ne) (fun K hK => ?_); have hc' : (‹World›).cell? ⟨bx, 0, none⟩ = some s1 := (by obtain ⟨d, rfl⟩ := hF; exact hc0); have hc'' : (‹World›).cell? ⟨bx, 1, none⟩ = some s2 := (by obtain ⟨d, rfl⟩ := hF; exact hc1); go_simp; refine hK _ _ ⟨(fun e he => by have hm := mem_listed he; simp [go_sem, *] at hm; rcases hm with rfl | rfl <;> exact evL_low hlt (hns _)), ?_⟩; clear hK K hc' hc''; (try walk_nrm)
  u_in rl hF
  refine goes_callE #[.agg #[s1, s2]] rfl rfl (by k_ne) rfl Tryz.func18 (by kernel_rfl) rfl (by simp [Act.eval]) ⟨fun e he => by simp at he, ?_⟩
  exact Go.Conc.Goes.stop fun w₁ r => ⟨⟨_, rfl, rfl, rfl⟩, rl hF r⟩

set_option maxRecDepth 100000 in
set_option maxHeartbeats 2000000 in
theorem outK1 (hT : T.size = 17) :
    Go.Conc.Goes Tryz.prog true AtRel (DE fun _ => False) (fun g w' => g = G (c.finish (.bool false)) cs ∧ AtRel w w') 30 (G ((bK.at ⟨T, []⟩ (.inRegion ops1K [1, 2, 3, 4, 5, 6, 7, 8, 9, 10, 11, 12, 13, 14] :: [.code .ret])).finish (.bool false)) (c :: cs)) w := by
  obtain ⟨v0, v1, v2, v3, v4, v5, v6, v7, v8, v9, v10, v11, v12, v13, v14, v15, v16, rfl⟩ := array17K T hT
  rw [Frame.finish_at]
  simp only [B1K, ops1K, bodyK, Tryz.f8, Option.getD_some]
  have rl : ∀ {V w w₁ : World}, AtRel V w → AtRel w w₁ → AtRel V w₁ := fun h r => atRel_trans _ _ _ h r
  have hF : AtRel w w := atRel_refl w
  walk_nrm
  u_op rl hF
  u_skip rl hF
  u_skip rl hF
  u_skip rl hF
  u_skip rl hF
  u_op rl hF
  u_op rl hF
  u_skip rl hF
  u_skip rl hF
  u_skip rl hF
  u_skip rl hF
  u_op rl hF
  u_op rl hF
  u_c stepG_region_end rl hF; u_c stepG_ret' rl hF; u_in rl hF; rw [stepG_leave (b := bK) rfl rfl Tryz.func8 (results_tmp rfl _ _ _) (events_results_tmp rfl _ _)]; simp only [goes_go]; refine ⟨by u_nil, ?_⟩; exact Go.Conc.Goes.stop fun w₁ r => ⟨rfl, rl hF r⟩

set_option maxRecDepth 100000 in
set_option maxHeartbeats 2000000 in
theorem outK2 (hX : ShIn Shun X) {bx : Nat} {s1 : Value} {a2 : Option Addr} {c2 : Nat} (hT : T.size = 17) (t1 : T[1]? = some (.pointer (some ⟨bx, 0, none⟩))) {τ : Nat → Question → Nat} {d : Nat} (hc0 : (pzT X w τ d).cell? ⟨bx, 0, none⟩ = some s1) (hc1 : (pzT X w τ d).cell? ⟨bx, 1, none⟩ = some (.slice a2 0 c2)) :
    Go.Conc.Goes Tryz.prog true AtRel (DE (EvL Shun w.heap.size)) (fun g w' => g = G (c.finish (.bool false)) cs ∧ AtRel w w') 30 (G ((bK.at ⟨T, []⟩ (.inRegion ops1K [1, 2, 3, 4, 5, 6, 7, 8, 9, 10, 11, 12, 13, 14] :: [.code .ret])).finish (.bool true)) (c :: cs)) w := by
  obtain ⟨s2, hs2⟩ : ∃ s2, s2 = Value.slice a2 0 c2 := ⟨_, rfl⟩
  rw [← hs2] at hc1
  obtain ⟨hc0, hx⟩ := pz_cell hc0; obtain ⟨hc1, -⟩ := pz_cell hc1; have hlt := World.block_lt_of_cell? w _ hc0; have hns : ∀ o, ¬ Shun (.cell ⟨bx, o, none⟩) := fun o h => by (obtain ⟨a, e, ha⟩ := hX _ h; cases e; exact hx ha)
  obtain ⟨v0, v1, v2, v3, v4, v5, v6, v7, v8, v9, v10, v11, v12, v13, v14, v15, v16, rfl⟩ := array17K T hT
  simp only [List.getElem?_toArray, List.getElem?_cons_succ, List.getElem?_cons_zero, Option.some.injEq] at t1
  subst t1
  rw [Frame.finish_at]
  simp only [B1K, ops1K, bodyK, Tryz.f8, Option.getD_some]
  have rl : ∀ {V w w₁ : World}, AtRel V w → AtRel w w₁ → AtRel V w₁ := fun h r => atRel_trans _ _ _ h r
  have hF : AtRel w w := atRel_refl w
  walk_nrm
  u_op rl hF
  u_op rl hF
  u_in rl hF; refine goes_oper_k rfl rfl (by k_ne) (fun K hK => ?_); have hc'' : (‹World›).cell? ⟨bx, 1, none⟩ = some s2 := (by obtain ⟨d, rfl⟩ := hF; exact hc1); go_simp; refine hK _ _ ⟨(fun e he => by have hm := mem_listed he; simp [go_sem, *] at hm; subst hm; exact evL_low hlt (hns _)), ?_⟩; clear hK K hc''; (try walk_nrm)
  subst hs2
  u_in rl hF; refine goes_oper_k rfl rfl (by k_ne) (fun K hK => ?_); go_simp; refine hK _ _ ⟨(fun e he => by have hm := mem_listed he; simp [go_sem, Builtin.len_, *] at hm), ?_⟩; clear hK K; (try walk_nrm)
  u_op rl hF
  u_op rl hF
  u_op rl hF
  u_skip rl hF
  u_skip rl hF
  u_skip rl hF
  u_skip rl hF
  u_op rl hF
  u_op rl hF
  u_c stepG_region_end rl hF; u_c stepG_ret' rl hF; u_in rl hF; rw [stepG_leave (b := bK) rfl rfl Tryz.func8 (results_tmp rfl _ _ _) (events_results_tmp rfl _ _)]; simp only [goes_go]; refine ⟨by u_nil, ?_⟩; exact Go.Conc.Goes.stop fun w₁ r => ⟨rfl, rl hF r⟩

set_option maxRecDepth 100000 in
set_option maxHeartbeats 2000000 in
theorem intoK2 (hX : ShIn Shun X) {bx n : Nat} {s1 : Value} {a2 : Option Addr} {c2 : Nat} (hn : 0 < n) (hT : T.size = 17) (t1 : T[1]? = some (.pointer (some ⟨bx, 0, none⟩))) {τ : Nat → Question → Nat} {d : Nat} (hc0 : (pzT X w τ d).cell? ⟨bx, 0, none⟩ = some s1) (hc1 : (pzT X w τ d).cell? ⟨bx, 1, none⟩ = some (.slice a2 n c2)) :
    Go.Conc.Goes Tryz.prog true AtRel (DE (EvL Shun w.heap.size)) (fun g w' => (∃ T', g = G (Frame.enter Tryz.prog 5 #[.agg #[s1, .slice a2 n c2]] .normal) (bK.at ⟨T', []⟩ (.inRegion ops1K [10, 11, 12, 13, 14] :: [.code .ret]) :: c :: cs) ∧ T'.size = 17 ∧ T'[11]? = some (.bool true)) ∧ AtRel w w') 30 (G ((bK.at ⟨T, []⟩ (.inRegion ops1K [1, 2, 3, 4, 5, 6, 7, 8, 9, 10, 11, 12, 13, 14] :: [.code .ret])).finish (.bool true)) (c :: cs)) w := by
  have hd : decide ((n : Int) > 0) = true := decide_eq_true (by omega)
  obtain ⟨s2, hs2⟩ : ∃ s2, s2 = Value.slice a2 n c2 := ⟨_, rfl⟩
  rw [← hs2] at hc1
  obtain ⟨hc0, hx⟩ := pz_cell hc0; obtain ⟨hc1, -⟩ := pz_cell hc1; have hlt := World.block_lt_of_cell? w _ hc0; have hns : ∀ o, ¬ Shun (.cell ⟨bx, o, none⟩) := fun o h => by (obtain ⟨a, e, ha⟩ := hX _ h; cases e; exact hx ha)
  obtain ⟨v0, v1, v2, v3, v4, v5, v6, v7, v8, v9, v10, v11, v12, v13, v14, v15, v16, rfl⟩ := array17K T hT
  simp only [List.getElem?_toArray, List.getElem?_cons_succ, List.getElem?_cons_zero, Option.some.injEq] at t1
  subst t1
  rw [Frame.finish_at]
  simp only [B1K, ops1K, bodyK, Tryz.f8, Option.getD_some]
  have rl : ∀ {V w w₁ : World}, AtRel V w → AtRel w w₁ → AtRel V w₁ := fun h r => atRel_trans _ _ _ h r
  have hF : AtRel w w := atRel_refl w
  walk_nrm
  u_op rl hF
  u_op rl hF
  u_in rl hF; refine goes_oper_k rfl rfl (by k_ne) (fun K hK => ?_); have hc'' : (‹World›).cell? ⟨bx, 1, none⟩ = some s2 := (by obtain ⟨d, rfl⟩ := hF; exact hc1); go_simp; refine hK _ _ ⟨(fun e he => by have hm := mem_listed he; simp [go_sem, *] at hm; subst hm; exact evL_low hlt (hns _)), ?_⟩; clear hK K hc''; (try walk_nrm)
  subst hs2
  u_in rl hF; refine goes_oper_k rfl rfl (by k_ne) (fun K hK => ?_); go_simp; refine hK _ _ ⟨(fun e he => by have hm := mem_listed he; simp [go_sem, Builtin.len_, *] at hm), ?_⟩; clear hK K; (try walk_nrm)
  u_op rl hF
  u_op rl hF
  u_op rl hF
  obtain ⟨s2, hs2⟩ : ∃ s2, s2 = Value.slice a2 n c2 := ⟨_, rfl⟩
  rw [← hs2] at hc1
  u_in rl hF; refine goes_oper_k rfl rfl (by k_ne) (fun K hK => ?_); have hc' : (‹World›).cell? ⟨bx, 0, none⟩ = some s1 := (by obtain ⟨d, rfl⟩ := hF; exact hc0); have hc'' : (‹World›).cell? ⟨bx, 1, none⟩ = some s2 := (by obtain ⟨d, rfl⟩ := hF; exact hc1); go_simp; refine hK _ _ ⟨(fun e he => by have hm := mem_listed he; simp [go_sem, *] at hm; rcases hm with rfl | rfl <;> exact evL_low hlt (hns _)), ?_⟩; clear hK K hc' hc''; (try walk_nrm)
  u_in rl hF
  subst hs2
  refine goes_callE #[.agg #[s1, .slice a2 n c2]] rfl rfl (by k_ne) rfl Tryz.func5 (by kernel_rfl) rfl (by simp [Act.eval]) ⟨fun e he => by simp at he, ?_⟩
  exact Go.Conc.Goes.stop fun w₁ r => ⟨⟨_, rfl, rfl, rfl⟩, rl hF r⟩

set_option maxRecDepth 100000 in
set_option maxHeartbeats 2000000 in
theorem outK3 {a2 : Option Addr} {m c2 : Nat} (hT : T.size = 17) (t11 : T[11]? = some (.bool true)) :
    Go.Conc.Goes Tryz.prog true AtRel (DE fun _ => False) (fun g w' => g = G (c.finish (.bool ((m : Int) == 0))) cs ∧ AtRel w w') 20 (G ((bK.at ⟨T, []⟩ (.inRegion ops1K [10, 11, 12, 13, 14] :: [.code .ret])).finish (.slice a2 m c2)) (c :: cs)) w := by
  obtain ⟨v0, v1, v2, v3, v4, v5, v6, v7, v8, v9, v10, v11, v12, v13, v14, v15, v16, rfl⟩ := array17K T hT
  simp only [List.getElem?_toArray, List.getElem?_cons_succ, List.getElem?_cons_zero, Option.some.injEq] at t11
  subst t11
  rw [Frame.finish_at]
  simp only [B1K, ops1K, bodyK, Tryz.f8, Option.getD_some]
  have rl : ∀ {V w w₁ : World}, AtRel V w → AtRel w w₁ → AtRel V w₁ := fun h r => atRel_trans _ _ _ h r
  have hF : AtRel w w := atRel_refl w
  walk_nrm
  u_in rl hF; refine goes_oper_k rfl rfl (by k_ne) (fun K hK => ?_); go_simp; refine hK _ _ ⟨(fun e he => by have hm := mem_listed he; simp [go_sem, Builtin.len_, *] at hm), ?_⟩; clear hK K; (try walk_nrm)
  u_op rl hF
  u_op rl hF
  u_op rl hF
  u_c stepG_region_end rl hF; u_c stepG_ret' rl hF; u_in rl hF; rw [stepG_leave (b := bK) rfl rfl Tryz.func8 (results_tmp rfl _ _ _) (events_results_tmp rfl _ _)]; simp only [goes_go]; refine ⟨by u_nil, ?_⟩; exact Go.Conc.Goes.stop fun w₁ r => ⟨rfl, rl hF r⟩
end
end Go.Proofs.YtnojjmkmkelbgaaGreat

/- The share's goroutines: ShareStuck, by whatever road. -/
namespace Go.Proofs.YtnojjmkmkelbgaaGreat
open Go.Conc Go.ConcN Go.RowKit Go.Conc.Lib Go.ConcR.Gen Go.ConcN.Gen
open Go.ConcR (KK wgBlock WgAt stA smA rd wr mk Payload DC0)

theorem atK_tl (b : Bk) (a : Act) : Tapeless (AtK b (fun _ => True) a) := fun _ _ _ h => h
theorem bodyK1 : bodyK = joinC [r0K] B1K := by simp only [joinC, r0K, B1K, bodyK, Tryz.f8, Option.getD_some]
theorem okK : ∀ r ∈ [r0K], codeOk Tryz.prog (fun g => fsW.contains g) r = true := by
  intro r hr
  simp only [List.mem_cons, List.not_mem_nil, or_false] at hr
  subst hr
  kernel_rfl
theorem frK : FrB Tryz.prog bK := ⟨rfl, _, Tryz.func8⟩

theorem stuck_g {X : Nat → Prop} {Shun : Loc → Prop} {W : World} {b : Bk} {bv : Value} (hX : ShIn Shun X) (hbW : Base X W) (hB : ∀ τ d, BkV (pzT X W τ d) bv b) :
    GCalls Tryz.prog 8 #[bv] X Shun W fun v _ => v = .bool (stuckB b) := by
  intro Post c cs gs sl t hh k
  rw [enterK, bodyK1] at hh
  have hR0 : ∀ τ d, Hid (∀ u, Below (pzT X W τ d).heap.size (pzT X W τ d) u → ∃ τ d, True ∧ Below W.heap.size (pzT X W τ d) u) := fun τ d u hu => ⟨τ, d, trivial, by rw [pz_size] at hu; exact hu⟩
  refine ends_run hX hh (nest_run setW frK B1K [] (c :: cs) [r0K] okK rfl hbW (fun τ d => held_of hbW (fun τ d => nestK b bv _ (hB τ d) (hR0 τ d)) τ d)) fun gs1 g1 w1 sl1 t1 hh1 hst => ?_
  obtain ⟨a, rfl, hd, hb1, hQ⟩ := hst
  have hbel : ∀ τ d, Below W.heap.size (pzT X W τ d) (pzT X w1 τ d) := fun τ d => (below_held (Q := fun _ => True) (fun _ _ _ h => h) ((hQ τ d).imp fun u h => let ⟨_, _, _, _, _, _, _, _, _, _, _, h⟩ := h; h)).2
  obtain ⟨T, bx, a1, c1, a2, c2, rfl, hT, s1, kA, hk, -⟩ := Held.out (atK_tl b a) ((hQ (fun _ _ => 0) 0).imp fun u h => let ⟨T, bx, a1, c1, a2, c2, h1, h2, h3, h4, h5, _⟩ := h; ⟨T, bx, a1, c1, a2, c2, h1, h2, h3, h4, h5, trivial⟩)
  have hsz1 : W.heap.size ≤ w1.heap.size := by have := (hbel (fun _ _ => 0) 0).size; rwa [pz_size, pz_size] at this
  refine ends_walk (D := DE (EvL Shun w1.heap.size)) (B0 := w1.heap.size) (fun _ _ _ h => h) hh1 (intoK1 hX hT s1 (kA.1 0 _ rfl) (kA.1 1 _ rfl)) fun gs2 g2 w2 sl2 t2 hh2 hst2 => ?_
  obtain ⟨⟨T2, rfl, hT2, e1⟩, d2, rfl⟩ := hst2
  refine ends_run hX hh2 (call_back setW (f := 18) (by kernel_rfl) (hb1.at d2) (R := fun w v u => v = .bool (bookB b) ∧ Below w.heap.size w u) (fun τ d => (bookOk_any b _ (pzT X (w1.at d2) τ d) hk).mono ?_) _ (c :: cs)) fun gs3 g3 w3 sl3 t3 hh3 hst3 => ?_
  · rintro e u' ⟨rfl, hb⟩
    exact ⟨_, rfl, rfl, hb⟩
  obtain ⟨v3, rfl, hb3, hR3⟩ := hst3
  have hR3' : ∀ τ d, v3 = .bool (bookB b) ∧ Below w1.heap.size (pzT X w1 τ d) (pzT X w3 τ d) := fun τ d => below_held (Q := fun _ => v3 = .bool (bookB b)) (fun _ _ _ h => h) ((hR3 τ d).imp fun u h => let ⟨τ, d, h1, h2⟩ := h; ⟨τ, d, h1, by rw [pz_size] at h2; exact h2⟩)
  obtain rfl := (hR3' (fun _ _ => 0) 0).1
  have hbel3 : ∀ τ d, Below W.heap.size (pzT X W τ d) (pzT X w3 τ d) := fun τ d => (hbel τ d).trans ((hR3' τ d).2.mono hsz1)
  have hsz3 : W.heap.size ≤ w3.heap.size := by have := (hbel3 (fun _ _ => 0) 0).size; rwa [pz_size, pz_size] at this
  have hB3 : ∀ τ d, Below (pzT X w1 τ d).heap.size (pzT X w1 τ d) (pzT X w3 τ d) := fun τ d => by rw [pz_size]; exact (hR3' τ d).2
  have kA3 := CB.up (w := pzT X w1 (fun _ _ => 0) 0) kA (hB3 _ _) kA.2.2
  have hk3 : ∀ τ d, BkV (pzT X w3 τ d) (.agg #[.slice a1 b.things.length c1, .slice a2 b.bs.length c2]) b := fun τ d => BkV.up (w := pzT X w1 τ d) hk (hB3 τ d)
  have fin : stuckB b = false → ∀ gs w sl t, Here Tryz.prog Shun gs (G (c.finish (.bool false)) cs) t → (∃ d, w = w3.at d) → EndsG Tryz.prog Post (crowd gs w sl) t := fun hL gs w sl t h1 ⟨d, h2⟩ => by
    subst h2
    exact k X Shun gs _ sl t _ hX (fun b hb => .inl hb) h1 (hb3.at d) fun τ d => ⟨by rw [hL], hbel3 τ d⟩
  cases hq : bookB b with
  | false =>
    rw [hq] at hh3
    refine ends_walk (D := DE fun _ => False) (B0 := 0) (fun _ _ _ h e he => (h e he).elim) hh3 (outK1 (w := w3) hT2) fun gs4 g4 w4 sl4 t4 hh4 hst4 => ?_
    obtain ⟨rfl, d4, rfl⟩ := hst4
    exact fin (by simp [stuckB, hq]) _ _ _ _ hh4 ⟨_, rfl⟩
  | true =>
    rw [hq] at hh3
    by_cases hn : 0 < b.bs.length
    · refine ends_walk (D := DE (EvL Shun w3.heap.size)) (B0 := w3.heap.size) (fun _ _ _ h => h) hh3 (intoK2 hX hn hT2 e1 (kA3.1 0 _ rfl) (kA3.1 1 _ rfl)) fun gs4 g4 w4 sl4 t4 hh4 hst4 => ?_
      obtain ⟨⟨T4, rfl, hT4, e11⟩, d4, rfl⟩ := hst4
      refine moves_g (b := b) hX (hb3.at d4) (fun τ d => hk3 τ d) _ _ (c :: cs) gs4 sl4 t4 hh4 fun X' Shun' gs' w' sl' t' v hX' hW' hh' hb' hR' => ?_
      rw [moves_eq] at hR'
      obtain ⟨av, cv, rfl⟩ := (hR' (fun _ _ => 0) 0).1.lst.shape
      refine ends_walk (D := DE fun _ => False) (B0 := 0) (fun _ _ _ h e he => (h e he).elim) hh' (outK3 (w := w') hT4 e11) fun gs5 g5 w5 sl5 t5 hh5 hst5 => ?_
      obtain ⟨rfl, d5, rfl⟩ := hst5
      refine k X' Shun' gs5 _ sl5 t5 _ hX' (fun b hb => (hW' b hb).imp id fun h => Nat.le_trans hsz3 h) hh5 (hb'.at d5) fun τ d => ⟨?_, (hbel3 τ d).trans ((hR' τ d).2.mono hsz3)⟩
      congr 1
      rw [stuckB, hq, Bool.true_and, Bool.eq_iff_iff, beq_iff_eq, Bool.and_eq_true, decide_eq_true_eq, decide_eq_true_eq]
      omega
    · have hn0 : b.bs.length = 0 := by omega
      have k1 := kA3.1 1 _ rfl
      rw [hn0] at k1
      refine ends_walk (D := DE (EvL Shun w3.heap.size)) (B0 := w3.heap.size) (fun _ _ _ h => h) hh3 (outK2 hX hT2 e1 (kA3.1 0 _ rfl) k1) fun gs4 g4 w4 sl4 t4 hh4 hst4 => ?_
      obtain ⟨rfl, d4, rfl⟩ := hst4
      exact fin (by simp [stuckB, hn]) _ _ _ _ hh4 ⟨_, rfl⟩
end Go.Proofs.YtnojjmkmkelbgaaGreat
