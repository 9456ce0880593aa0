/- The share's goroutines, 13: who moves (ShareMoves), whole. -/
import Derived.Test.YtafgabakhaipnaaSnc
import Derived.Test.YtafgabakhaipnaaSn8
import Derived.Test.YtafgabakhaipnaaSm0
import Derived.Test.YtafgabakhaipnaaPk3
namespace Go.Proofs.Ytafgabakhaipnaa
open Go.Conc Go.ConcN Go.RowKit Go.Conc.Lib Go.ConcR.Gen Go.ConcN.Gen
open Go.ConcR (KK wgBlock WgAt stA smA rd wr mk Payload DC0)

/-- What batch j has, what batch j needs, as bits; what lies free. -/
def haW (b : Bk) (j : Nat) : Nat := bitsN b.things (memS ((b.bs[j]?.map (·.has)).getD []))
def neW (b : Bk) (j : Nat) : Nat := bitsN b.things (memS ((b.bs[j]?.map (·.needs)).getD []))
def frW (b : Bk) : Nat := bitsN b.things (freeL (ts0 b.bs b.bs.length))
def hbM (b : Bk) (j : Nat) : Bool := bits .andNot .u64 (neW b j : Int) ((frW b : Int) + (haW b j : Int)) == 0
noncomputable def movesL (b : Bk) : List ByteArray := if bookB b = true then pk (hbM b) (nms b.bs) b.bs.length else []

noncomputable def bM : Frame := base 7
noncomputable def ops4M : Array Oper := match B4M with | .seq (.region _ o _) _ => o | _ => #[]

section
variable {X : Nat → Prop} {Shun : Loc → Prop} {c : Frame} {cs : List Frame}
theorem enterM (bv : Value) : Frame.enter Try.prog 7 #[bv] .normal = bM.at ⟨slM bv, []⟩ [.code bodyM] := by
  simp [Frame.enter, Frame.at, Try.func7, bM, base, slM, bodyM, Try.f7]

set_option maxRecDepth 100000 in
theorem outM1 {T : Array Value} (hT : T.size = 13) (ht : T[6]? = some (.bool true)) (w : World) :
    Goes Try.prog true AtRel (DE fun _ => False) (fun g w' => g = G (c.finish (.slice none 0 0)) cs ∧ AtRel w w') 20 (G (bM.at ⟨T, []⟩ [.code condM, .code B2M]) (c :: cs)) w := by
  obtain ⟨v0, v1, v2, v3, v4, v5, v6, v7, v8, v9, v10, v11, v12, rfl⟩ := array13 T hT
  simp only [List.getElem?_toArray, List.getElem?_cons_succ, List.getElem?_cons_zero, Option.some.injEq] at ht
  subst ht
  simp only [condM, B2M, bodyM, Try.f7, Option.getD_some]
  have rl : ∀ {V w w₁ : World}, AtRel V w → AtRel w w₁ → AtRel V w₁ := fun h r => atRel_trans _ _ _ h r
  have hF : AtRel w w := atRel_refl w
  u_cond true rl hF
  u_c stepG_seq rl hF
  u_reg rl hF
  u_op rl hF
  u_c stepG_region_end rl hF
  u_c stepG_ret' rl hF
  u_in rl hF
  rw [stepG_leave (b := bM) rfl rfl Try.func7 (results_tmp rfl _ _ _) (events_results_tmp rfl _ _)]
  simp only [goes_go]
  refine ⟨by u_nil, ?_⟩
  exact Goes.stop fun w₁ r => ⟨rfl, rl hF r⟩

theorem enterP (x y : Value) : Frame.enter Try.prog 21 #[x, y] .normal = bP.at ⟨#[x, y, undef, undef, undef, undef, undef, undef, undef, undef, undef, undef, undef, undef, undef, undef, undef, undef, undef, undef, undef, undef, undef, undef, undef, undef, undef, undef, undef, undef, undef, undef, undef, undef, undef, undef, undef, undef], []⟩ [.code bodyP] := by
  simp [Frame.enter, Frame.at, Try.func21, bP, base, bodyP, Try.f21]

set_option maxRecDepth 100000 in
theorem intoM {W : World} {tb : Nat} {T : Array Value} (hT : T.size = 13) (t3 : T[3]? = some (.pointer (some ⟨tb, 0, none⟩))) :
    Goes Try.prog true AtRel (DE fun _ => False) (fun g w => (∃ T', T'.size = 13 ∧ g = G (Frame.enter Try.prog 21 #[.pointer (some ⟨tb, 0, none⟩), fvC tb] .normal) (bM.at ⟨T', []⟩ (.inRegion ops4M [3, 4] :: [.code .ret]) :: c :: cs)) ∧ AtRel W w) 20 (G (bM.at ⟨T, []⟩ [.code B4M]) (c :: cs)) W := by
  obtain ⟨v0, v1, v2, v3, v4, v5, v6, v7, v8, v9, v10, v11, v12, rfl⟩ := array13 T hT
  simp only [List.getElem?_toArray, List.getElem?_cons_succ, List.getElem?_cons_zero, Option.some.injEq] at t3
  subst t3
  simp only [B4M, ops4M, bodyM, Try.f7, Option.getD_some]
  have rl : ∀ {V w w₁ : World}, AtRel V w → AtRel w w₁ → AtRel V w₁ := fun h r => atRel_trans _ _ _ h r
  have hF : AtRel W W := atRel_refl W
  u_c stepG_seq rl hF
  u_reg rl hF
  u_op rl hF
  u_op rl hF
  u_op rl hF
  u_in rl hF
  refine goes_call rfl rfl (by k_ne) rfl Try.func21 (by kernel_rfl) rfl ⟨fun e he => by simp at he, ?_⟩
  walk_nrmf Try.f21
  refine Goes.stop fun w₁ r => ⟨⟨#[v0, v1, v2, .pointer (some ⟨tb, 0, none⟩), v4, v5, v6, v7, v8, .pointer (some ⟨tb, 0, none⟩), .pointer (some ⟨tb, 0, none⟩), fvC tb, v12], rfl, ?_⟩, rl hF r⟩
  rw [enterP]
  simp only [fvC, bodyP, Try.f21, Option.getD_some]
  rfl

set_option maxRecDepth 100000 in
theorem outM {T : Array Value} (hT : T.size = 13) (v : Value) (w : World) :
    Goes Try.prog true AtRel (DE fun _ => False) (fun g w' => g = G (c.finish v) cs ∧ AtRel w w') 10 (G ((bM.at ⟨T, []⟩ (.inRegion ops4M [3, 4] :: [.code .ret])).finish v) (c :: cs)) w := by
  obtain ⟨v0, v1, v2, v3, v4, v5, v6, v7, v8, v9, v10, v11, v12, rfl⟩ := array13 T hT
  rw [Frame.finish_at]
  simp only [ops4M, B4M, bodyM, Try.f7, Option.getD_some]
  have rl : ∀ {V w w₁ : World}, AtRel V w → AtRel w w₁ → AtRel V w₁ := fun h r => atRel_trans _ _ _ h r
  have hF : AtRel w w := atRel_refl w
  walk_nrm
  u_op rl hF
  u_c stepG_region_end rl hF
  u_c stepG_ret' rl hF
  u_in rl hF
  rw [stepG_leave (b := bM) rfl rfl Try.func7 (results_tmp rfl _ _ _) (events_results_tmp rfl _ _)]
  simp only [goes_go]
  refine ⟨by u_nil, ?_⟩
  exact Goes.stop fun w₁ r => ⟨rfl, rl hF r⟩
end

theorem ts0_names (bs : List Ba) : (ts0 bs bs.length).map (·.1.nm) = nms bs := by
  rw [ts0, List.take_length, List.map_map]; rfl
theorem ts0_get {bs : List Ba} {i : Nat} (h : i < bs.length) : (ts0 bs bs.length)[i]? = some (bs[i], false) := by
  rw [ts0, List.take_length, List.getElem?_map, List.getElem?_eq_getElem h]; rfl
theorem Held.imp {Q Q' : World → Prop} {u : World} (h : Held Q u) (k : ∀ u, Q u → Q' u) : Held Q' u := let ⟨u0, h1, h2⟩ := h; ⟨u0, k _ h1, h2⟩
theorem own_nil (u : World) (base : Nat) : OwnT u base (.slice none 0 0) [] := ⟨by simp, .inl ⟨rfl, rfl⟩⟩
theorem moves_no {b : Bk} (h : bookB b = false) : movesL b = [] := by simp [movesL, h]
theorem atM_tl (b : Bk) (a : Act) : Tapeless (AtM b (fun _ => True) a) := fun _ _ _ h => h
theorem tab_tl (tb : Nat) (things : List ByteArray) (ts : List Tr) : Tapeless (fun u => Tab u tb things ts) := fun _ _ _ h => h
theorem body1 : bodyM = joinC [r0M] (.seq (.seq r1M condM) B2M) := by simp only [joinC, r0M, r1M, condM, B2M, bodyM, Try.f7, Option.getD_some]
theorem body3 : bodyM = joinC [r0M, c1M, r3M] B4M := by simp only [joinC, r0M, c1M, r3M, B4M, bodyM, Try.f7, Option.getD_some]
theorem okM : ∀ r ∈ [r0M, r1M, c1M, r3M], codeOk Try.prog (fun g => fsW.contains g) r = true := by
  intro r hr
  simp only [List.mem_cons, List.not_mem_nil, or_false] at hr
  rcases hr with rfl | rfl | rfl | rfl <;> kernel_rfl
theorem frM : FrB Try.prog bM := ⟨rfl, _, Try.func7⟩

theorem moves_g {X : Nat → Prop} {Shun : Loc → Prop} {W : World} {b : Bk} {bv : Value} (hX : ShIn Shun X) (hbW : Base X W) (hB : ∀ τ d, BkV (pzT X W τ d) bv b) :
    GCalls Try.prog 7 #[bv] X Shun W fun v u => OwnT u W.heap.size v (movesL b) := by
  intro Post c cs gs sl t hh k
  rw [enterM] at hh
  have hR0 : ∀ τ d, Hid (∀ u, Below (pzT X W τ d).heap.size (pzT X W τ d) u → ∃ τ d, True ∧ Below W.heap.size (pzT X W τ d) u) := fun τ d u hu => ⟨τ, d, trivial, by rw [pz_size] at hu; exact hu⟩
  have fin : movesL b = [] → ∀ gs w sl t, Here Try.prog Shun gs (G (c.finish (.slice none 0 0)) cs) t → Base X w → (∀ τ d, Held (fun u => ∃ τ d, True ∧ Below W.heap.size (pzT X W τ d) u) (pzT X w τ d)) → EndsG Try.prog Post (crowd gs w sl) t := fun hL gs w sl t h1 h2 h3 =>
    k X Shun gs w sl t _ hX (fun b hb => .inl hb) h1 h2 fun τ d => ⟨by rw [hL]; exact own_nil _ _, (below_held (Q := fun _ => True) (fun _ _ _ h => h) (h3 τ d)).2⟩
  cases hbk : bookB b with
  | false =>
    rw [body1] at hh
    refine ends_run hX hh (nest_in setW frM r1M condM B2M (okM _ (by simp)) [] (c :: cs) [r0M] (fun r hr => okM r (by simp at hr; simp [hr])) rfl hbW (fun τ d => held_of hbW (fun τ d => nestM_no b bv _ (hB τ d) hbk (hR0 τ d)) τ d)) fun gs1 a1 w1 sl1 t1 hh1 hst => ?_
    obtain ⟨a, rfl, hd, hb1, hQ⟩ := hst
    obtain ⟨u0, ⟨⟨T, rfl, hT, ht⟩, -⟩, -⟩ := hQ (fun _ _ => 0) 0
    refine ends_walk (D := DE fun _ => False) (B0 := 0) (fun _ _ _ h e he => (h e he).elim) hh1 (outM1 hT ht w1) fun gs2 a2 w2 sl2 t2 hh2 hst2 => ?_
    obtain ⟨rfl, d2, rfl⟩ := hst2
    exact fin (moves_no hbk) _ _ _ _ hh2 (hb1.at d2) fun τ d => (hQ τ d).imp fun u h => h.2
  | true =>
    have hok : BookOk b := pB_iff.1 hbk
    rw [body3] at hh
    refine ends_run hX hh (nest_run setW frM B4M [] (c :: cs) [r0M, c1M, r3M] (fun r hr => okM r (by simp at hr; rcases hr with rfl | rfl | rfl <;> simp)) rfl hbW (fun τ d => held_of hbW (fun τ d => nestM_ok b bv _ (hB τ d) hok hbk (hR0 τ d)) τ d)) fun gs1 a1 w1 sl1 t1 hh1 hst => ?_
    obtain ⟨a, rfl, hd, hb1, hQ⟩ := hst
    have hbel : ∀ τ d, Below W.heap.size (pzT X W τ d) (pzT X w1 τ d) := fun τ d => (below_held (Q := fun _ => True) (fun _ _ _ h => h) ((hQ τ d).imp fun u h => let ⟨_, _, _, _, _, _, h⟩ := h; h)).2
    obtain ⟨T, tb, rfl, hT, t3, hTab0, -⟩ := Held.out (atM_tl b a) ((hQ (fun _ _ => 0) 0).imp fun u h => let ⟨T, tb, h1, h2, h3, h4, _⟩ := h; ⟨T, tb, h1, h2, h3, h4, trivial⟩)
    have hTab : ∀ τ d, Tab (pzT X w1 τ d) tb b.things (ts0 b.bs b.bs.length) := fun τ d => tab_tl tb _ _ _ τ d hTab0
    refine ends_walk (D := DE fun _ => False) (B0 := 0) (fun _ _ _ h e he => (h e he).elim) hh1 (intoM hT t3) fun gs2 a2 w2 sl2 t2 hh2 hst2 => ?_
    obtain ⟨⟨T', hT', rfl⟩, d2, rfl⟩ := hst2
    have hlen : (ts0 b.bs b.bs.length).length = b.bs.length := ts0_length (Nat.le_refl _)
    have h5 : b.bs.length ≤ 5 := hok.2.1
    have hW : Asked Shun (w1.at d2) b.bs.length (hbM b) (fvC tb) := by
      by_cases hn : b.bs.length = 0
      · intro p _ _ _ _ _ _ _ _ _ j hj
        omega
      obtain ⟨rv, hC, hown⟩ := hTab0
      rw [hlen] at hown
      obtain ⟨g, cap, rfl⟩ := own_ptr2 hown (by omega)
      have r := fun (i : Nat) (hi : i < b.bs.length) => row_cells (things := b.things) (ts := ts0 b.bs b.bs.length) (by rw [hlen]; exact hown) (ts0_get hi)
      have cc : ∀ {a : Addr} {v : Value}, (pzT X w1 (fun _ _ => 0) 0).cell? a = some v → (w1.at d2).cell? a = some v ∧ ¬ X a.block := fun h => pz_cell (W := w1.at d2) h
      have h0 : ∀ i, i < b.bs.length → ∃ s, (w1.at d2).cell? ⟨g, i * 4, none⟩ = some (.string s) := fun i hi => ⟨_, (cc (r i hi).1).1⟩
      have h1 : ∀ i, i < b.bs.length → (w1.at d2).cell? ⟨g, i * 4 + 1, none⟩ = some (.int .u64 (haW b i)) := fun i hi => by
        rw [(cc (r i hi).2.1).1, haW, List.getElem?_eq_getElem hi]; rfl
      have h2 : ∀ i, i < b.bs.length → (w1.at d2).cell? ⟨g, i * 4 + 2, none⟩ = some (.int .u64 (neW b i)) := fun i hi => by
        rw [(cc (r i hi).2.2.1).1, neW, List.getElem?_eq_getElem hi]; rfl
      have h3 : ∀ i, i < b.bs.length → (w1.at d2).cell? ⟨g, i * 4 + 3, none⟩ = some (.bool false) := fun i hi => (cc (r i hi).2.2.2).1
      have h8 : b.things.length ≤ 8 := hok.1.1
      exact asked_can hX (hb1.at d2) h5 (cc (hC.1 0 _ rfl)).1 (cc (hC.1 0 _ rfl)).2 (cc (hC.1 1 _ rfl)).1 (cc (r 0 (by omega)).2.1).2 (fun i => bitsN_small h8 _) (bitsN_small h8 _) h0 h1 h2 h3
    refine picked_g (f := 22) hX (hb1.at d2) (fun τ d => hTab τ d) (by rw [hlen]; exact h5) (hb := hbM b) (by rw [hlen]; exact hW) Post _ (c :: cs) gs2 sl2 t2 hh2 fun X' Shun' gs' w' sl' t' v hX' hW' hh' hb' hR' => ?_
    refine ends_walk (D := DE fun _ => False) (B0 := 0) (fun _ _ _ h e he => (h e he).elim) hh' (outM hT' v w') fun gs3 a3 w3 sl3 t3 hh3 hst3 => ?_
    obtain ⟨rfl, d3, rfl⟩ := hst3
    have hsz : W.heap.size ≤ w1.heap.size := by have := (hbel (fun _ _ => 0) 0).size; rwa [pz_size, pz_size] at this
    refine k X' Shun' gs3 _ sl3 t3 v hX' (fun b hb => (hW' b hb).imp id fun h => Nat.le_trans hsz h) hh3 (hb'.at d3) fun τ d => ?_
    obtain ⟨h1, h2⟩ := hR' τ d
    rw [ts0_names, hlen] at h1
    refine ⟨?_, (hbel τ d).trans (h2.mono hsz)⟩
    have : movesL b = pk (hbM b) (nms b.bs) b.bs.length := by rw [movesL, if_pos hbk]
    rw [this]
    exact own_low h1 hsz
end Go.Proofs.Ytafgabakhaipnaa
