/- The share's goroutines, 9: on whom somebody waits (ShareWaits), whole. -/
import Derived.Test.YtmkpaciaollcbaaSn7
import Derived.Test.YtmkpaciaollcbaaSn8
import Derived.Test.YtmkpaciaollcbaaJ41
import Derived.Test.YtmkpaciaollcbaaPk2
import Derived.Test.YtmkpaciaollcbaaJ29
namespace Go.Proofs.Ytmkpaciaollcbaa
open Go.Conc Go.ConcN Go.RowKit Go.Conc.Lib Go.ConcR.Gen Go.ConcN.Gen
open Go.ConcR (KK wgBlock WgAt stA smA rd wr mk Payload DC0)

theorem lowPl {b : Bk} {nm : ByteArray} (ha : Asc (nms b.bs)) (hm : memS (nms b.bs) nm = true) : lowN (nms b.bs) nm = plN b nm := by
  obtain ⟨hi, hlt⟩ := plN_lt hm
  obtain ⟨k, hk, hkl, hkn⟩ := idxI_at (l := nms b.bs) (s := nm) (by omega)
  obtain rfl : plN b nm = k := by omega
  refine lowN_at (Nat.le_of_lt hkl) (fun j x hj hx => ?_) (fun j x hj hx => ?_)
  · exact asc_lt ha (plN b nm - j - 1) j x nm hx (by rw [show j + 1 + (plN b nm - j - 1) = plN b nm by omega, List.getElem?_eq_getElem hkl, hkn])
  · by_cases e : j = plN b nm
    · subst e
      rw [List.getElem?_eq_getElem hkl, hkn] at hx
      obtain rfl := Option.some.inj hx
      exact ltS_irrefl _
    · have h1 := asc_lt ha (j - plN b nm - 1) (plN b nm) nm x (by rw [List.getElem?_eq_getElem hkl, hkn]) (by rw [show plN b nm + 1 + (j - plN b nm - 1) = j by omega]; exact hx)
      cases hq : ltS x nm
      · rfl
      · have := ltS_trans h1 hq
        rw [ltS_irrefl] at this; cases this

/-- What batch j has, what batch j needs, as bits. -/
def haW (b : Bk) (j : Nat) : Nat := bitsN b.things (memS ((b.bs[j]?.map (·.has)).getD []))
def neW (b : Bk) (j : Nat) : Nat := bitsN b.things (memS ((b.bs[j]?.map (·.needs)).getD []))
def hbWt (b : Bk) (own j : Nat) : Bool := j != own && (bits .and .u64 (haW b j : Int) (neW b own : Int) != 0)
noncomputable def waitsL (b : Bk) (nm : ByteArray) : List ByteArray := if bookB b = true ∧ memS (nms b.bs) nm = true then pk (hbWt b (lowN (nms b.bs) nm)) (nms b.bs) b.bs.length else []

noncomputable def bS : Frame := base 15
noncomputable def ops7S : Array Oper := match B7S with | .seq (.region _ o _) _ => o | _ => #[]
noncomputable def condS : Code := match c1S with | .seq _ c => c | _ => .skip
noncomputable def B2S : Code := match B1S with | .seq _ c => c | _ => .skip

section
variable {X : Nat → Prop} {Shun : Loc → Prop} {c : Frame} {cs : List Frame}
theorem enterS (bv : Value) (nm : ByteArray) : Frame.enter Try.prog 15 #[bv, .string nm] .normal = bS.at ⟨slS bv nm, []⟩ [.code bodySW] := by
  simp [Frame.enter, Frame.at, Try.func15, bS, base, slS, bodySW, Try.f15]

set_option maxRecDepth 100000 in
theorem outS1 {T : Array Value} (hT : T.size = 24) (ht : T[10]? = some (.bool true)) (w : World) :
    Go.Conc.Goes Try.prog true AtRel (DE fun _ => False) (fun g w' => g = G (c.finish (.slice none 0 0)) cs ∧ AtRel w w') 20 (G (bS.at ⟨T, []⟩ [.code condS, .code B2S]) (c :: cs)) w := by
  obtain ⟨v0, v1, v2, v3, v4, v5, v6, v7, v8, v9, v10, v11, v12, v13, v14, v15, v16, v17, v18, v19, v20, v21, v22, v23, rfl⟩ := array24 T hT
  simp only [List.getElem?_toArray, List.getElem?_cons_succ, List.getElem?_cons_zero, Option.some.injEq] at ht
  subst ht
  simp only [condS, c1S, B2S, B1S, bodySW, Try.f15, Option.getD_some]
  have rl : ∀ {V w w₁ : World}, AtRel V w → AtRel w w₁ → AtRel V w₁ := fun h r => atRel_trans _ _ _ h r
  have hF : AtRel w w := atRel_refl w
  u_cond true rl hF
  u_c stepG_seq rl hF
  u_reg rl hF
  u_op rl hF
  u_c stepG_region_end rl hF
  u_c stepG_ret' rl hF
  u_in rl hF
  rw [stepG_leave (b := bS) rfl rfl Try.func15 (results_tmp rfl _ _ _) (events_results_tmp rfl _ _)]
  simp only [goes_go]
  refine ⟨by u_nil, ?_⟩
  exact Go.Conc.Goes.stop fun w₁ r => ⟨rfl, rl hF r⟩

set_option maxRecDepth 100000 in
theorem outS2 {T : Array Value} (hT : T.size = 24) (ht : T[6]? = some (.bool false)) (w : World) :
    Go.Conc.Goes Try.prog true AtRel (DE fun _ => False) (fun g w' => g = G (c.finish (.slice none 0 0)) cs ∧ AtRel w w') 20 (G (bS.at ⟨T, []⟩ [.code B4S]) (c :: cs)) w := by
  obtain ⟨v0, v1, v2, v3, v4, v5, v6, v7, v8, v9, v10, v11, v12, v13, v14, v15, v16, v17, v18, v19, v20, v21, v22, v23, rfl⟩ := array24 T hT
  simp only [List.getElem?_toArray, List.getElem?_cons_succ, List.getElem?_cons_zero, Option.some.injEq] at ht
  subst ht
  simp only [B4S, bodySW, Try.f15, Option.getD_some]
  have rl : ∀ {V w w₁ : World}, AtRel V w → AtRel w w₁ → AtRel V w₁ := fun h r => atRel_trans _ _ _ h r
  have hF : AtRel w w := atRel_refl w
  u_c stepG_seq rl hF
  u_c stepG_seq rl hF
  u_reg rl hF
  u_op rl hF
  u_op rl hF
  u_c stepG_region_end rl hF
  u_cond true rl hF
  u_c stepG_seq rl hF
  u_reg rl hF
  u_op rl hF
  u_c stepG_region_end rl hF
  u_c stepG_ret' rl hF
  u_in rl hF
  rw [stepG_leave (b := bS) rfl rfl Try.func15 (results_tmp rfl _ _ _) (events_results_tmp rfl _ _)]
  simp only [goes_go]
  refine ⟨by u_nil, ?_⟩
  exact Go.Conc.Goes.stop fun w₁ r => ⟨rfl, rl hF r⟩

theorem enterP (x y : Value) : Frame.enter Try.prog 24 #[x, y] .normal = bP.at ⟨#[x, y, undef, undef, undef, undef, undef, undef, undef, undef, undef, undef, undef, undef, undef, undef, undef, undef, undef, undef, undef, undef, undef, undef, undef, undef, undef, undef, undef, undef, undef, undef, undef, undef, undef, undef, undef, undef], []⟩ [.code bodyP] := by
  simp [Frame.enter, Frame.at, Try.func24, bP, base, bodyP, Try.f24]
def fvS (oB tB : Nat) : Value := .func (.func 32) #[] #[.pointer (some ⟨oB, 0, none⟩), .pointer (some ⟨tB, 0, none⟩)]

set_option maxRecDepth 100000 in
theorem intoS (hX : ShIn Shun X) {W : World} {oB tB tb : Nat} {T : Array Value} (hT : T.size = 24) (t5 : T[5]? = some (.pointer (some ⟨oB, 0, none⟩))) (t7 : T[7]? = some (.pointer (some ⟨tB, 0, none⟩))) {τ : Nat → Question → Nat} {d : Nat} (hc : (pzT X W τ d).cell? ⟨tB, 0, none⟩ = some (.pointer (some ⟨tb, 0, none⟩))) :
    Go.Conc.Goes Try.prog true AtRel (DE (EvL Shun W.heap.size)) (fun g w => (∃ T', T'.size = 24 ∧ g = G (Frame.enter Try.prog 24 #[.pointer (some ⟨tb, 0, none⟩), fvS oB tB] .normal) (bS.at ⟨T', []⟩ (.inRegion ops7S [2, 3] :: [.code .ret]) :: c :: cs)) ∧ AtRel W w) 20 (G (bS.at ⟨T, []⟩ [.code B7S]) (c :: cs)) W := by
  obtain ⟨hc, hx⟩ := pz_cell hc
  have hlt := World.block_lt_of_cell? W _ hc
  have hns : ¬ Shun (.cell ⟨tB, 0, none⟩) := fun h => by obtain ⟨a, e, ha⟩ := hX _ h; cases e; exact hx ha
  obtain ⟨v0, v1, v2, v3, v4, v5, v6, v7, v8, v9, v10, v11, v12, v13, v14, v15, v16, v17, v18, v19, v20, v21, v22, v23, rfl⟩ := array24 T hT
  simp only [List.getElem?_toArray, List.getElem?_cons_succ, List.getElem?_cons_zero, Option.some.injEq] at t5 t7
  subst t5 t7
  simp only [B7S, ops7S, bodySW, Try.f15, Option.getD_some]
  have rl : ∀ {V w w₁ : World}, AtRel V w → AtRel w w₁ → AtRel V w₁ := fun h r => atRel_trans _ _ _ h r
  have hF : AtRel W W := atRel_refl W
  u_c stepG_seq rl hF
  u_reg rl hF
  u_in rl hF
  refine goes_oper_k rfl rfl (by k_ne) (fun K hK => ?_)
  have hc' : (‹World›).cell? ⟨tB, 0, none⟩ = some (.pointer (some ⟨tb, 0, none⟩)) := by obtain ⟨d, rfl⟩ := hF; exact hc
  go_simp
  refine hK _ _ ⟨fun e he => ?_, ?_⟩
  · have hm := mem_listed he
    simp [go_sem, *] at hm
    subst hm
    exact evL_low hlt hns
  clear hK K hc'
  try walk_nrm
  u_op rl hF
  u_in rl hF
  refine goes_call rfl rfl (by k_ne) rfl Try.func24 (by kernel_rfl) rfl ⟨fun e he => by simp at he, ?_⟩
  walk_nrmf Try.f24
  refine Go.Conc.Goes.stop fun w₁ r => ⟨⟨#[v0, v1, v2, v3, v4, .pointer (some ⟨oB, 0, none⟩), v6, .pointer (some ⟨tB, 0, none⟩), v8, v9, v10, v11, v12, v13, v14, v15, v16, v17, v18, v19, v20, .pointer (some ⟨tb, 0, none⟩), fvS oB tB, v23], rfl, ?_⟩, rl hF r⟩
  rw [enterP]
  simp only [fvS, bodyP, Try.f24, Option.getD_some]
  rfl

set_option maxRecDepth 100000 in
theorem outS {T : Array Value} (hT : T.size = 24) (v : Value) (w : World) :
    Go.Conc.Goes Try.prog true AtRel (DE fun _ => False) (fun g w' => g = G (c.finish v) cs ∧ AtRel w w') 10 (G ((bS.at ⟨T, []⟩ (.inRegion ops7S [2, 3] :: [.code .ret])).finish v) (c :: cs)) w := by
  obtain ⟨v0, v1, v2, v3, v4, v5, v6, v7, v8, v9, v10, v11, v12, v13, v14, v15, v16, v17, v18, v19, v20, v21, v22, v23, rfl⟩ := array24 T hT
  rw [Frame.finish_at]
  simp only [ops7S, B7S, bodySW, Try.f15, Option.getD_some]
  have rl : ∀ {V w w₁ : World}, AtRel V w → AtRel w w₁ → AtRel V w₁ := fun h r => atRel_trans _ _ _ h r
  have hF : AtRel w w := atRel_refl w
  walk_nrm
  u_op rl hF
  u_c stepG_region_end rl hF
  u_c stepG_ret' rl hF
  u_in rl hF
  rw [stepG_leave (b := bS) rfl rfl Try.func15 (results_tmp rfl _ _ _) (events_results_tmp rfl _ _)]
  simp only [goes_go]
  refine ⟨by u_nil, ?_⟩
  exact Go.Conc.Goes.stop fun w₁ r => ⟨rfl, rl hF r⟩
end
end Go.Proofs.Ytmkpaciaollcbaa

/- The share's goroutines, 10: ShareWaits, by whatever road. -/
namespace Go.Proofs.Ytmkpaciaollcbaa
open Go.Conc Go.ConcN Go.RowKit Go.Conc.Lib Go.ConcR.Gen Go.ConcN.Gen
open Go.ConcR (KK wgBlock WgAt stA smA rd wr mk Payload DC0)

theorem ts0_names (bs : List Ba) : (ts0 bs bs.length).map (·.1.nm) = nms bs := by
  rw [ts0, List.take_length, List.map_map]; rfl
theorem ts0_get {bs : List Ba} {i : Nat} (h : i < bs.length) : (ts0 bs bs.length)[i]? = some (bs[i], false) := by
  rw [ts0, List.take_length, List.getElem?_map, List.getElem?_eq_getElem h]; rfl
theorem Held.imp {Q Q' : World → Prop} {u : World} (h : Held Q u) (k : ∀ u, Q u → Q' u) : Held Q' u := let ⟨u0, h1, h2⟩ := h; ⟨u0, k _ h1, h2⟩
theorem own_nil (u : World) (base : Nat) : OwnT u base (.slice none 0 0) [] := ⟨by simp, .inl ⟨rfl, rfl⟩⟩
theorem waits_no {b : Bk} {nm : ByteArray} (h : bookB b = false) : waitsL b nm = [] := by simp [waitsL, h]
theorem waits_lost {b : Bk} {nm : ByteArray} (h : memS (nms b.bs) nm = false) : waitsL b nm = [] := by simp [waitsL, h]
theorem atS_tl (b : Bk) (nm : ByteArray) (a : Act) : Tapeless (AtS b nm (fun _ => True) a) := fun _ _ _ h => h
theorem tab_tl (tb : Nat) (things : List ByteArray) (ts : List Tr) : Tapeless (fun u => Tab u tb things ts) := fun _ _ _ h => h
theorem body1 : bodySW = joinC [r0S] (.seq (.seq r1S condS) B2S) := by simp only [joinC, r0S, r1S, condS, c1S, B2S, B1S, bodySW, Try.f15, Option.getD_some]
theorem body2 : bodySW = joinC [r0S, c1S, r3S] B4S := by simp only [joinC, r0S, c1S, r3S, B4S, bodySW, Try.f15, Option.getD_some]
theorem body3 : bodySW = joinC [r0S, c1S, r3S, c4S, r6S] B7S := by simp only [joinC, r0S, c1S, r3S, c4S, r6S, B7S, bodySW, Try.f15, Option.getD_some]
theorem okS : ∀ r ∈ [r0S, r1S, c1S, r3S, c4S, r6S], codeOk Try.prog (fun g => fsW.contains g) r = true := by
  intro r hr
  simp only [List.mem_cons, List.not_mem_nil, or_false] at hr
  rcases hr with rfl | rfl | rfl | rfl | rfl | rfl <;> kernel_rfl
theorem frS : FrB Try.prog bS := ⟨rfl, _, Try.func15⟩

theorem waits_g {X : Nat → Prop} {Shun : Loc → Prop} {W : World} {b : Bk} {bv : Value} {nm : ByteArray} (hX : ShIn Shun X) (hbW : Base X W) (hB : ∀ τ d, BkV (pzT X W τ d) bv b) :
    GCalls Try.prog 15 #[bv, .string nm] X Shun W fun v u => OwnT u W.heap.size v (waitsL b nm) := by
  intro Post c cs gs sl t hh k
  rw [enterS] at hh
  have hR0 : ∀ τ d, Hid (∀ u, Below (pzT X W τ d).heap.size (pzT X W τ d) u → ∃ τ d, True ∧ Below W.heap.size (pzT X W τ d) u) := fun τ d u hu => ⟨τ, d, trivial, by rw [pz_size] at hu; exact hu⟩
  have fin : waitsL b nm = [] → ∀ gs w sl t, Here Try.prog Shun gs (G (c.finish (.slice none 0 0)) cs) t → Base X w → (∀ τ d, Held (fun u => ∃ τ d, True ∧ Below W.heap.size (pzT X W τ d) u) (pzT X w τ d)) → EndsG Try.prog Post (crowd gs w sl) t := fun hL gs w sl t h1 h2 h3 =>
    k X Shun gs w sl t _ hX (fun b hb => .inl hb) h1 h2 fun τ d => ⟨by rw [hL]; exact own_nil _ _, (below_held (Q := fun _ => True) (fun _ _ _ h => h) (h3 τ d)).2⟩
  cases hbk : bookB b with
  | false =>
    rw [body1] at hh
    refine ends_run hX hh (nest_in setW frS r1S condS B2S (okS _ (by simp)) [] (c :: cs) [r0S] (fun r hr => okS r (by simp at hr; simp [hr])) rfl hbW (fun τ d => held_of hbW (fun τ d => nestS_no b bv nm _ (hB τ d) hbk (hR0 τ d)) τ d)) fun gs1 a1 w1 sl1 t1 hh1 hst => ?_
    obtain ⟨a, rfl, hd, hb1, hQ⟩ := hst
    obtain ⟨u0, ⟨⟨T, rfl, hT, ht⟩, -⟩, -⟩ := hQ (fun _ _ => 0) 0
    refine ends_walk (D := DE fun _ => False) (B0 := 0) (fun _ _ _ h e he => (h e he).elim) hh1 (outS1 hT ht w1) fun gs2 a2 w2 sl2 t2 hh2 hst2 => ?_
    obtain ⟨rfl, d2, rfl⟩ := hst2
    exact fin (waits_no hbk) _ _ _ _ hh2 (hb1.at d2) fun τ d => (hQ τ d).imp fun u h => h.2
  | true =>
    have hok : BookOk b := pB_iff.1 hbk
    cases hm : memS (nms b.bs) nm with
    | false =>
      rw [body2] at hh
      refine ends_run hX hh (nest_run setW frS B4S [] (c :: cs) [r0S, c1S, r3S] (fun r hr => okS r (by simp at hr; rcases hr with rfl | rfl | rfl <;> simp)) rfl hbW (fun τ d => held_of hbW (fun τ d => nestS_lost b bv nm _ (hB τ d) hok hbk hm (hR0 τ d)) τ d)) fun gs1 a1 w1 sl1 t1 hh1 hst => ?_
      obtain ⟨a, rfl, hd, hb1, hQ⟩ := hst
      obtain ⟨u0, ⟨⟨T, rfl, hT, ht⟩, -⟩, -⟩ := hQ (fun _ _ => 0) 0
      refine ends_walk (D := DE fun _ => False) (B0 := 0) (fun _ _ _ h e he => (h e he).elim) hh1 (outS2 hT ht w1) fun gs2 a2 w2 sl2 t2 hh2 hst2 => ?_
      obtain ⟨rfl, d2, rfl⟩ := hst2
      exact fin (waits_lost hm) _ _ _ _ hh2 (hb1.at d2) fun τ d => (hQ τ d).imp fun u h => h.2
    | true =>
      rw [body3] at hh
      refine ends_run hX hh (nest_run setW frS B7S [] (c :: cs) [r0S, c1S, r3S, c4S, r6S] (fun r hr => okS r (by simp at hr; rcases hr with rfl | rfl | rfl | rfl | rfl <;> simp)) rfl hbW (fun τ d => held_of hbW (fun τ d => nestS_ok b bv nm _ (hB τ d) hok hbk hm (hR0 τ d)) τ d)) fun gs1 a1 w1 sl1 t1 hh1 hst => ?_
      obtain ⟨a, rfl, hd, hb1, hQ⟩ := hst
      have hbel : ∀ τ d, Below W.heap.size (pzT X W τ d) (pzT X w1 τ d) := fun τ d => (below_held (Q := fun _ => True) (fun _ _ _ h => h) ((hQ τ d).imp fun u h => let ⟨_, _, _, _, _, _, _, _, _, _, _, h⟩ := h; h)).2
      obtain ⟨T, oB, tB, tb, rfl, hT, t5, t7, c0, c1, hTab0, -⟩ := Held.out (atS_tl b nm a) ((hQ (fun _ _ => 0) 0).imp fun u h => let ⟨T, oB, tB, tb, h1, h2, h3, h4, h5, h6, h7, _⟩ := h; ⟨T, oB, tB, tb, h1, h2, h3, h4, h5, h6, h7, trivial⟩)
      have hTab : ∀ τ d, Tab (pzT X w1 τ d) tb b.things (ts0 b.bs b.bs.length) := fun τ d => tab_tl tb _ _ _ τ d hTab0
      refine ends_walk (D := DE (EvL Shun w1.heap.size)) (B0 := w1.heap.size) (fun _ _ _ h => h) hh1 (intoS hX hT t5 t7 c1) fun gs2 a2 w2 sl2 t2 hh2 hst2 => ?_
      obtain ⟨⟨T', hT', rfl⟩, d2, rfl⟩ := hst2
      have hlen : (ts0 b.bs b.bs.length).length = b.bs.length := ts0_length (Nat.le_refl _)
      have hon : lowN (nms b.bs) nm < b.bs.length := by rw [lowPl hok.2.2.2.1 hm]; exact (plN_lt hm).2
      have h5 : b.bs.length ≤ 5 := hok.2.1
      have hW : Asked Shun (w1.at d2) b.bs.length (hbWt b (lowN (nms b.bs) nm)) (fvS oB tB) := by
        obtain ⟨rv, hC, hown⟩ := hTab0
        rw [hlen] at hown
        obtain ⟨g, cap, rfl⟩ := own_ptr2 hown (by omega)
        have r := fun (i : Nat) (hi : i < b.bs.length) => row_cells (things := b.things) (ts := ts0 b.bs b.bs.length) (by rw [hlen]; exact hown) (ts0_get hi)
        have cc : ∀ {a : Addr} {v : Value}, (pzT X w1 (fun _ _ => 0) 0).cell? a = some v → (w1.at d2).cell? a = some v ∧ ¬ X a.block := fun h => pz_cell (W := w1.at d2) h
        have h3 : ∀ i, i < b.bs.length → (w1.at d2).cell? ⟨g, i * 4 + 1, none⟩ = some (.int .u64 (haW b i)) := fun i hi => by
          rw [(cc (r i hi).2.1).1, haW, List.getElem?_eq_getElem hi]; rfl
        have h4 : (w1.at d2).cell? ⟨g, lowN (nms b.bs) nm * 4 + 2, none⟩ = some (.int .u64 (neW b (lowN (nms b.bs) nm))) := by
          rw [(cc (r _ hon).2.2.1).1, neW, List.getElem?_eq_getElem hon]; rfl
        exact asked_waits hX (hb1.at d2) hon h5 (cc c0).1 (cc c0).2 (cc c1).1 (cc c1).2 (cc (hC.1 0 _ rfl)).1 (cc (hC.1 0 _ rfl)).2 (cc (r _ hon).2.1).2 h3 h4
      refine picked_g (f := 32) hX (hb1.at d2) (fun τ d => hTab τ d) (by rw [hlen]; exact h5) (hb := hbWt b (lowN (nms b.bs) nm)) (by rw [hlen]; exact hW) Post _ (c :: cs) gs2 sl2 t2 hh2 fun X' Shun' gs' w' sl' t' v hX' hW' hh' hb' hR' => ?_
      refine ends_walk (D := DE fun _ => False) (B0 := 0) (fun _ _ _ h e he => (h e he).elim) hh' (outS hT' v w') fun gs3 a3 w3 sl3 t3 hh3 hst3 => ?_
      obtain ⟨rfl, d3, rfl⟩ := hst3
      have hsz : W.heap.size ≤ w1.heap.size := by have := (hbel (fun _ _ => 0) 0).size; rwa [pz_size, pz_size] at this
      refine k X' Shun' gs3 _ sl3 t3 v hX' (fun b hb => (hW' b hb).imp id fun h => Nat.le_trans hsz h) hh3 (hb'.at d3) fun τ d => ?_
      obtain ⟨h1, h2⟩ := hR' τ d
      rw [ts0_names, hlen] at h1
      refine ⟨?_, (hbel τ d).trans (h2.mono hsz)⟩
      have : waitsL b nm = pk (hbWt b (lowN (nms b.bs) nm)) (nms b.bs) b.bs.length := by rw [waitsL, if_pos ⟨hbk, hm⟩]
      rw [this]
      exact own_low h1 hsz
end Go.Proofs.Ytmkpaciaollcbaa
