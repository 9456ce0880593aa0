/- The share's goroutines, 11: a worker that asks whether a batch can. -/
import Derived.Test.YtafgabakhaipnaaJ42
namespace Go.Proofs.Ytafgabakhaipnaa
open Go.Conc Go.ConcN Go.RowKit Go.Conc.Lib Go.ConcR.Gen Go.ConcN.Gen
open Go.ConcR (KK wgBlock WgAt stA smA rd wr mk Payload DC0)

noncomputable def bC : Frame := base 22
noncomputable def bodyC : Code := Try.f22.body.getD .skip
noncomputable def ops1C : Array Oper := match bodyC with | .seq _ (.seq (.region _ o _) _) => o | _ => #[]
noncomputable def R2C : Code := match bodyC with | .seq _ (.seq _ r) => r | _ => .skip
def slC (tb g j n cap : Nat) (x5 x12 : Value) : Array Value := #[.pointer (some ⟨tb, 0, none⟩), .int .i64 j, undef, undef, .bool false, x5, .pointer (some ⟨tb, 0, none⟩), .pointer (some ⟨tb, 0, none⟩), .pointer (some ⟨tb, 0, none⟩), .slice (some ⟨g, 0, none⟩) n cap, .int .i64 j, .pointer (some ⟨g, j * 4, none⟩), x12, undef, undef, undef, undef, undef, undef, undef, undef, undef, undef, undef, undef, undef, undef, undef, undef]

section
variable {p : Ph} {W : World} {C hB i : Nat} {tb g n cap : Nat} {x0 x1 x2 x3 : Value}
set_option maxRecDepth 100000 in
set_option maxHeartbeats 1000000 in
/-- To its own block. -/
theorem intoC (o : p.Ok) (hCL : p.Low ≤ C) (hin : i < n) (hhB : LowA p ⟨hB, 0, none⟩) (hfv : W.cell? ⟨hB, 0, none⟩ = some (.func (.func 22) #[.pointer (some ⟨tb, 0, none⟩)] #[]))
    (h2 : LowA p ⟨tb, 0, none⟩) (c2 : W.cell? ⟨tb, 0, none⟩ = some (.slice (some ⟨g, 0, none⟩) n cap))
    (h3 : ∀ k, LowA p ⟨g, k, none⟩) (c30 : W.cell? ⟨g, i * 4, none⟩ = some x0) (c31 : W.cell? ⟨g, i * 4 + 1, none⟩ = some x1) (c32 : W.cell? ⟨g, i * 4 + 2, none⟩ = some x2) (c33 : W.cell? ⟨g, i * 4 + 3, none⟩ = some x3)
    {Stop : Goroutine → World → Prop} {m : Nat}
    (hnext : ∀ w, WKn p W C i w → Goes Try.prog false (RK p (One C)) (DK p (One C)) Stop m (G (bC.at ⟨slC tb g i n cap undef (.agg #[x0, x1, x2, x3]), []⟩ (.inRegion ops1C [7, 8] :: [.code R2C])) [bW.at ⟨slotsW p hB C i (.func (.func 22) #[.pointer (some ⟨tb, 0, none⟩)] #[]) undef, dsW p⟩ (.inRegion ops1W [2] :: [.code condW]), bot]) w)
    (w : World) (hF : WKn p W C i w) : Goes Try.prog false (RK p (One C)) (DK p (One C)) Stop (m + 23) (born Try.prog (callW p.Wg hB C p.S)) w := by
  have hC : One C C := rfl
  have hnS : ¬ p.Sh (.cell ⟨C, 0, none⟩) := fun h => by have := o.low h; simp at this; omega
  have hi0 : (0 : Int) ≤ (i : Int) := by omega
  have hi1 : (i : Int) < (n : Int) := by omega
  refine Goes.step rfl (fun _ h₁ => ?_); replace hF := rlW hC hF h₁; clear h₁
  rw [born_W]
  refine ⟨dk_idle _, ?_⟩
  simp only [slotsW, dsW, ops1W, condW, bodyW, Try.f46, Option.getD_some] at hnext ⊢
  refine Goes.step rfl (fun _ h₁ => ?_); replace hF := rlW hC hF h₁; clear h₁; rw [stepG_seq]; simp only [goes_go]; refine ⟨dk_idle _, ?_⟩
  refine Goes.step rfl (fun _ h₁ => ?_); replace hF := rlW hC hF h₁; clear h₁; rw [stepG_region]; simp only [goes_go, List.size_toArray, List.length_cons, List.length_nil, Nat.zero_add, List.range, List.range.loop]; refine ⟨dk_idle _, ?_⟩
  refine Goes.step rfl (fun _ h₁ => ?_); replace hF := rlW hC hF h₁; clear h₁
  rw [stepG_defer rfl rfl (by k_ne) rfl]
  simp only [goes_go]
  refine ⟨dk_idle _, ?_⟩
  walk_nrm
  refine Goes.step rfl (fun _ h₁ => ?_); replace hF := rlW hC hF h₁; clear h₁; rw [stepG_region_end]; simp only [goes_go]; refine ⟨dk_idle _, ?_⟩
  refine Goes.step rfl (fun _ h₁ => ?_); replace hF := rlW hC hF h₁; clear h₁; rw [stepG_seq]; simp only [goes_go]; refine ⟨dk_idle _, ?_⟩
  refine Goes.step rfl (fun _ h₁ => ?_); replace hF := rlW hC hF h₁; clear h₁; rw [stepG_region]; simp only [goes_go, List.size_toArray, List.length_cons, List.length_nil, Nat.reduceAdd, Nat.zero_add, List.range, List.range.loop]; refine ⟨dk_idle _, ?_⟩
  refine Goes.step rfl (fun _ h₁ => ?_); replace hF := rlW hC hF h₁; clear h₁
  refine goes_oper_k rfl rfl (by k_ne) (fun K hK => ?_)
  have hc := (hF.cell hhB).trans hfv
  go_simp
  refine hK _ _ ⟨⟨.refl _, fun e he => ?_⟩, ?_⟩
  · have hm := mem_listed he
    simp [go_sem, *] at hm
    subst hm
    exact evK_low hhB.lt hhB.sh
  clear hK K hc
  refine Goes.step rfl (fun _ h₁ => ?_); replace hF := rlW hC hF h₁; clear h₁
  refine goes_oper_k rfl rfl (by k_ne) (fun K hK => ?_)
  have hc := hF.tk.cell
  go_simp
  refine hK _ _ ⟨⟨.refl _, fun e he => ?_⟩, ?_⟩
  · have hm := mem_listed he
    simp [go_sem, *] at hm
    subst hm
    exact evK_own hC hnS
  clear hK K hc
  try walk_nrm
  refine goes_enterV (termsK p (One C)) (f := 22) (args := #[.pointer (some ⟨tb, 0, none⟩), .int .i64 i]) rfl rfl (by k_ne) (fun w => ?_) (fun w => ?_) Try.func22 rfl ?_
  · unfold execOp
    simp [resolve, Deferred.ofValue, invoke, callFunc, Act.eval, Try.func22, Try.f22]
  · unfold execOp
    simp [resolve, Deferred.ofValue, invoke, callFunc, Act.eval, Try.func22, Try.f22]
  simp only [slC, ops1C, R2C, bodyC, bC, Try.f22, Option.getD_some] at hnext ⊢
  walk_nrm
  refine Goes.step rfl (fun _ h₁ => ?_); replace hF := rlW hC hF h₁; clear h₁; rw [stepG_seq]; simp only [goes_go]; refine ⟨dk_idle _, ?_⟩
  refine Goes.step rfl (fun _ h₁ => ?_); replace hF := rlW hC hF h₁; clear h₁; rw [stepG_region]; simp only [goes_go, List.size_toArray, List.length_cons, List.length_nil, Nat.zero_add, List.range, List.range.loop]; refine ⟨dk_idle _, ?_⟩
  refine Goes.step rfl (fun _ h₁ => ?_); replace hF := rlW hC hF h₁; clear h₁; refine goes_oper_k rfl rfl (by k_ne) (fun K hK => ?_); go_simp; refine hK _ _ ⟨dk_none (by intro e he; have hm := mem_listed he; simp [go_sem, *] at hm), ?_⟩; clear hK K; try w_num
  refine Goes.step rfl (fun _ h₁ => ?_); replace hF := rlW hC hF h₁; clear h₁; rw [stepG_region_end]; simp only [goes_go]; refine ⟨dk_idle _, ?_⟩
  refine Goes.step rfl (fun _ h₁ => ?_); replace hF := rlW hC hF h₁; clear h₁; rw [stepG_seq]; simp only [goes_go]; refine ⟨dk_idle _, ?_⟩
  refine Goes.step rfl (fun _ h₁ => ?_); replace hF := rlW hC hF h₁; clear h₁; rw [stepG_region]; simp only [goes_go, List.size_toArray, List.length_cons, List.length_nil, Nat.reduceAdd, Nat.zero_add, List.range, List.range.loop]; refine ⟨dk_idle _, ?_⟩
  refine Goes.step rfl (fun _ h₁ => ?_); replace hF := rlW hC hF h₁; clear h₁; refine goes_oper_k rfl rfl (by k_ne) (fun K hK => ?_); go_simp; refine hK _ _ ⟨dk_none (by intro e he; have hm := mem_listed he; simp [go_sem, *] at hm), ?_⟩; clear hK K; try w_num
  refine Goes.step rfl (fun _ h₁ => ?_); replace hF := rlW hC hF h₁; clear h₁; refine goes_oper_k rfl rfl (by k_ne) (fun K hK => ?_); go_simp; refine hK _ _ ⟨dk_none (by intro e he; have hm := mem_listed he; simp [go_sem, *] at hm), ?_⟩; clear hK K; try w_num
  refine Goes.step rfl (fun _ h₁ => ?_); replace hF := rlW hC hF h₁; clear h₁; refine goes_oper_k rfl rfl (by k_ne) (fun K hK => ?_); go_simp; refine hK _ _ ⟨dk_none (by intro e he; have hm := mem_listed he; simp [go_sem, *] at hm), ?_⟩; clear hK K; try w_num
  refine Goes.step rfl (fun _ h₁ => ?_); replace hF := rlW hC hF h₁; clear h₁
  refine goes_oper_k rfl rfl (by k_ne) (fun K hK => ?_)
  have hc := (hF.cell h2).trans c2
  go_simp
  refine hK _ _ ⟨⟨.refl _, fun e he => ?_⟩, ?_⟩
  · have hm := mem_listed he
    simp [go_sem, *] at hm
    subst hm
    exact evK_low h2.lt h2.sh
  clear hK K hc
  try walk_nrm
  refine Goes.step rfl (fun _ h₁ => ?_); replace hF := rlW hC hF h₁; clear h₁; refine goes_oper_k rfl rfl (by k_ne) (fun K hK => ?_); go_simp; refine hK _ _ ⟨dk_none (by intro e he; have hm := mem_listed he; simp [go_sem, *] at hm), ?_⟩; clear hK K; try w_num
  refine Goes.step rfl (fun _ h₁ => ?_); replace hF := rlW hC hF h₁; clear h₁; refine goes_oper_k rfl rfl (by k_ne) (fun K hK => ?_); go_simp; refine hK _ _ ⟨dk_none (by intro e he; have hm := mem_listed he; simp [go_sem, *] at hm), ?_⟩; clear hK K; try w_num
  refine Goes.step rfl (fun _ h₁ => ?_); replace hF := rlW hC hF h₁; clear h₁
  refine goes_oper_k rfl rfl (by k_ne) (fun K hK => ?_)
  have d0 := (hF.cell (h3 (i * 4))).trans c30
  have d1 := (hF.cell (h3 (i * 4 + 1))).trans c31
  have d2 := (hF.cell (h3 (i * 4 + 2))).trans c32
  have d3 := (hF.cell (h3 (i * 4 + 3))).trans c33
  go_simp
  refine hK _ _ ⟨⟨.refl _, fun e he => ?_⟩, ?_⟩
  · have hm := mem_listed he
    simp [go_sem, *] at hm
    rcases hm with rfl | rfl | rfl | rfl <;> exact evK_low (h3 _).lt (h3 _).sh
  clear hK K d0 d1 d2 d3
  try walk_nrm
  exact hnext _ hF
end

/-- What it holds behind its own block. -/
structure WKr (p : Ph) (W : World) (C i b : Nat) (xs : Array Value) (w : World) : Prop where
  kn : WKn p W C i w
  row : w.heap[b]? = some (.cells xs 71)
theorem rlR {p : Ph} {W : World} {M : Nat → Prop} {C i b : Nat} {xs : Array Value} (hC : M C) (hb : M b) {w w₁ : World} (h : WKr p W C i b xs w) (r : RK p M w w₁) : WKr p W C i b xs w₁ := ⟨rlW hC h.kn r, (r.own b hb).trans h.row⟩
theorem WKr.cell {p : Ph} {W : World} {C i b k : Nat} {xs : Array Value} {v : Value} {w : World} (h : WKr p W C i b xs w) (hv : xs[k]? = some v) : w.cell? ⟨b, k, none⟩ = some v := by
  simp [World.cell?, h.row, hv]


section
variable {p : Ph} {W : World} {M : Nat → Prop} {C i b tb g n cap : Nat} {x0 : Value} {hb nb fb : Nat}
set_option maxRecDepth 100000 in
set_option maxHeartbeats 4000000 in
theorem canTail (o : p.Ok) (hC : M C) (hbM : M b) (hbL : p.Low ≤ b) (h1 : LowA p ⟨tb, 1, none⟩) (c1 : W.cell? ⟨tb, 1, none⟩ = some (.int .u64 fb)) (l1 : hb < 256) (l2 : fb < 256) (x12 : Value) :
    ∃ nf, ∀ w, WKr p W C i b #[x0, .int .u64 hb, .int .u64 nb, .bool false] w → R2C.wpC Try.prog false (RK p M) (DK p M) 22 nf (bodyPostC Try.prog Try.f22 fun v w' => v = .bool (bits .andNot .u64 (nb : Int) ((fb : Int) + (hb : Int)) == 0) ∧ WKr p W C i b #[x0, .int .u64 hb, .int .u64 nb, .bool false] w')
      ⟨slC tb g i n cap (.pointer (some ⟨b, 0, none⟩)) x12, []⟩ w := by
  have hns : ∀ k, ¬ p.Sh (.cell ⟨b, k, none⟩) := fun k h => by have := o.low h; simp at this; omega
  have hadd : IntKind.u64.wrap ((fb : Int) + (hb : Int)) = (fb : Int) + (hb : Int) := by rw [IntKind.wrap_u64]; omega
  simp only [R2C, slC, bodyC, Try.f22, Option.getD_some]
  co_apply Exists.intro
  intro w hF
  co_apply wpC_seq (termsK p M)
  co_held (termsK p M) (drawK p M) ownDrawK (WKr p W C i b #[x0, .int .u64 hb, .int .u64 nb, .bool false]) (rlR hC hbM) hF
  co_take 0 (termsK p M) (rlR hC hbM) hF hw (skip) (co_quiet (termsK p M))
  co_take 1 (termsK p M) (rlR hC hbM) hF hw (have hc := hw.cell (k := 3) (v := .bool false) rfl) (refine ⟨.refl _, ?_⟩; co_evs (exact evK_own hbM (hns _)))
  co_take 2 (termsK p M) (rlR hC hbM) hF hw (skip) (co_quiet (termsK p M))
  co_take 3 (termsK p M) (rlR hC hbM) hF hw (skip) (co_quiet (termsK p M))
  co_take 4 (termsK p M) (rlR hC hbM) hF hw (skip) (co_quiet (termsK p M))
  co_take 5 (termsK p M) (rlR hC hbM) hF hw (have hc := hw.cell (k := 2) (v := .int .u64 nb) rfl) (refine ⟨.refl _, ?_⟩; co_evs (exact evK_own hbM (hns _)))
  co_take 6 (termsK p M) (rlR hC hbM) hF hw (skip) (co_quiet (termsK p M))
  co_take 7 (termsK p M) (rlR hC hbM) hF hw (skip) (co_quiet (termsK p M))
  co_take 8 (termsK p M) (rlR hC hbM) hF hw (skip) (co_quiet (termsK p M))
  co_take 9 (termsK p M) (rlR hC hbM) hF hw (have hc := (hw.kn.cell h1).trans c1) (refine ⟨.refl _, ?_⟩; co_evs (exact evK_low (h1).lt (h1).sh))
  co_take 10 (termsK p M) (rlR hC hbM) hF hw (skip) (co_quiet (termsK p M))
  co_take 11 (termsK p M) (rlR hC hbM) hF hw (have hc := hw.cell (k := 1) (v := .int .u64 hb) rfl) (refine ⟨.refl _, ?_⟩; co_evs (exact evK_own hbM (hns _)))
  co_take 12 (termsK p M) (rlR hC hbM) hF hw (skip) (co_quiet (termsK p M))
  co_take 13 (termsK p M) (rlR hC hbM) hF hw (skip) (co_quiet (termsK p M))
  co_take 14 (termsK p M) (rlR hC hbM) hF hw (skip) (co_quiet (termsK p M))
  co_take 15 (termsK p M) (rlR hC hbM) hF hw (skip) (co_quiet (termsK p M))
  co_take 16 (termsK p M) (rlR hC hbM) hF hw (skip) (co_quiet (termsK p M))
  co_done
  co_ctl (termsK p M)
  exact ⟨rfl, _, resultsC_tmp (by rfl) _, by simp, hF⟩
end
end Go.Proofs.Ytafgabakhaipnaa
