/- The share's goroutines, 11: a worker that asks whether a batch can. -/
import Derived.Test.YtnojjmkmkelbgaaGreatJ34
namespace Go.Proofs.YtnojjmkmkelbgaaGreat
open Go.Conc Go.ConcN Go.RowKit Go.Conc.Lib Go.ConcR.Gen Go.ConcN.Gen
open Go.ConcR (KK wgBlock WgAt stA smA rd wr mk Payload DC0)

noncomputable def bC : Frame := base 21
noncomputable def bodyC : Code := Tryz.f21.body.getD .skip
noncomputable def ops1C : Array Oper := match bodyC with | .seq _ (.seq (.region _ o _) _) => o | _ => #[]
noncomputable def R2C : Code := match bodyC with | .seq _ (.seq _ r) => r | _ => .skip
def slC (tb g j n cap : Nat) (x5 x12 : Value) : Array Value := #[.pointer (some ⟨tb, 0, none⟩), .int .i64 j, undef, undef, .bool false, x5, .pointer (some ⟨tb, 0, none⟩), .pointer (some ⟨tb, 0, none⟩), .pointer (some ⟨tb, 0, none⟩), .slice (some ⟨g, 0, none⟩) n cap, .int .i64 j, .pointer (some ⟨g, j * 4, none⟩), x12, undef, undef, undef, undef, undef, undef, undef, undef, undef, undef, undef, undef, undef, undef, undef, undef]

section
variable {p : Ph} {W : World} {C hB i : Nat} {tb g n cap : Nat} {x0 x1 x2 x3 : Value}
set_option maxRecDepth 100000 in
set_option maxHeartbeats 1000000 in
/-- To its own block. -/
theorem intoC (o : p.Ok) (hCL : p.Low ≤ C) (hin : i < n) (hhB : LowA p ⟨hB, 0, none⟩) (hfv : W.cell? ⟨hB, 0, none⟩ = some (.func (.func 21) #[.pointer (some ⟨tb, 0, none⟩)] #[]))
    (h2 : LowA p ⟨tb, 0, none⟩) (c2 : W.cell? ⟨tb, 0, none⟩ = some (.slice (some ⟨g, 0, none⟩) n cap))
    (h3 : ∀ k, LowA p ⟨g, k, none⟩) (c30 : W.cell? ⟨g, i * 4, none⟩ = some x0) (c31 : W.cell? ⟨g, i * 4 + 1, none⟩ = some x1) (c32 : W.cell? ⟨g, i * 4 + 2, none⟩ = some x2) (c33 : W.cell? ⟨g, i * 4 + 3, none⟩ = some x3)
    {Stop : Goroutine → World → Prop} {m : Nat}
    (hnext : ∀ w, WKn p W C i w → Goes Tryz.prog false (RK p (One C)) (DK p (One C)) Stop m (G (bC.at ⟨slC tb g i n cap undef (.agg #[x0, x1, x2, x3]), []⟩ (.inRegion ops1C [7, 8] :: [.code R2C])) [bW.at ⟨slotsW p hB C i (.func (.func 21) #[.pointer (some ⟨tb, 0, none⟩)] #[]) undef, dsW p⟩ (.inRegion ops1W [2] :: [.code condW]), bot]) w)
    (w : World) (hF : WKn p W C i w) : Goes Tryz.prog false (RK p (One C)) (DK p (One C)) Stop (m + 23) (born Tryz.prog (callW p.Wg hB C p.S)) w := by
  have hC : One C C := rfl
  have hnS : ¬ p.Sh (.cell ⟨C, 0, none⟩) := fun h => by have := o.low h; simp at this; omega
  have hi0 : (0 : Int) ≤ (i : Int) := by omega
  have hi1 : (i : Int) < (n : Int) := by omega
  refine Goes.step rfl (fun _ h₁ => ?_); replace hF := rlW hC hF h₁; clear h₁
  rw [born_W]
  refine ⟨dk_idle _, ?_⟩
  simp only [slotsW, dsW, ops1W, condW, bodyW, Tryz.f57, Option.getD_some] at hnext ⊢
  refine Goes.step rfl (fun _ h₁ => ?_); replace hF := rlW hC hF h₁; clear h₁; rw [stepG_seq]; simp only [goes_go]; refine ⟨dk_idle _, ?_⟩
  refine Goes.step rfl (fun _ h₁ => ?_); replace hF := rlW hC hF h₁; clear h₁; rw [stepG_region]; simp only [goes_go, List.size_toArray, List.length_cons, List.length_nil, Nat.zero_add, List.range, List.range.loop]; refine ⟨dk_idle _, ?_⟩
  refine Goes.step rfl (fun _ h₁ => ?_); replace hF := rlW hC hF h₁; clear h₁
  rw [stepG_defer rfl rfl (by k_ne) rfl]
  simp only [goes_go]
  refine ⟨dk_idle _, ?_⟩
  walk_nrm
  refine Goes.step rfl (fun _ h₁ => ?_); replace hF := rlW hC hF h₁; clear h₁; rw [stepG_region_end]; simp only [goes_go]; refine ⟨dk_idle _, ?_⟩
  refine Goes.step rfl (fun _ h₁ => ?_); replace hF := rlW hC hF h₁; clear h₁; rw [stepG_seq]; simp only [goes_go]; refine ⟨dk_idle _, ?_⟩
  refine Goes.step rfl (fun _ h₁ => ?_); replace hF := rlW hC hF h₁; clear h₁; rw [stepG_region]; simp only [goes_go, List.size_toArray, List.length_cons, List.length_nil, Nat.reduceAdd, Nat.zero_add, List.range, List.range.loop]; refine ⟨dk_idle _, ?_⟩
  refine Goes.step rfl (fun _ h₁ => ?_); replace hF := rlW hC hF h₁; clear h₁
  refine goes_oper_k rfl rfl (by k_ne) (fun K hK => ?_)
  have hc := (hF.cell hhB).trans hfv
  go_simp
  refine hK _ _ ⟨⟨.refl _, fun e he => ?_⟩, ?_⟩
  · have hm := mem_listed he
    simp [go_sem, *] at hm
    subst hm
    exact evK_low hhB.lt hhB.sh
  clear hK K hc
  refine Goes.step rfl (fun _ h₁ => ?_); replace hF := rlW hC hF h₁; clear h₁
  refine goes_oper_k rfl rfl (by k_ne) (fun K hK => ?_)
  have hc := hF.tk.cell
  go_simp
  refine hK _ _ ⟨⟨.refl _, fun e he => ?_⟩, ?_⟩
  · have hm := mem_listed he
    simp [go_sem, *] at hm
    subst hm
    exact evK_own hC hnS
  clear hK K hc
  try walk_nrm
  refine goes_enterV (termsK p (One C)) (f := 21) (args := #[.pointer (some ⟨tb, 0, none⟩), .int .i64 i]) rfl rfl (by k_ne) (fun w => ?_) (fun w => ?_) Tryz.func21 rfl ?_
  · unfold execOp
    simp [resolve, Deferred.ofValue, invoke, callFunc, Act.eval, Tryz.func21, Tryz.f21]
  · unfold execOp
    simp [resolve, Deferred.ofValue, invoke, callFunc, Act.eval, Tryz.func21, Tryz.f21]
  simp only [slC, ops1C, R2C, bodyC, bC, Tryz.f21, Option.getD_some] at hnext ⊢
  walk_nrm
  refine Goes.step rfl (fun _ h₁ => ?_); replace hF := rlW hC hF h₁; clear h₁; rw [stepG_seq]; simp only [goes_go]; refine ⟨dk_idle _, ?_⟩
  refine Goes.step rfl (fun _ h₁ => ?_); replace hF := rlW hC hF h₁; clear h₁; rw [stepG_region]; simp only [goes_go, List.size_toArray, List.length_cons, List.length_nil, Nat.zero_add, List.range, List.range.loop]; refine ⟨dk_idle _, ?_⟩
  refine Goes.step rfl (fun _ h₁ => ?_); replace hF := rlW hC hF h₁; clear h₁; refine goes_oper_k rfl rfl (by k_ne) (fun K hK => ?_); go_simp; refine hK _ _ ⟨dk_none (by intro e he; have hm := mem_listed he; simp [go_sem, *] at hm), ?_⟩; clear hK K; try w_num
  refine Goes.step rfl (fun _ h₁ => ?_); replace hF := rlW hC hF h₁; clear h₁; rw [stepG_region_end]; simp only [goes_go]; refine ⟨dk_idle _, ?_⟩
  refine Goes.step rfl (fun _ h₁ => ?_); replace hF := rlW hC hF h₁; clear h₁; rw [stepG_seq]; simp only [goes_go]; refine ⟨dk_idle _, ?_⟩
  refine Goes.step rfl (fun _ h₁ => ?_); replace hF := rlW hC hF h₁; clear h₁; rw [stepG_region]; simp only [goes_go, List.size_toArray, List.length_cons, List.length_nil, Nat.reduceAdd, Nat.zero_add, List.range, List.range.loop]; refine ⟨dk_idle _, ?_⟩
  refine Goes.step rfl (fun _ h₁ => ?_); replace hF := rlW hC hF h₁; clear h₁; refine goes_oper_k rfl rfl (by k_ne) (fun K hK => ?_); go_simp; refine hK _ _ ⟨dk_none (by intro e he; have hm := mem_listed he; simp [go_sem, *] at hm), ?_⟩; clear hK K; try w_num
  refine Goes.step rfl (fun _ h₁ => ?_); replace hF := rlW hC hF h₁; clear h₁; refine goes_oper_k rfl rfl (by k_ne) (fun K hK => ?_); go_simp; refine hK _ _ ⟨dk_none (by intro e he; have hm := mem_listed he; simp [go_sem, *] at hm), ?_⟩; clear hK K; try w_num
  refine Goes.step rfl (fun _ h₁ => ?_); replace hF := rlW hC hF h₁; clear h₁; refine goes_oper_k rfl rfl (by k_ne) (fun K hK => ?_); go_simp; refine hK _ _ ⟨dk_none (by intro e he; have hm := mem_listed he; simp [go_sem, *] at hm), ?_⟩; clear hK K; try w_num
  refine Goes.step rfl (fun _ h₁ => ?_); replace hF := rlW hC hF h₁; clear h₁
  refine goes_oper_k rfl rfl (by k_ne) (fun K hK => ?_)
  have hc := (hF.cell h2).trans c2
  go_simp
  refine hK _ _ ⟨⟨.refl _, fun e he => ?_⟩, ?_⟩
  · have hm := mem_listed he
    simp [go_sem, *] at hm
    subst hm
    exact evK_low h2.lt h2.sh
  clear hK K hc
  try walk_nrm
  refine Goes.step rfl (fun _ h₁ => ?_); replace hF := rlW hC hF h₁; clear h₁; refine goes_oper_k rfl rfl (by k_ne) (fun K hK => ?_); go_simp; refine hK _ _ ⟨dk_none (by intro e he; have hm := mem_listed he; simp [go_sem, *] at hm), ?_⟩; clear hK K; try w_num
  refine Goes.step rfl (fun _ h₁ => ?_); replace hF := rlW hC hF h₁; clear h₁; refine goes_oper_k rfl rfl (by k_ne) (fun K hK => ?_); go_simp; refine hK _ _ ⟨dk_none (by intro e he; have hm := mem_listed he; simp [go_sem, *] at hm), ?_⟩; clear hK K; try w_num
  refine Goes.step rfl (fun _ h₁ => ?_); replace hF := rlW hC hF h₁; clear h₁
  refine goes_oper_k rfl rfl (by k_ne) (fun K hK => ?_)
  have d0 := (hF.cell (h3 (i * 4))).trans c30
  have d1 := (hF.cell (h3 (i * 4 + 1))).trans c31
  have d2 := (hF.cell (h3 (i * 4 + 2))).trans c32
  have d3 := (hF.cell (h3 (i * 4 + 3))).trans c33
  go_simp
  refine hK _ _ ⟨⟨.refl _, fun e he => ?_⟩, ?_⟩
  · have hm := mem_listed he
    simp [go_sem, *] at hm
    rcases hm with rfl | rfl | rfl | rfl <;> exact evK_low (h3 _).lt (h3 _).sh
  clear hK K d0 d1 d2 d3
  try walk_nrm
  exact hnext _ hF
end

/-- What it holds behind its own block. -/
structure WKr (p : Ph) (W : World) (C i b : Nat) (xs : Array Value) (w : World) : Prop where
  kn : WKn p W C i w
  row : w.heap[b]? = some (.cells xs 55)
theorem rlR {p : Ph} {W : World} {M : Nat → Prop} {C i b : Nat} {xs : Array Value} (hC : M C) (hb : M b) {w w₁ : World} (h : WKr p W C i b xs w) (r : RK p M w w₁) : WKr p W C i b xs w₁ := ⟨rlW hC h.kn r, (r.own b hb).trans h.row⟩
theorem WKr.cell {p : Ph} {W : World} {C i b k : Nat} {xs : Array Value} {v : Value} {w : World} (h : WKr p W C i b xs w) (hv : xs[k]? = some v) : w.cell? ⟨b, k, none⟩ = some v := by
  simp [World.cell?, h.row, hv]


section
variable {p : Ph} {W : World} {M : Nat → Prop} {C i b tb g n cap : Nat} {x0 : Value} {hb nb fb : Nat}
set_option maxRecDepth 100000 in
set_option maxHeartbeats 4000000 in
theorem canTail (o : p.Ok) (hC : M C) (hbM : M b) (hbL : p.Low ≤ b) (h1 : LowA p ⟨tb, 1, none⟩) (c1 : W.cell? ⟨tb, 1, none⟩ = some (.int .u64 fb)) (l1 : hb < 256) (l2 : fb < 256) (x12 : Value) :
    ∃ nf, ∀ w, WKr p W C i b #[x0, .int .u64 hb, .int .u64 nb, .bool false] w → R2C.wpC Tryz.prog false (RK p M) (DK p M) 21 nf (bodyPostC Tryz.prog Tryz.f21 fun v w' => v = .bool (bits .andNot .u64 (nb : Int) ((fb : Int) + (hb : Int)) == 0) ∧ WKr p W C i b #[x0, .int .u64 hb, .int .u64 nb, .bool false] w')
      ⟨slC tb g i n cap (.pointer (some ⟨b, 0, none⟩)) x12, []⟩ w := by
  have hns : ∀ k, ¬ p.Sh (.cell ⟨b, k, none⟩) := fun k h => by have := o.low h; simp at this; omega
  have hadd : IntKind.u64.wrap ((fb : Int) + (hb : Int)) = (fb : Int) + (hb : Int) := by rw [IntKind.wrap_u64]; omega
  simp only [R2C, slC, bodyC, Tryz.f21, Option.getD_some]
  co_apply Exists.intro
  intro w hF
  co_apply wpC_seq (termsK p M)
  co_held (termsK p M) (drawK p M) ownDrawK (WKr p W C i b #[x0, .int .u64 hb, .int .u64 nb, .bool false]) (rlR hC hbM) hF
  co_take 0 (termsK p M) (rlR hC hbM) hF hw (skip) (co_quiet (termsK p M))
  co_take 1 (termsK p M) (rlR hC hbM) hF hw (have hc := hw.cell (k := 3) (v := .bool false) rfl) (refine ⟨.refl _, ?_⟩; co_evs (exact evK_own hbM (hns _)))
  co_take 2 (termsK p M) (rlR hC hbM) hF hw (skip) (co_quiet (termsK p M))
  co_take 3 (termsK p M) (rlR hC hbM) hF hw (skip) (co_quiet (termsK p M))
  co_take 4 (termsK p M) (rlR hC hbM) hF hw (skip) (co_quiet (termsK p M))
  co_take 5 (termsK p M) (rlR hC hbM) hF hw (have hc := hw.cell (k := 2) (v := .int .u64 nb) rfl) (refine ⟨.refl _, ?_⟩; co_evs (exact evK_own hbM (hns _)))
  co_take 6 (termsK p M) (rlR hC hbM) hF hw (skip) (co_quiet (termsK p M))
  co_take 7 (termsK p M) (rlR hC hbM) hF hw (skip) (co_quiet (termsK p M))
  co_take 8 (termsK p M) (rlR hC hbM) hF hw (skip) (co_quiet (termsK p M))
  co_take 9 (termsK p M) (rlR hC hbM) hF hw (have hc := (hw.kn.cell h1).trans c1) (refine ⟨.refl _, ?_⟩; co_evs (exact evK_low (h1).lt (h1).sh))
  co_take 10 (termsK p M) (rlR hC hbM) hF hw (skip) (co_quiet (termsK p M))
  co_take 11 (termsK p M) (rlR hC hbM) hF hw (have hc := hw.cell (k := 1) (v := .int .u64 hb) rfl) (refine ⟨.refl _, ?_⟩; co_evs (exact evK_own hbM (hns _)))
  co_take 12 (termsK p M) (rlR hC hbM) hF hw (skip) (co_quiet (termsK p M))
  co_take 13 (termsK p M) (rlR hC hbM) hF hw (skip) (co_quiet (termsK p M))
  co_take 14 (termsK p M) (rlR hC hbM) hF hw (skip) (co_quiet (termsK p M))
  co_take 15 (termsK p M) (rlR hC hbM) hF hw (skip) (co_quiet (termsK p M))
  co_take 16 (termsK p M) (rlR hC hbM) hF hw (skip) (co_quiet (termsK p M))
  co_done
  co_ctl (termsK p M)
  exact ⟨rfl, _, resultsC_tmp (by rfl) _, by simp, hF⟩
end
end Go.Proofs.YtnojjmkmkelbgaaGreat

/- The share's goroutines, 12: whether a batch can, asked of each. -/
namespace Go.Proofs.YtnojjmkmkelbgaaGreat
open Go.Conc Go.ConcN Go.RowKit Go.Conc.Lib Go.ConcR.Gen Go.ConcN.Gen
open Go.ConcR (KK wgBlock WgAt stA smA rd wr mk Payload DC0)

/-- Through the rest of a function's text, out into the caller. -/
theorem goes_tailV {P : Program} {main : Bool} {R : World → World → Prop} {D : World → World → Array Event → Prop} (T : Terms R D) {b : Frame} {a : Act} {k : List Item} {cs : List Frame} {w : World} {ops : Array Oper} {i : Nat} {rest : List Nat} {o : Oper} {f : FuncId} {fn : Func} {c : Code} {a0 : Act}
    {nf m : Nat} {Post : Value → World → Prop} {Stop : Goroutine → World → Prop} (ho : ops[i]? = some o) (hf : P.funcs[f]? = some fn)
    (hwp : c.wpC P main R D f nf (bodyPostC P fn Post) a0 w)
    (hnext : ∀ v w', Post v w' → Goes P main R D Stop m (G (b.at (a.put o.dst v) (.inRegion ops rest :: k)) cs) w') :
    Goes P main R D Stop (m + 2 + nf) (G ((base f).at a0 [.code c]) (b.at a (.inRegion ops (i :: rest) :: k) :: cs)) w := by
  have hfin : ∀ v, (b.at a (.inRegion ops (i :: rest) :: k)).finish v = b.at (a.put o.dst v) (.inRegion ops rest :: k) := fun v => by rw [Frame.finish_at, ho]; rfl
  have hleave : ∀ (a' : Act) (w' : World) (todo : List Item), (a'.defers = [] ∧ ∃ v, ResultsC P fn a'.tmps v ∧ Post v w') →
      Goes P main R D Stop (m + 1) (G { (base f).at a' todo with mode := .returning } (b.at a (.inRegion ops (i :: rest) :: k) :: cs)) w' := by
    rintro a' w' todo ⟨hd, v, hr, hp⟩
    refine Goes.step rfl fun w₁ h₁ => ?_
    rw [stepG_leave (b := base f) rfl hd hf (hr w₁).1 (hr w₁).2, hfin]
    exact ⟨T.idle _, (hnext v w' hp).rely T.trans h₁⟩
  refine hwp (base f) [] _ Stop (m + 2) rfl (by simp [base]) fun e a' w' q => ?_
  cases e with
  | normal => exact Goes.step rfl fun w₁ h₁ => by rw [stepG_end]; exact ⟨T.idle _, (hleave a' w' [] q).rely T.trans h₁⟩
  | ret => exact fun todo => (hleave a' w' todo q).more
  | exit id => exact q.elim
  | goto l => exact q.elim
  | panic ch => exact q.elim
  | outgrown => exact q.elim

theorem events_strC (P : Program) (w : World) (es : Array Event) (a : Addr) (m : Mode) (s : ByteArray) : (store a (.string s) m).events P w es = storedEv P w es a (.string s) m := events_store P w es a _ m rfl
theorem events_boolC (P : Program) (w : World) (es : Array Event) (a : Addr) (m : Mode) (s : Bool) : (store a (.bool s) m).events P w es = storedEv P w es a (.bool s) m := events_store P w es a _ m rfl
theorem set_row {w : World} {b k : Nat} {xs : Array Value} {ty : TypeId} (h : w.heap[b]? = some (.cells xs ty)) (v : Value) : (w.setCell ⟨b, k, none⟩ v).heap[b]? = some (.cells (xs.setIfInBounds k v) ty) := by
  rw [setCell_eq_setRow w b k xs ty (0, 0) v h, setRow_heap w b xs _ ty _ h]
theorem owns_set {M : Nat → Prop} {b : Nat} (hb : M b) (w : World) (k : Nat) (v : Value) : Owns M w (w.setCell ⟨b, k, none⟩ v) := by
  have has := aside_setCell w ⟨b, k, none⟩ v
  exact ⟨has.tape, has.os, has.output, fun h => nv_set h _ _, has.size, fun c hc => has.block c fun e => hc (by rw [show c = b from e]; exact hb)⟩
theorem Owns.trans {M : Nat → Prop} {w w₁ w₂ : World} (h : Owns M w w₁) (h' : Owns M w₁ w₂) : Owns M w w₂ :=
  ⟨h'.tape.trans h.tape, h'.os.trans h.os, h'.output.trans h.output, h'.nv ∘ h.nv, h'.size.trans h.size, fun b hb => (h'.block b hb).trans (h.block b hb)⟩

def fvC (tb : Nat) : Value := .func (.func 21) #[.pointer (some ⟨tb, 0, none⟩)] #[]

theorem WKn.owns {p : Ph} {W w w' : World} {C i b : Nat} (h : WKn p W C i w) (o : p.Ok) (hb : p.Low ≤ b) (hC : C ≠ b) (r : Owns (One b) w w') : WKn p W C i w' := by
  have hS : p.S ≠ b := fun e => by have := o.s; omega
  have hW : p.Wg ≠ b := fun e => by have := o.wg; omega
  refine ⟨⟨?_, ?_, (r.block C hC).trans h.tk.box⟩, fun k h1 h2 h3 => (r.block k fun e => by have : k = b := e; omega).trans (h.low k h1 h2 h3)⟩
  · obtain ⟨s, m, hs⟩ := h.tk.live
    exact ⟨s, m, hs.of_block (r.block _ hW)⟩
  · obtain ⟨s, hs⟩ := h.tk.sum
    exact ⟨s, (r.block _ hS).trans hs⟩

section
variable {p : Ph} {W : World} {M : Nat → Prop} {C hB i b : Nat} {tb g n cap : Nat} {s0 : ByteArray} {hb nb fb : Nat}
set_option maxRecDepth 100000 in
set_option maxHeartbeats 1000000 in
/-- From its own block on. -/
theorem storeC (o : p.Ok) (hC : M C) (hbM : M b) (hbL : p.Low ≤ b) (hbC : C ≠ b) (h1 : LowA p ⟨tb, 1, none⟩) (c1 : W.cell? ⟨tb, 1, none⟩ = some (.int .u64 fb)) (l1 : hb < 256) (l2 : fb < 256) {Stop : Goroutine → World → Prop} {m : Nat}
    (hnext : ∀ w, WKn p W C i w → Goes Tryz.prog false (RK p M) (DK p M) Stop m (G (bW.at ⟨slotsW p hB C i (fvC tb) (.bool (bits .andNot .u64 (nb : Int) ((fb : Int) + (hb : Int)) == 0)), dsW p⟩ (.inRegion ops1W [] :: [.code condW])) [bot]) w) :
    ∃ mm, ∀ w, WKr p W C i b #[.string ⟨#[]⟩, .int .u64 0, .int .u64 0, .bool false] w → Goes Tryz.prog false (RK p M) (DK p M) Stop mm (G (bC.at ⟨slC tb g i n cap (.pointer (some ⟨b, 0, none⟩)) (.agg #[.string s0, .int .u64 hb, .int .u64 nb, .bool false]), []⟩ (.inRegion ops1C [8] :: [.code R2C])) [bW.at ⟨slotsW p hB C i (fvC tb) undef, dsW p⟩ (.inRegion ops1W [2] :: [.code condW]), bot]) w := by
  obtain ⟨nf, htail⟩ := canTail (p := p) (W := W) (M := M) (C := C) (i := i) (g := g) (n := n) (cap := cap) (x0 := .string s0) (nb := nb) o hC hbM hbL h1 c1 l1 l2 (.agg #[.string s0, .int .u64 hb, .int .u64 nb, .bool false])
  have hns : ∀ k, ¬ p.Sh (.cell ⟨b, k, none⟩) := fun k h => by have := o.low h; simp at this; omega
  refine ⟨m + 2 + nf + 2, fun w hF => ?_⟩
  simp only [slC, ops1C, bodyC, Tryz.f21, Option.getD_some] at htail ⊢
  refine Goes.step rfl (fun _ h₁ => ?_); replace hF := rlR hC hbM hF h₁; clear h₁
  refine goes_oper_k rfl rfl (by k_ne) (fun K hK => ?_)
  have d0 := hF.cell (k := 0) (v := .string ⟨#[]⟩) rfl
  have d1 := hF.cell (k := 1) (v := .int .u64 0) rfl
  have d2 := hF.cell (k := 2) (v := .int .u64 0) rfl
  have d3 := hF.cell (k := 3) (v := .bool false) rfl
  have t0 : ∀ k, (‹World›).frozen? ⟨b, k, none⟩ = false := fun k => by simp [World.frozen?, hF.row]
  go_simp
  have hO : Owns M ‹World› _ := (((owns_set hbM _ 0 (.string s0)).trans (owns_set hbM _ 1 (.int .u64 hb))).trans (owns_set hbM _ 2 (.int .u64 nb))).trans (owns_set hbM _ 3 (.bool false))
  have hO1 : Owns (One b) ‹World› _ := (((owns_set (M := One b) rfl _ 0 (.string s0)).trans (owns_set (M := One b) rfl _ 1 (.int .u64 hb))).trans (owns_set (M := One b) rfl _ 2 (.int .u64 nb))).trans (owns_set (M := One b) rfl _ 3 (.bool false))
  have hR := set_row (k := 3) (set_row (k := 2) (set_row (k := 1) (set_row (k := 0) hF.row (.string s0)) (.int .u64 hb)) (.int .u64 nb)) (.bool false)
  refine hK _ _ ⟨⟨hO, fun e he => ?_⟩, ?_⟩
  · have hm := mem_listed he
    simp [go_sem, events_strC, events_boolC, *] at hm
    rcases hm with rfl | rfl | rfl | rfl <;> exact evK_own hbM (hns _)
  clear hK K d0 d1 d2 d3 t0 hO
  have hF' := hF.kn.owns o hbL hbC hO1
  clear hF hO1
  have hF := WKr.mk hF' hR
  clear hF' hR
  generalize ((((‹World›).setCell ⟨b, 0, none⟩ (.string s0)).setCell ⟨b, 1, none⟩ (.int .u64 hb)).setCell ⟨b, 2, none⟩ (.int .u64 nb)).setCell ⟨b, 3, none⟩ (.bool false) = w₂ at hF
  have hF' : WKr p W C i b #[.string s0, .int .u64 hb, .int .u64 nb, .bool false] w₂ := hF
  clear hF
  have hF := hF'
  clear hF'
  refine Goes.step rfl (fun _ h₁ => ?_); replace hF := rlR hC hbM hF h₁; clear h₁
  rw [stepG_region_end]
  simp only [goes_go]
  refine ⟨dk_idle _, ?_⟩
  refine goes_tailV (termsK p M) (f := 21) (i := 2) (rest := []) rfl Tryz.func21 (htail _ hF) fun v w' hv => ?_
  obtain ⟨rfl, hw'⟩ := hv
  exact hnext _ hw'.kn
end

section
variable {X : Nat → Prop} {Shun : Loc → Prop} {W : World}
set_option maxRecDepth 100000 in
theorem asked_can (hX : ∀ l, Shun l → ∃ a, l = .cell a ∧ X a.block) (hbW : Base X W) {n tb g cap fb : Nat} {ha ne : Nat → Nat} (hn : n ≤ 5)
    (c2 : W.cell? ⟨tb, 0, none⟩ = some (.slice (some ⟨g, 0, none⟩) n cap)) (x2 : ¬ X tb) (c1 : W.cell? ⟨tb, 1, none⟩ = some (.int .u64 fb)) (x3 : ¬ X g) (l1 : ∀ j, ha j < 256) (l2 : fb < 256)
    (r0 : ∀ i, i < n → ∃ s, W.cell? ⟨g, i * 4, none⟩ = some (.string s)) (r1 : ∀ i, i < n → W.cell? ⟨g, i * 4 + 1, none⟩ = some (.int .u64 (ha i))) (r2 : ∀ i, i < n → W.cell? ⟨g, i * 4 + 2, none⟩ = some (.int .u64 (ne i))) (r3 : ∀ i, i < n → W.cell? ⟨g, i * 4 + 3, none⟩ = some (.bool false)) :
    Asked Shun W n (fun j => bits .andNot .u64 (ne j : Int) ((fb : Int) + (ha j : Int)) == 0) (fvC tb) := by
  intro p hp hty htS o hL hWg hS hSh hbit j hj C w hCL hW
  have lt : ∀ {a : Addr} {v : Value}, W.cell? a = some v → a.block < W.heap.size + 1 := fun {a v} hc => by have := World.block_lt_of_cell? W a hc; omega
  have L : ∀ {a : Addr} {v : Value}, W.cell? a = some v → ¬ X a.block → LowA p a := fun hc hx => low_a hX hL hWg hS hSh (lt hc) hx
  have hhB : LowA p ⟨W.heap.size, 0, none⟩ := low_a hX hL hWg hS hSh (Nat.lt_succ_self _) (fun h => Nat.lt_irrefl _ (hbW.old _ h))
  obtain ⟨s0, r0⟩ := r0 j hj
  have hg : g < W.heap.size + 1 := lt r0
  refine ⟨2, 0 + 23, Nat.le_refl _, fun h => by omega, ?_⟩
  unfold Wk
  rw [hp]
  refine intoC o hCL hj hhB vc_fv (L c2 x2) (vc_cell c2) (fun k => low_a (a := ⟨g, k, none⟩) hX hL hWg hS hSh hg x3) (vc_cell r0) (vc_cell (r1 j hj)) (vc_cell (r2 j hj)) (vc_cell (r3 j hj)) (fun w' hw' => ?_) w hW
  refine Goes.stop (fun w₁ r₁ => ?_)
  replace hw' := rlW (M := One C) rfl hw' r₁
  clear r₁
  have hlt : C < w₁.heap.size := by
    have := hw'.tk.box
    rw [Array.getElem?_eq_some_iff] at this
    exact this.1
  have hgr := grownS_alloc w₁ #[.string ⟨#[]⟩, .int .u64 0, .int .u64 0, .bool false] 55
  have hnew : (w₁.alloc (.cells #[.string ⟨#[]⟩, .int .u64 0, .int .u64 0, .bool false] 55)).heap[w₁.heap.size]? = some (.cells #[.string ⟨#[]⟩, .int .u64 0, .int .u64 0, .bool false] 55) := heap_alloc_new w₁ _
  simp only [slC, ops1C, bodyC, Tryz.f21, Option.getD_some]
  refine ⟨rfl, _, w₁.alloc (.cells #[.string ⟨#[]⟩, .int .u64 0, .int .u64 0, .bool false] 55), by rw [hp]; exact goes_eq (by
      refine goes_oper_k rfl rfl (by k_ne) (fun K hK => ?_)
      go_simp
      exact hK _ _ ⟨rfl, rfl, listed_nil (by simp [go_sem])⟩), hgr, ?_⟩
  have hsz : p.Low ≤ w₁.heap.size := by omega
  have hk : WKn p (VC W (fvC tb)) C j (w₁.alloc (.cells #[.string ⟨#[]⟩, .int .u64 0, .int .u64 0, .bool false] 55)) :=
    ⟨⟨(Turn.gr hgr o hsz).live hw'.tk.live, (Turn.gr hgr o hsz).sum hw'.tk.sum, (hgr.block C hlt).trans hw'.tk.box⟩, fun b h1 h2 h3 => (hgr.block b (by omega)).trans (hw'.low b h1 h2 h3)⟩
  have hr := WKr.mk hk hnew
  have hCb : C ≠ w₁.heap.size := by omega
  clear hk hnew hgr hw'
  generalize w₁.alloc (.cells #[.string ⟨#[]⟩, .int .u64 0, .int .u64 0, .bool false] 55) = w₂ at hr ⊢
  generalize w₁.heap.size = b at hr hsz hCb ⊢
  by_cases hy : (bits .andNot .u64 (ne j : Int) ((fb : Int) + (ha j : Int)) == 0) = true
  · have hb1 : p.bit j = 2 ^ j := by rw [hbit, if_pos hy]
    have hty' := fun w' (hw' : WKn p (VC W (fvC tb)) C j w') => tailYes (p := p) (M := fun x => One C x ∨ x = b) (C := C) (i := j) (hB := W.heap.size) hp hty htS o (.inl rfl) hCL (by omega) hb1 (fvC tb) w' hw'.tk
    unfold Wk at hty'
    simp only [hp] at hty'
    obtain ⟨mm, hst⟩ := storeC (p := p) (W := VC W (fvC tb)) (M := fun x => One C x ∨ x = b) (C := C) (i := j) (b := b) (g := g) (n := n) (cap := cap) (s0 := s0) (nb := ne j) o (.inl rfl) (.inr rfl) hsz hCb (L c1 x2) (vc_cell c1) (l1 j) l2 (m := 40) (fun w' hw' => by rw [hy]; exact hty' w' hw')
    refine ⟨mm, fun _ => ?_, fun h => absurd h (by rw [hb1]; exact Nat.ne_of_gt (Nat.two_pow_pos j))⟩
    unfold Wk
    rw [hp]
    exact hst _ hr
  · have hb0 : p.bit j = 0 := by rw [hbit, if_neg hy]
    rw [Bool.not_eq_true] at hy
    have hty' := fun w' (hw' : WKn p (VC W (fvC tb)) C j w') => tailNo (p := p) (M := fun x => One C x ∨ x = b) (C := C) (i := j) (hB := W.heap.size) hp hty (.inl rfl) (fvC tb) w' hw'.tk
    unfold Wk at hty'
    simp only [hp] at hty'
    obtain ⟨mm, hst⟩ := storeC (p := p) (W := VC W (fvC tb)) (M := fun x => One C x ∨ x = b) (C := C) (i := j) (b := b) (g := g) (n := n) (cap := cap) (s0 := s0) (nb := ne j) o (.inl rfl) (.inr rfl) hsz hCb (L c1 x2) (vc_cell c1) (l1 j) l2 (m := 28) (fun w' hw' => by rw [hy]; exact hty' w' hw')
    refine ⟨mm, fun h => absurd hb0 h, fun _ => ?_⟩
    unfold Wk
    rw [hp]
    exact hst _ hr
end
end Go.Proofs.YtnojjmkmkelbgaaGreat
