/- The share's goroutines, 3: on whom one waits, asked in company. -/
import Derived.Test.YtmkpaciaollcbaaSn2
namespace Go.Proofs.Ytmkpaciaollcbaa
open Go.Conc Go.ConcN Go.RowKit Go.Conc.Lib Go.ConcR.Gen Go.ConcN.Gen

section
variable {p : Ph} {W : World} {M : Nat → Prop} {C i own : Nat} {oB tB tb g n cap hb nb : Nat}
set_option maxRecDepth 100000 in
set_option maxHeartbeats 4000000 in
theorem waitsNo (hC : M C) (hi : i = own) (h0 : LowA p ⟨oB, 0, none⟩) (c0 : W.cell? ⟨oB, 0, none⟩ = some (.int .i64 own)) :
    ∃ nf, ∀ w, WKn p W C i w → CallsC Try.prog false (RK p M) (DK p M) 32 #[.int .i64 i, .pointer (some ⟨oB, 0, none⟩), .pointer (some ⟨tB, 0, none⟩)] nf w fun v w' => v = .bool false ∧ WKn p W C i w' := by
  subst hi
  co_apply Exists.intro
  intro w hF
  co_apply callsC_of_wpC Try.func32 (by rfl) rfl
  simp only [Try.ntmps32, List.size_toArray, List.length_cons, List.length_nil, Nat.reduceAdd, Nat.reduceSub, Array.replicate_succ, Array.replicate_zero, List.push_toArray, List.append_toArray, List.nil_append, List.cons_append]
  co_stmt (termsK p M) (rlW hC) hF (co_quiet (termsK p M))
  co_apply wpC_seq (termsK p M)
  co_held (termsK p M) (drawK p M) ownDrawK (WKn p W C i) (rlW hC) hF
  co_take 0 (termsK p M) (rlW hC) hF hw (skip) (co_quiet (termsK p M))
  co_take 1 (termsK p M) (rlW hC) hF hw (have hc := (hw.cell h0).trans c0) (refine ⟨.refl _, ?_⟩; co_evs (exact evK_low (h0).lt (h0).sh))
  co_take 2 (termsK p M) (rlW hC) hF hw (skip) (co_quiet (termsK p M))
  co_take 3 (termsK p M) (rlW hC) hF hw (skip) (co_quiet (termsK p M))
  co_applyP anyCH_take (termsK p M) (fun _ _ h r => rlW hC h r) (fun _ _ _ h r => wpC_rely (termsK p M) h r) (i := 4) rfl (by kernel_rfl) (by kernel_rfl) (by kernel_rfl) (.inr ⟨by rfl, rfl⟩) hF ?r4; try walk_nrm
  co_applyP anyCH_take (termsK p M) (fun _ _ h r => rlW hC h r) (fun _ _ _ h r => wpC_rely (termsK p M) h r) (i := 5) rfl (by kernel_rfl) (by kernel_rfl) (by kernel_rfl) (.inr ⟨by rfl, rfl⟩) hF ?r5; try walk_nrm
  co_applyP anyCH_take (termsK p M) (fun _ _ h r => rlW hC h r) (fun _ _ _ h r => wpC_rely (termsK p M) h r) (i := 6) rfl (by kernel_rfl) (by kernel_rfl) (by kernel_rfl) (.inr ⟨by rfl, rfl⟩) hF ?r6; try walk_nrm
  co_applyP anyCH_take (termsK p M) (fun _ _ h r => rlW hC h r) (fun _ _ _ h r => wpC_rely (termsK p M) h r) (i := 7) rfl (by kernel_rfl) (by kernel_rfl) (by kernel_rfl) (.inr ⟨by rfl, rfl⟩) hF ?r7; try walk_nrm
  co_applyP anyCH_take (termsK p M) (fun _ _ h r => rlW hC h r) (fun _ _ _ h r => wpC_rely (termsK p M) h r) (i := 8) rfl (by kernel_rfl) (by kernel_rfl) (by kernel_rfl) (.inr ⟨by rfl, rfl⟩) hF ?r8; try walk_nrm
  co_applyP anyCH_take (termsK p M) (fun _ _ h r => rlW hC h r) (fun _ _ _ h r => wpC_rely (termsK p M) h r) (i := 9) rfl (by kernel_rfl) (by kernel_rfl) (by kernel_rfl) (.inr ⟨by rfl, rfl⟩) hF ?r9; try walk_nrm
  co_applyP anyCH_take (termsK p M) (fun _ _ h r => rlW hC h r) (fun _ _ _ h r => wpC_rely (termsK p M) h r) (i := 10) rfl (by kernel_rfl) (by kernel_rfl) (by kernel_rfl) (.inr ⟨by rfl, rfl⟩) hF ?r10; try walk_nrm
  co_applyP anyCH_take (termsK p M) (fun _ _ h r => rlW hC h r) (fun _ _ _ h r => wpC_rely (termsK p M) h r) (i := 11) rfl (by kernel_rfl) (by kernel_rfl) (by kernel_rfl) (.inr ⟨by rfl, rfl⟩) hF ?r11; try walk_nrm
  co_applyP anyCH_take (termsK p M) (fun _ _ h r => rlW hC h r) (fun _ _ _ h r => wpC_rely (termsK p M) h r) (i := 12) rfl (by kernel_rfl) (by kernel_rfl) (by kernel_rfl) (.inr ⟨by rfl, rfl⟩) hF ?r12; try walk_nrm
  co_applyP anyCH_take (termsK p M) (fun _ _ h r => rlW hC h r) (fun _ _ _ h r => wpC_rely (termsK p M) h r) (i := 13) rfl (by kernel_rfl) (by kernel_rfl) (by kernel_rfl) (.inr ⟨by rfl, rfl⟩) hF ?r13; try walk_nrm
  co_applyP anyCH_take (termsK p M) (fun _ _ h r => rlW hC h r) (fun _ _ _ h r => wpC_rely (termsK p M) h r) (i := 14) rfl (by kernel_rfl) (by kernel_rfl) (by kernel_rfl) (.inr ⟨by rfl, rfl⟩) hF ?r14; try walk_nrm
  co_applyP anyCH_take (termsK p M) (fun _ _ h r => rlW hC h r) (fun _ _ _ h r => wpC_rely (termsK p M) h r) (i := 15) rfl (by kernel_rfl) (by kernel_rfl) (by kernel_rfl) (.inr ⟨by rfl, rfl⟩) hF ?r15; try walk_nrm
  co_applyP anyCH_take (termsK p M) (fun _ _ h r => rlW hC h r) (fun _ _ _ h r => wpC_rely (termsK p M) h r) (i := 16) rfl (by kernel_rfl) (by kernel_rfl) (by kernel_rfl) (.inr ⟨by rfl, rfl⟩) hF ?r16; try walk_nrm
  co_applyP anyCH_take (termsK p M) (fun _ _ h r => rlW hC h r) (fun _ _ _ h r => wpC_rely (termsK p M) h r) (i := 17) rfl (by kernel_rfl) (by kernel_rfl) (by kernel_rfl) (.inr ⟨by rfl, rfl⟩) hF ?r17; try walk_nrm
  co_applyP anyCH_take (termsK p M) (fun _ _ h r => rlW hC h r) (fun _ _ _ h r => wpC_rely (termsK p M) h r) (i := 18) rfl (by kernel_rfl) (by kernel_rfl) (by kernel_rfl) (.inr ⟨by rfl, rfl⟩) hF ?r18; try walk_nrm
  co_applyP anyCH_take (termsK p M) (fun _ _ h r => rlW hC h r) (fun _ _ _ h r => wpC_rely (termsK p M) h r) (i := 19) rfl (by kernel_rfl) (by kernel_rfl) (by kernel_rfl) (.inr ⟨by rfl, rfl⟩) hF ?r19; try walk_nrm
  co_applyP anyCH_take (termsK p M) (fun _ _ h r => rlW hC h r) (fun _ _ _ h r => wpC_rely (termsK p M) h r) (i := 20) rfl (by kernel_rfl) (by kernel_rfl) (by kernel_rfl) (.inr ⟨by rfl, rfl⟩) hF ?r20; try walk_nrm
  co_applyP anyCH_take (termsK p M) (fun _ _ h r => rlW hC h r) (fun _ _ _ h r => wpC_rely (termsK p M) h r) (i := 21) rfl (by kernel_rfl) (by kernel_rfl) (by kernel_rfl) (.inr ⟨by rfl, rfl⟩) hF ?r21; try walk_nrm
  co_take 22 (termsK p M) (rlW hC) hF hw (skip) (co_quiet (termsK p M))
  co_take 23 (termsK p M) (rlW hC) hF hw (skip) (co_quiet (termsK p M))
  co_done
  co_ctl (termsK p M)
  exact ⟨rfl, _, resultsC_tmp (by rfl) _, by simp, hF⟩

set_option maxRecDepth 100000 in
set_option maxHeartbeats 4000000 in
theorem waitsYes (hC : M C) (hi : i ≠ own) (hin : i < n) (hon : own < n) (h0 : LowA p ⟨oB, 0, none⟩) (c0 : W.cell? ⟨oB, 0, none⟩ = some (.int .i64 own)) (h1 : LowA p ⟨tB, 0, none⟩) (c1 : W.cell? ⟨tB, 0, none⟩ = some (.pointer (some ⟨tb, 0, none⟩)))
    (h2 : LowA p ⟨tb, 0, none⟩) (c2 : W.cell? ⟨tb, 0, none⟩ = some (.slice (some ⟨g, 0, none⟩) n cap)) (h3 : LowA p ⟨g, i * 4 + 1, none⟩) (c3 : W.cell? ⟨g, i * 4 + 1, none⟩ = some (.int .u64 hb)) (h4 : LowA p ⟨g, own * 4 + 2, none⟩) (c4 : W.cell? ⟨g, own * 4 + 2, none⟩ = some (.int .u64 nb)) :
    ∃ nf, ∀ w, WKn p W C i w → CallsC Try.prog false (RK p M) (DK p M) 32 #[.int .i64 i, .pointer (some ⟨oB, 0, none⟩), .pointer (some ⟨tB, 0, none⟩)] nf w fun v w' => v = .bool (bits .and .u64 (hb : Int) (nb : Int) != 0) ∧ WKn p W C i w' := by
  have hneb : ((i : Int) != (own : Int)) = true := by rw [bne_iff_ne]; omega
  have hi0 : (0 : Int) ≤ (i : Int) := by omega
  have hi1 : (i : Int) < (n : Int) := by omega
  have ho0 : (0 : Int) ≤ (own : Int) := by omega
  have ho1 : (own : Int) < (n : Int) := by omega
  co_apply Exists.intro
  intro w hF
  co_apply callsC_of_wpC Try.func32 (by rfl) rfl
  simp only [Try.ntmps32, List.size_toArray, List.length_cons, List.length_nil, Nat.reduceAdd, Nat.reduceSub, Array.replicate_succ, Array.replicate_zero, List.push_toArray, List.append_toArray, List.nil_append, List.cons_append]
  co_stmt (termsK p M) (rlW hC) hF (co_quiet (termsK p M))
  co_apply wpC_seq (termsK p M)
  co_held (termsK p M) (drawK p M) ownDrawK (WKn p W C i) (rlW hC) hF
  co_take 0 (termsK p M) (rlW hC) hF hw (skip) (co_quiet (termsK p M))
  co_take 1 (termsK p M) (rlW hC) hF hw (have hc := (hw.cell h0).trans c0) (refine ⟨.refl _, ?_⟩; co_evs (exact evK_low (h0).lt (h0).sh))
  co_take 2 (termsK p M) (rlW hC) hF hw (skip) (co_quiet (termsK p M))
  co_take 3 (termsK p M) (rlW hC) hF hw (skip) (co_quiet (termsK p M))
  co_take 4 (termsK p M) (rlW hC) hF hw (have hc := (hw.cell h1).trans c1) (refine ⟨.refl _, ?_⟩; co_evs (exact evK_low (h1).lt (h1).sh))
  co_take 5 (termsK p M) (rlW hC) hF hw (skip) (co_quiet (termsK p M))
  co_take 6 (termsK p M) (rlW hC) hF hw (skip) (co_quiet (termsK p M))
  co_take 7 (termsK p M) (rlW hC) hF hw (have hc := (hw.cell h2).trans c2) (refine ⟨.refl _, ?_⟩; co_evs (exact evK_low (h2).lt (h2).sh))
  co_take 8 (termsK p M) (rlW hC) hF hw (skip) (co_quiet (termsK p M))
  co_take 9 (termsK p M) (rlW hC) hF hw (skip) (co_still (termsK p M))
  co_take 10 (termsK p M) (rlW hC) hF hw (skip) (co_quiet (termsK p M))
  co_take 11 (termsK p M) (rlW hC) hF hw (have hc := (hw.cell h3).trans c3) (refine ⟨.refl _, ?_⟩; co_evs (exact evK_low (h3).lt (h3).sh))
  co_take 12 (termsK p M) (rlW hC) hF hw (have hc := (hw.cell h1).trans c1) (refine ⟨.refl _, ?_⟩; co_evs (exact evK_low (h1).lt (h1).sh))
  co_take 13 (termsK p M) (rlW hC) hF hw (skip) (co_quiet (termsK p M))
  co_take 14 (termsK p M) (rlW hC) hF hw (skip) (co_quiet (termsK p M))
  co_take 15 (termsK p M) (rlW hC) hF hw (have hc := (hw.cell h2).trans c2) (refine ⟨.refl _, ?_⟩; co_evs (exact evK_low (h2).lt (h2).sh))
  co_take 16 (termsK p M) (rlW hC) hF hw (have hc := (hw.cell h0).trans c0) (refine ⟨.refl _, ?_⟩; co_evs (exact evK_low (h0).lt (h0).sh))
  co_take 17 (termsK p M) (rlW hC) hF hw (skip) (co_still (termsK p M))
  co_take 18 (termsK p M) (rlW hC) hF hw (skip) (co_quiet (termsK p M))
  co_take 19 (termsK p M) (rlW hC) hF hw (have hc := (hw.cell h4).trans c4) (refine ⟨.refl _, ?_⟩; co_evs (exact evK_low (h4).lt (h4).sh))
  co_take 20 (termsK p M) (rlW hC) hF hw (skip) (co_quiet (termsK p M))
  co_take 21 (termsK p M) (rlW hC) hF hw (skip) (co_quiet (termsK p M))
  co_take 22 (termsK p M) (rlW hC) hF hw (skip) (co_quiet (termsK p M))
  co_take 23 (termsK p M) (rlW hC) hF hw (skip) (co_quiet (termsK p M))
  co_done
  co_ctl (termsK p M)
  exact ⟨rfl, _, resultsC_tmp (by rfl) _, by simp, hF⟩
end
end Go.Proofs.Ytmkpaciaollcbaa
