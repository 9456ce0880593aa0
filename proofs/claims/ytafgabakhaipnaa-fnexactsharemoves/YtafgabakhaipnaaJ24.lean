/- Workers who read, add to one sum and leave, 8: a worker's Done. -/
import Derived.Test.YtafgabakhaipnaaGw7
import Derived.Test.YtafgabakhaipnaaChecked
namespace Go.Proofs.Ytafgabakhaipnaa
open Go.Conc Go.ConcN Go.RowKit Go.Conc.Lib Go.ConcR.Gen Go.ConcN.Gen
open Go.ConcR (KK wgBlock WgAt stA smA rd wr mk Payload DC0)

theorem goes_inv {P : Program} {main : Bool} {R R' : World → World → Prop} {D D' : World → World → Array Event → Prop} {Stop Stop' : Goroutine → World → Prop} {I : World → Prop}
    (hR : ∀ w w', I w → R' w w' → R w w' ∧ I w') (hD : ∀ w w' es, I w → D w w' es → D' w w' es ∧ I w') (hS : ∀ g w, I w → Stop g w → Stop' g w) {n : Nat} :
    ∀ {g : Goroutine} {w : World}, I w → Goes P main R D Stop n g w → Goes P main R' D' Stop' n g w := by
  induction n with
  | zero => exact fun hi h w₁ h₁ => hS _ _ (hR _ _ hi h₁).2 (h w₁ (hR _ _ hi h₁).1)
  | succ n ih =>
    intro g w hi h
    rcases h with h | ⟨hs, h⟩
    · exact .inl fun w₁ h₁ => hS _ _ (hR _ _ hi h₁).2 (h w₁ (hR _ _ hi h₁).1)
    · refine .inr ⟨hs, fun w₁ h₁ => ?_⟩
      have h2 := h w₁ (hR _ _ hi h₁).1
      have h3 := (hR _ _ hi h₁).2
      revert h2
      cases stepG P main g w₁ <;> simp only [GStep.goes, imp_self]
      exact fun ⟨d, x⟩ => ⟨(hD _ _ _ h3 d).1, ih (hD _ _ _ h3 d).2 x⟩

theorem evK_of_evW {p : Ph} {M : Nat → Prop} {e : Event} (h : EvW p.Wg No No 1 e) : EvK p M e := by
  refine ⟨fun x hx => ?_, h.2⟩
  rcases (h.1 0 "").2 x hx with h1 | h1 | h1
  · exact .inl h1
  · exact h1.elim
  · exact h1.1.elim
theorem payAt_box {C : Nat} {w : World} {v : Value} (h : w.heap[C]? = some (.cells #[v] 3)) : PayAt C 1 w := ⟨#[v], h, rfl⟩

/-- The deferred Done, from its entry. -/
theorem doneK {L : WgLink} {p : Ph} (H : WgLib p.P L) (hty : p.ty = L.tWg) {i C : Nat} {v : Value} {M : Nat → Prop} (hC : M C) {c : Frame} {cs : List Frame} {qt : Nat} (hcm : c.mode = .returning) (hT : QuitsD p.P qt 0 (G c cs))
    (w : World) (hl : WgLive p.ty p.Wg w) (hv : w.heap[C]? = some (.cells #[v] 3)) :
    Wk p i C v 0 M 23 (G ((baseD L.done).at ⟨#[.pointer (some ⟨p.Wg, 0, none⟩), undef, undef, undef], []⟩ [.code (body_done L)]) (c :: cs)) w := by
  unfold Wk
  have hd := doneN (P := p.P) H (Own := No) (Rd := No) (Wg := p.Wg) (C := C) (n := 1) (Low := 0) (k := 1) (val := v) hcm hT w ⟨by rw [← hty]; exact hl, by show w.cell? ⟨C, 0, none⟩ = some v; simp [World.cell?, hv]⟩
  rw [← hty] at hd
  refine goes_inv (I := PayAt C 1) (fun w w' hi hr => ?_) (fun w w' es hi hD => ?_) (fun g w _ h => h) (payAt_box hv) hd
  · obtain ⟨cs, h1, h2⟩ := hi
    exact ⟨hr.rw hC, cs, (hr.own C hC).trans h1, h2⟩
  · obtain ⟨ha, he⟩ := hD
    have hp := ha.pay hi
    obtain ⟨cs, h1, h2⟩ := hp
    exact ⟨⟨⟨ha.tape, ha.os, ha.output, fun k => k.one ha.block h1, ha.size, fun b hb => ha.block b (fun e => hb (e ▸ hC))⟩, fun e hx => evK_of_evW (he e hx)⟩, cs, h1, h2⟩
end Go.Proofs.Ytafgabakhaipnaa

/- The share's goroutines, 0: the library's functions in this program. -/
namespace Go.Proofs.Ytafgabakhaipnaa
open Go.Conc Go.Conc.Lib

abbrev lnk : WgLink := { add := 45, done := 47, wait := 49, relMerge := 54, disable := 55, enable := 56, inBubble := 57, associate := 58, fatal := 59, uOr := 60, uAdd := 61, raceRead := 62, uLoad := 63, uStore := 64, disassociate := 65, semrelease := 66, acquire := 68, isAssociated := 69, uCas := 70, raceWrite := 71, semacquire := 72, orU64 := 75, addU64 := 76, loadU64 := 77, storeU64 := 78, casU64 := 79, tWgP := 96, tUP := 98, tAssoc := 99, tWg := 89, tAU := 87, tU64 := 85, tUint := 64, tU32 := 72, tPU32 := 103, tPAU := 115, tPU64 := 117, tNoCopy := 83, tANoCopy := 80, tAlign64 := 84 }
theorem wgl : WgLib Try.prog lnk :=
  ⟨Try.func45, Try.func47, Try.func49, Try.func54, Try.func55, Try.func56, Try.func57, Try.func58, Try.func59, Try.func60, Try.func61, Try.func62, Try.func63, Try.func64, Try.func65, Try.func66, Try.func68, Try.func69, Try.func70, Try.func71, Try.func72, Try.func75, Try.func76, Try.func77, Try.func78, Try.func79, Try.underlying96, Try.runUnderlying96, Try.sizeOf96, Try.isAgg96, Try.zeroValue96, Try.underlying98, Try.runUnderlying98, Try.sizeOf98, Try.isAgg98, Try.zeroValue98, Try.underlying99, Try.runUnderlying99, Try.sizeOf99, Try.isAgg99, Try.zeroValue99, Try.underlying89, Try.runUnderlying89, Try.sizeOf89, Try.isAgg89, Try.zeroValue89, Try.underlying87, Try.runUnderlying87, Try.sizeOf87, Try.isAgg87, Try.zeroValue87, Try.underlying85, Try.runUnderlying85, Try.sizeOf85, Try.isAgg85, Try.zeroValue85, Try.underlying64, Try.runUnderlying64, Try.sizeOf64, Try.isAgg64, Try.zeroValue64, Try.underlying72, Try.runUnderlying72, Try.sizeOf72, Try.isAgg72, Try.zeroValue72, Try.underlying103, Try.runUnderlying103, Try.sizeOf103, Try.isAgg103, Try.zeroValue103, Try.underlying115, Try.runUnderlying115, Try.sizeOf115, Try.isAgg115, Try.zeroValue115, Try.underlying117, Try.runUnderlying117, Try.sizeOf117, Try.isAgg117, Try.zeroValue117, Try.underlying0, Try.runUnderlying0, Try.sizeOf0, Try.isAgg0, Try.zeroValue0, Try.underlying3, Try.runUnderlying3, Try.sizeOf3, Try.isAgg3, Try.zeroValue3, Try.underlying4, Try.runUnderlying4, Try.sizeOf4, Try.isAgg4, Try.zeroValue4, Try.underlying9, Try.runUnderlying9, Try.sizeOf9, Try.isAgg9, Try.zeroValue9, Try.underlying20, Try.runUnderlying20, Try.sizeOf20, Try.isAgg20, Try.zeroValue20, Try.underlying21, Try.runUnderlying21, Try.sizeOf21, Try.isAgg21, Try.zeroValue21, (by kernel_rfl), (by kernel_rfl)⟩
end Go.Proofs.Ytafgabakhaipnaa
