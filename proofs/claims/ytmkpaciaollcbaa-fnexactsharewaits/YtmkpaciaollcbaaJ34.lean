/- Runs carried over, 23: what is held of an emptied world; a call that goes. -/
import Derived.Below
import Derived.Test.YtmkpaciaollcbaaJ30
import Derived.Test.YtmkpaciaollcbaaJ0
import Derived.Test.YtmkpaciaollcbaaLawK
namespace Go.Proofs.Ytmkpaciaollcbaa
open Go.Conc Go.RowKit

section
variable {P : Program} {X : Nat → Prop}

theorem full_eq {u v : World} (h : Full (fun _ => False) u v) : v = { u with tape := v.tape, drawn := v.drawn } := by
  have h1 := (h 0).eq_pz
  have h2 : (pz (fun _ => False) u).heap = u.heap := by
    apply Array.ext_getElem?
    intro b
    rw [pz_get]
    cases u.heap[b]? with
    | none => rfl
    | some o => simp [pzObj]
  rw [h1]
  simp only [pzT]
  rw [World.mk.injEq]
  exact ⟨h2, rfl, rfl, rfl, rfl⟩
theorem pz_size (W : World) (τ : Nat → Question → Nat) (d : Nat) : (pzT X W τ d).heap.size = W.heap.size := by simp [pzT, pz]
theorem pz_cell {W : World} {τ : Nat → Question → Nat} {d : Nat} {a : Addr} {v : Value} (h : (pzT X W τ d).cell? a = some v) : W.cell? a = some v ∧ ¬ X a.block := by
  unfold World.cell? at h ⊢
  have e : (pzT X W τ d).heap[a.block]? = (W.heap[a.block]?).map (pzObj X a.block) := pz_get W a.block
  rw [e] at h
  by_cases hx : X a.block
  · cases ho : W.heap[a.block]? with
    | none => rw [ho] at h; simp at h
    | some o => rw [ho] at h; cases o <;> simp [pzObj, hx] at h
  · refine ⟨?_, hx⟩
    cases ho : W.heap[a.block]? with
    | none => rw [ho] at h; simp at h
    | some o => rw [ho] at h; simpa [pzObj, hx] using h

/-- Of no tape. -/
def Tapeless (Q : World → Prop) : Prop := ∀ u τ d, Q u → Q { u with tape := τ, drawn := d }
theorem Held.out {Q : World → Prop} (hQ : Tapeless Q) {u : World} (h : Held Q u) : Q u := by
  obtain ⟨u0, h1, h2⟩ := h
  rw [full_eq h2]
  exact hQ _ _ _ h1
theorem below_held {X' : Nat → Prop} {W w' : World} {B : Nat} {Q : World → Prop} (hQ : Tapeless Q) {τ : Nat → Question → Nat} {d : Nat} (h : Held (fun u => ∃ τ d, Q u ∧ Below B (pzT X W τ d) u) (pzT X' w' τ d)) : Q (pzT X' w' τ d) ∧ Below B (pzT X W τ d) (pzT X' w' τ d) := by
  obtain ⟨u0, ⟨τ0, d0, h1, h2⟩, h3⟩ := h
  have e := full_eq h3
  refine ⟨by rw [e]; exact hQ _ _ _ h1, ?_⟩
  have e1 : (pzT X' w' τ d).heap = u0.heap := by rw [e]
  have e2 : (pzT X' w' τ d).os = u0.os := by rw [e]
  have e3 : (pzT X' w' τ d).output = u0.output := by rw [e]
  exact ⟨e2.trans h2.os, rfl, e3.trans h2.output, by rw [e1]; exact h2.size, fun k hk => by rw [e1]; exact h2.block k hk⟩
theorem below_pz {X' : Nat → Prop} {W w' : World} {B : Nat} (os : w'.os = W.os) (out : w'.output = W.output) (size : W.heap.size ≤ w'.heap.size) (low : ∀ b, b < B → w'.heap[b]? = W.heap[b]?) (hX : ∀ b, b < B → (X' b ↔ X b)) (τ : Nat → Question → Nat) (d : Nat) : Below B (pzT X W τ d) (pzT X' w' τ d) := by
  refine ⟨os, rfl, out, by rw [pz_size, pz_size]; exact size, fun k hk => ?_⟩
  show (pz X' w').heap[k]? = (pz X W).heap[k]?
  rw [pz_get, pz_get, low k hk]
  cases W.heap[k]? with
  | none => rfl
  | some o =>
    by_cases h : X k
    · have h' := (hX k hk).2 h
      simp [pzObj, h, h']
    · have h' : ¬ X' k := mt (hX k hk).1 h
      simp [pzObj, h, h']

/-- Piece by piece. -/
theorem nest_k {r : Code} {l : List Code} {Q : Exit → Act → World → Prop} {a : Act} {w : World} (h : ∀ K : Act → World → Prop, (∀ a w, Nest P l Q a w → K a w) → r.wp P (Exit.then K Q) a w) : Nest P (r :: l) Q a w := h _ fun _ _ h => h
/-- Pieces, the last of them one within. -/
theorem nest_in {s : Nat → Bool} (S : SetOk P s) {b : Frame} (hb : FrB P b) {Q : Act → World → Prop} (r c B : Code) (hr : codeOk P s r = true) (k : List Item) (bw : List Frame) : ∀ (l : List Code), (∀ r ∈ l, codeOk P s r = true) → ∀ {a : Act} {w : World}, a.defers = [] → Base X w →
    (∀ τ d, Held (Nest P (l ++ [r]) (fun e a' u' => e = .normal ∧ Q a' u') a) (pzT X w τ d)) →
    Run P X (Stands X b (.code c :: .code B :: k) bw Q) (G (b.at a (.code (joinC l (.seq (.seq r c) B)) :: k)) bw) w
  | [], _, a, w, hd, hw, h => by
    refine .one rfl (fun x => stepG_seq) (.one rfl (fun x => stepG_seq) ?_)
    refine piece_run S hr hb hd hw (fun τ d => ?_) (.code c :: .code B :: k) bw
    obtain ⟨u0, h1, h2⟩ := h τ d
    exact ⟨u0, wp_mono h1 (fun e a' u' hq => by
      cases e with
      | normal => exact hq
      | _ => exact absurd hq.1 (by simp)), h2⟩
  | r' :: l, hl, a, w, hd, hw, h => by
    refine .one rfl (fun x => stepG_seq) ?_
    refine (piece_run S (hl r' (by simp)) hb hd hw (Q := fun a' u => Nest P (l ++ [r]) (fun e a' u' => e = .normal ∧ Q a' u') a' u) (fun τ d => ?_) (.code (joinC l (.seq (.seq r c) B)) :: k) bw).bind fun g w' ⟨a', h1, h2, h3, h4⟩ => ?_
    · obtain ⟨u0, h1, h2⟩ := h τ d
      exact ⟨u0, wp_mono h1 (fun e a' u' hq => by
        cases e with
        | normal => exact ⟨rfl, hq⟩
        | _ => exact absurd hq.1 (by simp)), h2⟩
    · subst h1
      exact nest_in S hb r c B hr k bw l (fun r hr => hl r (by simp [hr])) h2 h3 h4
/-- Normally, and so that it holds. -/
def Only (Q : Act → World → Prop) : Exit → Act → World → Prop
  | .normal, a, u => Q a u
  | _, _, _ => False
theorem nest_only {Q : Act → World → Prop} : ∀ {l : List Code} {a : Act} {w : World}, Nest P l (Only Q) a w → Nest P l (fun e a u => e = .normal ∧ Q a u) a w
  | [], _, _, h => ⟨rfl, h⟩
  | _ :: _, _, _, h => wp_mono h fun e _ _ hq => by
    cases e with
    | normal => exact nest_only hq
    | _ => exact hq.elim
/-- Who is shunned lies in the emptied blocks. -/
def ShIn (Shun : Loc → Prop) (X : Nat → Prop) : Prop := ∀ l, Shun l → ∃ a, l = .cell a ∧ X a.block
/-- A call that may go, in an emptied world W: its answer, what is held behind it; what lies low stays. -/
def GCalls (P : Program) (f : FuncId) (args : Array Value) (X : Nat → Prop) (Shun : Loc → Prop) (W : World) (R : Value → World → Prop) : Prop :=
  ∀ (Post : Value → World → Prop) (c : Frame) (cs : List Frame) (gs : Array Goroutine) (sl : Option (Nat × Nat)) (t : Trace), Here P Shun gs (G (Frame.enter P f args .normal) (c :: cs)) t →
    (∀ X' Shun' gs' w' sl' t' v, ShIn Shun' X' → (∀ b, X' b → X b ∨ W.heap.size ≤ b) → Here P Shun' gs' (G (c.finish v) cs) t' → Base X' w' → (∀ τ d, R v (pzT X' w' τ d) ∧ Below W.heap.size (pzT X W τ d) (pzT X' w' τ d)) → EndsG P Post (crowd gs' w' sl') t') →
    EndsG P Post (crowd gs W sl) t
end
end Go.Proofs.Ytmkpaciaollcbaa

/- Functions that end with a struct in their result's block. -/
namespace Go.Proofs.Ytmkpaciaollcbaa
open Go.RowKit
/-- A function that ends so, with a struct of three (two; three and a second result) in its result's block, stored whole. -/
theorem end_cb3 {P : Program} {fn : Func} {q : Tmp} {T : TypeId} (h : fn.results = #[.cell q T]) {d : TypeDesc} (hu : P.underlying T = some d) (hd : d.isRow = true) (hi : (P.info? T).map (·.size) = some 3) {R : Ending → World → Prop} {tmps : Array Value} {w : World} {rk : Nat} {y0 y1 y2 x0 x1 x2 : Value}
    (k : CB w rk [y0, y1, y2]) (ht : tmps.getD q undef = .pointer (some ⟨rk, 0, none⟩)) (hR : R (.returned (.agg #[x0, x1, x2])) (((w.setCell ⟨rk, 0, none⟩ x0).setCell ⟨rk, 1, none⟩ x1).setCell ⟨rk, 2, none⟩ x2)) :
    bodyPost P fn R .ret { tmps := tmps, defers := [] } (((w.setCell ⟨rk, 0, none⟩ x0).setCell ⟨rk, 1, none⟩ x1).setCell ⟨rk, 2, none⟩ x2) :=
  bodyPost_ret (ret_cb (cs := [x0, x1, x2]) h hu hd hi ht (k.copy3 x0 x1 x2)) rfl hR
theorem end_cb2 {P : Program} {fn : Func} {q : Tmp} {T : TypeId} (h : fn.results = #[.cell q T]) {d : TypeDesc} (hu : P.underlying T = some d) (hd : d.isRow = true) (hi : (P.info? T).map (·.size) = some 2) {R : Ending → World → Prop} {tmps : Array Value} {w : World} {rk : Nat} {y0 y1 x0 x1 : Value}
    (k : CB w rk [y0, y1]) (ht : tmps.getD q undef = .pointer (some ⟨rk, 0, none⟩)) (hR : R (.returned (.agg #[x0, x1])) ((w.setCell ⟨rk, 0, none⟩ x0).setCell ⟨rk, 1, none⟩ x1)) :
    bodyPost P fn R .ret { tmps := tmps, defers := [] } ((w.setCell ⟨rk, 0, none⟩ x0).setCell ⟨rk, 1, none⟩ x1) :=
  bodyPost_ret (ret_cb (cs := [x0, x1]) h hu hd hi ht (k.copy2 x0 x1)) rfl hR
theorem end_cb3b {P : Program} {fn : Func} {q q2 : Tmp} {T : TypeId} (h : fn.results = #[.cell q T, .tmp q2]) {d : TypeDesc} (hu : P.underlying T = some d) (hd : d.isRow = true) (hi : (P.info? T).map (·.size) = some 3) {R : Ending → World → Prop} {tmps : Array Value} {w : World} {rk : Nat} {y0 y1 y2 x0 x1 x2 v : Value}
    (k : CB w rk [y0, y1, y2]) (ht : tmps.getD q undef = .pointer (some ⟨rk, 0, none⟩)) (hv : tmps.getD q2 undef = v) (hR : R (.returned (.tuple #[.agg #[x0, x1, x2], v])) (((w.setCell ⟨rk, 0, none⟩ x0).setCell ⟨rk, 1, none⟩ x1).setCell ⟨rk, 2, none⟩ x2)) :
    bodyPost P fn R .ret { tmps := tmps, defers := [] } (((w.setCell ⟨rk, 0, none⟩ x0).setCell ⟨rk, 1, none⟩ x1).setCell ⟨rk, 2, none⟩ x2) :=
  bodyPost_ret (ret_cb2 (cs := [x0, x1, x2]) h hu hd hi ht hv (k.copy3 x0 x1 x2)) rfl hR
end Go.Proofs.Ytmkpaciaollcbaa

/- The laws' copies of lists of texts and books. -/
namespace Go.Proofs.Ytmkpaciaollcbaa
open Go.RowKit

theorem sizeBat : (Try.prog.info? 43).map (·.size) = some 3 := by kernel_rfl
theorem sizeBk : (Try.prog.info? 30).map (·.size) = some 2 := by kernel_rfl

set_option maxHeartbeats 1000000 in
theorem toBatch_any (x : Ba) (hv nv : Value) (w : World) (h1 : Ls w hv x.has) (h2 : Ls w nv x.needs) (hn : x.has.length ≤ 1048576) (hn2 : x.needs.length ≤ 1048576) :
    Calls Try.prog 38 #[.agg #[.string x.nm, hv, nv]] w fun e w' => (∃ hu nu, e = .returned (.agg #[.string x.nm, hu, nu]) ∧ LsO w' w.heap.size hu x.has ∧ LsO w' w.heap.size nu x.needs) ∧ Below w.heap.size w w' := by
  obtain ⟨a1, c1, rfl, -⟩ := id h1
  obtain ⟨a2, c2, rfl, -⟩ := id h2
  go_enter Try.func38, Try.ntmps38
  go_upto_region 2 with fail
  obtain ⟨W1, hW1, kP, kR, kO, hB1, hs1⟩ : ∃ W1, ((w.alloc (.cells #[.string x.nm, .slice a1 x.has.length c1, .slice a2 x.needs.length c2] 64)).alloc (.cells #[.string ⟨#[]⟩, .slice none 0 0, .slice none 0 0] 43)).alloc (.cells #[.string ⟨#[]⟩, .slice none 0 0, .slice none 0 0] 43) = W1 ∧ CB W1 w.heap.size [.string x.nm, .slice a1 x.has.length c1, .slice a2 x.needs.length c2] ∧ CB W1 (w.heap.size + 1) [.string ⟨#[]⟩, .slice none 0 0, .slice none 0 0] ∧ CB W1 (w.heap.size + 2) [.string ⟨#[]⟩, .slice none 0 0, .slice none 0 0] ∧ Below w.heap.size w W1 ∧ W1.heap.size = w.heap.size + 3 := ⟨_, rfl, cb3 w _ _ _ _ _ _⟩
  rw [hW1]
  clear hW1
  obtain ⟨W2, hW2, kP2, kR2, kO2, hB2, hs2⟩ : ∃ W2, W1.setCell ⟨w.heap.size + 2, 0, none⟩ (.string x.nm) = W2 ∧ CB W2 w.heap.size [.string x.nm, .slice a1 x.has.length c1, .slice a2 x.needs.length c2] ∧ CB W2 (w.heap.size + 1) [.string ⟨#[]⟩, .slice none 0 0, .slice none 0 0] ∧ CB W2 (w.heap.size + 2) [.string x.nm, .slice none 0 0, .slice none 0 0] ∧ Below w.heap.size w W2 ∧ W2.heap.size = w.heap.size + 3 := ⟨_, rfl, kP.other (by omega), kR.other (by omega), kO.set (j := 0) (by simp), below_set1 hB1 (by omega) _, by simpa using hs1⟩
  obtain ⟨⟨p0, p1, p2⟩, -⟩ := kP.c3
  obtain ⟨⟨o0, o1, o2⟩, f0, f1, f2⟩ := kO.c3
  go_upto_region 3 with fail
  try rw [hW2]
  clear hW2 p0 p1 p2 o0 o1 o2 f0 f1 f2 kP kR kO hB1 hs1
  obtain ⟨⟨p0, p1, p2⟩, -⟩ := kP2.c3
  go_wp2_with fail
  refine (toStr_any x.has _ _ (h1.up hB2) hn).mono ?_
  rintro e w3 ⟨⟨hu, rfl, ho1⟩, hb3⟩
  rw [hs2] at ho1
  have hz3 := hb3.size
  have kP3 := kP2.up hb3 (by omega)
  have kR3 := kR2.up hb3 (by omega)
  have kO3 := kO2.up hb3 (by omega)
  have hB3 := up_trans hB2 hb3
  obtain ⟨b1, hb1⟩ := ho1.shape
  subst hb1
  clear p0 p1 p2 kP2 kR2 kO2 hB2 hb3
  obtain ⟨W4, hW4, kP4, kR4, kO4, ho4, hB4, hs4⟩ : ∃ W4, w3.setCell ⟨w.heap.size + 2, 1, none⟩ (.slice (some ⟨b1, 0, none⟩) x.has.length x.has.length) = W4 ∧ CB W4 w.heap.size [.string x.nm, .slice a1 x.has.length c1, .slice a2 x.needs.length c2] ∧ CB W4 (w.heap.size + 1) [.string ⟨#[]⟩, .slice none 0 0, .slice none 0 0] ∧ CB W4 (w.heap.size + 2) [.string x.nm, .slice (some ⟨b1, 0, none⟩) x.has.length x.has.length, .slice none 0 0] ∧ LsO W4 (w.heap.size + 3) (.slice (some ⟨b1, 0, none⟩) x.has.length x.has.length) x.has ∧ Below w.heap.size w W4 ∧ W4.heap.size = w3.heap.size := ⟨_, rfl, kP3.other (by omega), kR3.other (by omega), kO3.set (j := 1) (by simp), ho1.set (by omega), below_set1 hB3 (by omega) _, by simp⟩
  obtain ⟨⟨o0, o1, o2⟩, f0, f1, f2⟩ := kO3.c3
  go_upto_region 4 with fail
  try rw [hW4]
  clear hW4 o0 o1 o2 f0 f1 f2 kP3 kR3 kO3 ho1 hB3
  obtain ⟨⟨p0, p1, p2⟩, -⟩ := kP4.c3
  go_wp2_with fail
  refine (toStr_any x.needs _ _ (h2.up hB4) hn2).mono ?_
  rintro e w5 ⟨⟨nu, rfl, ho2⟩, hb5⟩
  have hz5 := hb5.size
  have kR5 := kR4.up hb5 (by omega)
  have kO5 := kO4.up hb5 (by omega)
  have ho5 := ho4.up hb5
  have ho6 := ho2.low (base' := w.heap.size + 3) (by omega)
  have hB5 := up_trans hB4 hb5
  obtain ⟨b2, hb2⟩ := ho2.shape
  subst hb2
  clear p0 p1 p2 kP4 kR4 kO4 hB4 hb5 ho4 ho2
  obtain ⟨⟨o0, o1, o2⟩, f0, f1, f2⟩ := kO5.c3
  obtain ⟨⟨r0, r1, r2⟩, g0, g1, g2⟩ := kR5.c3
  have hR6 := kR5.other (q := w.heap.size + 2) (j := 2) (u := .slice (some ⟨b2, 0, none⟩) x.needs.length x.needs.length) (by omega)
  go_wp2_with fail
  refine end_cb3 Try.results38 Try.underlying43 rfl sizeBat hR6 rfl ?_
  refine ⟨⟨_, _, rfl, ?_, ?_⟩, below_set3 (below_set1 hB5 (by omega) _) (by omega) _ _ _⟩
  · exact ((((ho5.set (by omega)).set (by omega)).set (by omega)).set (by omega)).low (by omega)
  · exact ((((ho6.set (by omega)).set (by omega)).set (by omega)).set (by omega)).low (by omega)
end Go.Proofs.Ytmkpaciaollcbaa
