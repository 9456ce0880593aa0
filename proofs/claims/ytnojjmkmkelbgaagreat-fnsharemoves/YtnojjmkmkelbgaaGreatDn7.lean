/- Drawing for the share: a book in which all just have something. -/
import Derived.Test.YtnojjmkmkelbgaaGreatJ24
import Derived.Test.YtnojjmkmkelbgaaGreatJ26
namespace Go.Proofs.YtnojjmkmkelbgaaGreat
open Go.RowKit

/-- What lies where: the book's block, the result's, the names; lists besides those of the batches, none of them in block q. -/
structure WQ (w W : World) (rb len N nb : Nat) (v tv xv : Value) (q : Option Nat) (fs : List (Value × List ByteArray)) (ps : List Bv) : Prop where
  a : CB W w.heap.size [tv, xv]
  r : CB W (w.heap.size + 1) [.slice none 0 0, .slice none 0 0]
  nm : StrsAt W nb 0 names15
  rd : Rd W rb v len N
  g : w.grownBy W (some rb)
  row : W.ownsRow (nb + 1) 32 3 xv ps.length (rowsB ps)
  fam : Fam W (nb + 1) q (fs ++ famB ps)
  rq : ∀ k, xv.ownBlock = some k → some k ≠ q
  ql : ∀ k, q = some k → nb + 1 ≤ k ∧ k < W.heap.size
  nz : w.heap.size + 2 ≤ nb
  z : nb + 1 ≤ W.heap.size
variable {w W X : World} {rb len N M nb k : Nat} {v tv xv u u' : Value} {q : Option Nat} {fs : List (Value × List ByteArray)} {ps : List Bv} {ss ss' : List ByteArray}
theorem WQ.gr (h : WQ w W rb len N nb v tv xv q fs ps) (hrb : rb < w.heap.size) (hg : W.grownBy X (some rb)) (hr : Rd X rb v len M) : WQ w X rb len M nb v tv xv q fs ps :=
  have := h.nz
  ⟨h.a.kept hg (by simp; omega), h.r.kept hg (by simp; omega), h.nm.kept hg (by omega), hr, grown_trans h.g hg, own_grown h.row hg (by omega), h.fam.gr hg (by omega), h.rq, fun k hk => ⟨(h.ql k hk).1, Nat.lt_of_lt_of_le (h.ql k hk).2 hg.size⟩, h.nz, Nat.le_trans h.z hg.size⟩
theorem WQ.up (h : WQ w W rb len N nb v tv xv q fs ps) (hb : Below W.heap.size W X) : WQ w X rb len N nb v tv xv q fs ps :=
  ⟨h.a.up hb h.a.2.2, h.r.up hb h.r.2.2, h.nm.up hb (by have := h.z; omega), h.rd.kept hb, grown_trans h.g (grown_below hb), own_up h.row hb, h.fam.up hb, h.rq, fun k hk => ⟨(h.ql k hk).1, Nat.lt_of_lt_of_le (h.ql k hk).2 hb.size⟩, h.nz, Nat.le_trans h.z hb.size⟩
theorem WQ.alloc (h : WQ w W rb len N nb v tv xv q fs ps) (o : Obj) : WQ w (W.alloc o) rb len N nb v tv xv q fs ps := h.up ((Below.refl _ _).alloc (Nat.le_refl _) _)
theorem WQ.drew (h : WQ w W rb len N nb v tv xv q fs ps) : WQ w W.drew rb len N nb v tv xv q fs ps := h.up (Below.refl _ _).drew
theorem WQ.mono (h : WQ w W rb len N nb v tv xv q fs ps) (hM : N ≤ M) : WQ w W rb len M nb v tv xv q fs ps := ⟨h.a, h.r, h.nm, h.rd.mono hM, h.g, h.row, h.fam, h.rq, h.ql, h.nz, h.z⟩
theorem WQ.perm {gs : List (Value × List ByteArray)} (h : WQ w W rb len N nb v tv xv q fs ps) (hp : (fs ++ famB ps).Perm (gs ++ famB ps)) : WQ w W rb len N nb v tv xv q gs ps := ⟨h.a, h.r, h.nm, h.rd, h.g, h.row, h.fam.perm hp, h.rq, h.ql, h.nz, h.z⟩
theorem WQ.head (h : WQ w W rb len N nb v tv xv q ((u, ss) :: fs) ps) : OwnT W (nb + 1) u ss := h.fam.own (u, ss) (by simp)
/-- The first of the lists grows. -/
theorem WQ.app (h : WQ w W rb len N nb v tv xv q ((u, ss) :: fs) ps) (hrb : rb < w.heap.size) (hg : W.grownBy X u.ownBlock) (hu : OwnT X (nb + 1) u' ss') (hw : Where W u u') : WQ w X rb len N nb v tv xv q ((u', ss') :: fs) ps :=
  have ho := h.head
  have hz := h.nz
  ⟨h.a.kept hg (own_ne ho (by omega)), h.r.kept hg (own_ne ho (by omega)), h.nm.own ho hg (by omega), h.rd.own ho hg (by omega), grown_own h.g ho hg (by omega), own_keep2 h.row hg (own_apart2 h.row ho (by decide)),
   Fam.app (fs := fs ++ famB ps) h.fam hg hu hw (fun k hk => (h.ql k hk).2), h.rq, fun k hk => ⟨(h.ql k hk).1, Nat.lt_of_lt_of_le (h.ql k hk).2 hg.size⟩, h.nz, Nat.le_trans h.z hg.size⟩
theorem WQ.cbApp {cs : List Value} (h : WQ w W rb len N nb v tv xv (some k) ((u, ss) :: fs) ps) (d : CB W k cs) (hg : W.grownBy X u.ownBlock) : CB X k cs :=
  d.kept hg fun e => h.fam.av (u, ss) (by simp) k e.symm rfl
/-- A store into the block that none of them lies in. -/
theorem WQ.set (h : WQ w W rb len N nb v tv xv (some k) fs ps) (hrb : rb < w.heap.size) (j : Nat) (x : Value) : WQ w (W.setCell ⟨k, j, none⟩ x) rb len N nb v tv xv (some k) fs ps :=
  have hk := h.ql k rfl
  have hz := h.nz
  ⟨h.a.other (by omega), h.r.other (by omega), h.nm.other (by omega), h.rd.setCell (by omega), grown_setNew h.g (by omega) _, own_keep2 h.row (grown_setCell (grown_refl _ _) _) h.rq, h.fam.set j x, h.rq, fun m hm => ⟨(h.ql m hm).1, by simpa using (h.ql m hm).2⟩, h.nz, by simpa using h.z⟩
/-- A list that was made since. -/
theorem WQ.new {n : Nat} (h : WQ w W rb len N nb v tv xv q fs ps) (h' : WQ w X rb len M nb v tv xv q fs ps) (hu : OwnT X n u ss) (hn : W.heap.size ≤ n) : WQ w X rb len M nb v tv xv q ((u, ss) :: fs) ps :=
  ⟨h'.a, h'.r, h'.nm, h'.rd, h'.g, h'.row, Fam.new (fs := fs ++ famB ps) h.fam h'.fam hu hn (Nat.le_trans h.z hn) (fun k hk => (h.ql k hk).2), h'.rq, h'.ql, h'.nz, h'.z⟩
theorem WQ.nil (h : WQ w W rb len N nb v tv xv q fs ps) : WQ w W rb len N nb v tv xv q ((.slice none 0 0, []) :: fs) ps :=
  ⟨h.a, h.r, h.nm, h.rd, h.g, h.row, Fam.nil_new (fs := fs ++ famB ps) h.fam, h.rq, h.ql, h.nz, h.z⟩
/-- A block that was made since is none of theirs. -/
theorem WQ.avoid (h : WQ w W rb len N nb v tv xv q fs ps) (h' : WQ w X rb len M nb v tv xv q fs ps) (hk : W.heap.size ≤ k) (hk' : k < X.heap.size) : WQ w X rb len M nb v tv xv (some k) fs ps :=
  ⟨h'.a, h'.r, h'.nm, h'.rd, h'.g, h'.row, (Fam.avoid h.fam hk).keep (fun f hf _ => h'.fam.own f hf), fun m hm e => by
    have h1 := (World.ownsRow.lt h.row m hm).2
    have : m = k := by simpa using e
    omega, fun m hm => by
    obtain rfl : k = m := by simpa using hm
    have := h.z
    exact ⟨by omega, hk'⟩, h'.nz, h'.z⟩
theorem WQ.turn {a b c : Value × List ByteArray} (h : WQ w W rb len N nb v tv xv q [a, b, c] ps) : WQ w W rb len N nb v tv xv q [c, b, a] ps := h.perm ((List.reverse_perm [c, b, a]).append_right _)
/-- A batch more in the row. -/
theorem WQ.push {hv nv tk v' : Value} {hs ns tks : List ByteArray} {s0 : ByteArray} (h : WQ w W rb len N nb v tv xv (some k) [(hv, hs), (nv, ns), (tk, tks)] ps) (hrb : rb < w.heap.size) (hrow : X.ownsRow (nb + 1) 32 3 v' (ps.length + 1) (rowsB ps ++ [.string s0, hv, nv])) (hg : W.grownBy X xv.ownBlock) :
    WQ w (X.setCell ⟨w.heap.size, 1, none⟩ v') rb len N nb v tv v' none [(tk, tks)] (ps ++ [((⟨s0, hs, ns⟩, hv, nv) : Bv)]) := by
  have hz := h.nz
  have hrX : X.ownsRow (nb + 1) 32 3 v' (ps ++ [((⟨s0, hs, ns⟩, hv, nv) : Bv)]).length (rowsB (ps ++ [((⟨s0, hs, ns⟩, hv, nv) : Bv)])) := by
    rw [rowsB_snoc, List.length_append]; exact hrow
  have hp : ([(hv, hs), (nv, ns), (tk, tks)] ++ famB ps).Perm ([(tk, tks)] ++ famB (ps ++ [((⟨s0, hs, ns⟩, hv, nv) : Bv)])) :=
    ((List.perm_append_comm (l₁ := [(hv, hs), (nv, ns)]) (l₂ := [(tk, tks)])).append_right (famB ps)).trans (famB_snoc ps ((⟨s0, hs, ns⟩, hv, nv) : Bv) [(tk, tks)])
  refine ⟨?_, (h.r.kept hg (own_ne h.row (by omega))).other (by omega), (h.nm.own h.row hg (by omega)).other (by omega), ?_, grown_setNew (grown_own h.g h.row hg (by omega)) (by omega) _, own_grown hrX (grown_setCell (grown_refl _ _) _) (by omega), (((h.fam.row h.row hg).free.setLow (by omega) 1 v').perm hp), fun m _ => by simp, fun m hm => by simp at hm, h.nz, Nat.le_trans h.z (by simpa using hg.size)⟩
  · exact (h.a.kept hg (own_ne h.row (by omega))).set (j := 1) (by simp)
  · exact (h.rd.own h.row hg (by omega)).setCell (by omega)
theorem psz_nil : Psz [] := fun p hp => by simp at hp
theorem psz_dk (h : Psz ps) (hl : ps.length ≤ 40) {ts : List ByteArray} (ht : ∀ s ∈ ts, s.size ≤ maxLen) (htl : ts.length ≤ 40) : Szb ⟨ts, ps.map (·.1)⟩ ∧ Tiny ⟨ts, ps.map (·.1)⟩ := by
  have hm : ∀ x ∈ ps.map (·.1), ∃ p ∈ ps, p.1 = x := fun x hx => by simpa using List.mem_map.1 hx
  refine ⟨⟨ht, fun x hx => ?_⟩, htl, by simpa using hl, fun x hx => ?_⟩
  · obtain ⟨p, hp, rfl⟩ := hm x hx
    exact (h p hp).2.2.2
  · obtain ⟨p, hp, rfl⟩ := hm x hx
    exact ⟨(h p hp).2.1, (h p hp).2.2.1⟩
end Go.Proofs.YtnojjmkmkelbgaaGreat
