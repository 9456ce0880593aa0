/- Books in memory: lists of texts, batches, a book. -/
import Derived.Test.YtlkpgiifdclijaaGreatDoorJ2
import Derived.Test.YtlkpgiifdclijaaGreatDoorJ0
import Derived.Test.YtlkpgiifdclijaaGreatDoorJ20
import Derived.Test.YtlkpgiifdclijaaGreatDoorJ4
import Derived.Test.YtlkpgiifdclijaaGreatDoorJ14
namespace Go.Proofs.YtlkpgiifdclijaaGreatDoor
open Go.RowKit

/-- A list of texts that a slice leads to. -/
def Ls (w : World) (v : Value) (ss : List ByteArray) : Prop :=
  ∃ a c, v = .slice a ss.length c ∧ ss.length ≤ maxLen ∧ (∀ s ∈ ss, s.size ≤ maxLen) ∧ (0 < ss.length → ∃ b o, a = some ⟨b, o, none⟩ ∧ StrsAt w b o ss ∧ b < w.heap.size)
theorem StrsAt.up {w w' : World} {g o : Nat} {ss : List ByteArray} (h : StrsAt w g o ss) (hb : Below w.heap.size w w') (hg : g < w.heap.size) : StrsAt w' g o ss :=
  fun i s hs => (hb.cell (p := ⟨g, o + i, none⟩) hg).trans (h i s hs)
theorem StrsAt.cell {w : World} {g o : Nat} {ss : List ByteArray} (h : StrsAt w g o ss) {k : Nat} (hk : k < ss.length) : w.cell? ⟨g, o + k, none⟩ = some (.string ss[k]) := h k _ (by rw [List.getElem?_eq_getElem])
theorem Ls.up {w w' : World} {v : Value} {ss : List ByteArray} (h : Ls w v ss) (hb : Below w.heap.size w w') : Ls w' v ss := by
  obtain ⟨a, c, rfl, h1, h2, h3⟩ := h
  refine ⟨a, c, rfl, h1, h2, fun hp => ?_⟩
  obtain ⟨b, o, rfl, hS, hlt⟩ := h3 hp
  exact ⟨b, o, rfl, hS.up hb hlt, Nat.lt_of_lt_of_le hlt hb.size⟩
theorem Ls.inv {w : World} {a : Option Addr} {n c : Nat} {ss : List ByteArray} (h : Ls w (.slice a n c) ss) : ss.length ≤ maxLen ∧ (∀ s ∈ ss, s.size ≤ maxLen) ∧ (0 < ss.length → ∃ b o, a = some ⟨b, o, none⟩ ∧ StrsAt w b o ss ∧ b < w.heap.size) := by
  obtain ⟨a', c', e, h1⟩ := h
  obtain ⟨rfl, -, rfl⟩ := Value.slice.inj e
  exact h1
theorem Ls.drew {w : World} {v : Value} {ss : List ByteArray} (h : Ls w v ss) : Ls w.drew v ss := h
theorem Ls.drewN {w : World} {v : Value} {ss : List ByteArray} (h : Ls w v ss) {n : Nat} : Ls (w.drewN n) v ss := h
theorem Ls.take {w : World} {a : Option Addr} {c : Nat} {ss : List ByteArray} (h : Ls w (.slice a ss.length c) ss) {k : Nat} (hk : k ≤ ss.length) (c' : Nat) : Ls w (.slice a k c') (ss.take k) := by
  obtain ⟨a', c', e, h1, h2, h3⟩ := h
  obtain ⟨rfl, -, rfl⟩ := Value.slice.inj e
  have hl : (ss.take k).length = k := by rw [List.length_take]; omega
  refine ⟨a, _, by rw [hl], by rw [hl]; omega, fun s hs => h2 s (List.mem_of_mem_take hs), fun hp => ?_⟩
  obtain ⟨b, o, rfl, hS, hlt⟩ := h3 (by omega)
  exact ⟨b, o, rfl, hS.take k, hlt⟩
theorem Ls.nil (w : World) (a : Option Addr) (c : Nat) : Ls w (.slice a 0 c) [] := ⟨a, c, rfl, by simp, fun s hs => by simp at hs, fun h => by simp at h⟩
theorem Lst.ls {w : World} {v : Value} {ss : List ByteArray} (h : Lst w v ss) (hz : ∀ s ∈ ss, s.size ≤ maxLen) : Ls w v ss := by
  rcases h with ⟨rfl, rfl⟩ | ⟨g, c, rfl, hS, hg, h1, h2⟩
  · exact Ls.nil _ _ _
  · exact ⟨_, c, rfl, by omega, hz, fun _ => ⟨g, 0, rfl, hS, hg⟩⟩
/-- A batch's three cells. -/
def BaAt (w : World) (b o : Nat) (x : Ba) : Prop := ∃ hv nv, w.rangeAt b o [.string x.nm, hv, nv] ∧ Ls w hv x.has ∧ Ls w nv x.needs ∧ x.nm.size ≤ maxLen
theorem BaAt.up {w w' : World} {b o : Nat} {x : Ba} (h : BaAt w b o x) (hb : Below w.heap.size w w') (hlt : b < w.heap.size) : BaAt w' b o x := by
  obtain ⟨hv, nv, hr, h1, h2, h3⟩ := h
  exact ⟨hv, nv, fun j v hv => (hb.cell (p := ⟨b, o + j, none⟩) hlt).trans (hr j v hv), h1.up hb, h2.up hb, h3⟩
def BsAt (w : World) (b o : Nat) (bs : List Ba) : Prop := ∀ (i : Nat) (x : Ba), bs[i]? = some x → BaAt w b (o + i * 3) x
theorem BsAt.up {w w' : World} {b o : Nat} {bs : List Ba} (h : BsAt w b o bs) (hb : Below w.heap.size w w') (hlt : b < w.heap.size) : BsAt w' b o bs := fun i x hx => (h i x hx).up hb hlt
theorem BsAt.at {w : World} {b o : Nat} {bs : List Ba} (h : BsAt w b o bs) {k : Nat} (hk : k < bs.length) : BaAt w b (o + k * 3) bs[k] := h k _ (by rw [List.getElem?_eq_getElem])
/-- The cells of a batch, its lists with their shapes. -/
theorem BaAt.cells {w : World} {b o : Nat} {x : Ba} (h : BaAt w b o x) : ∃ a1 c1 a2 c2, w.cell? ⟨b, o, none⟩ = some (.string x.nm) ∧ w.cell? ⟨b, o + 1, none⟩ = some (.slice a1 x.has.length c1) ∧ w.cell? ⟨b, o + 2, none⟩ = some (.slice a2 x.needs.length c2) ∧
    Ls w (.slice a1 x.has.length c1) x.has ∧ Ls w (.slice a2 x.needs.length c2) x.needs ∧ x.nm.size ≤ maxLen := by
  obtain ⟨hv, nv, hr, h1, h2, h3⟩ := h
  obtain ⟨a1, c1, rfl, -⟩ := id h1
  obtain ⟨a2, c2, rfl, -⟩ := id h2
  exact ⟨a1, c1, a2, c2, hr 0 _ rfl, hr 1 _ rfl, hr 2 _ rfl, h1, h2, h3⟩
/-- The batches that a slice leads to. -/
def Bs (w : World) (v : Value) (bs : List Ba) : Prop := ∃ a c, v = .slice a bs.length c ∧ bs.length ≤ maxLen ∧ (0 < bs.length → ∃ b o, a = some ⟨b, o, none⟩ ∧ BsAt w b o bs ∧ b < w.heap.size)
theorem Bs.up {w w' : World} {v : Value} {bs : List Ba} (h : Bs w v bs) (hb : Below w.heap.size w w') : Bs w' v bs := by
  obtain ⟨a, c, rfl, h1, h3⟩ := h
  refine ⟨a, c, rfl, h1, fun hp => ?_⟩
  obtain ⟨b, o, rfl, hS, hlt⟩ := h3 hp
  exact ⟨b, o, rfl, hS.up hb hlt, Nat.lt_of_lt_of_le hlt hb.size⟩
theorem Bs.drew {w : World} {v : Value} {bs : List Ba} (h : Bs w v bs) : Bs w.drew v bs := h
/-- A book, as a value. -/
def BkV (w : World) (v : Value) (b : Bk) : Prop := ∃ tv bv, v = .agg #[tv, bv] ∧ Ls w tv b.things ∧ Bs w bv b.bs
theorem BkV.up {w w' : World} {v : Value} {b : Bk} (h : BkV w v b) (hb : Below w.heap.size w w') : BkV w' v b := by
  obtain ⟨tv, bv, rfl, h1, h2⟩ := h
  exact ⟨tv, bv, rfl, h1.up hb, h2.up hb⟩
theorem BkV.drew {w : World} {v : Value} {b : Bk} (h : BkV w v b) : BkV w.drew v b := h
theorem BkV.parts {w : World} {v : Value} {b : Bk} (h : BkV w v b) : ∃ a1 c1 a2 c2, v = .agg #[.slice a1 b.things.length c1, .slice a2 b.bs.length c2] ∧ Ls w (.slice a1 b.things.length c1) b.things ∧ Bs w (.slice a2 b.bs.length c2) b.bs := by
  obtain ⟨tv, bv, rfl, h1, h2⟩ := h
  obtain ⟨a1, c1, rfl, -⟩ := id h1
  obtain ⟨a2, c2, rfl, -⟩ := id h2
  exact ⟨a1, c1, a2, c2, rfl, h1, h2⟩
theorem CB.c2' {w : World} {b : Nat} {x0 x1 : Value} (h : CB w b [x0, x1]) : w.cell? ⟨b, 0, none⟩ = some x0 ∧ w.cell? ⟨b, 1, none⟩ = some x1 := h.c2.1
theorem Bs.at {w : World} {a : Option Addr} {n c : Nat} {bs : List Ba} (h : Bs w (.slice a n c) bs) : bs.length ≤ maxLen ∧ (0 < bs.length → ∃ b o, a = some ⟨b, o, none⟩ ∧ BsAt w b o bs ∧ b < w.heap.size) := by
  obtain ⟨a', c', e, h1⟩ := h
  obtain ⟨rfl, -, rfl⟩ := Value.slice.inj e
  exact h1
end Go.Proofs.YtlkpgiifdclijaaGreatDoor

/- Houses in memory. -/
namespace Go.Proofs.YtlkpgiifdclijaaGreatDoor
open Go.RowKit

def RbAt (w : World) (b o : Nat) (x : Rb) : Prop := ∃ rv sv, w.rangeAt b o [.string x.nm, rv, sv, .string x.ad, .int .i64 x.si, .int .i64 x.st] ∧ RbV w x rv sv
def RbsAt (w : World) (b o : Nat) (bs : List Rb) : Prop := ∀ (i : Nat) (x : Rb), bs[i]? = some x → RbAt w b (o + i * 6) x
/-- Batches handed about as a slice. -/
def Rbs (w : World) (v : Value) (bs : List Rb) : Prop := ∃ a c, v = .slice a bs.length c ∧ bs.length ≤ maxLen ∧ (0 < bs.length → ∃ b o, a = some ⟨b, o, none⟩ ∧ RbsAt w b o bs ∧ b < w.heap.size)
def DnsAt (w : World) (b o : Nat) (ds : List Done) : Prop := ∀ (i : Nat) (d : Done), ds[i]? = some d → w.rangeAt b (o + i * 3) [.string d.nm, .int .i64 d.e, .int .i64 d.t] ∧ d.nm.size ≤ maxLen
def Dns (w : World) (v : Value) (ds : List Done) : Prop := ∃ a c, v = .slice a ds.length c ∧ ds.length ≤ maxLen ∧ (0 < ds.length → ∃ b o, a = some ⟨b, o, none⟩ ∧ DnsAt w b o ds ∧ b < w.heap.size)
theorem range_up {w w' : World} {b o B : Nat} {vs : List Value} (h : w.rangeAt b o vs) (hb : Below B w w') (hB : b < B) : w'.rangeAt b o vs := fun j v hv => by
  rw [hb.cell (p := ⟨b, o + j, none⟩) hB]; exact h j v hv
theorem RbAt.up {w w' : World} {b o : Nat} {x : Rb} (h : RbAt w b o x) (hb : Below w.heap.size w w') (hB : b < w.heap.size) : RbAt w' b o x := by
  obtain ⟨rv, sv, h1, h2⟩ := h
  exact ⟨rv, sv, range_up h1 hb hB, h2.up hb⟩
theorem RbsAt.up {w w' : World} {b o : Nat} {bs : List Rb} (h : RbsAt w b o bs) (hb : Below w.heap.size w w') (hB : b < w.heap.size) : RbsAt w' b o bs := fun i x hx => (h i x hx).up hb hB
theorem RbsAt.at {w : World} {b o : Nat} {bs : List Rb} (h : RbsAt w b o bs) {k : Nat} (hk : k < bs.length) : RbAt w b (o + k * 6) bs[k] := h k _ (List.getElem?_eq_getElem hk)
theorem Rbs.up {w w' : World} {v : Value} {bs : List Rb} (h : Rbs w v bs) (hb : Below w.heap.size w w') : Rbs w' v bs := by
  obtain ⟨a, c, rfl, h1, h2⟩ := h
  exact ⟨a, c, rfl, h1, fun hp => by obtain ⟨b, o, e, hr, hlt⟩ := h2 hp; exact ⟨b, o, e, hr.up hb hlt, Nat.lt_of_lt_of_le hlt hb.size⟩⟩
theorem DnsAt.up {w w' : World} {b o : Nat} {ds : List Done} (h : DnsAt w b o ds) (hb : Below w.heap.size w w') (hB : b < w.heap.size) : DnsAt w' b o ds := fun i d hd => ⟨range_up (h i d hd).1 hb hB, (h i d hd).2⟩
theorem Dns.up {w w' : World} {v : Value} {ds : List Done} (h : Dns w v ds) (hb : Below w.heap.size w w') : Dns w' v ds := by
  obtain ⟨a, c, rfl, h1, h2⟩ := h
  exact ⟨a, c, rfl, h1, fun hp => by obtain ⟨b, o, e, hr, hlt⟩ := h2 hp; exact ⟨b, o, e, hr.up hb hlt, Nat.lt_of_lt_of_le hlt hb.size⟩⟩
/-- A house in memory: its book's lists, its batches, those that ended. -/
structure HV (w : World) (h : House) (tv bv xv dv : Value) : Prop where
  t : Ls w tv h.sh.things
  b : Bs w bv h.sh.bs
  x : Rbs w xv h.bs
  d : Dns w dv h.ds
theorem HV.up {w w' : World} {h : House} {tv bv xv dv : Value} (H : HV w h tv bv xv dv) (hb : Below w.heap.size w w') : HV w' h tv bv xv dv := ⟨H.t.up hb, H.b.up hb, H.x.up hb, H.d.up hb⟩
theorem HV.shapes {w : World} {h : House} {tv bv xv dv : Value} (H : HV w h tv bv xv dv) : ∃ a1 c1 a2 c2 a3 c3 a4 c4, tv = .slice a1 h.sh.things.length c1 ∧ bv = .slice a2 h.sh.bs.length c2 ∧ xv = .slice a3 h.bs.length c3 ∧ dv = .slice a4 h.ds.length c4 := by
  obtain ⟨a1, c1, e1, -⟩ := H.t
  obtain ⟨a2, c2, e2, -⟩ := H.b
  obtain ⟨a3, c3, e3, -⟩ := H.x
  obtain ⟨a4, c4, e4, -⟩ := H.d
  exact ⟨a1, c1, a2, c2, a3, c3, a4, c4, e1, e2, e3, e4⟩
theorem HV.book {w : World} {h : House} {tv bv xv dv : Value} (H : HV w h tv bv xv dv) : BkV w (.agg #[tv, bv]) h.sh := ⟨tv, bv, rfl, H.t, H.b⟩
theorem rnms_snoc (bs : List Rb) (k : Nat) (hk : k < bs.length) : rnms (bs.take (k + 1)) = rnms (bs.take k) ++ [(bs[k]).nm] := by
  unfold rnms; rw [List.take_succ_eq_append_getElem hk, List.map_append]; rfl
theorem Rbs.inv {w : World} {v : Value} {bs : List Rb} (h : Rbs w v bs) {a : Option Addr} {n c : Nat} (e : v = .slice a n c) : bs.length ≤ maxLen ∧ (0 < bs.length → ∃ b o, a = some ⟨b, o, none⟩ ∧ RbsAt w b o bs ∧ b < w.heap.size) := by
  obtain ⟨a', c', e', h1, h2⟩ := h
  rw [e'] at e
  simp only [Value.slice.injEq] at e
  obtain ⟨rfl, -, -⟩ := e
  exact ⟨h1, h2⟩
theorem RbAt.open {w : World} {b o : Nat} {x : Rb} (h : RbAt w b o x) : ∃ p q c g r d, (w.cell? ⟨b, o, none⟩ = some (.string x.nm) ∧ w.cell? ⟨b, o + 1, none⟩ = some (.slice (some ⟨p, q, none⟩) x.ps.length c) ∧ w.cell? ⟨b, o + 2, none⟩ = some (.slice (some ⟨g, r, none⟩) x.sl.length d) ∧ w.cell? ⟨b, o + 3, none⟩ = some (.string x.ad) ∧ w.cell? ⟨b, o + 4, none⟩ = some (.int .i64 x.si) ∧ w.cell? ⟨b, o + 5, none⟩ = some (.int .i64 x.st)) ∧ RbV w x (.slice (some ⟨p, q, none⟩) x.ps.length c) (.slice (some ⟨g, r, none⟩) x.sl.length d) := by
  obtain ⟨rv, sv, hr, hv⟩ := h
  obtain ⟨p, q, c, rfl, -⟩ := hv.r
  obtain ⟨g, r, d, rfl, -⟩ := hv.s
  exact ⟨p, q, c, g, r, d, ⟨hr 0 _ rfl, hr 1 _ rfl, hr 2 _ rfl, hr 3 _ rfl, hr 4 _ rfl, hr 5 _ rfl⟩, hv⟩
theorem m12_drew {W w0 : World} {q r : Nat} {x0 x1 x2 x3 x4 x5 x6 x7 x8 x9 x10 x11 : Value} (h : Below W.heap.size W w0 ∧ w0.cell? ⟨q, 0, none⟩ = some x0 ∧ w0.cell? ⟨q, 1, none⟩ = some x1 ∧ w0.cell? ⟨q, 2, none⟩ = some x2 ∧ w0.cell? ⟨q, 3, none⟩ = some x3 ∧ w0.cell? ⟨q, 4, none⟩ = some x4 ∧ w0.cell? ⟨q, 5, none⟩ = some x5 ∧ w0.cell? ⟨r, 0, none⟩ = some x6 ∧ w0.cell? ⟨r, 1, none⟩ = some x7 ∧ w0.cell? ⟨r, 2, none⟩ = some x8 ∧ w0.cell? ⟨r, 3, none⟩ = some x9 ∧ w0.cell? ⟨r, 4, none⟩ = some x10 ∧ w0.cell? ⟨r, 5, none⟩ = some x11) : Below W.heap.size W w0.drew ∧ w0.drew.cell? ⟨q, 0, none⟩ = some x0 ∧ w0.drew.cell? ⟨q, 1, none⟩ = some x1 ∧ w0.drew.cell? ⟨q, 2, none⟩ = some x2 ∧ w0.drew.cell? ⟨q, 3, none⟩ = some x3 ∧ w0.drew.cell? ⟨q, 4, none⟩ = some x4 ∧ w0.drew.cell? ⟨q, 5, none⟩ = some x5 ∧ w0.drew.cell? ⟨r, 0, none⟩ = some x6 ∧ w0.drew.cell? ⟨r, 1, none⟩ = some x7 ∧ w0.drew.cell? ⟨r, 2, none⟩ = some x8 ∧ w0.drew.cell? ⟨r, 3, none⟩ = some x9 ∧ w0.drew.cell? ⟨r, 4, none⟩ = some x10 ∧ w0.drew.cell? ⟨r, 5, none⟩ = some x11 :=
  ⟨h.1.drew, h.2⟩
theorem m12_up {W w0 w1 : World} {q r : Nat} {x0 x1 x2 x3 x4 x5 x6 x7 x8 x9 x10 x11 : Value} (hq : q < W.heap.size) (hr : r < W.heap.size) (h : Below W.heap.size W w0 ∧ w0.cell? ⟨q, 0, none⟩ = some x0 ∧ w0.cell? ⟨q, 1, none⟩ = some x1 ∧ w0.cell? ⟨q, 2, none⟩ = some x2 ∧ w0.cell? ⟨q, 3, none⟩ = some x3 ∧ w0.cell? ⟨q, 4, none⟩ = some x4 ∧ w0.cell? ⟨q, 5, none⟩ = some x5 ∧ w0.cell? ⟨r, 0, none⟩ = some x6 ∧ w0.cell? ⟨r, 1, none⟩ = some x7 ∧ w0.cell? ⟨r, 2, none⟩ = some x8 ∧ w0.cell? ⟨r, 3, none⟩ = some x9 ∧ w0.cell? ⟨r, 4, none⟩ = some x10 ∧ w0.cell? ⟨r, 5, none⟩ = some x11) (hB : Below w0.heap.size w0 w1) : Below W.heap.size W w1 ∧ w1.cell? ⟨q, 0, none⟩ = some x0 ∧ w1.cell? ⟨q, 1, none⟩ = some x1 ∧ w1.cell? ⟨q, 2, none⟩ = some x2 ∧ w1.cell? ⟨q, 3, none⟩ = some x3 ∧ w1.cell? ⟨q, 4, none⟩ = some x4 ∧ w1.cell? ⟨q, 5, none⟩ = some x5 ∧ w1.cell? ⟨r, 0, none⟩ = some x6 ∧ w1.cell? ⟨r, 1, none⟩ = some x7 ∧ w1.cell? ⟨r, 2, none⟩ = some x8 ∧ w1.cell? ⟨r, 3, none⟩ = some x9 ∧ w1.cell? ⟨r, 4, none⟩ = some x10 ∧ w1.cell? ⟨r, 5, none⟩ = some x11 := by
  obtain ⟨h0, a0, a1, a2, a3, a4, a5, a6, a7, a8, a9, a10, a11⟩ := h
  have lq : q < w0.heap.size := Nat.lt_of_lt_of_le hq h0.size
  have lr : r < w0.heap.size := Nat.lt_of_lt_of_le hr h0.size
  exact ⟨up_trans h0 hB, (hB.cell (p := ⟨q, 0, none⟩) lq).trans a0, (hB.cell (p := ⟨q, 1, none⟩) lq).trans a1, (hB.cell (p := ⟨q, 2, none⟩) lq).trans a2, (hB.cell (p := ⟨q, 3, none⟩) lq).trans a3, (hB.cell (p := ⟨q, 4, none⟩) lq).trans a4, (hB.cell (p := ⟨q, 5, none⟩) lq).trans a5, (hB.cell (p := ⟨r, 0, none⟩) lr).trans a6, (hB.cell (p := ⟨r, 1, none⟩) lr).trans a7, (hB.cell (p := ⟨r, 2, none⟩) lr).trans a8, (hB.cell (p := ⟨r, 3, none⟩) lr).trans a9, (hB.cell (p := ⟨r, 4, none⟩) lr).trans a10, (hB.cell (p := ⟨r, 5, none⟩) lr).trans a11⟩
theorem rbThings_sized {x : Rb} {w : World} {rv sv : Value} (h : RbV w x rv sv) (nm : ByteArray) : ∀ s ∈ rbThings x nm, s.size ≤ maxLen := by
  by_cases hk : RbOk x
  · rw [rbThings_ok hk]
    intro s hs
    have h1 := ((thE_keys _ _).2 s.toList).1 (mem_keys.2 hs)
    simp only [keys, List.mem_map] at h1
    obtain ⟨_, ⟨t, _, rfl⟩, e⟩ := h1
    rw [← key_inj e]
    unfold firstT
    split
    · rename_i y hy
      exact (h.zs y (List.mem_of_find?_eq_some hy)).2
    · exact Nat.zero_le _
  · rw [rbThings_no hk]; intro s hs; simp at hs
theorem rbOwn_sized {x : Rb} {w : World} {rv sv : Value} (h : RbV w x rv sv) : ∀ s ∈ rbOwn x, s.size ≤ maxLen := by
  by_cases hk : RbOk x
  · rw [rbOwn_ok hk]
    intro s hs
    have h1 := ((thE_keys _ _).2 s.toList).1 (mem_keys.2 hs)
    simp only [keys, List.mem_map] at h1
    obtain ⟨_, ⟨t, _, rfl⟩, e⟩ := h1
    rw [← key_inj e]
    unfold firstT
    split
    · rename_i y hy
      exact (h.zs y (List.mem_of_find?_eq_some hy)).2
    · exact Nat.zero_le _
  · rw [rbOwn_no hk]; intro s hs; simp at hs
end Go.Proofs.YtlkpgiifdclijaaGreatDoor

/- The program's walks over names and lists of texts (chapter 11). -/
namespace Go.Proofs.YtlkpgiifdclijaaGreatDoor
open Go.RowKit

theorem indexN_any (ss : List ByteArray) (v : Value) (s : ByteArray) (w : World) (h : Ls w v ss) :
    Calls Tryz.prog 148 #[v, .string s] w fun e w' => e = .returned (.int .i64 (idxI ss s)) ∧ w' = w := by
  obtain ⟨a, c, rfl, hn, -, hpos⟩ := h
  unfold maxLen at hn
  go_enter Tryz.func148, Tryz.ntmps148
  go_wp2
  go_loop [8] (fun i => ∃ k : Nat, k ≤ ss.length ∧ i = .int .i64 k ∧ memS (ss.take k) s = false) (fun i => ss.length - (intOf i).toNat)
  case atStart => exact ⟨0, by omega, rfl, rfl⟩
  case round =>
    obtain ⟨k, hk, rfl, hal⟩ := hrel
    have Hal : Hid (memS (ss.take k) s = false) := hal
    clear hal
    by_cases hp : k < ss.length
    · obtain ⟨b, o, rfl, hS, hb⟩ := hpos (by omega)
      have c0 := hS.cell hp
      cases hq : (s.toList == (ss[k]).toList)
      · have Hq : Hid (((ss[k]).toList == s.toList) = false) := by show _ = _; rw [beq_flip]; exact hq
        go_wp2
        go_round
        case rel => exact ⟨k + 1, by omega, by go_num, memS_take hp Hal.out Hq.out⟩
        case measure => simp [intOf]; omega
      · have Hq : Hid (((ss[k]).toList == s.toList) = true) := by show _ = _; rw [beq_flip]; exact hq
        go_wp2
        go_ret
        exact ⟨ret_int (idxI_found hp Hal.out Hq.out).symm, rfl⟩
    · go_wp2
      go_ret
      exact ⟨ret_int (idxI_none (memS_all hp Hal.out)).symm, rfl⟩

theorem containsN_any (ss : List ByteArray) (v : Value) (s : ByteArray) (w : World) (h : Ls w v ss) :
    Calls Tryz.prog 101 #[v, .string s] w fun e w' => e = .returned (.bool (memS ss s)) ∧ w' = w := by
  obtain ⟨a, c, rfl, -⟩ := id h
  go_enter Tryz.func101, Tryz.ntmps101
  go_wp2_with (go_at_call 148; refine (indexN_any ss _ _ _ h).mono ?_; rintro e w' ⟨rfl, hw⟩; obtain rfl := hw.symm; clear hw)
  all_goals
    go_ret
    refine ⟨ret_bool ?_, rfl⟩
    rw [← idxI_mem]
    try simp_all

theorem asc_any (ss : List ByteArray) (u : Value) (w : World) (h : Ls w u ss) :
    Calls Tryz.prog 102 #[u] w fun e w' => e = .returned (.bool (pB (Asc ss))) ∧ Below w.heap.size w w' := by
  obtain ⟨a, c, rfl, hn, -, hpos⟩ := h
  unfold maxLen at hn
  go_enter Tryz.func102, Tryz.ntmps102
  go_wp2
  go_loopw [3] (fun i w' => ∃ k : Nat, (k + 1 ≤ ss.length ∨ k = 0) ∧ i = .int .i64 (k + 1) ∧ AscTo ss (k + 1) ∧ Below w.heap.size w w') (fun i _ => ss.length - (intOf i).toNat)
  case atStart => exact ⟨0, .inr rfl, rfl, AscTo.one _, Below.refl _ _⟩
  case round =>
    obtain ⟨k, hk, rfl, hasc, hB⟩ := hrel
    have Hasc : Hid (AscTo ss (k + 1)) := hasc
    clear hasc
    by_cases hp : k + 1 < ss.length
    · obtain ⟨b, o, rfl, hS, hb⟩ := hpos (by omega)
      have c0 := (hS.up hB hb).cell hp
      have c1 := (hS.up hB hb).cell (k := k) (by omega)
      clear hk
      cases hl : ltS ss[k] ss[k + 1]
      · have Hl : Hid (¬ Asc ss) := fun h => by rw [asc_at h hp] at hl; cases hl
        unfold ltS at hl
        go_wp2_with fail
        go_quiet (fail)
        go_wp2
        go_ret
        exact ⟨ret_bool (pB_no Hl.out).symm, below_drewN hB _⟩
      · have Hl : Hid (AscTo ss (k + 2)) := Hasc.out.step hp hl
        unfold ltS at hl
        go_wp2_with fail
        go_quiet (fail)
        go_wp2
        go_roundw
        case rel => exact ⟨k + 1, .inl (by omega), by go_num, Hl.out, below_drewN hB _⟩
        case measure => simp [intOf]; omega
    · go_wp2
      go_ret
      exact ⟨ret_bool (pB_yes (asc_end Hasc.out hp)).symm, hB⟩

theorem ordered_any (ss : List ByteArray) (u : Value) (w : World) (h : Ls w u ss) :
    Calls Tryz.prog 153 #[u] w fun e w' => e = .returned (.bool (pB (Names ss ∧ Asc ss))) ∧ Below w.heap.size w w' := by
  have h0 := h
  obtain ⟨a, c, rfl, hn, hz, hpos⟩ := h
  unfold maxLen at hn
  go_enter Tryz.func153, Tryz.ntmps153
  go_wp2
  go_loopw [4, 7] (fun _ i w' => ∃ k : Nat, k ≤ ss.length ∧ i = .int .i64 k ∧ NamesTo ss k ∧ Below w.heap.size w w') (fun _ i _ => ss.length - (intOf i).toNat)
  case atStart => exact ⟨0, by omega, rfl, NamesTo.zero _, Below.refl _ _⟩
  case round =>
    obtain ⟨k, hk, rfl, hal, hB⟩ := hrel
    have Hal : Hid (NamesTo ss k) := hal
    clear hal
    by_cases hp : k < ss.length
    · obtain ⟨b, o, rfl, hS, hb⟩ := hpos (by omega)
      have c0 := (hS.up hB hb).cell hp
      have z0 := hz ss[k] (by simp)
      cases hq : nameB ss[k]
      · have Hq : Hid (¬ (Names ss ∧ Asc ss)) := fun h => by rw [names_at h.1 hp] at hq; cases hq
        go_wp2_with (go_at_call 56; refine (shName_any _ _ z0).mono ?_; rintro e w1 ⟨rfl, hb1⟩; (first | (have hB' := up_trans hB hb1; clear hB; have hB := hB'; clear hB') | (have hB := hb1)); clear hb1; (try clear hc hf); obtain ⟨hc, hf⟩ := bcell hB)
        go_ret
        exact ⟨ret_bool (pB_no Hq.out).symm, hB⟩
      · have Hq : Hid (NamesTo ss (k + 1)) := Hal.out.step hp hq
        go_wp2_with (go_at_call 56; refine (shName_any _ _ z0).mono ?_; rintro e w1 ⟨rfl, hb1⟩; (first | (have hB' := up_trans hB hb1; clear hB; have hB := hB'; clear hB') | (have hB := hb1)); clear hb1; (try clear hc hf); obtain ⟨hc, hf⟩ := bcell hB)
        go_roundw
        case rel => exact ⟨k + 1, by omega, by go_num, Hq.out, hB⟩
        case measure => simp [intOf]; omega
    · have Hq : Hid (Names ss) := names_end Hal.out hp
      have Hp : Hid (pB (Names ss ∧ Asc ss) = pB (Asc ss)) := by
        show _ = _
        have := Hq.out
        unfold pB; simp [this]
      go_wp2_with (go_at_call 102; refine (asc_any ss _ _ (h0.up hB)).mono ?_; rintro e w1 ⟨rfl, hb1⟩; (first | (have hB' := up_trans hB hb1; clear hB; have hB := hB'; clear hB') | (have hB := hb1)); clear hb1; (try clear hc hf); obtain ⟨hc, hf⟩ := bcell hB)
      go_ret
      exact ⟨ret_bool Hp.out.symm, hB⟩

theorem partOf_any (ss all : List ByteArray) (u v : Value) (w : World) (h : Ls w u ss) (h2 : Ls w v all) :
    Calls Tryz.prog 67 #[u, v] w fun e w' => e = .returned (.bool (pB (PartOk ss all))) ∧ Below w.heap.size w w' := by
  have h0 := h
  obtain ⟨a, c, rfl, hn, hz, hpos⟩ := h
  obtain ⟨a2, c2, rfl, -⟩ := id h2
  unfold maxLen at hn
  go_enter Tryz.func67, Tryz.ntmps67
  go_wp2
  go_loopw [6, 9] (fun _ i w' => ∃ k : Nat, k ≤ ss.length ∧ i = .int .i64 k ∧ PartTo ss all k ∧ Below w.heap.size w w') (fun _ i _ => ss.length - (intOf i).toNat)
  case atStart => exact ⟨0, by omega, rfl, PartTo.zero _ _, Below.refl _ _⟩
  case round =>
    obtain ⟨k, hk, rfl, hal, hB⟩ := hrel
    have Hal : Hid (PartTo ss all k) := hal
    clear hal
    by_cases hp : k < ss.length
    · obtain ⟨b, o, rfl, hS, hb⟩ := hpos (by omega)
      have c0 := (hS.up hB hb).cell hp
      cases hq : memS all ss[k]
      · have Hq : Hid (¬ PartOk ss all) := fun h => by rw [part_at h.1 hp] at hq; cases hq
        go_wp2_with (go_at_call 101; refine (containsN_any all _ _ _ (h2.up hB)).mono ?_; rintro e w' ⟨rfl, hw⟩; obtain rfl := hw.symm; clear hw)
        go_ret
        exact ⟨ret_bool (pB_no Hq.out).symm, hB⟩
      · have Hq : Hid (PartTo ss all (k + 1)) := Hal.out.step hp hq
        go_wp2_with (go_at_call 101; refine (containsN_any all _ _ _ (h2.up hB)).mono ?_; rintro e w' ⟨rfl, hw⟩; obtain rfl := hw.symm; clear hw)
        go_roundw
        case rel => exact ⟨k + 1, by omega, by go_num, Hq.out, hB⟩
        case measure => simp [intOf]; omega
    · have Hq : Hid (Part ss all) := part_end Hal.out hp
      have Hp : Hid (pB (PartOk ss all) = pB (Asc ss)) := by
        show _ = _
        have := Hq.out
        unfold pB PartOk; simp [this]
      go_wp2_with (go_at_call 102; refine (asc_any ss _ _ (h0.up hB)).mono ?_; rintro e w1 ⟨rfl, hb1⟩; (first | (have hB' := up_trans hB hb1; clear hB; have hB := hB'; clear hB') | (have hB := hb1)); clear hb1; (try clear hc hf); obtain ⟨hc, hf⟩ := bcell hB)
      go_ret
      exact ⟨ret_bool Hp.out.symm, hB⟩

set_option maxHeartbeats 1000000 in
theorem batchOk_any (x : Ba) (things : List ByteArray) (hv nv tv : Value) (w : World) (h1 : Ls w hv x.has) (h2 : Ls w nv x.needs) (h3 : Ls w tv things) :
    Calls Tryz.prog 154 #[.agg #[.string x.nm, hv, nv], tv] w fun e w' => e = .returned (.bool (pB (BaOk things x))) ∧ Below w.heap.size w w' := by
  obtain ⟨a1, c1, rfl, -⟩ := id h1
  obtain ⟨a2, c2, rfl, -⟩ := id h2
  obtain ⟨a3, c3, rfl, -⟩ := id h3
  have hC : CB (w.alloc (.cells #[.string x.nm, .slice a1 x.has.length c1, .slice a2 x.needs.length c2] 86)) w.heap.size [.string x.nm, .slice a1 x.has.length c1, .slice a2 x.needs.length c2] := cb_alloc w _ _
  have hB0 := (Below.refl w.heap.size w).alloc (Nat.le_refl _) (.cells #[.string x.nm, .slice a1 x.has.length c1, .slice a2 x.needs.length c2] 86)
  go_enter Tryz.func154, Tryz.ntmps154
  go_upto_region 1 with fail
  generalize w.alloc (.cells #[.string x.nm, .slice a1 x.has.length c1, .slice a2 x.needs.length c2] 86) = W1 at *
  obtain ⟨⟨d0, d1, d2⟩, -⟩ := hC.c3
  have hlt := hC.2.2
  have l1 := h1.up hB0
  have l2 := h2.up hB0
  have l3 := h3.up hB0
  have hB : Below W1.heap.size W1 W1 := Below.refl _ _
  obtain ⟨hc, hf⟩ := bcell hB
  cases hq : pB (PartOk x.needs things)
  · have Hq : Hid (pB (BaOk things x) = false) := pB_no fun h => pB_not.1 hq h.1
    go_wp2_with (go_at_call 67; refine (partOf_any x.needs things _ _ _ (l2.up hB) (l3.up hB)).mono ?_; rintro e w1 ⟨rfl, hb1⟩; (first | (have hB' := up_trans hB hb1; clear hB; have hB := hB'; clear hB') | (have hB := hb1)); clear hb1; (try clear hc hf); obtain ⟨hc, hf⟩ := bcell hB)
    go_ret
    exact ⟨ret_bool Hq.out.symm, up_trans hB0 hB⟩
  · have Hq : Hid (pB (BaOk things x) = pB (PartOk x.has x.needs)) := by
      show _ = _
      have := pB_iff.1 hq
      unfold pB BaOk; simp [this]
    go_wp2_with (first | (revert hq; intro hq; (go_at_call 67; refine (partOf_any x.needs things _ _ _ (l2.up hB) (l3.up hB)).mono ?_; rintro e w1 ⟨rfl, hb1⟩; (first | (have hB' := up_trans hB hb1; clear hB; have hB := hB'; clear hB') | (have hB := hb1)); clear hb1; (try clear hc hf); obtain ⟨hc, hf⟩ := bcell hB); clear l3) | (go_at_call 67; refine (partOf_any x.has x.needs _ _ _ (l1.up hB) (l2.up hB)).mono ?_; rintro e w1 ⟨rfl, hb1⟩; (first | (have hB' := up_trans hB hb1; clear hB; have hB := hB'; clear hB') | (have hB := hb1)); clear hb1; (try clear hc hf); obtain ⟨hc, hf⟩ := bcell hB))
    go_ret
    exact ⟨ret_bool Hq.out.symm, up_trans hB0 hB⟩
end Go.Proofs.YtlkpgiifdclijaaGreatDoor
