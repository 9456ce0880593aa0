/- Books that are short, and stay so whatever is asked of them. -/
import Derived.Test.YtliebjbbomghiaaGreatDoorKt9
import Derived.Test.YtliebjbbomghiaaGreatDoorJ20
import Derived.Test.YtliebjbbomghiaaGreatDoorJ24
namespace Go.Proofs.YtliebjbbomghiaaGreatDoor
open Go.RowKit

/-- A drawn book is short, and its names can be. -/
def Tiny (b : Bk) : Prop := b.things.length ≤ 40 ∧ b.bs.length ≤ 40 ∧ ∀ x ∈ b.bs, x.has.length ≤ 40 ∧ x.needs.length ≤ 40
/-- A spoilt one may be a little longer. -/
def Loose (b : Bk) : Prop := b.things.length ≤ 50 ∧ b.bs.length ≤ 50 ∧ ∀ x ∈ b.bs, x.has.length ≤ 50 ∧ x.needs.length ≤ 50
def Dk (w : World) (base : Nat) (v : Value) (b : Bk) : Prop := BkW w base v b ∧ Szb b ∧ Tiny b
theorem Dk.gr {w w' : World} {base r : Nat} {v : Value} {b : Bk} (h : Dk w base v b) (hg : w.grownBy w' (some r)) (hr : r < base) : Dk w' base v b := ⟨h.1.gr hg hr, h.2⟩
theorem Dk.low {w : World} {base base' : Nat} {v : Value} {b : Bk} (h : Dk w base v b) (hb : base' ≤ base) : Dk w base' v b := ⟨h.1.low hb, h.2⟩
theorem Dk.up {w w' : World} {base : Nat} {v : Value} {b : Bk} (h : Dk w base v b) (hb : Below w.heap.size w w') : Dk w' base v b := ⟨h.1.up hb, h.2⟩
theorem Dk.bk {w : World} {base : Nat} {v : Value} {b : Bk} (h : Dk w base v b) : BkV w v b := h.1.bk h.2.1
def DkL (w : World) (base : Nat) (v : Value) (b : Bk) : Prop := BkW w base v b ∧ Szb b ∧ Loose b
theorem Dk.loose {w : World} {base : Nat} {v : Value} {b : Bk} (h : Dk w base v b) : DkL w base v b := by
  obtain ⟨h1, h2, h3, h4, h5⟩ := h
  exact ⟨h1, h2, by omega, by omega, fun x hx => by have := h5 x hx; omega⟩
theorem DkL.gr {w w' : World} {base r : Nat} {v : Value} {b : Bk} (h : DkL w base v b) (hg : w.grownBy w' (some r)) (hr : r < base) : DkL w' base v b := ⟨h.1.gr hg hr, h.2⟩
theorem DkL.low {w : World} {base base' : Nat} {v : Value} {b : Bk} (h : DkL w base v b) (hb : base' ≤ base) : DkL w base' v b := ⟨h.1.low hb, h.2⟩
theorem DkL.up {w w' : World} {base : Nat} {v : Value} {b : Bk} (h : DkL w base v b) (hb : Below w.heap.size w w') : DkL w' base v b := ⟨h.1.up hb, h.2⟩
theorem DkL.bk {w : World} {base : Nat} {v : Value} {b : Bk} (h : DkL w base v b) : BkV w v b := h.1.bk h.2.1
theorem tiny_none : Tiny nobody := ⟨by simp [nobody], by simp [nobody], fun x hx => by simp [nobody] at hx⟩
theorem mem_ins {α : Type} {l : List α} {k : Nat} {x y : α} (h : y ∈ l.take k ++ x :: l.drop k) : y ∈ l ∨ y = x := by
  rcases List.mem_append.1 h with h | h
  · exact .inl (List.mem_of_mem_take h)
  · rcases List.mem_cons.1 h with h | h
    · exact .inr h
    · exact .inl (List.mem_of_mem_drop h)
theorem enter_dk {b : Bk} {nm : ByteArray} {needs : List ByteArray} (hz : Szb b) (ht : Tiny b) (hn : ∀ s ∈ needs, s.size ≤ maxLen) : Szb (enterB b nm needs) ∧ Tiny (enterB b nm needs) := by
  cases hok : bookB b
  · rw [(enter_no hok).2]; exact ⟨szb_none, tiny_none⟩
  · cases h2 : (nameB nm && pB (PartOk needs b.things))
    · rw [(enter_two hok h2).2]; exact ⟨hz, ht⟩
    · cases h3 : memS (nms b.bs) nm
      · by_cases h4 : 5 ≤ b.bs.length
        · rw [(enter_four hok h2 h3 h4).2]; exact ⟨hz, ht⟩
        · rw [(enter_yes hok h2 h3 h4).2]
          have hp : PartOk needs b.things := pB_iff.1 (by rw [Bool.and_eq_true] at h2; exact h2.2)
          have hl := part_short hp
          obtain ⟨s1, s2, s3⟩ := ok_small (book_ok hok)
          refine ⟨⟨hz.1, fun y hy => ?_⟩, by show b.things.length ≤ 40; omega, by simp; omega, fun y hy => ?_⟩
          · rcases mem_ins hy with h | rfl
            · exact hz.2 y h
            · exact ⟨fun s hs => by simp at hs, hn⟩
          · rcases mem_ins hy with h | rfl
            · exact ht.2.2 y h
            · exact ⟨by simp, by show needs.length ≤ 40; omega⟩
      · rw [(enter_three hok h2 h3).2]; exact ⟨hz, ht⟩
theorem leave_dk {b : Bk} {nm : ByteArray} (hz : Szb b) (ht : Tiny b) : Szb (leaveB b nm) ∧ Tiny (leaveB b nm) := by
  cases hok : bookB b
  · rw [(leave_no hok).2]; exact ⟨szb_none, tiny_none⟩
  · cases h3 : memS (nms b.bs) nm
    · rw [(leave_none hok h3).2]; exact ⟨hz, ht⟩
    · rw [(leave_yes hok h3).2]
      have hm : ∀ y ∈ b.bs.take (plN b nm) ++ b.bs.drop (plN b nm + 1), y ∈ b.bs := fun y hy => by
        rcases List.mem_append.1 hy with h | h
        · exact List.mem_of_mem_take h
        · exact List.mem_of_mem_drop h
      have h2 := ht.2.1
      exact ⟨⟨hz.1, fun y hy => hz.2 y (hm y hy)⟩, ht.1, by simp; omega, fun y hy => ht.2.2 y (hm y hy)⟩
theorem chg_dk {b : Bk} {p : Nat} {f : Ba → Ba} (hz : Szb b) (ht : Tiny b) (hf : ∀ x ∈ b.bs, ((∀ s ∈ (f x).has, s.size ≤ maxLen) ∧ ∀ s ∈ (f x).needs, s.size ≤ maxLen) ∧ (f x).has.length ≤ 40 ∧ (f x).needs.length ≤ 40) : Szb (chg b p f) ∧ Tiny (chg b p f) := by
  cases hx : b.bs[p]? with
  | none => simp only [chg, hx]; exact ⟨hz, ht⟩
  | some x =>
    rw [chg_at hx]
    have hm := List.mem_of_getElem? hx
    refine ⟨⟨hz.1, fun y hy => ?_⟩, ht.1, by rw [List.length_set]; exact ht.2.1, fun y hy => ?_⟩
    · rcases List.mem_or_eq_of_mem_set hy with h | rfl
      · exact hz.2 y h
      · exact (hf x hm).1
    · rcases List.mem_or_eq_of_mem_set hy with h | rfl
      · exact ht.2.2 y h
      · exact (hf x hm).2
theorem needsAt_len {b : Bk} {nm : ByteArray} (h : bookB b = true) : (needsAt b nm).length ≤ 8 := by
  obtain ⟨s1, s2, s3⟩ := ok_small (book_ok h)
  cases hx : b.bs[plN b nm]? with
  | none => simp [needsAt, hx]
  | some x => rw [needsAt_at hx]; exact (s3 x (List.mem_of_getElem? hx)).2
theorem less_dk {b : Bk} {nm : ByteArray} {needs : List ByteArray} (hz : Szb b) (ht : Tiny b) (hn : ∀ s ∈ needs, s.size ≤ maxLen) : Szb (lsnB b nm needs) ∧ Tiny (lsnB b nm needs) := by
  cases hok : bookB b
  · rw [(less_no hok).2]; exact ⟨szb_none, tiny_none⟩
  · cases h3 : memS (nms b.bs) nm
    · rw [(less_none hok h3).2]; exact ⟨hz, ht⟩
    · cases h2 : pB (PartOk needs (needsAt b nm))
      · rw [(less_two hok h3 h2).2]; exact ⟨hz, ht⟩
      · rw [(less_yes hok h3 h2).2]
        exact chg_dk hz ht fun x hx => ⟨⟨fun s hs => (hz.2 x hx).1 s (List.mem_filter.1 hs).1, hn⟩, Nat.le_trans (List.length_filter_le _ _) (ht.2.2 x hx).1, by have := part_short (pB_iff.1 h2); have := needsAt_len (nm := nm) hok; show needs.length ≤ 40; omega⟩
theorem ask_dk {b b' : Bk} {nm : ByteArray} {things : List ByteArray} {cd : Int} (h : AskIs b nm things cd b') (hz : Szb b) (ht : Tiny b) (hn : ∀ s ∈ things, s.size ≤ maxLen) : Szb b' ∧ Tiny b' := by
  have hlast : bookB b = true → pB (PartOk things (needsAt b nm)) = true → Szb (chg b (plN b nm) (askF things)) ∧ Tiny (chg b (plN b nm) (askF things)) := fun hok hp => by
    obtain ⟨s1, s2, s3⟩ := ok_small (book_ok hok)
    have hl1 := part_short (pB_iff.1 hp)
    have hl2 := needsAt_len (nm := nm) hok
    exact chg_dk hz ht fun x hx => ⟨⟨fun s hs => by
      rcases insAll_mem _ _ s hs with h | h
      · exact (hz.2 x hx).1 s h
      · exact hn s h, (hz.2 x hx).2⟩, Nat.le_trans (insAll_len x.has things) (by have := s3 x hx; omega), (ht.2.2 x hx).2⟩
  rcases h with ⟨_, _, rfl⟩ | ⟨_, _, _, rfl⟩ | ⟨_, _, _, _, rfl⟩ | ⟨_, _, _, _, _, rfl⟩ | ⟨_, _, _, _, _, _, _, rfl⟩ | ⟨hok, _, hp, _, _, _, rfl⟩
  · exact ⟨szb_none, tiny_none⟩
  · exact ⟨hz, ht⟩
  · exact ⟨hz, ht⟩
  · exact ⟨hz, ht⟩
  · exact ⟨hz, ht⟩
  · exact hlast hok hp

end Go.Proofs.YtliebjbbomghiaaGreatDoor

/- Going on, in plain (chapter 23). -/
namespace Go.Proofs.YtliebjbbomghiaaGreatDoor
open Go.RowKit

/-- The batch at place k asks, if it waits. -/
def AskAt (h : House) (k : Nat) (h' : House) : Prop := ∃ x, h.bs[k]? = some x ∧ ((0 ≤ x.si ∧ h' = h) ∨ (x.si < 0 ∧ ∃ cd b', AskIs h.sh x.nm (rbOwn x) cd b' ∧ ((cd ≠ 0 ∧ h' = h) ∨ (cd = 0 ∧ h' = { h with sh := b', bs := h.bs.set k { x with si := 0 } }))))
/-- The first k have asked, in order. -/
def AsksTo (h : House) : Nat → House → Prop
  | 0, h' => h' = h
  | k + 1, h' => ∃ m, AsksTo h k m ∧ AskAt m k h'
theorem AskAt.same {h h' : House} {k : Nat} (H : AskAt h k h') : h'.now = h.now ∧ h'.last = h.last ∧ h'.ds = h.ds ∧ h'.bs.length = h.bs.length := by
  obtain ⟨x, hx, ⟨-, rfl⟩ | ⟨-, cd, b', -, ⟨-, rfl⟩ | ⟨-, rfl⟩⟩⟩ := H
  · exact ⟨rfl, rfl, rfl, rfl⟩
  · exact ⟨rfl, rfl, rfl, rfl⟩
  · exact ⟨rfl, rfl, rfl, by simp⟩
theorem AsksTo.same {h : House} : ∀ {k : Nat} {h' : House}, AsksTo h k h' → h'.now = h.now ∧ h'.last = h.last ∧ h'.ds = h.ds ∧ h'.bs.length = h.bs.length
  | 0, _, e => by cases e; exact ⟨rfl, rfl, rfl, rfl⟩
  | k + 1, _, ⟨m, hm, ha⟩ => by
    obtain ⟨a1, a2, a3, a4⟩ := ha.same
    obtain ⟨b1, b2, b3, b4⟩ := AsksTo.same hm
    exact ⟨a1.trans b1, a2.trans b2, a3.trans b3, a4.trans b4⟩
theorem rbOwn_len (x : Rb) : (rbOwn x).length ≤ 100 := by
  by_cases hk : RbOk x
  · rw [rbOwn_ok hk]
    have := thE_len x.sl (ofL (phOf x.ps x.ad))
    have := ofL_len (phOf x.ps x.ad)
    omega
  · rw [rbOwn_no hk]; simp
theorem slE_short {ps : List Ph} (h : recB ps = true) (nm : ByteArray) : (slE ps nm).length ≤ 24 := by
  have := slE_len ps nm
  have := ((recB_iff ps).1 h).2.1
  omega
theorem rbThings_len (x : Rb) (nm : ByteArray) : (rbThings x nm).length ≤ 100 := by
  by_cases hk : RbOk x
  · rw [rbThings_ok hk]
    have := thE_len x.sl (slE x.ps nm)
    have := slE_short hk.2.1 nm
    omega
  · rw [rbThings_no hk]; simp
/-- Of those that ended the last twenty. -/
def cut20 (l : List Done) : List Done := if 20 < l.length then l.drop 1 else l
/-- The batch at place k goes on to a phase, or to an end. -/
noncomputable def onH (h : House) (k : Nat) (nm : ByteArray) : House := match h.bs[k]? with
  | none => h
  | some x => if endN nm = 0 then { h with sh := lsnB h.sh x.nm (thE x.sl (slE x.ps nm)), bs := h.bs.set k { x with ad := nm, si := -1 } }
    else { h with sh := leaveB h.sh x.nm, bs := h.bs.take k ++ h.bs.drop (k + 1), ds := cut20 (h.ds ++ [⟨x.nm, endN nm, h.now⟩]) }
noncomputable def lateAt (h : House) (k : Nat) : House := match h.bs[k]? with
  | none => h
  | some x => if (phOf x.ps x.ad).wi ≤ x.si then onH h k (phOf x.ps x.ad).e else h
/-- Those that are late go on, from place k - 1 down. -/
noncomputable def lateTo (h : House) : Nat → House
  | 0 => h
  | k + 1 => lateTo (lateAt h k) k
def tickB (x : Rb) : Rb := if 0 ≤ x.si then { x with si := x.si + 1 } else x
/-- One tick more. -/
def tickH (h : House) : House := { h with now := h.now + 1, bs := h.bs.map tickB }
end Go.Proofs.YtliebjbbomghiaaGreatDoor

/- The specification's l23Asks (chapter 23): each that waits asks, in order. -/
namespace Go.Proofs.YtliebjbbomghiaaGreatDoor
open Go.RowKit

/-- A struct's block as a row of one. -/
theorem cb_of_rowK {w : World} {base e k y : Nat} {cs : List Value} (h : w.ownsRow base e k (.slice (some ⟨y, 0, none⟩) 1 1) 1 cs) : CB w y cs := by
  have hl : cs.length = 1 * k := h.1
  refine ⟨fun j v hv => ?_, fun j hj => ?_, (h.lt y rfl).2⟩
  · have hj : j < cs.length := (List.getElem?_eq_some_iff.1 hv).1
    rw [Nat.zero_add, h.cellAt j (by omega)]; exact hv
  · rw [Nat.zero_add]
    refine ⟨?_, h.frozenAt j⟩
    rw [h.cellAt j (by omega), List.getElem?_eq_getElem hj]; rfl
/-- A house stays while a house's own block is written. -/
theorem HW.box {w w' : World} {base b2 n : Nat} {h : House} {tv bv xv dv v : Value} {xs : List Value} (H : HW w base h tv bv xv dv) (hrow : w.ownsRow b2 99 6 v n xs) (hg : w.grownBy w' v.ownBlock) : HW w' base h tv bv xv dv := by
  obtain ⟨ps, h1, h2⟩ := H.x
  exact ⟨H.k.step hrow (by decide) (by decide) hg, H.z, ⟨ps, ⟨own_keep2 h1.1 hg (own_apart2 h1.1 hrow (by decide)), fun p hp => (h1.2 p hp).step hrow (by decide) (by decide) hg⟩, h2⟩, H.d.step hrow (by decide) hg⟩
/-- A cell of a house's own block written. -/
theorem box_put {w : World} {base y j : Nat} {cs : List Value} (h : w.ownsRow base 99 6 (.slice (some ⟨y, 0, none⟩) 1 1) 1 cs) (u : Value) : (w.setCell ⟨y, j, none⟩ u).ownsRow base 99 6 (.slice (some ⟨y, 0, none⟩) 1 1) 1 (cs.set j u) ∧ w.grownBy (w.setCell ⟨y, j, none⟩ u) (Value.slice (some ⟨y, 0, none⟩) 1 1).ownBlock := World.ownsRow.stored h j u
/-- What asking has made so far: the things, the answer, the book's place. -/
structure AS (W : World) (h : House) (x : Rb) (X : World) (k13 : Option Value) (k14 : Option (Value × Int × Bk)) (k18 : Option Nat) : Prop where
  B : Below W.heap.size W X
  s13 : ∀ v, k13 = some v → Txt X v (rbOwn x)
  s14 : ∀ r, k14 = some r → AskIs h.sh x.nm (rbOwn x) r.2.1 r.2.2 ∧ BkW X W.heap.size r.1 r.2.2
  s18 : ∀ y, k18 = some y → X.ownsRow W.heap.size 95 2 (.slice (some ⟨y, 0, none⟩) 1 1) 1 [.slice none 0 0, .slice none 0 0]
theorem AS.up {W X X' : World} {h : House} {x : Rb} {k13 : Option Value} {k14 : Option (Value × Int × Bk)} {k18 : Option Nat} (H : AS W h x X k13 k14 k18) (hb : Below X.heap.size X X') : AS W h x X' k13 k14 k18 :=
  ⟨up_trans H.B hb, fun v e => (H.s13 v e).up hb, fun r e => ⟨(H.s14 r e).1, (H.s14 r e).2.up hb⟩, fun y e => own_up (H.s18 y e) hb⟩
theorem as_nil (W : World) (h : House) (x : Rb) : AS W h x W none none none := ⟨Below.refl _ _, fun _ h => (by cases h), fun _ h => (by cases h), fun _ h => (by cases h)⟩
theorem AS.own {W X X' : World} {h : House} {x : Rb} {k13 : Option Value} {k14 : Option (Value × Int × Bk)} {k18 : Option Nat} {v : Value} (H : AS W h x X k13 k14 k18) (hb : Below X.heap.size X X') (hv : Txt X' v (rbOwn x)) : AS W h x X' (some v) k14 k18 :=
  { H.up hb with s13 := fun u e => by cases e; exact hv }
theorem AS.ask {W X X' : World} {h : House} {x : Rb} {k13 : Option Value} {k14 : Option (Value × Int × Bk)} {k18 : Option Nat} {v : Value} {cd : Int} {b' : Bk} (H : AS W h x X k13 k14 k18) (hb : Below X.heap.size X X') (ha : AskIs h.sh x.nm (rbOwn x) cd b') (hv : BkW X' X.heap.size v b') : AS W h x X' k13 (some (v, cd, b')) k18 :=
  { H.up hb with s14 := fun u e => by cases e; exact ⟨ha, hv.low H.B.size⟩ }
theorem AS.new {W X : World} {h : House} {x : Rb} {k13 : Option Value} {k14 : Option (Value × Int × Bk)} {k18 : Option Nat} (H : AS W h x X k13 k14 k18) : AS W h x (X.alloc (.cells #[.slice none 0 0, .slice none 0 0] 95)) k13 k14 (some X.heap.size) :=
  { H.up ((Below.refl _ _).alloc (Nat.le_refl _) _) with s18 := fun u e => by cases e; exact World.ownsRow_lit X _ 1 H.B.size (by unfold maxLen; omega) rfl }
theorem AS.fin {W X : World} {h : House} {x : Rb} {k13 : Option Value} {tu bu : Value} {cd : Int} {b' : Bk} {y : Nat} (H : AS W h x X k13 (some (.agg #[tu, bu], cd, b')) (some y)) :
    Below W.heap.size W ((X.setCell ⟨y, 0, none⟩ tu).setCell ⟨y, 1, none⟩ bu) ∧ AskIs h.sh x.nm (rbOwn x) cd b' ∧ BkW ((X.setCell ⟨y, 0, none⟩ tu).setCell ⟨y, 1, none⟩ bu) W.heap.size (.agg #[tu, bu]) b' ∧ CB ((X.setCell ⟨y, 0, none⟩ tu).setCell ⟨y, 1, none⟩ bu) y [tu, bu] := by
  have h18 := H.s18 y rfl
  have h1 := World.ownsRow.stored h18 0 tu
  have h2 := World.ownsRow.stored h1.1 1 bu
  have hg : X.grownBy ((X.setCell ⟨y, 0, none⟩ tu).setCell ⟨y, 1, none⟩ bu) (Value.slice (some ⟨y, 0, none⟩) 1 1).ownBlock := grown_trans h1.2 h2.2
  exact ⟨below_ownB H.B H.B.size h18 hg (Nat.le_refl _), (H.s14 _ rfl).1, (H.s14 _ rfl).2.step h18 (by decide) (by decide) hg, cb_of_rowK h2.1⟩

/-- One that asked goes on with a book of its own. -/
theorem HW.asked {w : World} {base g n cap k : Nat} {h : House} {tv bv tu bu dv : Value} {b' : Bk} {x : Rb} (H : HW w base h tv bv (.slice (some ⟨g, 0, none⟩) n cap) dv) (hx : h.bs[k]? = some x) (hb : BkW w base (.agg #[tu, bu]) b') (hz : Szb b') :
    HW (w.setCell ⟨g, k * 6 + 4, none⟩ (.int .i64 0)) base { h with sh := b', bs := h.bs.set k { x with si := 0 } } tu bu (.slice (some ⟨g, 0, none⟩) n cap) dv := by
  obtain ⟨ps, h1, h2⟩ := H.x
  have hx' := hx
  rw [← h2, List.getElem?_map, Option.map_eq_some_iff] at hx'
  obtain ⟨⟨y, ru, su⟩, hp, e⟩ := hx'
  obtain rfl : y = x := e
  have hg : w.grownBy (w.setCell ⟨g, k * 6 + 4, none⟩ (.int .i64 0)) (Value.slice (some ⟨g, 0, none⟩) n cap).ownBlock := grown_setCell (grown_refl _ _) _
  exact ⟨hb.step h1.1 (by decide) (by decide) hg, hz, ⟨_, h1.put (y := { y with si := 0 }) hp (by omega) rfl rfl rfl rfl, by rw [List.map_set, h2]⟩, H.d.step h1.1 (by decide) hg⟩

theorem two_rows (w : World) (cs ds : List Value) (hc : cs.length = 6) (hd : ds.length = 6) :
    ((w.alloc (.cells cs.toArray 99)).alloc (.cells ds.toArray 99)).ownsRow w.heap.size 99 6 (.slice (some ⟨w.heap.size, 0, none⟩) 1 1) 1 cs ∧ ((w.alloc (.cells cs.toArray 99)).alloc (.cells ds.toArray 99)).ownsRow w.heap.size 99 6 (.slice (some ⟨w.heap.size + 1, 0, none⟩) 1 1) 1 ds ∧ Below w.heap.size w ((w.alloc (.cells cs.toArray 99)).alloc (.cells ds.toArray 99)) := by
  have h1 : (w.alloc (.cells cs.toArray 99)).ownsRow w.heap.size 99 6 (.slice (some ⟨w.heap.size, 0, none⟩) 1 1) 1 cs := by simpa using World.ownsRow_lit w cs.toArray 1 (Nat.le_refl _) (by unfold maxLen; omega) (by simpa using hc)
  have hz : (w.alloc (.cells cs.toArray 99)).heap.size = w.heap.size + 1 := by simp
  have h2 : ((w.alloc (.cells cs.toArray 99)).alloc (.cells ds.toArray 99)).ownsRow w.heap.size 99 6 (.slice (some ⟨(w.alloc (.cells cs.toArray 99)).heap.size, 0, none⟩) 1 1) 1 ds := by simpa using World.ownsRow_lit (w.alloc (.cells cs.toArray 99)) ds.toArray 1 (by omega) (by unfold maxLen; omega) (by simpa using hd)
  rw [hz] at h2
  exact ⟨h1.alloc _, h2, ((Below.refl _ _).alloc (Nat.le_refl _) _).alloc (by omega) _⟩
set_option maxRecDepth 20000 in
set_option maxHeartbeats 8000000 in
theorem asks23_any (h : House) (tv bv xv dv : Value) (base : Nat) (w : World) (H : HW w base h tv bv xv dv) (hbase : base ≤ w.heap.size) (hT : Tiny h.sh) :
    Calls Tryz.prog 113 #[.agg #[.int .i64 h.now, .int .i64 h.last, tv, bv, xv, dv]] w fun e w' => (∃ h' tu bu, e = .returned (.agg #[.int .i64 h.now, .int .i64 h.last, tu, bu, xv, dv]) ∧ AsksTo h h.bs.length h' ∧ Tiny h'.sh ∧ HW w' base h' tu bu xv dv) ∧ w.grownBy w' xv.ownBlock := by
  obtain ⟨a1, c1, a2, c2, a3, c3, a4, c4, rfl, rfl, rfl, rfl⟩ := H.v.shapes
  obtain ⟨W1, hW1, kA, kR, hB1⟩ : ∃ W1, (w.alloc (.cells #[.int .i64 h.now, .int .i64 h.last, .slice a1 h.sh.things.length c1, .slice a2 h.sh.bs.length c2, .slice a3 h.bs.length c3, .slice a4 h.ds.length c4] 99)).alloc (.cells #[.int .i64 0, .int .i64 0, .slice none 0 0, .slice none 0 0, .slice none 0 0, .slice none 0 0] 99) = W1 ∧ W1.ownsRow w.heap.size 99 6 (.slice (some ⟨w.heap.size, 0, none⟩) 1 1) 1 [.int .i64 h.now, .int .i64 h.last, .slice a1 h.sh.things.length c1, .slice a2 h.sh.bs.length c2, .slice a3 h.bs.length c3, .slice a4 h.ds.length c4] ∧ W1.ownsRow w.heap.size 99 6 (.slice (some ⟨w.heap.size + 1, 0, none⟩) 1 1) 1 [.int .i64 0, .int .i64 0, .slice none 0 0, .slice none 0 0, .slice none 0 0, .slice none 0 0] ∧ Below w.heap.size w W1 := ⟨_, rfl, two_rows w [.int .i64 h.now, .int .i64 h.last, .slice a1 h.sh.things.length c1, .slice a2 h.sh.bs.length c2, .slice a3 h.bs.length c3, .slice a4 h.ds.length c4] [.int .i64 0, .int .i64 0, .slice none 0 0, .slice none 0 0, .slice none 0 0, .slice none 0 0] rfl rfl⟩
  go_enter Tryz.func113, Tryz.ntmps113
  go_upto_region 2 with fail
  try rw [hW1]
  clear hW1
  have H1 := H.up hB1
  have hG1 : w.grownBy W1 (Value.slice a3 h.bs.length c3).ownBlock := ⟨hB1.os, hB1.tape, hB1.output, hB1.size, fun k hk _ => hB1.block k hk⟩
  have hz1 := hB1.size
  have hmx : h.bs.length ≤ 9223372036854775807 := by
    obtain ⟨ps, hw, he⟩ := H.x
    have := own_len hw.1
    rw [← he, List.length_map]; unfold maxLen at this; omega
  go_loopw [3] (fun i w' => ∃ (k : Nat) (hk : House) (tu bu : Value), k ≤ h.bs.length ∧ i = .int .i64 k ∧ AsksTo h k hk ∧ Tiny hk.sh ∧ w'.ownsRow w.heap.size 99 6 (.slice (some ⟨w.heap.size, 0, none⟩) 1 1) 1 [.int .i64 h.now, .int .i64 h.last, tu, bu, .slice a3 h.bs.length c3, .slice a4 h.ds.length c4] ∧ w'.ownsRow w.heap.size 99 6 (.slice (some ⟨w.heap.size + 1, 0, none⟩) 1 1) 1 [.int .i64 0, .int .i64 0, .slice none 0 0, .slice none 0 0, .slice none 0 0, .slice none 0 0] ∧ HW w' base hk tu bu (.slice a3 h.bs.length c3) (.slice a4 h.ds.length c4) ∧ w.grownBy w' (Value.slice a3 h.bs.length c3).ownBlock) (fun i _ => h.bs.length - (intOf i).toNat)
  case atStart => exact ⟨0, h, _, _, by omega, rfl, rfl, hT, kA, kR, H1, hG1⟩
  case round =>
    clear kA kR H1 hG1 hB1 hz1 H hT
    obtain ⟨k, hk, tu, bu, hle, rfl, hA, hTk, kA, kR, HH, hG⟩ := hrel
    have HA : Hid (AsksTo h k hk) := hA
    obtain ⟨z1, z2, z3, z4⟩ := hA.same
    clear hA
    have Hs : Hid (hk.now = h.now ∧ hk.last = h.last ∧ hk.ds = h.ds ∧ hk.bs.length = h.bs.length) := ⟨z1, z2, z3, z4⟩
    clear z1 z2 z3
    have Hz4 : Hid (hk.bs.length = h.bs.length) := z4
    clear z4
    obtain ⟨e0, e1, e2, e3, e4, e5⟩ := (cb_of_rowK kA).c6
    by_cases hp : k < h.bs.length
    · obtain ⟨ps, hW, hm⟩ := HH.x
      have hpl : ps.length = h.bs.length := by have := congrArg List.length hm; rw [List.length_map, Hz4.out] at this; exact this
      obtain ⟨g, cap, eg⟩ := own_ptr2 hW.1 (by omega)
      simp only [Value.slice.injEq] at eg
      obtain ⟨rfl, -, rfl⟩ := eg
      have hrow := hW.1
      rw [hpl] at hrow
      obtain ⟨⟨x0, ru, su⟩, hpk⟩ : ∃ p, ps[k]? = some p := ⟨ps[k]'(by omega), List.getElem?_eq_getElem _⟩
      have Hpk : Hid (ps[k]? = some (x0, ru, su)) := hpk
      have Hx0 : Hid (hk.bs[k]? = some x0) := by show _ = _; rw [← hm, List.getElem?_map, hpk]; rfl
      have hrc := hW.2 _ (List.mem_of_getElem? hpk)
      have hnr : NN ru := hrc.nr
      have hns : NN su := hrc.ns
      obtain ⟨g3, n3, m3, rfl⟩ := hnr
      obtain ⟨g4, n4, m4, rfl⟩ := hns
      have hcl := own_rows rowR_len hrow hpk
      have q0 : World.cell? wr ⟨g, k * 6, none⟩ = some (.string x0.nm) := hcl 0 _ rfl
      have q1 : World.cell? wr ⟨g, k * 6 + 1, none⟩ = some (.slice (some ⟨g3, 0, none⟩) n3 m3) := hcl 1 _ rfl
      have q2 : World.cell? wr ⟨g, k * 6 + 2, none⟩ = some (.slice (some ⟨g4, 0, none⟩) n4 m4) := hcl 2 _ rfl
      have q3 : World.cell? wr ⟨g, k * 6 + 3, none⟩ = some (.string x0.ad) := hcl 3 _ rfl
      have q4 : World.cell? wr ⟨g, k * 6 + 4, none⟩ = some (.int .i64 x0.si) := hcl 4 _ rfl
      have q5 : World.cell? wr ⟨g, k * 6 + 5, none⟩ = some (.int .i64 x0.st) := hcl 5 _ rfl
      have hv : RbV wr x0 (.slice (some ⟨g3, 0, none⟩) n3 m3) (.slice (some ⟨g4, 0, none⟩) n4 m4) := hrc.v
      have hglt : g < wr.heap.size := (hrow.lt g rfl).2
      have hwlt : w.heap.size < wr.heap.size := (kA.lt w.heap.size rfl).2
      clear hcl hrc hm hpk hW hpl
      by_cases hsi : 0 ≤ x0.si
      · have HN : Hid (AsksTo h (k + 1) hk) := ⟨hk, HA.out, x0, Hx0.out, .inl ⟨hsi, rfl⟩⟩
        clear hv hrow q0 q1 q2 q3 q5
        go_wp2_with fail
        go_roundw
        case rel => exact ⟨k + 1, hk, tu, bu, by omega, by go_num, HN.out, hTk, kA, kR, HH, hG⟩
        case measure => simp [intOf]; omega
      · have mk : ∀ w', Below wr.heap.size wr w' → Below wr.heap.size wr w' ∧ World.cell? w' ⟨w.heap.size, 2, none⟩ = some tu ∧ World.cell? w' ⟨w.heap.size, 3, none⟩ = some bu ∧ World.cell? w' ⟨w.heap.size, 4, none⟩ = some (.slice (some ⟨g, 0, none⟩) h.bs.length c3) ∧ World.cell? w' ⟨g, k * 6, none⟩ = some (.string x0.nm) ∧ World.cell? w' ⟨g, k * 6 + 1, none⟩ = some (.slice (some ⟨g3, 0, none⟩) n3 m3) ∧ World.cell? w' ⟨g, k * 6 + 2, none⟩ = some (.slice (some ⟨g4, 0, none⟩) n4 m4) ∧ World.cell? w' ⟨g, k * 6 + 3, none⟩ = some (.string x0.ad) ∧ World.cell? w' ⟨g, k * 6 + 4, none⟩ = some (.int .i64 x0.si) ∧ World.cell? w' ⟨g, k * 6 + 5, none⟩ = some (.int .i64 x0.st) := fun w' hb' => ⟨hb', (hb'.cell (p := ⟨w.heap.size, 2, none⟩) hwlt).trans e2, (hb'.cell (p := ⟨w.heap.size, 3, none⟩) hwlt).trans e3, (hb'.cell (p := ⟨w.heap.size, 4, none⟩) hwlt).trans e4, (hb'.cell (p := ⟨g, k * 6, none⟩) hglt).trans q0, (hb'.cell (p := ⟨g, k * 6 + 1, none⟩) hglt).trans q1, (hb'.cell (p := ⟨g, k * 6 + 2, none⟩) hglt).trans q2, (hb'.cell (p := ⟨g, k * 6 + 3, none⟩) hglt).trans q3, (hb'.cell (p := ⟨g, k * 6 + 4, none⟩) hglt).trans q4, (hb'.cell (p := ⟨g, k * 6 + 5, none⟩) hglt).trans q5⟩
        have Mk : Hid (∀ w', Below wr.heap.size wr w' → Below wr.heap.size wr w' ∧ World.cell? w' ⟨w.heap.size, 2, none⟩ = some tu ∧ World.cell? w' ⟨w.heap.size, 3, none⟩ = some bu ∧ World.cell? w' ⟨w.heap.size, 4, none⟩ = some (.slice (some ⟨g, 0, none⟩) h.bs.length c3) ∧ World.cell? w' ⟨g, k * 6, none⟩ = some (.string x0.nm) ∧ World.cell? w' ⟨g, k * 6 + 1, none⟩ = some (.slice (some ⟨g3, 0, none⟩) n3 m3) ∧ World.cell? w' ⟨g, k * 6 + 2, none⟩ = some (.slice (some ⟨g4, 0, none⟩) n4 m4) ∧ World.cell? w' ⟨g, k * 6 + 3, none⟩ = some (.string x0.ad) ∧ World.cell? w' ⟨g, k * 6 + 4, none⟩ = some (.int .i64 x0.si) ∧ World.cell? w' ⟨g, k * 6 + 5, none⟩ = some (.int .i64 x0.st)) := mk
        have HB : Hid (BkV wr (.agg #[tu, bu]) hk.sh) := HH.v.book
        clear mk q0 q1 q2 q3 q5
        go_upto_region 5 with fail
        clear q4 e0 e1 e2 e3 e4 e5
        go_cut [4, 5] (fun v4 v5 wc => ∃ (Y : Nat) (tw bw : Value) (cd : Int) (b' : Bk), v4 = .pointer (some ⟨Y, 0, none⟩) ∧ v5 = .int .i64 cd ∧ Below wr.heap.size wr wc ∧ AskIs hk.sh x0.nm (rbOwn x0) cd b' ∧ BkW wc wr.heap.size (.agg #[tw, bw]) b' ∧ CB wc Y [tw, bw])
        case first =>
          have hC : AS wr hk x0 wr.drew none none none := (as_nil wr hk x0).up (Below.refl _ _).drew
          refine wp_region_x 99 (fun w' => Below wr.heap.size wr w' ∧ World.cell? w' ⟨w.heap.size, 2, none⟩ = some tu ∧ World.cell? w' ⟨w.heap.size, 3, none⟩ = some bu ∧ World.cell? w' ⟨w.heap.size, 4, none⟩ = some (.slice (some ⟨g, 0, none⟩) h.bs.length c3) ∧ World.cell? w' ⟨g, k * 6, none⟩ = some (.string x0.nm) ∧ World.cell? w' ⟨g, k * 6 + 1, none⟩ = some (.slice (some ⟨g3, 0, none⟩) n3 m3) ∧ World.cell? w' ⟨g, k * 6 + 2, none⟩ = some (.slice (some ⟨g4, 0, none⟩) n4 m4) ∧ World.cell? w' ⟨g, k * 6 + 3, none⟩ = some (.string x0.ad) ∧ World.cell? w' ⟨g, k * 6 + 4, none⟩ = some (.int .i64 x0.si) ∧ World.cell? w' ⟨g, k * 6 + 5, none⟩ = some (.int .i64 x0.st)) (by kernel_rfl) ?_
          generalize wr.drew = X1 at hC ⊢
          have hS1 := Mk.out _ hC.B
          refine tkx 0 rfl hS1 ?_
          refine tkx 1 rfl hS1 ?_
          refine tkx 2 rfl hS1 ?_
          refine tkx 3 rfl hS1 ?_
          refine tkx 4 rfl hS1 ?_
          refine tkx 5 rfl hS1 ?_
          refine tkx 6 rfl hS1 ?_
          refine tkx 7 rfl hS1 ?_
          refine tkx 8 rfl hS1 ?_
          refine tkx 9 rfl hS1 ?_
          refine tkx 10 rfl hS1 ?_
          refine tkx 11 rfl hS1 ?_
          refine tkx 12 rfl hS1 ?_
          clear hS1
          refine anyX_two (i := 13) (j := 18) (by kernel_rfl) rfl rfl (fun K hK => ?_) (fun K hK => ?_)
          · (go_simp; go_wp2_with (go_at_call 13; refine (ownS_any x0 _ _ _ (hv.up hC.B)).mono ?_; rintro e X2 ⟨⟨u, rfl, hu⟩, hb2⟩; replace hC := hC.own hb2 hu; clear hb2; obtain ⟨g9, c9, rfl, -⟩ := hu); refine hK.out _ _ (fun _ => (Mk.out _ hC.B)) ?_; clear hK K)
            refine anyX_two (i := 14) (j := 18) (by kernel_rfl) rfl rfl (fun K hK => ?_) (fun K hK => ?_)
            · (go_simp; go_wp2_with (go_at_call 125; refine (specAsk_any hk.sh _ _ x0.nm (rbOwn x0) _ (HB.out.up hC.B) ((Lst.ls (.inr (hC.s13 _ rfl))) (rbOwn_sized hv)) (Nat.le_trans (rbOwn_len x0) (by omega))).mono ?_; rintro e X3 ⟨⟨v8, cd, b', rfl, hask, hk8⟩, hb8⟩; replace hC := hC.ask hb8 hask hk8; obtain ⟨t1, d1, t2, d2, ps8, rfl, -⟩ := hk8.parts; clear hk8 hb8 hask); refine hK.out _ _ (fun _ => (Mk.out _ hC.B)) ?_; clear hK K; (refine tkx 15 rfl (Mk.out _ hC.B) ?_); (refine tkx 16 rfl (Mk.out _ hC.B) ?_); (refine tkx 17 rfl (Mk.out _ hC.B) ?_))
              refine anyX_one (i := 18) (by kernel_rfl) rfl (fun K hK => ?_)
              (go_simp; replace hC := hC.new; refine hK.out _ _ (fun _ => (Mk.out _ hC.B)) ?_; clear hK K; generalize World.alloc _ (.cells #[.slice none 0 0, .slice none 0 0] 95) = X4 at hC ⊢)
              (have kY := cb_of_rowK (hC.s18 _ rfl); obtain ⟨⟨j0, j1⟩, m0, m1⟩ := kY.c2; have hF := hC.fin; refine anyX_one (i := 19) (by kernel_rfl) rfl (fun K hK => ?_); go_simp; refine hK.out _ _ (fun _ => Mk.out _ hF.1) ?_; clear hK K j0 j1 m0 m1 kY; (try simp only [Act.put, List.setIfInBounds_toArray, List.set_cons_zero, List.set_cons_succ]); refine anyX_one (i := 20) (by kernel_rfl) rfl (fun K hK => ?_); go_simp; refine hK.out _ _ (fun _ => Mk.out _ hF.1) ?_; clear hK K; (try simp only [Act.put, List.setIfInBounds_toArray, List.set_cons_zero, List.set_cons_succ]); refine anyX_done (by kernel_rfl) ?_ _; go_wp2_with fail; go_meet; exact ⟨_, _, _, _, _, rfl, rfl, hF⟩)
            · (go_simp; replace hC := hC.new; refine hK.out _ _ (fun _ => (Mk.out _ hC.B)) ?_; clear hK K; generalize World.alloc _ (.cells #[.slice none 0 0, .slice none 0 0] 95) = X4 at hC ⊢)
              refine anyX_one (i := 14) (by kernel_rfl) rfl (fun K hK => ?_)
              (go_simp; go_wp2_with (go_at_call 125; refine (specAsk_any hk.sh _ _ x0.nm (rbOwn x0) _ (HB.out.up hC.B) ((Lst.ls (.inr (hC.s13 _ rfl))) (rbOwn_sized hv)) (Nat.le_trans (rbOwn_len x0) (by omega))).mono ?_; rintro e X3 ⟨⟨v8, cd, b', rfl, hask, hk8⟩, hb8⟩; replace hC := hC.ask hb8 hask hk8; obtain ⟨t1, d1, t2, d2, ps8, rfl, -⟩ := hk8.parts; clear hk8 hb8 hask); refine hK.out _ _ (fun _ => (Mk.out _ hC.B)) ?_; clear hK K; (refine tkx 15 rfl (Mk.out _ hC.B) ?_); (refine tkx 16 rfl (Mk.out _ hC.B) ?_); (refine tkx 17 rfl (Mk.out _ hC.B) ?_))
              (have kY := cb_of_rowK (hC.s18 _ rfl); obtain ⟨⟨j0, j1⟩, m0, m1⟩ := kY.c2; have hF := hC.fin; refine anyX_one (i := 19) (by kernel_rfl) rfl (fun K hK => ?_); go_simp; refine hK.out _ _ (fun _ => Mk.out _ hF.1) ?_; clear hK K j0 j1 m0 m1 kY; (try simp only [Act.put, List.setIfInBounds_toArray, List.set_cons_zero, List.set_cons_succ]); refine anyX_one (i := 20) (by kernel_rfl) rfl (fun K hK => ?_); go_simp; refine hK.out _ _ (fun _ => Mk.out _ hF.1) ?_; clear hK K; (try simp only [Act.put, List.setIfInBounds_toArray, List.set_cons_zero, List.set_cons_succ]); refine anyX_done (by kernel_rfl) ?_ _; go_wp2_with fail; go_meet; exact ⟨_, _, _, _, _, rfl, rfl, hF⟩)
          · (go_simp; replace hC := hC.new; refine hK.out _ _ (fun _ => (Mk.out _ hC.B)) ?_; clear hK K; generalize World.alloc _ (.cells #[.slice none 0 0, .slice none 0 0] 95) = X4 at hC ⊢)
            refine anyX_one (i := 13) (by kernel_rfl) rfl (fun K hK => ?_)
            (go_simp; go_wp2_with (go_at_call 13; refine (ownS_any x0 _ _ _ (hv.up hC.B)).mono ?_; rintro e X2 ⟨⟨u, rfl, hu⟩, hb2⟩; replace hC := hC.own hb2 hu; clear hb2; obtain ⟨g9, c9, rfl, -⟩ := hu); refine hK.out _ _ (fun _ => (Mk.out _ hC.B)) ?_; clear hK K)
            refine anyX_one (i := 14) (by kernel_rfl) rfl (fun K hK => ?_)
            (go_simp; go_wp2_with (go_at_call 125; refine (specAsk_any hk.sh _ _ x0.nm (rbOwn x0) _ (HB.out.up hC.B) ((Lst.ls (.inr (hC.s13 _ rfl))) (rbOwn_sized hv)) (Nat.le_trans (rbOwn_len x0) (by omega))).mono ?_; rintro e X3 ⟨⟨v8, cd, b', rfl, hask, hk8⟩, hb8⟩; replace hC := hC.ask hb8 hask hk8; obtain ⟨t1, d1, t2, d2, ps8, rfl, -⟩ := hk8.parts; clear hk8 hb8 hask); refine hK.out _ _ (fun _ => (Mk.out _ hC.B)) ?_; clear hK K; (refine tkx 15 rfl (Mk.out _ hC.B) ?_); (refine tkx 16 rfl (Mk.out _ hC.B) ?_); (refine tkx 17 rfl (Mk.out _ hC.B) ?_))
            (have kY := cb_of_rowK (hC.s18 _ rfl); obtain ⟨⟨j0, j1⟩, m0, m1⟩ := kY.c2; have hF := hC.fin; refine anyX_one (i := 19) (by kernel_rfl) rfl (fun K hK => ?_); go_simp; refine hK.out _ _ (fun _ => Mk.out _ hF.1) ?_; clear hK K j0 j1 m0 m1 kY; (try simp only [Act.put, List.setIfInBounds_toArray, List.set_cons_zero, List.set_cons_succ]); refine anyX_one (i := 20) (by kernel_rfl) rfl (fun K hK => ?_); go_simp; refine hK.out _ _ (fun _ => Mk.out _ hF.1) ?_; clear hK K; (try simp only [Act.put, List.setIfInBounds_toArray, List.set_cons_zero, List.set_cons_succ]); refine anyX_done (by kernel_rfl) ?_ _; go_wp2_with fail; go_meet; exact ⟨_, _, _, _, _, rfl, rfl, hF⟩)
        case rest =>
          obtain ⟨Y, tw, bw, cd, b', rfl, rfl, hBc, hask, hbk, kY⟩ := hcut
          have HHc := HH.up hBc
          have kAc := own_up kA hBc
          have kRc := own_up kR hBc
          have hrowc := own_up hrow hBc
          have hGc : w.grownBy wc (Value.slice (some ⟨g, 0, none⟩) h.bs.length c3).ownBlock := ⟨hBc.os.trans hG.os, hBc.tape.trans hG.tape, hBc.output.trans hG.output, Nat.le_trans hG.size hBc.size, fun i hi hne => (hBc.block i (Nat.lt_of_lt_of_le hi hG.size)).trans (hG.block i hi hne)⟩
          have Hdk : Hid (Szb b' ∧ Tiny b') := ask_dk hask HH.z hTk (rbOwn_sized hv)
          have Hask : Hid (AskIs hk.sh x0.nm (rbOwn x0) cd b') := hask
          have hbl : base ≤ wr.heap.size := Nat.le_trans hbase (Nat.le_of_lt hwlt)
          clear Mk HB hrow HH kA kR hG hv hask
          by_cases hcd : cd = 0
          · subst hcd
            obtain ⟨t1, d1, t2, d2, qs, e9, -⟩ := hbk.parts
            simp only [Value.agg.injEq, Array.mk.injEq, List.cons.injEq, and_true] at e9
            obtain ⟨rfl, rfl⟩ := e9
            obtain ⟨v0, v1⟩ := kY.c2'
            obtain ⟨e0, e1, e2, e3, e4, e5⟩ := (cb_of_rowK kAc).c6
            obtain ⟨f0, f1, f2, f3, f4, f5⟩ := (cb_of_rowK kAc).f6
            have b1 := box_put (j := 2) kAc (.slice t1 b'.things.length d1)
            have b2 := box_put (j := 3) b1.1 (.slice t2 b'.bs.length d2)
            have hg2 : wc.grownBy ((wc.setCell ⟨w.heap.size, 2, none⟩ (.slice t1 b'.things.length d1)).setCell ⟨w.heap.size, 3, none⟩ (.slice t2 b'.bs.length d2)) (Value.slice (some ⟨w.heap.size, 0, none⟩) 1 1).ownBlock := grown_trans b1.2 b2.2
            obtain ⟨W7, hW7, kA7, kR7, hrow7, HH7, hbk7, hG7⟩ : ∃ W7, (wc.setCell ⟨w.heap.size, 2, none⟩ (.slice t1 b'.things.length d1)).setCell ⟨w.heap.size, 3, none⟩ (.slice t2 b'.bs.length d2) = W7 ∧ W7.ownsRow w.heap.size 99 6 (.slice (some ⟨w.heap.size, 0, none⟩) 1 1) 1 [.int .i64 h.now, .int .i64 h.last, .slice t1 b'.things.length d1, .slice t2 b'.bs.length d2, .slice (some ⟨g, 0, none⟩) h.bs.length c3, .slice a4 h.ds.length c4] ∧ W7.ownsRow w.heap.size 99 6 (.slice (some ⟨w.heap.size + 1, 0, none⟩) 1 1) 1 [.int .i64 0, .int .i64 0, .slice none 0 0, .slice none 0 0, .slice none 0 0, .slice none 0 0] ∧ W7.ownsRow base 26 6 (.slice (some ⟨g, 0, none⟩) h.bs.length c3) h.bs.length (rowsF rowR ps) ∧ HW W7 base hk tu bu (.slice (some ⟨g, 0, none⟩) h.bs.length c3) (.slice a4 h.ds.length c4) ∧ BkW W7 base (.agg #[.slice t1 b'.things.length d1, .slice t2 b'.bs.length d2]) b' ∧ w.grownBy W7 (Value.slice (some ⟨g, 0, none⟩) h.bs.length c3).ownBlock :=
              ⟨_, rfl, b2.1, own_keep2 kRc hg2 (by simp [Value.ownBlock]), own_keep2 hrowc hg2 (own_apart2 hrowc kAc (by decide)), HHc.box kAc hg2, (hbk.step kAc (by decide) (by decide) hg2).low hbl, grown_setNew (grown_setNew hGc (Nat.le_refl _) _) (Nat.le_refl _) _⟩
            go_upto_region 8 with fail
            try rw [hW7]
            clear hW7 e0 e1 e2 e3 e4 e5 f0 f1 f2 f3 f4 f5 v0 v1 b1 b2 hg2 kAc kRc hrowc HHc hbk hGc kY hBc
            have e4 := (cb_of_rowK kA7).c6.2.2.2.2.1
            have q4 : World.cell? W7 ⟨g, k * 6 + 4, none⟩ = (rowsF rowR ps)[k * 6 + 4]? := hrow7.cellAt (k * 6 + 4) (by omega)
            rw [rowsF_at rowR_len ps k _ Hpk.out 4 (.int .i64 x0.si) rfl] at q4
            have f4 := hrow7.frozenAt (k * 6 + 4)
            have hg8 : W7.grownBy (W7.setCell ⟨g, k * 6 + 4, none⟩ (.int .i64 0)) (Value.slice (some ⟨g, 0, none⟩) h.bs.length c3).ownBlock := (World.ownsRow.stored hrow7 _ _).2
            have HH8 := HH7.asked Hx0.out hbk7 Hdk.out.1
            have kA8 := own_keep2 kA7 hg8 (own_apart2 kA7 hrow7 (by decide))
            have kR8 := own_keep2 kR7 hg8 (own_apart2 kR7 hrow7 (by decide))
            have hG8 := grown_trans hG7 hg8
            have HN : Hid (AsksTo h (k + 1) { hk with sh := b', bs := hk.bs.set k { x0 with si := 0 } }) := ⟨hk, HA.out, x0, Hx0.out, .inr ⟨by omega, 0, b', Hask.out, .inr ⟨rfl, rfl⟩⟩⟩
            clear hrow7 HH7 hbk7 hG7 hg8 kA7 kR7
            go_wp2_with fail
            go_roundw
            case rel => exact ⟨k + 1, _, _, _, by omega, by go_num, HN.out, Hdk.out.2, kA8, kR8, HH8, hG8⟩
            case measure => simp [intOf]; omega
          · have HN : Hid (AsksTo h (k + 1) hk) := ⟨hk, HA.out, x0, Hx0.out, .inr ⟨by omega, cd, b', Hask.out, .inl ⟨hcd, rfl⟩⟩⟩
            go_wp2_with fail
            go_roundw
            case rel => exact ⟨k + 1, hk, tu, bu, by omega, by go_num, HN.out, hTk, kAc, kRc, HHc, hGc⟩
            case measure => simp [intOf]; omega
    · obtain rfl : k = h.bs.length := by omega
      obtain ⟨y0, y1, y2, y3, y4, y5⟩ := (cb_of_rowK kR).c6
      obtain ⟨f0, f1, f2, f3, f4, f5⟩ := (cb_of_rowK kR).f6
      obtain ⟨t1, d1, t2, d2, qs, e9, -⟩ := HH.k.parts
      simp only [Value.agg.injEq, Array.mk.injEq, List.cons.injEq, and_true] at e9
      obtain ⟨rfl, rfl⟩ := e9
      go_wp2_with fail
      refine end_cb6 Tryz.results113 Tryz.underlying99 rfl sizeHouseS (cb_of_rowK kR) rfl ?_
      have hg9 := grown_set6 wr (w.heap.size + 1) (.int .i64 h.now) (.int .i64 h.last) (.slice t1 hk.sh.things.length d1) (.slice t2 hk.sh.bs.length d2) (.slice a3 h.bs.length c3) (.slice a4 h.ds.length c4)
      refine ⟨⟨hk, _, _, rfl, HA.out, hTk, HH.box kR hg9⟩, ?_⟩
      exact ⟨hg9.os.trans hG.os, hg9.tape.trans hG.tape, hg9.output.trans hG.output, Nat.le_trans hG.size hg9.size, fun i hi hne => (hg9.block i (Nat.lt_of_lt_of_le hi hG.size) (by simp; omega)).trans (hG.block i hi hne)⟩
end Go.Proofs.YtliebjbbomghiaaGreatDoor

/- An append to the end of a row of one's own; a world in which two rows alone were written. -/
namespace Go.Proofs.YtliebjbbomghiaaGreatDoor
open Go.RowKit

theorem run_append_tail {P : Program} (w : World) (base t ty e : Nat) (i : TypeInfo) (z : Value) (size bytes : Nat) (ht : P.underlying t = some (.slice e)) (hi : P.info? e = some i) (hz : i.zero = some z)
    (hsize : i.size = size) (hby : i.bytes = bytes) (hzs : z.cells.size = size) (g p n cap : Nat) (pre xs : List Value) (hpre : pre.length = p * size)
    (hown : w.ownsRow base e size (.slice (some ⟨g, 0, none⟩) (p + n) (p + cap)) (p + n) (pre ++ xs))
    (a : Addr) (m c : Nat) (news : List Value) (hl : news.length = m * size) (hnews : ∀ j u, news[j]? = some u → w.cell? (a.add j) = some u) (h1 : ∀ u ∈ news, u.oneCell' = true)
    (h63 : n + m ≤ maxLen) (hbytes : (n + m) * bytes ≤ 140737488355328) (hbase : base ≤ w.heap.size) :
    ∃ v' w', (Builtin.append_ #[t, t] ty #[.slice (some ⟨g, p * size, none⟩) n cap, .slice (some a) m c]).run P w = .ok v' w' ∧ w.grownBy w' (some g) ∧
      ((v' = .slice (some ⟨g, p * size, none⟩) (n + m) cap ∧ w'.ownsRow base e size (.slice (some ⟨g, 0, none⟩) (p + (n + m)) (p + cap)) (p + (n + m)) (pre ++ (xs ++ news))) ∨
        ∃ c', v' = .slice (some ⟨w.heap.size, 0, none⟩) (n + m) c' ∧ w'.ownsRow base e size v' (n + m) (xs ++ news)) := by
  subst hsize
  subst hby
  have hxl : xs.length = n * i.size := by have := hown.1; rw [List.length_append, hpre, Nat.add_mul] at this; omega
  rcases hown.2 with ⟨h, _⟩ | ⟨g', cap', cur, h, hbg, hg, hnc, hcm, hcs, htake⟩
  · simp at h
  simp only [Value.slice.injEq, Option.some.injEq, Addr.mk.injEq, and_true, true_and] at h
  obtain ⟨rfl, rfl⟩ := h
  by_cases hroom : n + m ≤ cap
  · have hfit : p * i.size + n * i.size + news.length ≤ cur.size := by
      rw [hl, hcs, ← Nat.add_mul, ← Nat.add_mul]; exact Nat.mul_le_mul_right _ (by omega)
    have hf := run_firstCells_some (P := P) w i.size m a m c news hl hnews
    have hst := run_storeCells_at P g (p * i.size + n * i.size) e news 0 cur w hg (by simpa using hfit) h1
    simp only [Nat.add_zero] at hst
    refine ⟨.slice (some ⟨g, p * i.size, none⟩) (n + m) cap, w.setRow g (cur.toList.take (p * i.size + n * i.size) ++ news ++ cur.toList.drop (p * i.size + n * i.size + news.length)).toArray, ?_, ?_, .inl ⟨rfl, ?_⟩⟩
    · simp [Builtin.append_, run_underlying ht, sizeOf, typeInfo, hi, Builtin.lenOf, hroom, hf, Addr.add_lit, hst]
    · exact ⟨rfl, rfl, rfl, by simp, fun k _ hk => setRow_other w g k _ (fun e => hk (by simp [e]))⟩
    · have hlen : (pre ++ (xs ++ news)).length = (p + (n + m)) * i.size := by rw [List.length_append, List.length_append, hpre, hxl, hl, Nat.add_mul, Nat.add_mul]
      refine ⟨hlen, .inr ⟨g, p + cap, _, rfl, hbg, setRow_heap w g cur _ e _ hg, by omega, hcm, ?_, ?_⟩⟩
      · simp only [List.size_toArray, List.length_append, List.length_take, List.length_drop, Array.length_toList]
        omega
      · have ht2 : cur.toList.take (p * i.size + n * i.size) = pre ++ xs := by rw [← Nat.add_mul]; exact htake
        rw [ht2, ← hlen, ← List.append_assoc pre xs news]
        exact List.take_left
  · have holds : ∀ j u, xs[j]? = some u → w.cell? ((⟨g, p * i.size, none⟩ : Addr).add j) = some u := fun j u hu => by
      have hj : j < xs.length := (List.getElem?_eq_some_iff.1 hu).1
      rw [Addr.add_mid, hown.cellAt (p * i.size + j) (by rw [Nat.add_mul]; omega), List.getElem?_append_right (by omega), hpre, Nat.add_sub_cancel_left]; exact hu
    have hr := run_append_grow (P := P) w t ty e i z ht hi hz ⟨g, p * i.size, none⟩ n cap xs hxl holds a m c news hl hnews (by omega) (by unfold maxLen at h63; omega) (growslice_fits (by omega) hbytes)
    have hge := grownCap_ge w (n + m) cap e
    have hcm2 : grownCap w (n + m) cap e ≤ maxLen := grownCap_le_maxLen w (n + m) cap e h63
    have hlen : (xs ++ news).length = (n + m) * i.size := by rw [List.length_append, hxl, hl, Nat.add_mul]
    refine ⟨_, _, hr, ⟨rfl, rfl, rfl, by simp, fun k hk _ => heap_alloc_old w.drew _ hk⟩, .inr ⟨_, rfl, hlen, .inr ⟨w.heap.size, _, _, rfl, hbase, heap_alloc_new w.drew _, hge, hcm2, ?_, ?_⟩⟩⟩
    · simp only [Array.size_append, List.size_toArray, size_zeroCells, hzs, hxl, hl, ← Nat.add_mul]
      congr 1
      omega
    · simp only [Array.toList_append, List.append_assoc]
      rw [← List.append_assoc, ← hlen]
      exact List.take_left
theorem wpList_append_run {P : Program} (w : World) {ops : Array Oper} {rest : List Oper} {o : Oper} {a : Act} {Q : Exit → Act → World → Prop} (hgd : o.guard = none) (s x : Operand) (t : TypeId)
    (hop : o.op = Op.call { callee := Callee.builtin Builtin.append, args := #[s, x], argTypes := #[t, t] }) (v vx : Value) (hs : a.eval s = v) (hx : a.eval x = vx) (v' : Value) (w' : World) (hr : (Builtin.append_ #[t, t] o.type #[v, vx]).run P w = .ok v' w')
    (h : wpList P ops Q rest (a.put o.dst v') w') : wpList P ops Q (o :: rest) a w := by
  refine wpList_plain hgd fun K hK => ?_
  unfold Oper.wp execOp
  simp only [hop, resolve, invoke, builtin, Sem.run_bind, Sem.run_pure, Result.andThen_ok, List.map_toArray, List.map_cons, List.map_nil, hs, hx, hr]
  exact hK _ _ h
/-- One more that ended. -/
theorem append_dn {P : Program} (w : World) (base t ty : Nat) (i : TypeInfo) (z : Value) (ht : P.underlying t = some (.slice 186)) (hi : P.info? 186 = some i) (hz : i.zero = some z)
    (hsize : i.size = 3) (hby : i.bytes = 32) (hzs : z.cells.size = 3) (v : Value) (ds : List Done) (d : Done) (h : DnsW w base v ds) (a : Addr) (c : Nat)
    (hnews : ∀ j u, d.cells[j]? = some u → w.cell? (a.add j) = some u) (hn : ds.length ≤ 1048576) (hd : d.nm.size ≤ maxLen) (hbase : base ≤ w.heap.size) :
    ∃ v' w', (Builtin.append_ #[t, t] ty #[v, .slice (some a) 1 c]).run P w = .ok v' w' ∧ DnsW w' base v' (ds ++ [d]) ∧ w.grownBy w' v.ownBlock ∧ Where w v v' := by
  obtain ⟨g, cap, pre, rfl, h1, h2⟩ := h
  rw [rowsF_append] at h1
  have hzz : ∀ y ∈ ds ++ [d], y.nm.size ≤ maxLen := fun y hy => by
    rcases List.mem_append.1 hy with k | k
    · exact h2 y k
    · obtain rfl : y = d := by simpa using k
      exact hd
  obtain ⟨v', w', hr, hg, hc⟩ := run_append_tail (P := P) w base t ty _ i z 3 32 ht hi hz hsize hby hzs g pre.length ds.length cap (rowsF Done.cells pre) (rowsF Done.cells ds) (rowsF_length cellsD_len _) h1 a 1 c d.cells rfl hnews
    (by simp only [Done.cells, List.mem_cons, List.not_mem_nil, or_false]; rintro u (rfl | rfl | rfl) <;> rfl) (by unfold maxLen; omega) (by omega) hbase
  refine ⟨v', w', hr, ?_, hg, ?_⟩
  · have e1 : rowsF Done.cells ds ++ d.cells = rowsF Done.cells (ds ++ [d]) := by rw [rowsF_append]; simp [rowsF]
    rcases hc with ⟨rfl, ho⟩ | ⟨c', rfl, ho⟩
    · refine ⟨g, cap, pre, by simp, ?_, hzz⟩
      rw [e1, ← rowsF_append] at ho
      simpa using ho
    · rw [e1] at ho
      exact ⟨w.heap.size, c', [], by simp, by simpa using ho, hzz⟩
  · rcases hc with ⟨rfl, -⟩ | ⟨c', rfl, -⟩
    · exact fun g hg => .inl hg
    · exact fun g hg => .inr (by simp [Value.ownBlock] at hg; omega)
/-- The first of those that ended is left out. -/
theorem DnsW.tail {w : World} {base g o n cap : Nat} {d : Done} {ds : List Done} (h : DnsW w base (.slice (some ⟨g, o, none⟩) n cap) (d :: ds)) : DnsW w base (.slice (some ⟨g, o + 3, none⟩) (n - 1) (cap - 1)) ds ∧ 1 ≤ n ∧ n ≤ cap := by
  obtain ⟨g', cap', pre, e, h1, h2⟩ := h
  simp only [Value.slice.injEq, Option.some.injEq, Addr.mk.injEq, and_true] at e
  obtain ⟨⟨rfl, rfl⟩, rfl, rfl⟩ := e
  have hc := own_cap2 h1
  simp only [List.length_cons] at h1 hc ⊢
  refine ⟨⟨g, cap - 1, pre ++ [d], ?_, ?_, fun y hy => h2 y (by simp [hy])⟩, by omega, by omega⟩
  · rw [List.length_append, List.length_singleton, Nat.add_mul]
    simp
  · rw [List.length_append, List.length_singleton, show pre.length + 1 + ds.length = pre.length + (ds.length + 1) by omega, show pre.length + 1 + (cap - 1) = pre.length + cap by omega, List.append_assoc]
    exact h1

/-- Two rows alone were written. -/
structure G2 (w w' : World) (p q : Option Nat) : Prop where
  os : w'.os = w.os
  tape : w'.tape = w.tape
  output : w'.output = w.output
  size : w.heap.size ≤ w'.heap.size
  block : ∀ k, k < w.heap.size → some k ≠ p → some k ≠ q → w'.heap[k]? = w.heap[k]?
theorem G2.of_below {w w' : World} (h : Below w.heap.size w w') (p q : Option Nat) : G2 w w' p q := ⟨h.os, h.tape, h.output, h.size, fun k hk _ _ => h.block k hk⟩
theorem G2.of1 {w w' : World} {p : Option Nat} (h : w.grownBy w' p) (q : Option Nat) : G2 w w' p q := ⟨h.os, h.tape, h.output, h.size, fun k hk h1 _ => h.block k hk h1⟩
theorem G2.of2 {w w' : World} {q : Option Nat} (h : w.grownBy w' q) (p : Option Nat) : G2 w w' p q := ⟨h.os, h.tape, h.output, h.size, fun k hk _ h2 => h.block k hk h2⟩
theorem G2.trans {w w1 w2 : World} {p q p' q' : Option Nat} (h : G2 w w1 p q) (h' : G2 w1 w2 p' q') (hp : ∀ k, k < w.heap.size → some k = p' → some k = p ∨ some k = q) (hq : ∀ k, k < w.heap.size → some k = q' → some k = p ∨ some k = q) : G2 w w2 p q :=
  ⟨h'.os.trans h.os, h'.tape.trans h.tape, h'.output.trans h.output, Nat.le_trans h.size h'.size, fun k hk h1 h2 => by
    refine (h'.block k (Nat.lt_of_lt_of_le hk h.size) (fun e => ?_) (fun e => ?_)).trans (h.block k hk h1 h2)
    · rcases hp k hk e with h3 | h3
      · exact h1 h3
      · exact h2 h3
    · rcases hq k hk e with h3 | h3
      · exact h1 h3
      · exact h2 h3⟩
theorem G2.below {w w' : World} {p q : Option Nat} {B : Nat} (h : G2 w w' p q) (hB : B ≤ w.heap.size) (hp : ∀ k, p = some k → B ≤ k) (hq : ∀ k, q = some k → B ≤ k) : Below B w w' :=
  ⟨h.os, h.tape, h.output, h.size, fun k hk => h.block k (Nat.lt_of_lt_of_le hk hB) (fun e => by have := hp k e.symm; omega) (fun e => by have := hq k e.symm; omega)⟩
theorem G2.cb {w w' : World} {p q : Option Nat} {b : Nat} {cs : List Value} (h : G2 w w' p q) (k : CB w b cs) (hp : some b ≠ p) (hq : some b ≠ q) : CB w' b cs := by
  have hb := h.block b k.2.2 hp hq
  refine ⟨fun j v hv => ?_, fun j hj => ?_, Nat.lt_of_lt_of_le k.2.2 h.size⟩
  · rw [World.cell?_of_block (a := ⟨b, 0 + j, none⟩) hb]; exact k.1 j v hv
  · rw [World.cell?_of_block (a := ⟨b, 0 + j, none⟩) hb, World.frozen?_of_block (a := ⟨b, 0 + j, none⟩) hb]; exact k.2.1 j hj
theorem Where.refl (w : World) (v : Value) : Where w v v := fun _ h => .inl h
theorem Where.trans {w w1 : World} {v v1 v2 : Value} (h : Where w v v1) (hz : w.heap.size ≤ w1.heap.size) (h' : Where w1 v1 v2) : Where w v v2 := fun g hg => by
  rcases h' g hg with h1 | h1
  · exact h g h1
  · exact .inr (by omega)
theorem Where.old {w : World} {v v' : Value} (h : Where w v v') (k : Nat) (hk : k < w.heap.size) (e : some k = v'.ownBlock) : some k = v.ownBlock := by
  rcases h k e.symm with h1 | h1
  · exact h1.symm
  · omega
end Go.Proofs.YtliebjbbomghiaaGreatDoor
