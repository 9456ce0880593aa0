/- Lists of one's own that lie apart from each other; where what an append answers lies. -/
import Derived.Test.YtnojjmkmkelbgaaGreatJ6
namespace Go.Proofs.YtnojjmkmkelbgaaGreat
open Go.RowKit

theorem below_ownB {B : Nat} {a b c : World} {base e size n : Nat} {v : Value} {xs : List Value} (h : Below B a b) (hz : B ≤ b.heap.size) (hown : b.ownsRow base e size v n xs) (hg : b.grownBy c v.ownBlock) (hk : B ≤ base) : Below B a c :=
  { os := hg.os.trans h.os, tape := hg.tape.trans h.tape, output := hg.output.trans h.output, size := Nat.le_trans h.size hg.size, block := fun i hi => (hg.block i (Nat.lt_of_lt_of_le hi hz) (own_ne hown (by omega))).trans (h.block i hi) }
theorem BsW.set {w : World} {base r j : Nat} {v u : Value} {ps : List Bv} (h : BsW w base v ps) (hr : r < base) : BsW (w.setCell ⟨r, j, none⟩ u) base v ps :=
  ⟨own_grown h.1 (grown_setCell (grown_refl _ _) _) hr, fun p hp => ⟨own_grown (h.2 p hp).1 (grown_setCell (grown_refl _ _) _) hr, own_grown (h.2 p hp).2.1 (grown_setCell (grown_refl _ _) _) hr, (h.2 p hp).2.2⟩⟩
theorem BsW.low {w : World} {base base' : Nat} {v : Value} {ps : List Bv} (h : BsW w base v ps) (hb : base' ≤ base) : BsW w base' v ps :=
  ⟨own_low h.1 hb, fun p hp => ⟨own_low (h.2 p hp).1 hb, own_low (h.2 p hp).2.1 hb, (h.2 p hp).2.2⟩⟩
theorem own_shape {w : World} {base e size n : Nat} {v : Value} {xs : List Value} (h : w.ownsRow base e size v n xs) : ∃ a c, v = .slice a n c := by
  rcases h.2 with ⟨rfl, rfl⟩ | ⟨g, cap, _, rfl, _⟩
  · exact ⟨none, 0, rfl⟩
  · exact ⟨_, _, rfl⟩
theorem sizeBk1 : (Tryz.prog.info? 26).map (·.size) = some 2 := by kernel_rfl
def Ap (u v : Value) : Prop := ∀ g, u.ownBlock = some g → v.ownBlock ≠ some g
theorem Ap.symm {u v : Value} (h : Ap u v) : Ap v u := fun g hg hu => h g hu hg
/-- What an append answers lies where the row lay, or in a new block. -/
def Where (w : World) (v v' : Value) : Prop := ∀ g, v'.ownBlock = some g → v.ownBlock = some g ∨ w.heap.size ≤ g
theorem append_where {P : Program} {w : World} (base : Nat) (t ty e : TypeId) (i : TypeInfo) (z : Value) (size bytes : Nat) (ht : P.underlying t = some (.slice e)) (hi : P.info? e = some i) (hz : i.zero = some z)
    (hsize : i.size = size) (hby : i.bytes = bytes) (v : Value) (n : Nat) (xs : List Value) (hown : w.ownsRow base e size v n xs)
    (a : Addr) (m c : Nat) (news : List Value) (hl : news.length = m * size) (hnews : ∀ j u, news[j]? = some u → w.cell? (a.add j) = some u) (h1 : ∀ u ∈ news, u.oneCell' = true)
    (hm : 0 < m) (h63 : n + m ≤ maxLen) (hbytes : (n + m) * bytes ≤ 140737488355328) {v' : Value} {w' : World}
    (hr : (Builtin.append_ #[t, t] ty #[v, .slice (some a) m c]).run P w = .ok v' w') : Where w v v' := by
  subst hsize
  subst hby
  have hsmall : n + m ≤ 9223372036854775807 := by simp only [maxLen] at h63; omega
  rcases hown.2 with ⟨rfl, rfl⟩ | ⟨g, cap, cur, rfl, -, hg, hnc, hcm, hcs, -⟩
  · have hq := run_append_nil (P := P) w t ty e i z ht hi hz a m c news hl hnews (by omega) (by omega) (by have hb := hbytes; simp only [Nat.zero_add] at hb; omega)
    rw [hq] at hr
    injection hr with e1 e2
    subst e1
    exact fun g hg => .inr (by simp [Value.ownBlock] at hg; omega)
  · by_cases hroom : n + m ≤ cap
    · have hfit : n * i.size + news.length ≤ cur.size := by rw [hl, hcs, ← Nat.add_mul]; exact Nat.mul_le_mul_right _ hroom
      have hq := run_append_room (P := P) w t ty e i ht hi g n cap cur hg a m c news hl hnews h1 hroom hfit
      rw [hq] at hr
      injection hr with e1 e2
      subst e1
      exact fun k hk => .inl hk
    · have hq := run_append_grow (P := P) w t ty e i z ht hi hz ⟨g, 0, none⟩ n cap xs hown.1 (hown.cells (g := g) rfl) a m c news hl hnews (by omega) (by omega) (growslice_fits (by omega) hbytes)
      rw [hq] at hr
      injection hr with e1 e2
      subst e1
      exact fun g hg => .inr (by simp [Value.ownBlock] at hg; omega)
theorem step_append_at {P : Program} {ops : Array Oper} {o : Oper} {a : Act} {w : World} {K : Act → World → Prop} {Q : Exit → Act → World → Prop} {E : Prop}
    (hg : o.guard = none) (s x : Operand) (t : TypeId) (hop : o.op = Op.call { callee := Callee.builtin Builtin.append, args := #[s, x], argTypes := #[t, t] })
    (base : Nat) (e : TypeId) (i : TypeInfo) (z : Value) (size bytes : Nat) (ht : P.underlying t = some (.slice e)) (hi : P.info? e = some i) (hz : i.zero = some z)
    (hsize : i.size = size) (hby : i.bytes = bytes) (hzs : z.cells.size = size) (hsz : 0 < size)
    (v : Value) (n : Nat) (xs : List Value) (hs : a.eval s = v) (hown : w.ownsRow base e size v n xs)
    (ad : Addr) (m c : Nat) (news : List Value) (hx : a.eval x = .slice (some ad) m c) (hl : news.length = m * size) (hnews : ∀ j u, news[j]? = some u → w.cell? (ad.add j) = some u) (h1 : ∀ u ∈ news, u.oneCell' = true)
    (hm : 0 < m) (h63 : n + m ≤ maxLen) (hbytes : (n + m) * bytes ≤ 140737488355328) (hbase : base ≤ w.heap.size)
    (hK : ∀ v' w', w'.ownsRow base e size v' (n + m) (xs ++ news) → w.grownBy w' v.ownBlock → Where w v v' → K (a.put o.dst v') w') :
    if Region.wanted o (yielded ops a.tmps) = true then Oper.wp P o a w K Q else E := by
  have hw : Region.wanted o (yielded ops a.tmps) = true := by simp [Region.wanted, hg]
  rw [if_pos hw]
  obtain ⟨v', w', hr, h2, h3, _⟩ := run_append_own (P := P) w base t o.type e i z size bytes ht hi hz hsize hby hzs hsz v n xs hown ad m c news hl hnews h1 h63 hbytes hbase
  have h4 := append_where base t o.type e i z size bytes ht hi hz hsize hby v n xs hown ad m c news hl hnews h1 hm h63 hbytes hr
  unfold Oper.wp
  simp [execOp, hop, resolve, invoke, builtin, hs, hx, hr, Result.andThen]
  exact hK v' w' h2 h3 h4
theorem wpList_append_at {P : Program} (w : World) {ops : Array Oper} {rest : List Oper} {o : Oper} {a : Act} {Q : Exit → Act → World → Prop} (hgd : o.guard = none) (s x : Operand) (t : TypeId)
    (hop : o.op = Op.call { callee := Callee.builtin Builtin.append, args := #[s, x], argTypes := #[t, t] })
    (base : Nat) (e : TypeId) (i : TypeInfo) (z : Value) (size bytes : Nat) (ht : P.underlying t = some (.slice e)) (hi : P.info? e = some i) (hz : i.zero = some z)
    (hsize : i.size = size) (hby : i.bytes = bytes) (hzs : z.cells.size = size) (hsz : 0 < size)
    (v : Value) (n : Nat) (xs : List Value) (hs : a.eval s = v) (hown : w.ownsRow base e size v n xs)
    (ad : Addr) (m c : Nat) (news : List Value) (hx : a.eval x = .slice (some ad) m c) (hl : news.length = m * size) (hnews : ∀ j u, news[j]? = some u → w.cell? (ad.add j) = some u) (h1 : ∀ u ∈ news, u.oneCell' = true)
    (hm : 0 < m) (h63 : n + m ≤ maxLen) (hbytes : (n + m) * bytes ≤ 140737488355328) (hbase : base ≤ w.heap.size)
    (h : ∀ v' w', w'.ownsRow base e size v' (n + m) (xs ++ news) → w.grownBy w' v.ownBlock → Where w v v' → wpList P ops Q rest (a.put o.dst v') w') : wpList P ops Q (o :: rest) a w := by
  refine wpList_plain hgd fun K hK => ?_
  obtain ⟨v', w', hr, h2, h3, _⟩ := run_append_own (P := P) w base t o.type e i z size bytes ht hi hz hsize hby hzs hsz v n xs hown ad m c news hl hnews h1 h63 hbytes hbase
  have h4 := append_where base t o.type e i z size bytes ht hi hz hsize hby v n xs hown ad m c news hl hnews h1 hm h63 hbytes hr
  unfold Oper.wp execOp
  simp only [hop, resolve, invoke, builtin, Sem.run_bind, Sem.run_pure, Result.andThen_ok, List.map_toArray, List.map_cons, List.map_nil, hs, hx, hr]
  exact hK _ _ (h v' w' h2 h3 h4)

/-- Lists of one's own, each in a block of its own, none of them in block q. -/
structure Fam (w : World) (B : Nat) (q : Option Nat) (fs : List (Value × List ByteArray)) : Prop where
  own : ∀ f ∈ fs, OwnT w B f.1 f.2
  ap : fs.Pairwise fun f g => Ap f.1 g.1
  av : ∀ f ∈ fs, ∀ g, f.1.ownBlock = some g → some g ≠ q
variable {w w' : World} {B r : Nat} {q : Option Nat} {f g : Value × List ByteArray} {fs gs : List (Value × List ByteArray)}
theorem fam_nil (w : World) (B : Nat) (q : Option Nat) : Fam w B q [] := ⟨fun f hf => by simp at hf, List.Pairwise.nil, fun f hf => by simp at hf⟩
theorem Fam.keep (h : Fam w B q fs) (hk : ∀ f ∈ fs, OwnT w B f.1 f.2 → OwnT w' B f.1 f.2) : Fam w' B q fs := ⟨fun f hf => hk f hf (h.own f hf), h.ap, h.av⟩
theorem Fam.up (h : Fam w B q fs) (hb : Below w.heap.size w w') : Fam w' B q fs := h.keep fun _ _ ho => ho.up hb
theorem Fam.gr (h : Fam w B q fs) (hg : w.grownBy w' (some r)) (hr : r < B) : Fam w' B q fs := h.keep fun _ _ ho => own_grown ho hg hr
theorem Fam.set (h : Fam w B (some r) fs) (j : Nat) (u : Value) : Fam (w.setCell ⟨r, j, none⟩ u) B (some r) fs :=
  h.keep fun f hf ho => own_keep2 ho (grown_setCell (grown_refl _ _) _) (h.av f hf)
theorem Fam.set2 (h : Fam w B q fs) (h2 : Fam w B (some r) fs) (j : Nat) (u : Value) : Fam (w.setCell ⟨r, j, none⟩ u) B q fs := h.keep fun f hf ho => own_keep2 ho (grown_setCell (grown_refl _ _) _) (h2.av f hf)
theorem Fam.setLow (h : Fam w B q fs) (hr : r < B) (j : Nat) (u : Value) : Fam (w.setCell ⟨r, j, none⟩ u) B q fs := h.gr (grown_setCell (grown_refl _ _) _) hr
theorem Fam.row {b2 n : Nat} {v : Value} {xs : List Value} (h : Fam w B q fs) (hrow : w.ownsRow b2 32 3 v n xs) (hg : w.grownBy w' v.ownBlock) : Fam w' B q fs :=
  h.keep fun _ _ ho => own_keep2 ho hg (own_apart2 ho hrow (by decide))
theorem Fam.perm (h : Fam w B q fs) (hp : fs.Perm gs) : Fam w B q gs :=
  ⟨fun f hf => h.own f (hp.mem_iff.2 hf), (hp.pairwise_iff (fun {_ _} h => h.symm)).1 h.ap, fun f hf => h.av f (hp.mem_iff.2 hf)⟩
theorem Fam.swap (h : Fam w B q (f :: g :: fs)) : Fam w B q (g :: f :: fs) := h.perm (List.Perm.swap _ _ _)
theorem Fam.tail (h : Fam w B q (f :: fs)) : Fam w B q fs := ⟨fun g hg => h.own g (List.mem_cons_of_mem _ hg), (List.pairwise_cons.1 h.ap).2, fun g hg => h.av g (List.mem_cons_of_mem _ hg)⟩
theorem Fam.free (h : Fam w B q fs) : Fam w B none fs := ⟨h.own, h.ap, fun _ _ _ _ => by simp⟩
theorem Fam.avoid (h : Fam w B q fs) (hr : w.heap.size ≤ r) : Fam w B (some r) fs := ⟨h.own, h.ap, fun f hf g hg e => by
  have := (World.ownsRow.lt (h.own f hf) g hg).2
  have : g = r := by simpa using e
  omega⟩
theorem Fam.low {B' : Nat} (h : Fam w B q fs) (hb : B' ≤ B) : Fam w B' q fs := ⟨fun f hf => own_low (h.own f hf) hb, h.ap, h.av⟩
theorem Fam.turn {a b c : Value × List ByteArray} (h : Fam w B q (a :: b :: c :: fs)) : Fam w B q (c :: b :: a :: fs) := h.perm ((List.reverse_perm [c, b, a]).append_right fs)
theorem Fam.mk1 {u : Value} {ss : List ByteArray} (_h : Fam w B none []) (hu : OwnT w B u ss) : Fam w B none [(u, ss)] :=
  ⟨fun f hf => by obtain rfl : f = (u, ss) := (by simpa using hf); exact hu, List.pairwise_singleton _ _, fun f hf g hg => by simp⟩
theorem at_lt {r n : Nat} (h : r < n) : ∀ k, some r = some k → k < n := fun k hk => by cases hk; exact h
/-- One that was made since. -/
theorem Fam.new {n : Nat} {u : Value} {ss : List ByteArray} (h : Fam w B q fs) (h' : Fam w' B q fs) (hu : OwnT w' n u ss) (hn : w.heap.size ≤ n) (hB : B ≤ n) (hq : ∀ k, q = some k → k < w.heap.size) : Fam w' B q ((u, ss) :: fs) := by
  refine ⟨fun f hf => ?_, List.pairwise_cons.2 ⟨fun f hf g hg hg' => ?_, h.ap⟩, fun f hf g hg e => ?_⟩
  · rcases List.mem_cons.1 hf with rfl | hf
    · exact own_low hu hB
    · exact h'.own f hf
  · have h1 := (World.ownsRow.lt hu g hg).1
    have h2 := (World.ownsRow.lt (h.own f hf) g hg').2
    omega
  · rcases List.mem_cons.1 hf with rfl | hf
    · have h1 := (World.ownsRow.lt hu g hg).1
      have h2 := hq g e.symm
      omega
    · exact h.av f hf g hg e
theorem Fam.nil_new (h : Fam w B q fs) : Fam w B q ((.slice none 0 0, []) :: fs) := by
  refine ⟨fun f hf => ?_, List.pairwise_cons.2 ⟨fun f hf g hg hg' => by simp [Value.ownBlock] at hg, h.ap⟩, fun f hf g hg e => ?_⟩
  · rcases List.mem_cons.1 hf with rfl | hf
    · exact World.ownsRow_nil _ _ _ _
    · exact h.own f hf
  · rcases List.mem_cons.1 hf with rfl | hf
    · simp [Value.ownBlock] at hg
    · exact h.av f hf g hg e
/-- The first grows. -/
theorem Fam.app {u u' : Value} {ss ss' : List ByteArray} (h : Fam w B q ((u, ss) :: fs)) (hg : w.grownBy w' u.ownBlock) (hu : OwnT w' B u' ss') (hw : Where w u u') (hq : ∀ k, q = some k → k < w.heap.size) : Fam w' B q ((u', ss') :: fs) := by
  obtain ⟨ha, hp⟩ := List.pairwise_cons.1 h.ap
  have hk : ∀ f ∈ fs, Ap f.1 u := fun f hf => (ha f hf).symm
  refine ⟨fun f hf => ?_, List.pairwise_cons.2 ⟨fun f hf g hg' hf' => ?_, hp⟩, fun f hf g hg' e => ?_⟩
  · rcases List.mem_cons.1 hf with rfl | hf
    · exact hu
    · exact own_keep2 (h.own f (List.mem_cons_of_mem _ hf)) hg fun g hg' e => hk f hf g hg' e.symm
  · rcases hw g hg' with h1 | h1
    · exact hk f hf g hf' h1
    · have h2 := (World.ownsRow.lt (h.own f (List.mem_cons_of_mem _ hf)) g hf').2
      omega
  · rcases List.mem_cons.1 hf with rfl | hf
    · rcases hw g hg' with h1 | h1
      · exact h.av (u, ss) (List.mem_cons_self) g h1 e
      · have h2 := hq g e.symm
        omega
    · exact h.av f (List.mem_cons_of_mem _ hf) g hg' e
/-- The lists of batches. -/
def famB : List Bv → List (Value × List ByteArray)
  | [] => []
  | p :: r => (p.2.1, p.1.has) :: (p.2.2, p.1.needs) :: famB r
theorem famB_app : ∀ a b : List Bv, famB (a ++ b) = famB a ++ famB b
  | [], _ => rfl
  | p :: r, b => by simp [famB, famB_app r b]
theorem famB_mem : ∀ {ps : List Bv} {p : Bv}, p ∈ ps → (p.2.1, p.1.has) ∈ famB ps ∧ (p.2.2, p.1.needs) ∈ famB ps
  | q :: r, p, h => by
    rcases List.mem_cons.1 h with rfl | h
    · exact ⟨by simp [famB], by simp [famB]⟩
    · have := famB_mem h
      exact ⟨by simp [famB, this.1], by simp [famB, this.2]⟩
theorem famB_snoc (ps : List Bv) (p : Bv) (fs : List (Value × List ByteArray)) : (fs ++ (p.2.1, p.1.has) :: (p.2.2, p.1.needs) :: famB ps).Perm (fs ++ famB (ps ++ [p])) := by
  rw [famB_app]
  refine List.Perm.append_left fs ?_
  show ([(p.2.1, p.1.has), (p.2.2, p.1.needs)] ++ famB ps).Perm (famB ps ++ famB [p])
  exact List.perm_append_comm
theorem Fam.bsW {v : Value} {ps : List Bv} (h : Fam w B q (fs ++ famB ps)) (hrow : w.ownsRow B 32 3 v ps.length (rowsB ps)) (hz : ∀ p ∈ ps, p.1.nm.size ≤ maxLen) : BsW w B v ps :=
  ⟨hrow, fun p hp => ⟨h.own _ (List.mem_append_right _ (famB_mem hp).1), h.own _ (List.mem_append_right _ (famB_mem hp).2), hz p hp⟩⟩
end Go.Proofs.YtnojjmkmkelbgaaGreat
