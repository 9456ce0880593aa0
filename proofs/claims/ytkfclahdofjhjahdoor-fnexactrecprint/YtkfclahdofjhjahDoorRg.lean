/- A region that draws its order and holds an append to a row of the call's own; rows kept. -/
import Derived.Test.YtkfclahdofjhjahDoorDr0
import Derived.Deep.RegionLaw
namespace Go.Proofs.YtkfclahdofjhjahDoor
open Go.RowKit

theorem step_append_own {P : Program} {ops : Array Oper} {o : Oper} {a : Act} {w : World} {K : Act → World → Prop} {Q : Exit → Act → World → Prop} {E : Prop}
    (hg : o.guard = none) (s x : Operand) (t : TypeId) (hop : o.op = Op.call { callee := Callee.builtin Builtin.append, args := #[s, x], argTypes := #[t, t] })
    (base : Nat) (e : TypeId) (i : TypeInfo) (z : Value) (size bytes : Nat) (ht : P.underlying t = some (.slice e)) (hi : P.info? e = some i) (hz : i.zero = some z)
    (hsize : i.size = size) (hby : i.bytes = bytes) (hzs : z.cells.size = size) (hsz : 0 < size)
    (v : Value) (n : Nat) (xs : List Value) (hs : a.eval s = v) (hown : w.ownsRow base e size v n xs)
    (ad : Addr) (m c : Nat) (news : List Value) (hx : a.eval x = .slice (some ad) m c) (hl : news.length = m * size) (hnews : ∀ j u, news[j]? = some u → w.cell? (ad.add j) = some u) (h1 : ∀ u ∈ news, u.oneCell' = true)
    (h63 : n + m ≤ maxLen) (hbytes : (n + m) * bytes ≤ 140737488355328) (hbase : base ≤ w.heap.size)
    (hK : ∀ v' w', w'.ownsRow base e size v' (n + m) (xs ++ news) → w.grownBy w' v.ownBlock → K (a.put o.dst v') w') :
    if Region.wanted o (yielded ops a.tmps) = true then Oper.wp P o a w K Q else E := by
  have hw : Region.wanted o (yielded ops a.tmps) = true := by simp [Region.wanted, hg]
  rw [if_pos hw]
  obtain ⟨v', w', hr, h2, h3, _⟩ := run_append_own (P := P) w base t o.type e i z size bytes ht hi hz hsize hby hzs hsz v n xs hown ad m c news hl hnews h1 h63 hbytes hbase
  unfold Oper.wp
  simp [execOp, hop, resolve, invoke, builtin, hs, hx, hr, Result.andThen]
  exact hK v' w' h2 h3

theorem own_grown {w w' : World} {base e size n rb : Nat} {v : Value} {xs : List Value} (h : w.ownsRow base e size v n xs) (hg : w.grownBy w' (some rb)) (hrb : rb < base) : w'.ownsRow base e size v n xs := by
  refine ⟨h.1, ?_⟩
  rcases h.2 with h0 | ⟨g, cap, cur, hv, hb, hh, r⟩
  · exact .inl h0
  · refine .inr ⟨g, cap, cur, hv, hb, ?_, r⟩
    rw [hg.block g (Array.getElem?_eq_some_iff.1 hh).1 (by simp; omega)]; exact hh
theorem own_low {w : World} {base base' e size n : Nat} {v : Value} {xs : List Value} (h : w.ownsRow base e size v n xs) (hb : base' ≤ base) : w.ownsRow base' e size v n xs := by
  refine ⟨h.1, ?_⟩
  rcases h.2 with h0 | ⟨g, cap, cur, hv, hg, r⟩
  · exact .inl h0
  · exact .inr ⟨g, cap, cur, hv, Nat.le_trans hb hg, r⟩
theorem own_ne {w : World} {base e size n b : Nat} {v : Value} {xs : List Value} (h : w.ownsRow base e size v n xs) (hb : b < base) : some b ≠ v.ownBlock := fun e => by
  have := (h.lt b e.symm).1; omega
theorem grown_own {a b c : World} {r : Option Nat} {base e size n : Nat} {v : Value} {xs : List Value} (h : a.grownBy b r) (hown : b.ownsRow base e size v n xs) (hg : b.grownBy c v.ownBlock) (hk : a.heap.size ≤ base) : a.grownBy c r :=
  ⟨hg.os.trans h.os, hg.tape.trans h.tape, hg.output.trans h.output, Nat.le_trans h.size hg.size, fun i hi hr => (hg.block i (Nat.lt_of_lt_of_le hi h.size) (own_ne hown (by omega))).trans (h.block i hi hr)⟩
theorem Rd.own {w w' : World} {rb len N base e size n : Nat} {v u : Value} {xs : List Value} (h : Rd w rb v len N) (hown : w.ownsRow base e size u n xs) (hg : w.grownBy w' u.ownBlock) (hk : rb < base) : Rd w' rb v len N := by
  have hlt := h.lt
  obtain ⟨p, hp, c0, c1, f1, ⟨a, cap, hv, hb⟩, hl⟩ := h
  have hbl := hg.block rb hlt (own_ne hown hk)
  refine ⟨p, hp, (World.cell?_of_block (w := w) (a := ⟨rb, 0, none⟩) hbl).trans c0, (World.cell?_of_block (w := w) (a := ⟨rb, 1, none⟩) hbl).trans c1, (World.frozen?_of_block (w := w) (a := ⟨rb, 1, none⟩) hbl).trans f1, ⟨a, cap, hv, ?_⟩, hl⟩
  rcases hb with hb | ⟨b, o, z, ha, h1, hz⟩
  · exact .inl hb
  · exact .inr ⟨b, o, z, ha, h1, fun i hi => ⟨hg.cell (hz i hi).1 (own_ne hown (b := b) (by omega)), (hz i hi).2⟩⟩
theorem StrsAt.own {w w' : World} {g o base e size n : Nat} {u : Value} {xs : List Value} {ss : List ByteArray} (h : StrsAt w g o ss) (hown : w.ownsRow base e size u n xs) (hg : w.grownBy w' u.ownBlock) (hk : g < base) : StrsAt w' g o ss :=
  fun i s hs => hg.cell (h i s hs) (own_ne hown hk)
theorem Rd.drew {w : World} {rb len N : Nat} {v : Value} (h : Rd w rb v len N) : Rd w.drew rb v len N := h
theorem StrsAt.drew {w : World} {g o : Nat} {ss : List ByteArray} (h : StrsAt w g o ss) : StrsAt w.drew g o ss := h
theorem own_drew {w : World} {base e size n : Nat} {v : Value} {xs : List Value} (h : w.ownsRow base e size v n xs) : w.drew.ownsRow base e size v n xs := h
theorem new8 (w : World) (p : Ph) (ty : TypeId) {j : Nat} {u : Value} (h : p.cells[j]? = some u) : (w.alloc (.cells #[.string p.nm, .int .i64 p.k, .string p.a, .string p.b, .int .i64 p.n, .int .i64 p.wi, .string p.t, .string p.e] ty)).cell? ((⟨w.heap.size, 0, none⟩ : Addr).add j) = some u := by
  have := (box_alloc w p ty).1 j u h
  rw [Addr.add_mid]; exact this
theorem one8 (p : Ph) : ∀ u ∈ p.cells, u.oneCell' = true := fun u hu => by
  simp only [Ph.cells, List.mem_cons, List.not_mem_nil, or_false] at hu
  rcases hu with rfl | rfl | rfl | rfl | rfl | rfl | rfl | rfl <;> rfl
theorem StrsAt.drop {w : World} {g o : Nat} {ss : List ByteArray} (h : StrsAt w g o ss) (k : Nat) : StrsAt w g (o + k) (ss.drop k) := fun i s hs => by
  rw [List.getElem?_drop] at hs
  rw [Nat.add_assoc]; exact h (k + i) s hs
theorem StrsAt.take {w : World} {g o : Nat} {ss : List ByteArray} (h : StrsAt w g o ss) (k : Nat) : StrsAt w g o (ss.take k) := fun i s hs => by
  rw [List.getElem?_take] at hs
  split at hs
  · exact h i s hs
  · cases hs
end Go.Proofs.YtkfclahdofjhjahDoor
