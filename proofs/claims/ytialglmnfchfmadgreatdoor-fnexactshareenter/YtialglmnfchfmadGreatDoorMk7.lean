/- The laws' marks over a book of one's own: a whole book written; held. -/
import Derived.Test.YtialglmnfchfmadGreatDoorK25
namespace Go.Proofs.YtialglmnfchfmadGreatDoor
open Go.RowKit

theorem mkB_size (k : Int) : (mkB k).size ≤ k.toNat + 2 := by
  unfold mkB
  split
  · show 2 ≤ _; omega
  · rw [ByteArray.size_append]
    have h1 := mkD_size k.toNat ⟨#[]⟩
    have h2 : (⟨#[]⟩ : ByteArray).size = 0 := rfl
    have h3 : (⟨#[109]⟩ : ByteArray).size = 1 := rfl
    omega
theorem mkBas_at : ∀ (m : Int) (bs : List Ba) (k : Nat) (hk : k < bs.length), (mkBas m bs)[k]? = some (mkBa (m + szBas (bs.take k)) bs[k])
  | m, x :: r, 0, _ => by simp [mkBas, szBas]
  | m, x :: r, k + 1, hk => by
    have ih := mkBas_at (m + szBa x) r k (by simpa using hk)
    simp only [mkBas, List.getElem?_cons_succ, List.take_succ_cons, szBas, List.getElem_cons_succ]
    rw [ih, show m + (szBa x : Int) + (szBas (r.take k) : Int) = m + ((szBa x + szBas (r.take k) : Nat) : Int) by omega]
theorem szBas_take : ∀ (bs : List Ba) (k : Nat), szBas (bs.take k) ≤ szBas bs
  | [], k => by simp [szBas]
  | x :: r, 0 => by simp [szBas]
  | x :: r, k + 1 => by
    have := szBas_take r k
    simp only [List.take_succ_cons, szBas]; omega
theorem mkBas_nm {m : Int} {bs : List Ba} (h : m + szBas bs ≤ 100000) : ∀ x ∈ mkBas m bs, x.nm.size ≤ maxLen := fun x hx => by
  obtain ⟨i, hi, rfl⟩ := List.getElem_of_mem hx
  have hi' : i < bs.length := by rwa [mkBas_len] at hi
  have h1 := mkBas_at m bs i hi'
  rw [List.getElem?_eq_getElem hi] at h1
  rw [Option.some.inj h1]
  have h2 := mkB_size (m + szBas (bs.take i))
  have h3 := szBas_take bs i
  show (mkB _).size ≤ _
  unfold maxLen; omega
set_option maxRecDepth 20000 in
set_option maxHeartbeats 2000000 in
theorem mkBookF_any (b : Bk) (base : Nat) (v : Value) (w : World) (G : Nat) (hG : G < w.heap.size) (h : BkG w base (some G) v b) (hl : Lit b) (hz : base ≤ w.heap.size) :
    Calls Tryz.prog 13 #[v, .int .i64 1] w fun e w' => e = .returned (.int .i64 (mkEnd b)) ∧ BkG w' base (some G) v (mkBk b) ∧ Below base w w' ∧ w'.heap[G]? = w.heap[G]? := by
  obtain ⟨a1, c1, a2, c2, ps, rfl, x1, x2, hF, hvG⟩ := h
  obtain ⟨l1, l2, l3⟩ := hl
  have HvG : Hid (∀ g, (Value.slice a2 b.bs.length c2).ownBlock = some g → some g ≠ some G) := hvG
  clear hvG
  have Hlid : Hid (szBas b.bs ≤ 201 * b.bs.length) := szBas_lid b.bs l3
  have hps : ps.length = b.bs.length := by rw [← x2, List.length_map]
  have hrow := x1.1
  rw [hps] at hrow
  have hot := hF.own _ List.mem_cons_self
  have hlt : ∀ g, (Value.slice a1 b.things.length c1).ownBlock = some g → g < w.heap.size := fun g hg => (hot.lt g hg).2
  obtain ⟨W1, hW1, kA, hB1, hs1⟩ : ∃ W1, w.alloc (.cells #[.slice a1 b.things.length c1, .slice a2 b.bs.length c2] 30) = W1 ∧ CB W1 w.heap.size [.slice a1 b.things.length c1, .slice a2 b.bs.length c2] ∧ Below w.heap.size w W1 ∧ W1.heap.size = w.heap.size + 1 := ⟨_, rfl, cb1 w _ _⟩
  have hot1 := hot.up hB1
  have hF1 := hF.up hB1
  have hrow1 := own_up hrow hB1
  have hBB1 : Below base w W1 := (Below.refl base w).trans (hB1.mono hz)
  clear hot hF hrow x1
  go_enter Tryz.func13, Tryz.ntmps13
  go_upto_region 1 with fail
  try rw [hW1]
  clear hW1
  obtain ⟨p0, p1⟩ := kA.c2'
  go_wp2_with fail
  refine (markS_any b.things base _ 1 _ hot1 (by omega) (by omega) (by omega)).mono ?_
  rintro e w2 ⟨rfl, ⟨ys, hyl, hym, hoy⟩, hg2⟩
  obtain rfl := marked_mkL hyl hym
  have hz2 := hg2.size
  have hF2 := hF1.over (by omega) hg2 hoy
  have HK2 : Hid (w2.heap[G]? = w.heap[G]?) := (hF1.off (by omega) hg2).trans (hB1.block G hG)
  have hrow2 := row_step hrow1 hot1 hg2
  have hB2 : Below base w w2 := below_ownB hBB1 (by omega) hot1 hg2 (Nat.le_refl _)
  have kA2 := kA.kept hg2 (fun e => by have := hlt _ e.symm; omega)
  clear p0 p1 kA hot1 hF1 hrow1 hBB1 hg2 hyl hym hoy
  obtain ⟨p0, p1⟩ := kA2.c2'
  go_wp2_with fail
  refine (mkBsF_any _ b.bs base _ ps (1 + b.things.length) _ hrow2 x2 G (by omega) HvG.out hF2 (by omega) l2 l3 (by omega) (by omega)).mono ?_
  rintro e w3 ⟨rfl, ⟨qs, hrow3, hq3, hF3⟩, hB3, hK3⟩
  have HK3 : Hid (w3.heap[G]? = w.heap[G]?) := hK3.trans HK2.out
  clear hK3
  have hB4 := hB2.trans hB3
  have Hr : Hid (w3.ownsRow base 45 3 (.slice a2 b.bs.length c2) b.bs.length (rowsB qs)) := hrow3
  have Hq : Hid (qs.map (·.1) = mkBas (1 + b.things.length) b.bs) := hq3
  clear p0 p1 kA2 hrow2 hF2 hrow3 hq3
  go_wp2_with fail
  go_ret
  refine ⟨rfl, ?_, hB4, HK3.out⟩
  have hql : qs.length = b.bs.length := by
    have := congrArg List.length Hq.out
    rwa [List.length_map, mkBas_len] at this
  refine ⟨a1, c1, a2, c2, qs, ?_, ?_, Hq.out, ?_, ?_⟩
  · show Value.agg #[_, _] = Value.agg #[.slice _ (mkL 1 b.things.length).length _, .slice _ (mkBas _ b.bs).length _]
    rw [mkL_len, mkBas_len]
  · show BsW _ _ (.slice _ (mkBas _ b.bs).length _) _
    rw [mkBas_len]
    refine hF3.bsW (fs := [(.slice a1 b.things.length c1, mkL 1 b.things.length)]) (by rw [hql]; exact Hr.out) (fun p hp => ?_)
    have hm : p.1 ∈ mkBas (1 + b.things.length) b.bs := by rw [← Hq.out]; exact List.mem_map.2 ⟨p, hp, rfl⟩
    exact mkBas_nm (by have := Hlid.out; omega) p.1 hm
  · show Fam _ _ _ ((.slice _ (mkL 1 b.things.length).length _, _) :: _)
    rw [mkL_len]
    exact hF3
  · intro g hg
    rw [show (mkBk b).bs.length = b.bs.length from mkBas_len _ _] at hg
    exact HvG.out g hg
end Go.Proofs.YtialglmnfchfmadGreatDoor
