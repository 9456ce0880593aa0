/- The slots of a recipe from a name on: both sides' lists are one. -/
import Derived.Test.YtialglmnfchfmaeGreatDoorPs
import Derived.Test.YtialglmnfchfmaeGreatDoorPt
namespace Go.Proofs.YtialglmnfchfmaeGreatDoor

def ownK (p : Ph) : List Key := if p.k = 2 then [p.a.toList, p.b.toList] else [p.a.toList]
/-- The specification's list. -/
def slE (ps : List Ph) (nm : ByteArray) : List ByteArray := evL (fun _ => []) (fun p a b => bothL (bothL (ofL p) a) b) [] ps nm
def fpK (p : Ph) (a b : List Key) : List Key := uniq (ownK p ++ a ++ b)
def feK (_ : Int) : List Key := []
/-- The program's. -/
def slI (ps : List Ph) (nm : ByteArray) : List Key := evL feK fpK [] ps nm
theorem of_keys (p : Ph) : (keys (ofL p)).Pairwise (· < ·) ∧ ∀ x, x ∈ keys (ofL p) ↔ x ∈ ownK p := by
  unfold ofL ownK
  by_cases h : p.k = 2
  · rw [if_pos h, if_pos h]
    obtain ⟨h1, h2⟩ := ins_keys [p.a] p.b
    refine ⟨h2 (by simp [keys]), fun x => ?_⟩
    rw [h1]; simp [keys]
  · rw [if_neg h, if_neg h]
    exact ⟨by simp [keys], fun x => by simp [keys]⟩
theorem step_keys (p : Ph) (a b : List ByteArray) : keys (bothL (bothL (ofL p) a) b) = fpK p (keys a) (keys b) := by
  obtain ⟨o1, o2⟩ := of_keys p
  obtain ⟨m1, p1⟩ := both_keys a (ofL p)
  obtain ⟨m2, p2⟩ := both_keys b (bothL (ofL p) a)
  obtain ⟨u1, u2⟩ := uniq_keys (ownK p ++ keys a ++ keys b)
  refine asc_unique _ _ (p2 (p1 o1)) u1 fun x => ?_
  rw [m2, m1, o2]
  show _ ↔ x ∈ uniq _
  rw [u2, List.mem_append, List.mem_append]
theorem slots_keys : ∀ (ps : List Ph) (nm : ByteArray), keys (slE ps nm) = slI ps nm
  | [], nm => by unfold slE slI evL; split <;> rfl
  | p :: rest, nm => by
    have ih := slots_keys rest
    unfold slE slI at *
    rw [evL, evL]
    split
    · rw [step_keys, ih, ih]
    · exact ih nm
theorem slots_asc : ∀ (ps : List Ph) (nm : ByteArray), (slI ps nm).Pairwise (· < ·)
  | [], nm => by unfold slI evL; split <;> simp [feK]
  | p :: rest, nm => by
    have ih := slots_asc rest
    unfold slI at *
    rw [evL]
    split
    · exact (uniq_keys _).1
    · exact ih nm
theorem slots_mem : ∀ (ps : List Ph) (nm : ByteArray) (x : Key), x ∈ slI ps nm → x ∈ ps.flatMap ownK
  | [], nm, x, h => by
    unfold slI evL at h; split at h <;> simp [feK] at h
  | p :: rest, nm, x, h => by
    have ih := slots_mem rest
    unfold slI at *
    rw [evL] at h
    rw [List.flatMap_cons, List.mem_append]
    split at h
    · have := ((uniq_keys _).2 x).1 h
      rw [List.mem_append, List.mem_append] at this
      rcases this with (h1 | h1) | h1
      · exact .inl h1
      · exact .inr (ih _ x h1)
      · exact .inr (ih _ x h1)
    · exact .inr (ih _ x h)
theorem len_sub : ∀ (m l : List Key), l.Nodup → (∀ x ∈ l, x ∈ m) → l.length ≤ m.length
  | [], l, _, h => by
    cases l with
    | nil => simp
    | cons x r => have := h x (by simp); simp at this
  | a :: m, l, hn, h => by
    have ih := len_sub m (l.erase a) (hn.erase a) (fun x hx => by
      have hx' := (List.Nodup.mem_erase_iff hn).1 hx
      rcases List.mem_cons.1 (h x hx'.2) with e | e
      · exact absurd e hx'.1
      · exact e)
    have := List.length_erase (a := a) (l := l)
    split at this <;> simp only [List.length_cons] <;> omega
theorem slots_len (ps : List Ph) (nm : ByteArray) : (slI ps nm).length ≤ 2 * ps.length := by
  have hn : (slI ps nm).Nodup := (slots_asc ps nm).imp fun h e => by subst e; exact key_irrefl _ h
  have h1 := len_sub (ps.flatMap ownK) _ hn (slots_mem ps nm)
  have h2 : ∀ l : List Ph, (l.flatMap ownK).length ≤ 2 * l.length := by
    intro l
    induction l with
    | nil => simp
    | cons p r ih =>
      rw [List.flatMap_cons, List.length_append, List.length_cons]
      have : (ownK p).length ≤ 2 := by unfold ownK; split <;> simp
      omega
  exact Nat.le_trans h1 (h2 ps)
theorem slE_len (ps : List Ph) (nm : ByteArray) : (slE ps nm).length ≤ 2 * ps.length := by
  have := slots_len ps nm
  rw [← slots_keys] at this
  simpa [keys] using this
def slotsV (ps : List Ph) (nm : ByteArray) : List ByteArray := if recB ps = true then slE ps nm else []
def allB2 (a b : List ByteArray) : Bool := a.all fun x => b.any fun y => y.toList == x.toList
theorem allB2_iff (a b : List ByteArray) : allB2 a b = true ↔ ∀ x ∈ keys a, x ∈ keys b := by
  simp only [allB2, List.all_eq_true, List.any_eq_true, keys, List.mem_map, beq_iff_eq]
  constructor
  · rintro h x ⟨s, hs, rfl⟩
    obtain ⟨y, hy, e⟩ := h s hs
    exact ⟨y, hy, e⟩
  · intro h s hs
    obtain ⟨y, hy, e⟩ := h s.toList ⟨s, hs, rfl⟩
    exact ⟨y, hy, e⟩
end Go.Proofs.YtialglmnfchfmaeGreatDoor
