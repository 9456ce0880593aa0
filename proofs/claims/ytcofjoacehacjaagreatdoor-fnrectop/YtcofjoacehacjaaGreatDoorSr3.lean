/- The program's RecSlots; both sides tell one list. -/
import Derived.Test.YtcofjoacehacjaaGreatDoorJ49
import Derived.Test.YtcofjoacehacjaaGreatDoorJ33
import Derived.Deep.RegionWith
import Derived.Test.YtcofjoacehacjaaGreatDoorWr3
namespace Go.Proofs.YtcofjoacehacjaaGreatDoor
open Go.RowKit

theorem names_keys (ss : List ByteArray) : namesOf (keys ss) = ss := by
  rw [namesOf, keys, List.map_map]
  have : ((fun l : Key => (⟨l.toArray⟩ : ByteArray)) ∘ fun s : ByteArray => s.toList) = id := by
    funext s
    show (⟨s.toList.toArray⟩ : ByteArray) = s
    rw [Go.ByteArray.toList_eq]
  rw [this, List.map_id]
def slK (ps : List Ph) (nm : ByteArray) : List Key := if recB ps = true then slI ps nm else []
theorem slots_same (ps : List Ph) (nm : ByteArray) : namesOf (slK ps nm) = slotsV ps nm := by
  unfold slK slotsV
  split
  · rw [← slots_keys, names_keys]
  · rfl
theorem ownT_of {w : World} {base : Nat} {u : Value} {ks : List Key} (h : OwnV w base (u, ks)) : OwnT w base u (namesOf ks) := by
  have : (namesOf ks).length = ks.length := by simp [namesOf]
  unfold OwnT; rw [this]; exact h

theorem recSlots_big (ps : List Ph) (b o c : Nat) (nm : ByteArray) (w : World) (hE : Ends w) (hr : RecAt w b o ps) (hb : b < w.heap.size) (hs : Sized ps) (hcap : ps.length ≤ c) (hc9 : c ≤ 9223372036854775807) :
    Calls Tryz.prog 15 #[.slice (some ⟨b, o, none⟩) ps.length c, .string nm] w fun e w' => (∃ u, e = .returned u ∧ OwnT w' w.heap.size u (slotsV ps nm)) ∧ Below w.heap.size w w' := by
  cases hok : recB ps
  · have HV : Hid (slotsV ps nm = []) := by show _ = _; simp [slotsV, hok]
    go_enter Tryz.func15, Tryz.ntmps15
    go_wp2_with fail
    refine (recOk_big ps b o c _ hE hr hb hs hcap hc9).mono ?_
    rintro e w1 ⟨he, hB1⟩
    rw [hok] at he
    subst he
    go_wp2_with fail
    go_ret
    exact ⟨⟨_, rfl, by rw [HV.out]; exact World.ownsRow_nil _ _ _ _⟩, hB1⟩
  · have hd := dist_drop hok 0
    rw [List.drop_zero] at hd
    have h12 : ps.length ≤ 12 := ((recB_iff ps).1 hok).2.1
    have HV : Hid (∀ rs : List (ByteArray × VK), plainR rs = fill feK fpK [] ps → namesOf (look rs nm nilR).2 = slotsV ps nm) := by
      show _; intro rs hpl
      rw [← look_plain, hpl, fill_look _ _ _ _ hd, ← slots_same]
      unfold slK; rw [if_pos hok]; rfl
    clear hd
    go_enter Tryz.func15, Tryz.ntmps15
    go_wp2_with fail
    refine (recOk_big ps b o c _ hE hr hb hs hcap hc9).mono ?_
    rintro e w1 ⟨he, hB1⟩
    rw [hok] at he
    subst he
    go_wp2_with fail
    refine (fillS_any ps b o c _ (hE.up hB1) (hr.up hB1 hb) (Nat.lt_of_lt_of_le hb hB1.size) hok).mono ?_
    rintro e w2 ⟨⟨g, cap, rs, rfl, hpl, hT⟩, hB2⟩
    have hlen : rs.length ≤ 1048576 := by
      have := congrArg List.length hpl
      rw [fill_len] at this
      simp only [plainR, List.length_map] at this
      omega
    have hB12 := up_trans hB1 hB2
    have hnn := HV.out rs hpl
    have Hnn : Hid (namesOf (look rs nm nilR).2 = slotsV ps nm) := hnn
    clear hnn hpl hB2
    go_wp2_with fail
    refine (ofS_any rs w1.heap.size g cap nm _ hT hlen).mono ?_
    rintro e w3 ⟨rfl, hB3⟩
    have hO : OwnT w3 w1.heap.size (look rs nm nilR).1 (namesOf (look rs nm nilR).2) := ownT_of (u := (look rs nm nilR).1) (ks := (look rs nm nilR).2) ((hT.up hB3).look nm)
    have hB13 := up_trans hB12 hB3
    rw [Hnn.out] at hO
    clear hT hB12 hB3
    go_wp2_with fail
    go_ret
    exact ⟨⟨_, rfl, own_low hO hB1.size⟩, hB13⟩
end Go.Proofs.YtcofjoacehacjaaGreatDoor
