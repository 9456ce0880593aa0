/- The program's table of the instance []string: looking a name up. -/
import Derived.Test.YtkapodkidlgkjafGreatDoorJ17
import Derived.Test.YtkapodkidlgkjafGreatDoorJ14
namespace Go.Proofs.YtkapodkidlgkjafGreatDoor
open Go.RowKit

abbrev VK := Value × List Key
def nilR : VK := (.slice none 0 0, [])
def rowSS : List (ByteArray × VK) → List Value
  | [] => []
  | r :: rest => .string r.1 :: r.2.1 :: rowSS rest
theorem rowSS_append (a b : List (ByteArray × VK)) : rowSS (a ++ b) = rowSS a ++ rowSS b := by
  induction a with
  | nil => rfl
  | cons r rest ih => simp [rowSS, ih]
theorem rowSS_length (a : List (ByteArray × VK)) : (rowSS a).length = a.length * 2 := by
  induction a with
  | nil => rfl
  | cons r rest ih => simp [rowSS, ih]; omega
theorem rowSS_at : ∀ (a : List (ByteArray × VK)) (i : Nat) (h : i < a.length), (rowSS a)[i * 2]? = some (.string (a[i]).1) ∧ (rowSS a)[i * 2 + 1]? = some ((a[i]).2.1)
  | r :: rest, 0, _ => ⟨rfl, rfl⟩
  | r :: rest, i + 1, h => by
    have := rowSS_at rest i (by simpa using h)
    rw [show (i + 1) * 2 = i * 2 + 1 + 1 by omega]
    simpa [rowSS] using this
/-- What a value told of a name is: a list of its own. -/
def OwnV (w : World) (base : Nat) (x : VK) : Prop := w.ownsRow base 9 1 x.1 x.2.length ((namesOf x.2).map Value.string)
theorem OwnV.shape {w : World} {base : Nat} {x : VK} (h : OwnV w base x) : ∃ a n c, x.1 = .slice a n c := by
  rcases h.2 with ⟨h0, _⟩ | ⟨g, cap, _, hv, _⟩
  · exact ⟨_, _, _, h0⟩
  · exact ⟨_, _, _, hv⟩
theorem OwnV.up {w w' : World} {base : Nat} {x : VK} (h : OwnV w base x) (hb : Below w.heap.size w w') : OwnV w' base x := own_up h hb
theorem ownV_nil (w : World) (base : Nat) : OwnV w base nilR := World.ownsRow_nil _ _ _ _
theorem OwnV.lst {w : World} {base : Nat} {x : VK} (h : OwnV w base x) : Lst w x.1 (namesOf x.2) := by
  have hl : (namesOf x.2).length = x.2.length := by simp [namesOf]
  rcases h.2 with ⟨h0, h1⟩ | ⟨g, cap, cur, hv, _⟩
  · exact .inl ⟨h0, by cases hx : x.2 with
      | nil => rfl
      | cons a r => rw [hx] at h1; simp at h1⟩
  · exact .inr (Txt.own h hl ⟨g, cap, hv⟩)
/-- The table lies in block g; what it tells are lists of their own. -/
def TabS (w : World) (base g : Nat) (rows : List (ByteArray × VK)) : Prop := w.rangeAt g 0 (rowSS rows) ∧ g < w.heap.size ∧ ∀ r ∈ rows, OwnV w base r.2
theorem TabS.up {w w' : World} {base g : Nat} {rows : List (ByteArray × VK)} (h : TabS w base g rows) (hb : Below w.heap.size w w') : TabS w' base g rows :=
  ⟨fun j v hv => by rw [hb.cell (p := ⟨g, 0 + j, none⟩) h.2.1]; exact h.1 j v hv, Nat.lt_of_lt_of_le h.2.1 hb.size, fun r hr => (h.2.2 r hr).up hb⟩
theorem TabS.cells {w : World} {base g : Nat} {rows : List (ByteArray × VK)} (h : TabS w base g rows) (i : Nat) (hi : i < rows.length) : w.cell? ⟨g, i * 2, none⟩ = some (.string (rows[i]).1) ∧ w.cell? ⟨g, i * 2 + 1, none⟩ = some ((rows[i]).2.1) := by
  obtain ⟨h1, h2⟩ := rowSS_at rows i hi
  exact ⟨by simpa using h.1 _ _ h1, by simpa using h.1 _ _ h2⟩
theorem TabS.of_own {w : World} {base e g cap : Nat} {rows : List (ByteArray × VK)} (h : w.ownsRow base e 2 (.slice (some ⟨g, 0, none⟩) rows.length cap) rows.length (rowSS rows)) (hv : ∀ r ∈ rows, OwnV w base r.2) : TabS w base g rows := by
  refine ⟨fun j v hv => ?_, (h.lt g rfl).2, hv⟩
  have hj : j < rows.length * 2 := by rw [← rowSS_length]; exact (List.getElem?_eq_some_iff.1 hv).1
  rw [Nat.zero_add, h.cellAt j hj]; exact hv
theorem TabS.look {w : World} {base g : Nat} {rows : List (ByteArray × VK)} (h : TabS w base g rows) (nm : ByteArray) : OwnV w base (look rows nm nilR) := by
  unfold Go.Proofs.YtkapodkidlgkjafGreatDoor.look
  split
  · rename_i r hr
    exact h.2.2 r (List.mem_of_find?_eq_some hr)
  · exact ownV_nil _ _
def plainR (rows : List (ByteArray × VK)) : List (ByteArray × List Key) := rows.map fun r => (r.1, r.2.2)
theorem look_plain (rows : List (ByteArray × VK)) (nm : ByteArray) : look (plainR rows) nm [] = (look rows nm nilR).2 := by
  unfold look plainR
  rw [List.find?_map]
  have e : ((fun r : ByteArray × List Key => r.1.toList == nm.toList) ∘ fun r : ByteArray × VK => (r.1, r.2.2)) = fun r => r.1.toList == nm.toList := by funext r; rfl
  rw [e]
  cases rows.find? fun r => r.1.toList == nm.toList <;> rfl

theorem ofS_any (rows : List (ByteArray × VK)) (base g c : Nat) (nm : ByteArray) (w : World) (hr : TabS w base g rows) (hn : rows.length ≤ 1048576) :
    Calls Tryz.prog 187 #[.slice (some ⟨g, 0, none⟩) rows.length c, .string nm] w fun e w' => e = .returned (look rows nm nilR).1 ∧ Below w.heap.size w w' := by
  have hg := hr.2.1
  go_enter Tryz.func187, Tryz.ntmps187
  go_wp2
  go_loopw [10] (fun i w' => ∃ k : Nat, k ≤ rows.length ∧ i = .int .i64 k ∧ noneT rows nm k ∧ Below w.heap.size w w') (fun i _ => rows.length - (intOf i).toNat)
  case atStart => exact ⟨0, by omega, rfl, fun _ _ h => by omega, Below.refl _ _⟩
  case round =>
    obtain ⟨k, hk, rfl, hal, hB⟩ := hrel
    have Hal : Hid (noneT rows nm k) := hal
    clear hal
    by_cases hp : k < rows.length
    · obtain ⟨c0, c1⟩ := hr.cells k hp
      obtain ⟨a, n, cc, hsh⟩ := (hr.2.2 rows[k] (by simp)).shape
      rw [hsh] at c1
      obtain ⟨hc, hf⟩ := bcell hB
      cases hq : ((rows[k]).1.toList == nm.toList)
      · have Hq : Hid (((rows[k]).1.toList == nm.toList) = false) := hq
        go_wp2
        go_roundw
        case rel => exact ⟨k + 1, by omega, by go_num, noneT_succ Hal.out hp Hq.out, hB.alloc hB.size _⟩
        case measure => simp [intOf]; omega
      · have Hq : Hid (look rows nm nilR = (rows[k]).2) := look_hit nilR Hal.out hp hq
        have Hsh : Hid ((rows[k]).2.1 = .slice a n cc) := hsh
        clear hsh
        go_wp2
        go_ret
        exact ⟨by rw [Hq.out, Hsh.out]; rfl, hB.alloc hB.size _⟩
    · have Hq : Hid (look rows nm nilR = nilR) := look_miss nilR Hal.out hp
      go_wp2
      go_ret
      exact ⟨by rw [Hq.out]; rfl, hB⟩
end Go.Proofs.YtkapodkidlgkjafGreatDoor
