/- Texts of recipes, in plain: a line put together. -/
import Derived.Test.YtkfclahdofjhjahDoorWp1
namespace Go.Proofs.YtkfclahdofjhjahDoor
open Go.RowKit

theorem line12 {s nm t a b dn dw pt pe : ByteArray} {ps : List Ph} {k : Nat} {p : Ph} (hk : k < ps.length) (hp : ps[k] = p) (hs : s = ofL (textL (ps.take k))) (h : p.k = 1 ∨ p.k = 2) (e0 : nm = p.nm) (e1 : t = kindS p.k) (e2 : a = p.a) (e3 : b = p.b) (e4 : dn = decS p.n) (e5 : dw = decS p.wi) (e6 : pt = p.t) (e7 : pe = p.e) :
    s ++ nm ++ ⟨#[32]⟩ ++ t ++ ⟨#[32]⟩ ++ a ++ ⟨#[32]⟩ ++ b ++ ⟨#[32]⟩ ++ dn ++ ⟨#[32, 119, 105, 116, 104, 105, 110, 32]⟩ ++ dw ++ ⟨#[32, 116, 104, 101, 110, 32]⟩ ++ pt ++ ⟨#[32, 101, 108, 115, 101, 32]⟩ ++ pe ++ ⟨#[10]⟩ = ofL (textL (ps.take (k + 1))) := by
  subst hp hs e0 e1 e2 e3 e4 e5 e6 e7
  apply ba_eq
  rw [textL_take ps k hk, ofL_list, lineL12 _ h]
  simp [ofL, kindS, decS]
theorem line3 {s nm t a dn dw pt pe : ByteArray} {ps : List Ph} {k : Nat} {p : Ph} (hk : k < ps.length) (hp : ps[k] = p) (hs : s = ofL (textL (ps.take k))) (h : p.k = 3) (e0 : nm = p.nm) (e1 : t = kindS p.k) (e2 : a = p.a) (e4 : dn = decS p.n) (e5 : dw = decS p.wi) (e6 : pt = p.t) (e7 : pe = p.e) :
    s ++ nm ++ ⟨#[32]⟩ ++ t ++ ⟨#[32]⟩ ++ a ++ ⟨#[32]⟩ ++ dn ++ ⟨#[32, 119, 105, 116, 104, 105, 110, 32]⟩ ++ dw ++ ⟨#[32, 116, 104, 101, 110, 32]⟩ ++ pt ++ ⟨#[32, 101, 108, 115, 101, 32]⟩ ++ pe ++ ⟨#[10]⟩ = ofL (textL (ps.take (k + 1))) := by
  subst hp hs e0 e1 e2 e4 e5 e6 e7
  apply ba_eq
  rw [textL_take ps k hk, ofL_list, lineL3 _ h]
  simp [ofL, kindS, decS]
theorem line45 {s nm t a dw pt pe : ByteArray} {ps : List Ph} {k : Nat} {p : Ph} (hk : k < ps.length) (hp : ps[k] = p) (hs : s = ofL (textL (ps.take k))) (h : p.k = 4 ∨ p.k = 5) (e0 : nm = p.nm) (e1 : t = kindS p.k) (e2 : a = p.a) (e5 : dw = decS p.wi) (e6 : pt = p.t) (e7 : pe = p.e) :
    s ++ nm ++ ⟨#[32]⟩ ++ t ++ ⟨#[32]⟩ ++ a ++ ⟨#[32, 119, 105, 116, 104, 105, 110, 32]⟩ ++ dw ++ ⟨#[32, 116, 104, 101, 110, 32]⟩ ++ pt ++ ⟨#[32, 101, 108, 115, 101, 32]⟩ ++ pe ++ ⟨#[10]⟩ = ofL (textL (ps.take (k + 1))) := by
  subst hp hs e0 e1 e2 e5 e6 e7
  apply ba_eq
  rw [textL_take ps k hk, ofL_list, lineL45 _ h]
  simp [ofL, kindS, decS]
theorem text_size {ps : List Ph} {k : Nat} {s : ByteArray} (hok : recB ps = true) (hk : k ≤ ps.length) (hs : s = ofL (textL (ps.take k))) : s.size ≤ k * 90 := by
  subst hs
  show (textL (ps.take k)).length ≤ _
  induction k with
  | zero => simp [textL]
  | succ k ih =>
    rw [textL_take ps k (by omega), List.length_append]
    have := line_len _ (ok_of hok (show k < ps.length by omega))
    have := ih (by omega)
    omega
end Go.Proofs.YtkfclahdofjhjahDoor
