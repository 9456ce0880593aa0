/- Drawing a phase: what is at hand. -/
import Derived.Test.YtkapodkidlgkjaaDoorGx
import Derived.Test.YtkapodkidlgkjaaDoorDq
import Derived.Deep.DeepCutAuto
namespace Go.Proofs.YtkapodkidlgkjaaDoor
open Go.RowKit

def Ph.sz (p : Ph) : Prop := p.nm.size ≤ maxLen ∧ p.a.size ≤ maxLen ∧ p.b.size ≤ maxLen ∧ p.t.size ≤ maxLen ∧ p.e.size ≤ maxLen ∧ -5000 ≤ p.wi ∧ p.wi ≤ 5000
theorem sz0 : (⟨#[]⟩ : ByteArray).size ≤ maxLen := by unfold maxLen; decide

def stuffL : List ByteArray := [⟨#[97, 108, 101]⟩, ⟨#[109, 97, 108, 116]⟩]
def endsL : List ByteArray := [⟨#[103, 111, 111, 100]⟩, ⟨#[115, 97, 118, 101, 100]⟩, ⟨#[115, 99, 114, 97, 112, 112, 101, 100]⟩]
theorem sz_app {later : List ByteArray} (h : SzS later) : ∀ s ∈ endsL ++ later, s.size ≤ maxLen := fun s hs => by
  rcases List.mem_append.1 hs with hs | hs
  · exact sz_lit (ss := endsL) (by decide) s hs
  · exact h s hs

end Go.Proofs.YtkapodkidlgkjaaDoor
