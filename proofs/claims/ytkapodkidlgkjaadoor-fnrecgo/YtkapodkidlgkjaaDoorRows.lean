/-
  NARROWER THAN 'FOR EVERY INPUT', by the rows' own cells (each row's printed sentence says how): FnRecBound: laid · FnRecGo: laid · FnRecCan: laid · FnRecPhase: laid.
  DERIVED. THE GIVEN ROWS OF THIS SEAT. 4 by the template 'for every input the law returns true; each argument reads behind the call as it read before'; 0 by the template 'total and deterministic' (their statements: YtkapodkidlgkjaaDoorTotals.lean).
  GIVEN WITH THE SEED: the statements are not yours to turn. If you find one false, say at which input.
  Laid BY PROGRAM, IN A SANDBOX (cutbox-rows.mjs): the forced cells as the released guide's own fill.sh prints them over the translation 190854e3b6eba66d… (all of the seat's roots in one cut). By AI agents, Wed Nov 11 2026. No macro, syntax, notation, axiom, sorry.
-/
import Derived.Test.YtkapodkidlgkjaaDoorChecked
import GoSem.Claim
import GoSem.ClaimJoined
import GoSem.ClaimMapViews
import Derived.JoinedTies
import Derived.KernelRfl
namespace Go.Proofs.YtkapodkidlgkjaaDoor
/- THE CELL 'sum', in the pinned program and in every row, IS THE sha256 OF THE DUMP (.gsa) THAT YtkapodkidlgkjaaDoorProg.lean LOADS. Nothing in Lean hashes anything: it is a label: what it is worth is what the hold of that sum in a sandbox is worth. -/
noncomputable def Tryd.pinned : Pinned := { name := "ytkapodkidlgkjaadoor", sum := "190854e3b6eba66d9fabb9bdd16e625d2f6fc1a32590596a4a9f99f74cf5862a", checked := Tryd.checked }
namespace Rows
def none {H : Type} : Left H := { results := [], args := [] }

/- WHAT THE LISTED PACKAGE-LEVEL VARIABLES READ AS WHEN THE CALL BEGINS. Each datum BY PROGRAM (the guide's laid-datum.mjs) off the statement by which the dump's own 'gosem.cut.vars' lays the variable. In a bare row this is a premise. The card (YtkapodkidlgkjaaDoorCards.lean) ties it to the program's text. -/
def laid_loop_example_maltrun_impl_recEndNames {H : Type} : DataW H := .agg [.lit (.string [103, 111, 111, 100]), .lit (.string [115, 97, 118, 101, 100]), .lit (.string [115, 99, 114, 97, 112, 112, 101, 100])]

/-- 'laws.FnRecBound': WHATEVER THE INPUT: true; the input reads as it did. -/
def fnRecBoundSpec : ChangeSpec := { name := "fnRecBound", vars := ["loop.example/maltrun/impl.recEndNames"], fn := fun _ => fun
  | [d, g1] => { results := [.lit (.bool true)], args := [d], vars := [g1] }
  | _ => none }
def fnRecBoundRow : OpenClaim := { program := "ytkapodkidlgkjaadoor", sum := "190854e3b6eba66d9fabb9bdd16e625d2f6fc1a32590596a4a9f99f74cf5862a", func := "loop.example/maltrun/laws.FnRecBound", spec := "fnRecBound", unfollowed := true, recurses := true, named := ["loop.example/maltrun/impl.recEndNames"], apart := false, laid := [("loop.example/maltrun/impl.recEndNames", laid_loop_example_maltrun_impl_recEndNames)] }
def FnRecBoundSaid : Prop := fnRecBoundRow.holds Tryd.pinned (OpenSpec.ofChange fnRecBoundSpec)

/-- ITS FALSE NEIGHBOUR: 'it returns false'. Refute it at one input. -/
def fnRecBoundWrong : ChangeSpec := { name := "fnRecBound", vars := ["loop.example/maltrun/impl.recEndNames"], fn := fun _ => fun
  | [d, g1] => { results := [.lit (.bool false)], args := [d], vars := [g1] }
  | _ => none }
def FnRecBoundWrongFalsely : Prop := fnRecBoundRow.holds Tryd.pinned (OpenSpec.ofChange fnRecBoundWrong)

/-- 'laws.FnRecGo': WHATEVER THE INPUT: true; the input reads as it did. -/
def fnRecGoSpec : ChangeSpec := { name := "fnRecGo", vars := ["loop.example/maltrun/impl.recEndNames"], fn := fun _ => fun
  | [d, g1] => { results := [.lit (.bool true)], args := [d], vars := [g1] }
  | _ => none }
def fnRecGoRow : OpenClaim := { program := "ytkapodkidlgkjaadoor", sum := "190854e3b6eba66d9fabb9bdd16e625d2f6fc1a32590596a4a9f99f74cf5862a", func := "loop.example/maltrun/laws.FnRecGo", spec := "fnRecGo", unfollowed := true, recurses := true, named := ["loop.example/maltrun/impl.recEndNames"], apart := false, laid := [("loop.example/maltrun/impl.recEndNames", laid_loop_example_maltrun_impl_recEndNames)] }
def FnRecGoSaid : Prop := fnRecGoRow.holds Tryd.pinned (OpenSpec.ofChange fnRecGoSpec)

/-- ITS FALSE NEIGHBOUR: 'it returns false'. Refute it at one input. -/
def fnRecGoWrong : ChangeSpec := { name := "fnRecGo", vars := ["loop.example/maltrun/impl.recEndNames"], fn := fun _ => fun
  | [d, g1] => { results := [.lit (.bool false)], args := [d], vars := [g1] }
  | _ => none }
def FnRecGoWrongFalsely : Prop := fnRecGoRow.holds Tryd.pinned (OpenSpec.ofChange fnRecGoWrong)

/-- 'laws.FnRecCan': WHATEVER THE INPUT: true; the input reads as it did. -/
def fnRecCanSpec : ChangeSpec := { name := "fnRecCan", vars := ["loop.example/maltrun/impl.recEndNames"], fn := fun _ => fun
  | [d, g1] => { results := [.lit (.bool true)], args := [d], vars := [g1] }
  | _ => none }
def fnRecCanRow : OpenClaim := { program := "ytkapodkidlgkjaadoor", sum := "190854e3b6eba66d9fabb9bdd16e625d2f6fc1a32590596a4a9f99f74cf5862a", func := "loop.example/maltrun/laws.FnRecCan", spec := "fnRecCan", unfollowed := true, recurses := true, named := ["loop.example/maltrun/impl.recEndNames"], apart := false, laid := [("loop.example/maltrun/impl.recEndNames", laid_loop_example_maltrun_impl_recEndNames)] }
def FnRecCanSaid : Prop := fnRecCanRow.holds Tryd.pinned (OpenSpec.ofChange fnRecCanSpec)

/-- ITS FALSE NEIGHBOUR: 'it returns false'. Refute it at one input. -/
def fnRecCanWrong : ChangeSpec := { name := "fnRecCan", vars := ["loop.example/maltrun/impl.recEndNames"], fn := fun _ => fun
  | [d, g1] => { results := [.lit (.bool false)], args := [d], vars := [g1] }
  | _ => none }
def FnRecCanWrongFalsely : Prop := fnRecCanRow.holds Tryd.pinned (OpenSpec.ofChange fnRecCanWrong)

/-- 'laws.FnRecPhase': WHATEVER THE INPUT: true; the input reads as it did. -/
def fnRecPhaseSpec : ChangeSpec := { name := "fnRecPhase", vars := ["loop.example/maltrun/impl.recEndNames"], fn := fun _ => fun
  | [d, g1] => { results := [.lit (.bool true)], args := [d], vars := [g1] }
  | _ => none }
def fnRecPhaseRow : OpenClaim := { program := "ytkapodkidlgkjaadoor", sum := "190854e3b6eba66d9fabb9bdd16e625d2f6fc1a32590596a4a9f99f74cf5862a", func := "loop.example/maltrun/laws.FnRecPhase", spec := "fnRecPhase", unfollowed := true, recurses := true, named := ["loop.example/maltrun/impl.recEndNames"], apart := false, laid := [("loop.example/maltrun/impl.recEndNames", laid_loop_example_maltrun_impl_recEndNames)] }
def FnRecPhaseSaid : Prop := fnRecPhaseRow.holds Tryd.pinned (OpenSpec.ofChange fnRecPhaseSpec)

/-- ITS FALSE NEIGHBOUR: 'it returns false'. Refute it at one input. -/
def fnRecPhaseWrong : ChangeSpec := { name := "fnRecPhase", vars := ["loop.example/maltrun/impl.recEndNames"], fn := fun _ => fun
  | [d, g1] => { results := [.lit (.bool false)], args := [d], vars := [g1] }
  | _ => none }
def FnRecPhaseWrongFalsely : Prop := fnRecPhaseRow.holds Tryd.pinned (OpenSpec.ofChange fnRecPhaseWrong)

/- THE SECOND FORM. 'bulk': how many values and letters a reading holds, each counted each time it is reached (what is shared counts as often as it is met; a slice's spare places count too). A statement '..UptoSaid' is the law's where the arguments, and the package variables that the reading takes, are together of bulk at most 1048576: NARROWER than '..Said'. Prove '..Said' where nothing that the law and all that it calls make is longer than what came in: it says more and counts as full. Else prove '..UptoSaid'. A law counts once. -/
mutual
def uptoBulk {H : Type} : DataW H → Nat
  | .lit (.string bytes) => bytes.length + 1
  | .lit _ => 1
  | .nil => 1
  | .ptr d => uptoBulk d + 1
  | .slice elems spare => uptoBulkAll elems + uptoBulkAll spare + 1
  | .agg parts => uptoBulkAll parts + 1
  | .iface _ d => uptoBulk d + 1
  | .map entries => uptoBulkEntries entries + 1
  | .held _ => 1
def uptoBulkAll {H : Type} : List (DataW H) → Nat
  | [] => 0
  | d :: r => uptoBulk d + uptoBulkAll r
def uptoBulkEntries {H : Type} : List (Lit × DataW H) → Nat
  | [] => 0
  | x :: r => uptoBulkEntry x + uptoBulkEntries r
def uptoBulkEntry {H : Type} : Lit × DataW H → Nat
  | (.string bytes, d) => bytes.length + uptoBulk d + 1
  | (_, d) => uptoBulk d + 1
 end
def uptoSmall : (H : Type) → List (DataW H) → Bool := fun _ ds => decide (uptoBulkAll ds ≤ 1048576)
def OpenSpec.upto (s : _root_.Go.ChangeSpec) : _root_.Go.OpenSpec := { _root_.Go.OpenSpec.ofChange s with cond := some uptoSmall }

/-- 'laws.FnRecBound', WHERE WHAT IT READS IS OF BULK AT MOST 1048576: true; the input reads as it did. -/
def fnRecBoundUptoRow : OpenClaim := { program := "ytkapodkidlgkjaadoor", sum := "190854e3b6eba66d9fabb9bdd16e625d2f6fc1a32590596a4a9f99f74cf5862a", func := "loop.example/maltrun/laws.FnRecBound", spec := "fnRecBound", unfollowed := true, recurses := true, named := ["loop.example/maltrun/impl.recEndNames"], apart := false, laid := [("loop.example/maltrun/impl.recEndNames", laid_loop_example_maltrun_impl_recEndNames)], narrowed := true }
def FnRecBoundUptoSaid : Prop := fnRecBoundUptoRow.holds Tryd.pinned (OpenSpec.upto fnRecBoundSpec)

/-- 'laws.FnRecGo', WHERE WHAT IT READS IS OF BULK AT MOST 1048576: true; the input reads as it did. -/
def fnRecGoUptoRow : OpenClaim := { program := "ytkapodkidlgkjaadoor", sum := "190854e3b6eba66d9fabb9bdd16e625d2f6fc1a32590596a4a9f99f74cf5862a", func := "loop.example/maltrun/laws.FnRecGo", spec := "fnRecGo", unfollowed := true, recurses := true, named := ["loop.example/maltrun/impl.recEndNames"], apart := false, laid := [("loop.example/maltrun/impl.recEndNames", laid_loop_example_maltrun_impl_recEndNames)], narrowed := true }
def FnRecGoUptoSaid : Prop := fnRecGoUptoRow.holds Tryd.pinned (OpenSpec.upto fnRecGoSpec)

/-- 'laws.FnRecCan', WHERE WHAT IT READS IS OF BULK AT MOST 1048576: true; the input reads as it did. -/
def fnRecCanUptoRow : OpenClaim := { program := "ytkapodkidlgkjaadoor", sum := "190854e3b6eba66d9fabb9bdd16e625d2f6fc1a32590596a4a9f99f74cf5862a", func := "loop.example/maltrun/laws.FnRecCan", spec := "fnRecCan", unfollowed := true, recurses := true, named := ["loop.example/maltrun/impl.recEndNames"], apart := false, laid := [("loop.example/maltrun/impl.recEndNames", laid_loop_example_maltrun_impl_recEndNames)], narrowed := true }
def FnRecCanUptoSaid : Prop := fnRecCanUptoRow.holds Tryd.pinned (OpenSpec.upto fnRecCanSpec)

/-- 'laws.FnRecPhase', WHERE WHAT IT READS IS OF BULK AT MOST 1048576: true; the input reads as it did. -/
def fnRecPhaseUptoRow : OpenClaim := { program := "ytkapodkidlgkjaadoor", sum := "190854e3b6eba66d9fabb9bdd16e625d2f6fc1a32590596a4a9f99f74cf5862a", func := "loop.example/maltrun/laws.FnRecPhase", spec := "fnRecPhase", unfollowed := true, recurses := true, named := ["loop.example/maltrun/impl.recEndNames"], apart := false, laid := [("loop.example/maltrun/impl.recEndNames", laid_loop_example_maltrun_impl_recEndNames)], narrowed := true }
def FnRecPhaseUptoSaid : Prop := fnRecPhaseUptoRow.holds Tryd.pinned (OpenSpec.upto fnRecPhaseSpec)

end Rows
end Go.Proofs.YtkapodkidlgkjaaDoor
