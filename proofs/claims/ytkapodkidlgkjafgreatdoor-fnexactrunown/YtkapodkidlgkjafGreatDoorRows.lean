/-
  NARROWER THAN 'FOR EVERY INPUT', by the rows' own cells (each row's printed sentence says how): FnExactRunOwn: laid · FnExactRunHouseOk: laid · FnExactRunLeft: laid · FnExactRunStart: laid.
  DERIVED. THE GIVEN ROWS OF THIS SEAT. 4 by the template 'for every input the law returns true; each argument reads behind the call as it read before'; 0 by the template 'total and deterministic' (their statements: YtkapodkidlgkjafGreatDoorTotals.lean).
  GIVEN WITH THE SEED: the statements are not yours to turn. If you find one false, say at which input.
  Laid BY PROGRAM, IN A SANDBOX (cutbox-rows.mjs): the forced cells as the released guide's own fill.sh prints them over the translation 3aca3bccdbdd9cd7… (all of the seat's roots in one cut). By AI agents, Wed Nov 11 2026. No macro, syntax, notation, axiom, sorry.
-/
import Derived.Test.YtkapodkidlgkjafGreatDoorChecked
import GoSem.Claim
import GoSem.ClaimJoined
import GoSem.ClaimMapViews
import Derived.JoinedTies
import Derived.KernelRfl
namespace Go.Proofs.YtkapodkidlgkjafGreatDoor
/- THE CELL 'sum', in the pinned program and in every row, IS THE sha256 OF THE DUMP (.gsa) THAT YtkapodkidlgkjafGreatDoorProg.lean LOADS. Nothing in Lean hashes anything: it is a label: what it is worth is what the hold of that sum in a sandbox is worth. -/
noncomputable def Tryz.pinned : Pinned := { name := "ytkapodkidlgkjafgreatdoor", sum := "3aca3bccdbdd9cd79ba5e3bd225f5ad144b3c0aa256e5a24604a15f665c59122", checked := Tryz.checked }
namespace Rows
def none {H : Type} : Left H := { results := [], args := [] }

/- WHAT THE LISTED PACKAGE-LEVEL VARIABLES READ AS WHEN THE CALL BEGINS. Each datum BY PROGRAM (the guide's laid-datum.mjs) off the statement by which the dump's own 'gosem.cut.vars' lays the variable. In a bare row this is a premise. The card (YtkapodkidlgkjafGreatDoorCards.lean) ties it to the program's text. -/
def laid_loop_example_maltrun_impl_recEndNames {H : Type} : DataW H := .agg [.lit (.string [103, 111, 111, 100]), .lit (.string [115, 97, 118, 101, 100]), .lit (.string [115, 99, 114, 97, 112, 112, 101, 100])]
def laid_errors_errorType {H : Type} : DataW H := .iface "internal/reflectlite.rtype" (.agg [.ptr (.lit (.string [101, 114, 114, 111, 114]))])

/-- 'laws.FnExactRunOwn': WHATEVER THE INPUT: true; the input reads as it did. -/
def fnExactRunOwnSpec : ChangeSpec := { name := "fnExactRunOwn", vars := ["loop.example/maltrun/impl.recEndNames"], fn := fun _ => fun
  | [d, g1] => { results := [.lit (.bool true)], args := [d], vars := [g1] }
  | _ => none }
def fnExactRunOwnRow : OpenClaim := { program := "ytkapodkidlgkjafgreatdoor", sum := "3aca3bccdbdd9cd79ba5e3bd225f5ad144b3c0aa256e5a24604a15f665c59122", func := "loop.example/maltrun/laws.FnExactRunOwn", spec := "fnExactRunOwn", unfollowed := true, recurses := true, named := ["loop.example/maltrun/impl.recEndNames"], apart := false, laid := [("loop.example/maltrun/impl.recEndNames", laid_loop_example_maltrun_impl_recEndNames)] }
def FnExactRunOwnSaid : Prop := fnExactRunOwnRow.holds Tryz.pinned (OpenSpec.ofChange fnExactRunOwnSpec)

/-- ITS FALSE NEIGHBOUR: 'it returns false'. Refute it at one input. -/
def fnExactRunOwnWrong : ChangeSpec := { name := "fnExactRunOwn", vars := ["loop.example/maltrun/impl.recEndNames"], fn := fun _ => fun
  | [d, g1] => { results := [.lit (.bool false)], args := [d], vars := [g1] }
  | _ => none }
def FnExactRunOwnWrongFalsely : Prop := fnExactRunOwnRow.holds Tryz.pinned (OpenSpec.ofChange fnExactRunOwnWrong)

/-- 'laws.FnExactRunHouseOk': WHATEVER THE INPUT: true; the input reads as it did. -/
def fnExactRunHouseOkSpec : ChangeSpec := { name := "fnExactRunHouseOk", vars := ["loop.example/maltrun/impl.recEndNames"], fn := fun _ => fun
  | [d, g1] => { results := [.lit (.bool true)], args := [d], vars := [g1] }
  | _ => none }
def fnExactRunHouseOkRow : OpenClaim := { program := "ytkapodkidlgkjafgreatdoor", sum := "3aca3bccdbdd9cd79ba5e3bd225f5ad144b3c0aa256e5a24604a15f665c59122", func := "loop.example/maltrun/laws.FnExactRunHouseOk", spec := "fnExactRunHouseOk", unfollowed := true, recurses := true, named := ["loop.example/maltrun/impl.recEndNames"], apart := false, laid := [("loop.example/maltrun/impl.recEndNames", laid_loop_example_maltrun_impl_recEndNames)] }
def FnExactRunHouseOkSaid : Prop := fnExactRunHouseOkRow.holds Tryz.pinned (OpenSpec.ofChange fnExactRunHouseOkSpec)

/-- ITS FALSE NEIGHBOUR: 'it returns false'. Refute it at one input. -/
def fnExactRunHouseOkWrong : ChangeSpec := { name := "fnExactRunHouseOk", vars := ["loop.example/maltrun/impl.recEndNames"], fn := fun _ => fun
  | [d, g1] => { results := [.lit (.bool false)], args := [d], vars := [g1] }
  | _ => none }
def FnExactRunHouseOkWrongFalsely : Prop := fnExactRunHouseOkRow.holds Tryz.pinned (OpenSpec.ofChange fnExactRunHouseOkWrong)

/-- 'laws.FnExactRunLeft': WHATEVER THE INPUT: true; the input reads as it did. -/
def fnExactRunLeftSpec : ChangeSpec := { name := "fnExactRunLeft", vars := ["loop.example/maltrun/impl.recEndNames"], fn := fun _ => fun
  | [d, g1] => { results := [.lit (.bool true)], args := [d], vars := [g1] }
  | _ => none }
def fnExactRunLeftRow : OpenClaim := { program := "ytkapodkidlgkjafgreatdoor", sum := "3aca3bccdbdd9cd79ba5e3bd225f5ad144b3c0aa256e5a24604a15f665c59122", func := "loop.example/maltrun/laws.FnExactRunLeft", spec := "fnExactRunLeft", unfollowed := true, recurses := true, named := ["loop.example/maltrun/impl.recEndNames"], apart := false, laid := [("loop.example/maltrun/impl.recEndNames", laid_loop_example_maltrun_impl_recEndNames)] }
def FnExactRunLeftSaid : Prop := fnExactRunLeftRow.holds Tryz.pinned (OpenSpec.ofChange fnExactRunLeftSpec)

/-- ITS FALSE NEIGHBOUR: 'it returns false'. Refute it at one input. -/
def fnExactRunLeftWrong : ChangeSpec := { name := "fnExactRunLeft", vars := ["loop.example/maltrun/impl.recEndNames"], fn := fun _ => fun
  | [d, g1] => { results := [.lit (.bool false)], args := [d], vars := [g1] }
  | _ => none }
def FnExactRunLeftWrongFalsely : Prop := fnExactRunLeftRow.holds Tryz.pinned (OpenSpec.ofChange fnExactRunLeftWrong)

/-- 'laws.FnExactRunStart': WHATEVER THE INPUT: true; the input reads as it did. -/
def fnExactRunStartSpec : ChangeSpec := { name := "fnExactRunStart", vars := ["loop.example/maltrun/impl.recEndNames"], fn := fun _ => fun
  | [d1, d2, d3, d4, g1] => { results := [.lit (.bool true)], args := [d1, d2, d3, d4], vars := [g1] }
  | _ => none }
def fnExactRunStartRow : OpenClaim := { program := "ytkapodkidlgkjafgreatdoor", sum := "3aca3bccdbdd9cd79ba5e3bd225f5ad144b3c0aa256e5a24604a15f665c59122", func := "loop.example/maltrun/laws.FnExactRunStart", spec := "fnExactRunStart", inPlace := ["slices.overlaps[loop.example/maltrun/impl.ShareBatch]", "internal/reflectlite.ValueOf", "(internal/reflectlite.Value).Type", "(internal/reflectlite.Value).IsNil", "internal/reflectlite.TypeOf", "(internal/reflectlite.Value).Elem", "(internal/reflectlite.Value).Set"], unfollowed := true, recurses := true, named := ["loop.example/maltrun/impl.recEndNames", "errors.errorType"], apart := false, laid := [("errors.errorType", laid_errors_errorType), ("loop.example/maltrun/impl.recEndNames", laid_loop_example_maltrun_impl_recEndNames)] }
def FnExactRunStartSaid : Prop := fnExactRunStartRow.holds Tryz.pinned (OpenSpec.ofChange fnExactRunStartSpec)

/-- ITS FALSE NEIGHBOUR: 'it returns false'. Refute it at one input. -/
def fnExactRunStartWrong : ChangeSpec := { name := "fnExactRunStart", vars := ["loop.example/maltrun/impl.recEndNames"], fn := fun _ => fun
  | [d1, d2, d3, d4, g1] => { results := [.lit (.bool false)], args := [d1, d2, d3, d4], vars := [g1] }
  | _ => none }
def FnExactRunStartWrongFalsely : Prop := fnExactRunStartRow.holds Tryz.pinned (OpenSpec.ofChange fnExactRunStartWrong)

/- THE SECOND FORM. 'bulk': how many values and letters a reading holds, each counted each time it is reached (what is shared counts as often as it is met; a slice's spare places count too). A statement '..UptoSaid' is the law's where the arguments, and the package variables that the reading takes, are together of bulk at most 1048576: NARROWER than '..Said'. Prove '..Said' where nothing that the law and all that it calls make is longer than what came in: it says more and counts as full. Else prove '..UptoSaid'. A law counts once. -/
mutual
def uptoBulk {H : Type} : DataW H → Nat
  | .lit (.string bytes) => bytes.length + 1
  | .lit _ => 1
  | .nil => 1
  | .ptr d => uptoBulk d + 1
  | .slice elems spare => uptoBulkAll elems + uptoBulkAll spare + 1
  | .agg parts => uptoBulkAll parts + 1
  | .iface _ d => uptoBulk d + 1
  | .map entries => uptoBulkEntries entries + 1
  | .held _ => 1
def uptoBulkAll {H : Type} : List (DataW H) → Nat
  | [] => 0
  | d :: r => uptoBulk d + uptoBulkAll r
def uptoBulkEntries {H : Type} : List (Lit × DataW H) → Nat
  | [] => 0
  | x :: r => uptoBulkEntry x + uptoBulkEntries r
def uptoBulkEntry {H : Type} : Lit × DataW H → Nat
  | (.string bytes, d) => bytes.length + uptoBulk d + 1
  | (_, d) => uptoBulk d + 1
 end
def uptoSmall : (H : Type) → List (DataW H) → Bool := fun _ ds => decide (uptoBulkAll ds ≤ 1048576)
def OpenSpec.upto (s : _root_.Go.ChangeSpec) : _root_.Go.OpenSpec := { _root_.Go.OpenSpec.ofChange s with cond := some uptoSmall }

/-- 'laws.FnExactRunOwn', WHERE WHAT IT READS IS OF BULK AT MOST 1048576: true; the input reads as it did. -/
def fnExactRunOwnUptoRow : OpenClaim := { program := "ytkapodkidlgkjafgreatdoor", sum := "3aca3bccdbdd9cd79ba5e3bd225f5ad144b3c0aa256e5a24604a15f665c59122", func := "loop.example/maltrun/laws.FnExactRunOwn", spec := "fnExactRunOwn", unfollowed := true, recurses := true, named := ["loop.example/maltrun/impl.recEndNames"], apart := false, laid := [("loop.example/maltrun/impl.recEndNames", laid_loop_example_maltrun_impl_recEndNames)], narrowed := true }
def FnExactRunOwnUptoSaid : Prop := fnExactRunOwnUptoRow.holds Tryz.pinned (OpenSpec.upto fnExactRunOwnSpec)

/-- 'laws.FnExactRunHouseOk', WHERE WHAT IT READS IS OF BULK AT MOST 1048576: true; the input reads as it did. -/
def fnExactRunHouseOkUptoRow : OpenClaim := { program := "ytkapodkidlgkjafgreatdoor", sum := "3aca3bccdbdd9cd79ba5e3bd225f5ad144b3c0aa256e5a24604a15f665c59122", func := "loop.example/maltrun/laws.FnExactRunHouseOk", spec := "fnExactRunHouseOk", unfollowed := true, recurses := true, named := ["loop.example/maltrun/impl.recEndNames"], apart := false, laid := [("loop.example/maltrun/impl.recEndNames", laid_loop_example_maltrun_impl_recEndNames)], narrowed := true }
def FnExactRunHouseOkUptoSaid : Prop := fnExactRunHouseOkUptoRow.holds Tryz.pinned (OpenSpec.upto fnExactRunHouseOkSpec)

/-- 'laws.FnExactRunLeft', WHERE WHAT IT READS IS OF BULK AT MOST 1048576: true; the input reads as it did. -/
def fnExactRunLeftUptoRow : OpenClaim := { program := "ytkapodkidlgkjafgreatdoor", sum := "3aca3bccdbdd9cd79ba5e3bd225f5ad144b3c0aa256e5a24604a15f665c59122", func := "loop.example/maltrun/laws.FnExactRunLeft", spec := "fnExactRunLeft", unfollowed := true, recurses := true, named := ["loop.example/maltrun/impl.recEndNames"], apart := false, laid := [("loop.example/maltrun/impl.recEndNames", laid_loop_example_maltrun_impl_recEndNames)], narrowed := true }
def FnExactRunLeftUptoSaid : Prop := fnExactRunLeftUptoRow.holds Tryz.pinned (OpenSpec.upto fnExactRunLeftSpec)

/-- 'laws.FnExactRunStart', WHERE WHAT IT READS IS OF BULK AT MOST 1048576: true; the input reads as it did. -/
def fnExactRunStartUptoRow : OpenClaim := { program := "ytkapodkidlgkjafgreatdoor", sum := "3aca3bccdbdd9cd79ba5e3bd225f5ad144b3c0aa256e5a24604a15f665c59122", func := "loop.example/maltrun/laws.FnExactRunStart", spec := "fnExactRunStart", inPlace := ["slices.overlaps[loop.example/maltrun/impl.ShareBatch]", "internal/reflectlite.ValueOf", "(internal/reflectlite.Value).Type", "(internal/reflectlite.Value).IsNil", "internal/reflectlite.TypeOf", "(internal/reflectlite.Value).Elem", "(internal/reflectlite.Value).Set"], unfollowed := true, recurses := true, named := ["loop.example/maltrun/impl.recEndNames", "errors.errorType"], apart := false, laid := [("errors.errorType", laid_errors_errorType), ("loop.example/maltrun/impl.recEndNames", laid_loop_example_maltrun_impl_recEndNames)], narrowed := true }
def FnExactRunStartUptoSaid : Prop := fnExactRunStartUptoRow.holds Tryz.pinned (OpenSpec.upto fnExactRunStartSpec)

end Rows
end Go.Proofs.YtkapodkidlgkjafGreatDoor
