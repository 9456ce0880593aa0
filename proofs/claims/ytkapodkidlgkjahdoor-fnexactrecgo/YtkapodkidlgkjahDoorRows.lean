/-
  NARROWER THAN 'FOR EVERY INPUT', by the rows' own cells (each row's printed sentence says how): FnExactRecCan: laid · FnExactRecPrint: laid · FnExactRecBegin: laid · FnExactRecGo: laid · FnExactRecRun: laid.
  DERIVED. THE GIVEN ROWS OF THIS SEAT. 5 by the template 'for every input the law returns true; each argument reads behind the call as it read before'; 0 by the template 'total and deterministic' (their statements: YtkapodkidlgkjahDoorTotals.lean).
  GIVEN WITH THE SEED: the statements are not yours to turn. If you find one false, say at which input.
  Laid BY PROGRAM, IN A SANDBOX (cutbox-rows.mjs): the forced cells as the released guide's own fill.sh prints them over the translation 46b191eab51b80c5… (all of the seat's roots in one cut). By AI agents, Wed Nov 11 2026. No macro, syntax, notation, axiom, sorry.
-/
import Derived.Test.YtkapodkidlgkjahDoorChecked
import GoSem.Claim
import GoSem.ClaimJoined
import GoSem.ClaimMapViews
import Derived.JoinedTies
import Derived.KernelRfl
namespace Go.Proofs.YtkapodkidlgkjahDoor
/- THE CELL 'sum', in the pinned program and in every row, IS THE sha256 OF THE DUMP (.gsa) THAT YtkapodkidlgkjahDoorProg.lean LOADS. Nothing in Lean hashes anything: it is a label: what it is worth is what the hold of that sum in a sandbox is worth. -/
noncomputable def Tryd.pinned : Pinned := { name := "ytkapodkidlgkjahdoor", sum := "46b191eab51b80c599c088846092a6a6ee50471c1e265904bd1967d377a864a9", checked := Tryd.checked }
namespace Rows
def none {H : Type} : Left H := { results := [], args := [] }

/- WHAT THE LISTED PACKAGE-LEVEL VARIABLES READ AS WHEN THE CALL BEGINS. Each datum BY PROGRAM (the guide's laid-datum.mjs) off the statement by which the dump's own 'gosem.cut.vars' lays the variable. In a bare row this is a premise. The card (YtkapodkidlgkjahDoorCards.lean) ties it to the program's text. -/
def laid_loop_example_maltrun_impl_recEndNames {H : Type} : DataW H := .agg [.lit (.string [103, 111, 111, 100]), .lit (.string [115, 97, 118, 101, 100]), .lit (.string [115, 99, 114, 97, 112, 112, 101, 100])]
def laid_math_bits_deBruijn32tab {H : Type} : DataW H := .agg [.lit (.int .u8 0), .lit (.int .u8 1), .lit (.int .u8 28), .lit (.int .u8 2), .lit (.int .u8 29), .lit (.int .u8 14), .lit (.int .u8 24), .lit (.int .u8 3), .lit (.int .u8 30), .lit (.int .u8 22), .lit (.int .u8 20), .lit (.int .u8 15), .lit (.int .u8 25), .lit (.int .u8 17), .lit (.int .u8 4), .lit (.int .u8 8), .lit (.int .u8 31), .lit (.int .u8 27), .lit (.int .u8 13), .lit (.int .u8 23), .lit (.int .u8 21), .lit (.int .u8 19), .lit (.int .u8 16), .lit (.int .u8 7), .lit (.int .u8 26), .lit (.int .u8 12), .lit (.int .u8 18), .lit (.int .u8 6), .lit (.int .u8 11), .lit (.int .u8 5), .lit (.int .u8 10), .lit (.int .u8 9)]
def laid_math_bits_deBruijn64tab {H : Type} : DataW H := .agg [.lit (.int .u8 0), .lit (.int .u8 1), .lit (.int .u8 56), .lit (.int .u8 2), .lit (.int .u8 57), .lit (.int .u8 49), .lit (.int .u8 28), .lit (.int .u8 3), .lit (.int .u8 61), .lit (.int .u8 58), .lit (.int .u8 42), .lit (.int .u8 50), .lit (.int .u8 38), .lit (.int .u8 29), .lit (.int .u8 17), .lit (.int .u8 4), .lit (.int .u8 62), .lit (.int .u8 47), .lit (.int .u8 59), .lit (.int .u8 36), .lit (.int .u8 45), .lit (.int .u8 43), .lit (.int .u8 51), .lit (.int .u8 22), .lit (.int .u8 53), .lit (.int .u8 39), .lit (.int .u8 33), .lit (.int .u8 30), .lit (.int .u8 24), .lit (.int .u8 18), .lit (.int .u8 12), .lit (.int .u8 5), .lit (.int .u8 63), .lit (.int .u8 55), .lit (.int .u8 48), .lit (.int .u8 27), .lit (.int .u8 60), .lit (.int .u8 41), .lit (.int .u8 37), .lit (.int .u8 16), .lit (.int .u8 46), .lit (.int .u8 35), .lit (.int .u8 44), .lit (.int .u8 21), .lit (.int .u8 52), .lit (.int .u8 32), .lit (.int .u8 23), .lit (.int .u8 11), .lit (.int .u8 54), .lit (.int .u8 26), .lit (.int .u8 40), .lit (.int .u8 15), .lit (.int .u8 34), .lit (.int .u8 20), .lit (.int .u8 31), .lit (.int .u8 10), .lit (.int .u8 25), .lit (.int .u8 14), .lit (.int .u8 19), .lit (.int .u8 9), .lit (.int .u8 13), .lit (.int .u8 8), .lit (.int .u8 7), .lit (.int .u8 6)]
def laid_internal_strconv_uint64pow10 {H : Type} : DataW H := .agg [.lit (.int .u64 1), .lit (.int .u64 10), .lit (.int .u64 100), .lit (.int .u64 1000), .lit (.int .u64 10000), .lit (.int .u64 100000), .lit (.int .u64 1000000), .lit (.int .u64 10000000), .lit (.int .u64 100000000), .lit (.int .u64 1000000000), .lit (.int .u64 10000000000), .lit (.int .u64 100000000000), .lit (.int .u64 1000000000000), .lit (.int .u64 10000000000000), .lit (.int .u64 100000000000000), .lit (.int .u64 1000000000000000), .lit (.int .u64 10000000000000000), .lit (.int .u64 100000000000000000), .lit (.int .u64 1000000000000000000), .lit (.int .u64 10000000000000000000)]
def laid_loop_example_maltrun_impl_recKindWords {H : Type} : DataW H := .agg [.lit (.string []), .lit (.string [102, 105, 108, 108]), .lit (.string [109, 111, 118, 101]), .lit (.string [104, 111, 108, 100]), .lit (.string [99, 108, 101, 97, 110]), .lit (.string [116, 101, 115, 116])]

/-- 'laws.FnExactRecCan': WHATEVER THE INPUT: true; the input reads as it did. -/
def fnExactRecCanSpec : ChangeSpec := { name := "fnExactRecCan", vars := ["loop.example/maltrun/impl.recEndNames"], fn := fun _ => fun
  | [d1, d2, d3, g1] => { results := [.lit (.bool true)], args := [d1, d2, d3], vars := [g1] }
  | _ => none }
def fnExactRecCanRow : OpenClaim := { program := "ytkapodkidlgkjahdoor", sum := "46b191eab51b80c599c088846092a6a6ee50471c1e265904bd1967d377a864a9", func := "loop.example/maltrun/laws.FnExactRecCan", spec := "fnExactRecCan", unfollowed := true, recurses := true, named := ["loop.example/maltrun/impl.recEndNames"], apart := false, laid := [("loop.example/maltrun/impl.recEndNames", laid_loop_example_maltrun_impl_recEndNames)] }
def FnExactRecCanSaid : Prop := fnExactRecCanRow.holds Tryd.pinned (OpenSpec.ofChange fnExactRecCanSpec)

/-- ITS FALSE NEIGHBOUR: 'it returns false'. Refute it at one input. -/
def fnExactRecCanWrong : ChangeSpec := { name := "fnExactRecCan", vars := ["loop.example/maltrun/impl.recEndNames"], fn := fun _ => fun
  | [d1, d2, d3, g1] => { results := [.lit (.bool false)], args := [d1, d2, d3], vars := [g1] }
  | _ => none }
def FnExactRecCanWrongFalsely : Prop := fnExactRecCanRow.holds Tryd.pinned (OpenSpec.ofChange fnExactRecCanWrong)

/-- 'laws.FnExactRecPrint': WHATEVER THE INPUT: true; the input reads as it did. -/
def fnExactRecPrintSpec : ChangeSpec := { name := "fnExactRecPrint", vars := ["loop.example/maltrun/impl.recEndNames", "loop.example/maltrun/impl.recKindWords"], fn := fun _ => fun
  | [d, g1, g2] => { results := [.lit (.bool true)], args := [d], vars := [g1, g2] }
  | _ => none }
def fnExactRecPrintRow : OpenClaim := { program := "ytkapodkidlgkjahdoor", sum := "46b191eab51b80c599c088846092a6a6ee50471c1e265904bd1967d377a864a9", func := "loop.example/maltrun/laws.FnExactRecPrint", spec := "fnExactRecPrint", inPlace := ["internal/abi.NoEscape", "internal/bytealg.MakeNoZero"], unfollowed := true, recurses := true, named := ["loop.example/maltrun/impl.recEndNames", "loop.example/maltrun/impl.recKindWords", "internal/strconv.uint64pow10", "math/bits.deBruijn32tab", "math/bits.deBruijn64tab"], apart := false, laid := [("math/bits.deBruijn32tab", laid_math_bits_deBruijn32tab), ("math/bits.deBruijn64tab", laid_math_bits_deBruijn64tab), ("internal/strconv.uint64pow10", laid_internal_strconv_uint64pow10), ("loop.example/maltrun/impl.recEndNames", laid_loop_example_maltrun_impl_recEndNames), ("loop.example/maltrun/impl.recKindWords", laid_loop_example_maltrun_impl_recKindWords)] }
def FnExactRecPrintSaid : Prop := fnExactRecPrintRow.holds Tryd.pinned (OpenSpec.ofChange fnExactRecPrintSpec)

/-- ITS FALSE NEIGHBOUR: 'it returns false'. Refute it at one input. -/
def fnExactRecPrintWrong : ChangeSpec := { name := "fnExactRecPrint", vars := ["loop.example/maltrun/impl.recEndNames", "loop.example/maltrun/impl.recKindWords"], fn := fun _ => fun
  | [d, g1, g2] => { results := [.lit (.bool false)], args := [d], vars := [g1, g2] }
  | _ => none }
def FnExactRecPrintWrongFalsely : Prop := fnExactRecPrintRow.holds Tryd.pinned (OpenSpec.ofChange fnExactRecPrintWrong)

/-- 'laws.FnExactRecBegin': WHATEVER THE INPUT: true; the input reads as it did. -/
def fnExactRecBeginSpec : ChangeSpec := { name := "fnExactRecBegin", vars := ["loop.example/maltrun/impl.recEndNames"], fn := fun _ => fun
  | [d, g1] => { results := [.lit (.bool true)], args := [d], vars := [g1] }
  | _ => none }
def fnExactRecBeginRow : OpenClaim := { program := "ytkapodkidlgkjahdoor", sum := "46b191eab51b80c599c088846092a6a6ee50471c1e265904bd1967d377a864a9", func := "loop.example/maltrun/laws.FnExactRecBegin", spec := "fnExactRecBegin", unfollowed := true, recurses := true, named := ["loop.example/maltrun/impl.recEndNames"], apart := false, laid := [("loop.example/maltrun/impl.recEndNames", laid_loop_example_maltrun_impl_recEndNames)] }
def FnExactRecBeginSaid : Prop := fnExactRecBeginRow.holds Tryd.pinned (OpenSpec.ofChange fnExactRecBeginSpec)

/-- ITS FALSE NEIGHBOUR: 'it returns false'. Refute it at one input. -/
def fnExactRecBeginWrong : ChangeSpec := { name := "fnExactRecBegin", vars := ["loop.example/maltrun/impl.recEndNames"], fn := fun _ => fun
  | [d, g1] => { results := [.lit (.bool false)], args := [d], vars := [g1] }
  | _ => none }
def FnExactRecBeginWrongFalsely : Prop := fnExactRecBeginRow.holds Tryd.pinned (OpenSpec.ofChange fnExactRecBeginWrong)

/-- 'laws.FnExactRecGo': WHATEVER THE INPUT: true; the input reads as it did. -/
def fnExactRecGoSpec : ChangeSpec := { name := "fnExactRecGo", vars := ["loop.example/maltrun/impl.recEndNames"], fn := fun _ => fun
  | [d1, d2, d3, g1] => { results := [.lit (.bool true)], args := [d1, d2, d3], vars := [g1] }
  | _ => none }
def fnExactRecGoRow : OpenClaim := { program := "ytkapodkidlgkjahdoor", sum := "46b191eab51b80c599c088846092a6a6ee50471c1e265904bd1967d377a864a9", func := "loop.example/maltrun/laws.FnExactRecGo", spec := "fnExactRecGo", unfollowed := true, recurses := true, named := ["loop.example/maltrun/impl.recEndNames"], apart := false, laid := [("loop.example/maltrun/impl.recEndNames", laid_loop_example_maltrun_impl_recEndNames)] }
def FnExactRecGoSaid : Prop := fnExactRecGoRow.holds Tryd.pinned (OpenSpec.ofChange fnExactRecGoSpec)

/-- ITS FALSE NEIGHBOUR: 'it returns false'. Refute it at one input. -/
def fnExactRecGoWrong : ChangeSpec := { name := "fnExactRecGo", vars := ["loop.example/maltrun/impl.recEndNames"], fn := fun _ => fun
  | [d1, d2, d3, g1] => { results := [.lit (.bool false)], args := [d1, d2, d3], vars := [g1] }
  | _ => none }
def FnExactRecGoWrongFalsely : Prop := fnExactRecGoRow.holds Tryd.pinned (OpenSpec.ofChange fnExactRecGoWrong)

/-- 'laws.FnExactRecRun': WHATEVER THE INPUT: true; the input reads as it did. -/
def fnExactRecRunSpec : ChangeSpec := { name := "fnExactRecRun", vars := ["loop.example/maltrun/impl.recEndNames"], fn := fun _ => fun
  | [d1, d2, g1] => { results := [.lit (.bool true)], args := [d1, d2], vars := [g1] }
  | _ => none }
def fnExactRecRunRow : OpenClaim := { program := "ytkapodkidlgkjahdoor", sum := "46b191eab51b80c599c088846092a6a6ee50471c1e265904bd1967d377a864a9", func := "loop.example/maltrun/laws.FnExactRecRun", spec := "fnExactRecRun", unfollowed := true, recurses := true, named := ["loop.example/maltrun/impl.recEndNames"], apart := false, laid := [("loop.example/maltrun/impl.recEndNames", laid_loop_example_maltrun_impl_recEndNames)] }
def FnExactRecRunSaid : Prop := fnExactRecRunRow.holds Tryd.pinned (OpenSpec.ofChange fnExactRecRunSpec)

/-- ITS FALSE NEIGHBOUR: 'it returns false'. Refute it at one input. -/
def fnExactRecRunWrong : ChangeSpec := { name := "fnExactRecRun", vars := ["loop.example/maltrun/impl.recEndNames"], fn := fun _ => fun
  | [d1, d2, g1] => { results := [.lit (.bool false)], args := [d1, d2], vars := [g1] }
  | _ => none }
def FnExactRecRunWrongFalsely : Prop := fnExactRecRunRow.holds Tryd.pinned (OpenSpec.ofChange fnExactRecRunWrong)

/- THE SECOND FORM. 'bulk': how many values and letters a reading holds, each counted each time it is reached (what is shared counts as often as it is met; a slice's spare places count too). A statement '..UptoSaid' is the law's where the arguments, and the package variables that the reading takes, are together of bulk at most 1048576: NARROWER than '..Said'. Prove '..Said' where nothing that the law and all that it calls make is longer than what came in: it says more and counts as full. Else prove '..UptoSaid'. A law counts once. -/
mutual
def uptoBulk {H : Type} : DataW H → Nat
  | .lit (.string bytes) => bytes.length + 1
  | .lit _ => 1
  | .nil => 1
  | .ptr d => uptoBulk d + 1
  | .slice elems spare => uptoBulkAll elems + uptoBulkAll spare + 1
  | .agg parts => uptoBulkAll parts + 1
  | .iface _ d => uptoBulk d + 1
  | .map entries => uptoBulkEntries entries + 1
  | .held _ => 1
def uptoBulkAll {H : Type} : List (DataW H) → Nat
  | [] => 0
  | d :: r => uptoBulk d + uptoBulkAll r
def uptoBulkEntries {H : Type} : List (Lit × DataW H) → Nat
  | [] => 0
  | x :: r => uptoBulkEntry x + uptoBulkEntries r
def uptoBulkEntry {H : Type} : Lit × DataW H → Nat
  | (.string bytes, d) => bytes.length + uptoBulk d + 1
  | (_, d) => uptoBulk d + 1
 end
def uptoSmall : (H : Type) → List (DataW H) → Bool := fun _ ds => decide (uptoBulkAll ds ≤ 1048576)
def OpenSpec.upto (s : _root_.Go.ChangeSpec) : _root_.Go.OpenSpec := { _root_.Go.OpenSpec.ofChange s with cond := some uptoSmall }

/-- 'laws.FnExactRecCan', WHERE WHAT IT READS IS OF BULK AT MOST 1048576: true; the input reads as it did. -/
def fnExactRecCanUptoRow : OpenClaim := { program := "ytkapodkidlgkjahdoor", sum := "46b191eab51b80c599c088846092a6a6ee50471c1e265904bd1967d377a864a9", func := "loop.example/maltrun/laws.FnExactRecCan", spec := "fnExactRecCan", unfollowed := true, recurses := true, named := ["loop.example/maltrun/impl.recEndNames"], apart := false, laid := [("loop.example/maltrun/impl.recEndNames", laid_loop_example_maltrun_impl_recEndNames)], narrowed := true }
def FnExactRecCanUptoSaid : Prop := fnExactRecCanUptoRow.holds Tryd.pinned (OpenSpec.upto fnExactRecCanSpec)

/-- 'laws.FnExactRecPrint', WHERE WHAT IT READS IS OF BULK AT MOST 1048576: true; the input reads as it did. -/
def fnExactRecPrintUptoRow : OpenClaim := { program := "ytkapodkidlgkjahdoor", sum := "46b191eab51b80c599c088846092a6a6ee50471c1e265904bd1967d377a864a9", func := "loop.example/maltrun/laws.FnExactRecPrint", spec := "fnExactRecPrint", inPlace := ["internal/abi.NoEscape", "internal/bytealg.MakeNoZero"], unfollowed := true, recurses := true, named := ["loop.example/maltrun/impl.recEndNames", "loop.example/maltrun/impl.recKindWords", "internal/strconv.uint64pow10", "math/bits.deBruijn32tab", "math/bits.deBruijn64tab"], apart := false, laid := [("math/bits.deBruijn32tab", laid_math_bits_deBruijn32tab), ("math/bits.deBruijn64tab", laid_math_bits_deBruijn64tab), ("internal/strconv.uint64pow10", laid_internal_strconv_uint64pow10), ("loop.example/maltrun/impl.recEndNames", laid_loop_example_maltrun_impl_recEndNames), ("loop.example/maltrun/impl.recKindWords", laid_loop_example_maltrun_impl_recKindWords)], narrowed := true }
def FnExactRecPrintUptoSaid : Prop := fnExactRecPrintUptoRow.holds Tryd.pinned (OpenSpec.upto fnExactRecPrintSpec)

/-- 'laws.FnExactRecBegin', WHERE WHAT IT READS IS OF BULK AT MOST 1048576: true; the input reads as it did. -/
def fnExactRecBeginUptoRow : OpenClaim := { program := "ytkapodkidlgkjahdoor", sum := "46b191eab51b80c599c088846092a6a6ee50471c1e265904bd1967d377a864a9", func := "loop.example/maltrun/laws.FnExactRecBegin", spec := "fnExactRecBegin", unfollowed := true, recurses := true, named := ["loop.example/maltrun/impl.recEndNames"], apart := false, laid := [("loop.example/maltrun/impl.recEndNames", laid_loop_example_maltrun_impl_recEndNames)], narrowed := true }
def FnExactRecBeginUptoSaid : Prop := fnExactRecBeginUptoRow.holds Tryd.pinned (OpenSpec.upto fnExactRecBeginSpec)

/-- 'laws.FnExactRecGo', WHERE WHAT IT READS IS OF BULK AT MOST 1048576: true; the input reads as it did. -/
def fnExactRecGoUptoRow : OpenClaim := { program := "ytkapodkidlgkjahdoor", sum := "46b191eab51b80c599c088846092a6a6ee50471c1e265904bd1967d377a864a9", func := "loop.example/maltrun/laws.FnExactRecGo", spec := "fnExactRecGo", unfollowed := true, recurses := true, named := ["loop.example/maltrun/impl.recEndNames"], apart := false, laid := [("loop.example/maltrun/impl.recEndNames", laid_loop_example_maltrun_impl_recEndNames)], narrowed := true }
def FnExactRecGoUptoSaid : Prop := fnExactRecGoUptoRow.holds Tryd.pinned (OpenSpec.upto fnExactRecGoSpec)

/-- 'laws.FnExactRecRun', WHERE WHAT IT READS IS OF BULK AT MOST 1048576: true; the input reads as it did. -/
def fnExactRecRunUptoRow : OpenClaim := { program := "ytkapodkidlgkjahdoor", sum := "46b191eab51b80c599c088846092a6a6ee50471c1e265904bd1967d377a864a9", func := "loop.example/maltrun/laws.FnExactRecRun", spec := "fnExactRecRun", unfollowed := true, recurses := true, named := ["loop.example/maltrun/impl.recEndNames"], apart := false, laid := [("loop.example/maltrun/impl.recEndNames", laid_loop_example_maltrun_impl_recEndNames)], narrowed := true }
def FnExactRecRunUptoSaid : Prop := fnExactRecRunUptoRow.holds Tryd.pinned (OpenSpec.upto fnExactRecRunSpec)

end Rows
end Go.Proofs.YtkapodkidlgkjahDoor
