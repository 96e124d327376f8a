/-
  NARROWER THAN 'FOR EVERY INPUT', by the rows' own cells (each row's printed sentence says how): FnExactValidSuite: laid · FnExactSuiteText: laid · FnExactSuiteCost: laid · FnExactFirstFailing: laid · FnExactPasses: laid · FnExactMaximalWords: laid.
  DERIVED. THE GIVEN ROWS OF THIS SEAT. 6 by the template 'for every input the law returns true; each argument reads behind the call as it read before'; 0 by the template 'total and deterministic' (their statements: YtdhmciendlihoaaDoorTotals.lean).
  GIVEN WITH THE SEED: the statements are not yours to turn. If you find one false, say at which input.
  Laid BY PROGRAM, IN A SANDBOX (cutbox-rows.mjs): the forced cells as the released guide's own fill.sh prints them over the translation 3de79a3bca0df024… (all of the seat's roots in one cut). By AI agents, Wed Nov 11 2026. No macro, syntax, notation, axiom, sorry.
-/
import Derived.Test.YtdhmciendlihoaaDoorChecked
import GoSem.Claim
import GoSem.ClaimJoined
import GoSem.ClaimMapViews
import Derived.JoinedTies
import Derived.KernelRfl
namespace Go.Proofs.YtdhmciendlihoaaDoor
/- THE CELL 'sum', in the pinned program and in every row, IS THE sha256 OF THE DUMP (.gsa) THAT YtdhmciendlihoaaDoorProg.lean LOADS. Nothing in Lean hashes anything: it is a label: what it is worth is what the hold of that sum in a sandbox is worth. -/
noncomputable def Tryd.pinned : Pinned := { name := "ytdhmciendlihoaadoor", sum := "3de79a3bca0df02478657f947ad8993efafb5d63205461e0191d477b2ba216db", checked := Tryd.checked }
namespace Rows
def none {H : Type} : Left H := { results := [], args := [] }

/- WHAT THE LISTED PACKAGE-LEVEL VARIABLES READ AS WHEN THE CALL BEGINS. Each datum BY PROGRAM (the guide's laid-datum.mjs) off the statement by which the dump's own 'gosem.cut.vars' lays the variable. In a bare row this is a premise. The card (YtdhmciendlihoaaDoorCards.lean) ties it to the program's text. -/
def laid_errors_errorType {H : Type} : DataW H := .iface "internal/reflectlite.rtype" (.agg [.ptr (.lit (.string [101, 114, 114, 111, 114]))])

/-- 'laws.FnExactValidSuite': WHATEVER THE INPUT: true; the input reads as it did. -/
def fnExactValidSuiteSpec : ChangeSpec := { name := "fnExactValidSuite", fn := fun _ => fun
  | [d1, d2] => { results := [.lit (.bool true)], args := [d1, d2] }
  | _ => none }
def fnExactValidSuiteRow : OpenClaim := { program := "ytdhmciendlihoaadoor", sum := "3de79a3bca0df02478657f947ad8993efafb5d63205461e0191d477b2ba216db", func := "loop.example/g01102/laws.FnExactValidSuite", spec := "fnExactValidSuite", inPlace := ["internal/reflectlite.ValueOf", "(internal/reflectlite.Value).Type", "(internal/reflectlite.Value).IsNil", "internal/reflectlite.TypeOf", "(internal/reflectlite.Value).Elem", "(internal/reflectlite.Value).Set"], unfollowed := true, recurses := true, named := ["errors.errorType"], apart := false, laid := [("errors.errorType", laid_errors_errorType)] }
def FnExactValidSuiteSaid : Prop := fnExactValidSuiteRow.holds Tryd.pinned (OpenSpec.ofChange fnExactValidSuiteSpec)

/-- ITS FALSE NEIGHBOUR: 'it returns false'. Refute it at one input. -/
def fnExactValidSuiteWrong : ChangeSpec := { name := "fnExactValidSuite", fn := fun _ => fun
  | [d1, d2] => { results := [.lit (.bool false)], args := [d1, d2] }
  | _ => none }
def FnExactValidSuiteWrongFalsely : Prop := fnExactValidSuiteRow.holds Tryd.pinned (OpenSpec.ofChange fnExactValidSuiteWrong)

/-- 'laws.FnExactSuiteText': WHATEVER THE INPUT: true; the input reads as it did. -/
def fnExactSuiteTextSpec : ChangeSpec := { name := "fnExactSuiteText", fn := fun _ => fun
  | [d] => { results := [.lit (.bool true)], args := [d] }
  | _ => none }
def fnExactSuiteTextRow : OpenClaim := { program := "ytdhmciendlihoaadoor", sum := "3de79a3bca0df02478657f947ad8993efafb5d63205461e0191d477b2ba216db", func := "loop.example/g01102/laws.FnExactSuiteText", spec := "fnExactSuiteText", inPlace := ["internal/reflectlite.ValueOf", "(internal/reflectlite.Value).Type", "(internal/reflectlite.Value).IsNil", "internal/reflectlite.TypeOf", "(internal/reflectlite.Value).Elem", "(internal/reflectlite.Value).Set", "internal/abi.NoEscape"], unfollowed := true, recurses := true, named := ["errors.errorType"], apart := false, laid := [("errors.errorType", laid_errors_errorType)] }
def FnExactSuiteTextSaid : Prop := fnExactSuiteTextRow.holds Tryd.pinned (OpenSpec.ofChange fnExactSuiteTextSpec)

/-- ITS FALSE NEIGHBOUR: 'it returns false'. Refute it at one input. -/
def fnExactSuiteTextWrong : ChangeSpec := { name := "fnExactSuiteText", fn := fun _ => fun
  | [d] => { results := [.lit (.bool false)], args := [d] }
  | _ => none }
def FnExactSuiteTextWrongFalsely : Prop := fnExactSuiteTextRow.holds Tryd.pinned (OpenSpec.ofChange fnExactSuiteTextWrong)

/-- 'laws.FnExactSuiteCost': WHATEVER THE INPUT: true; the input reads as it did. -/
def fnExactSuiteCostSpec : ChangeSpec := { name := "fnExactSuiteCost", fn := fun _ => fun
  | [d] => { results := [.lit (.bool true)], args := [d] }
  | _ => none }
def fnExactSuiteCostRow : OpenClaim := { program := "ytdhmciendlihoaadoor", sum := "3de79a3bca0df02478657f947ad8993efafb5d63205461e0191d477b2ba216db", func := "loop.example/g01102/laws.FnExactSuiteCost", spec := "fnExactSuiteCost", inPlace := ["internal/reflectlite.ValueOf", "(internal/reflectlite.Value).Type", "(internal/reflectlite.Value).IsNil", "internal/reflectlite.TypeOf", "(internal/reflectlite.Value).Elem", "(internal/reflectlite.Value).Set"], unfollowed := true, recurses := true, named := ["errors.errorType"], apart := false, laid := [("errors.errorType", laid_errors_errorType)] }
def FnExactSuiteCostSaid : Prop := fnExactSuiteCostRow.holds Tryd.pinned (OpenSpec.ofChange fnExactSuiteCostSpec)

/-- ITS FALSE NEIGHBOUR: 'it returns false'. Refute it at one input. -/
def fnExactSuiteCostWrong : ChangeSpec := { name := "fnExactSuiteCost", fn := fun _ => fun
  | [d] => { results := [.lit (.bool false)], args := [d] }
  | _ => none }
def FnExactSuiteCostWrongFalsely : Prop := fnExactSuiteCostRow.holds Tryd.pinned (OpenSpec.ofChange fnExactSuiteCostWrong)

/-- 'laws.FnExactFirstFailing': WHATEVER THE INPUT: true; the input reads as it did. -/
def fnExactFirstFailingSpec : ChangeSpec := { name := "fnExactFirstFailing", fn := fun _ => fun
  | [d1, d2, d3] => { results := [.lit (.bool true)], args := [d1, d2, d3] }
  | _ => none }
def fnExactFirstFailingRow : OpenClaim := { program := "ytdhmciendlihoaadoor", sum := "3de79a3bca0df02478657f947ad8993efafb5d63205461e0191d477b2ba216db", func := "loop.example/g01102/laws.FnExactFirstFailing", spec := "fnExactFirstFailing", inPlace := ["internal/reflectlite.ValueOf", "(internal/reflectlite.Value).Type", "(internal/reflectlite.Value).IsNil", "internal/reflectlite.TypeOf", "(internal/reflectlite.Value).Elem", "(internal/reflectlite.Value).Set"], unfollowed := true, recurses := true, named := ["errors.errorType"], apart := false, laid := [("errors.errorType", laid_errors_errorType)] }
def FnExactFirstFailingSaid : Prop := fnExactFirstFailingRow.holds Tryd.pinned (OpenSpec.ofChange fnExactFirstFailingSpec)

/-- ITS FALSE NEIGHBOUR: 'it returns false'. Refute it at one input. -/
def fnExactFirstFailingWrong : ChangeSpec := { name := "fnExactFirstFailing", fn := fun _ => fun
  | [d1, d2, d3] => { results := [.lit (.bool false)], args := [d1, d2, d3] }
  | _ => none }
def FnExactFirstFailingWrongFalsely : Prop := fnExactFirstFailingRow.holds Tryd.pinned (OpenSpec.ofChange fnExactFirstFailingWrong)

/-- 'laws.FnExactPasses': WHATEVER THE INPUT: true; the input reads as it did. -/
def fnExactPassesSpec : ChangeSpec := { name := "fnExactPasses", fn := fun _ => fun
  | [d1, d2, d3] => { results := [.lit (.bool true)], args := [d1, d2, d3] }
  | _ => none }
def fnExactPassesRow : OpenClaim := { program := "ytdhmciendlihoaadoor", sum := "3de79a3bca0df02478657f947ad8993efafb5d63205461e0191d477b2ba216db", func := "loop.example/g01102/laws.FnExactPasses", spec := "fnExactPasses", inPlace := ["internal/reflectlite.ValueOf", "(internal/reflectlite.Value).Type", "(internal/reflectlite.Value).IsNil", "internal/reflectlite.TypeOf", "(internal/reflectlite.Value).Elem", "(internal/reflectlite.Value).Set"], unfollowed := true, recurses := true, named := ["errors.errorType"], apart := false, laid := [("errors.errorType", laid_errors_errorType)] }
def FnExactPassesSaid : Prop := fnExactPassesRow.holds Tryd.pinned (OpenSpec.ofChange fnExactPassesSpec)

/-- ITS FALSE NEIGHBOUR: 'it returns false'. Refute it at one input. -/
def fnExactPassesWrong : ChangeSpec := { name := "fnExactPasses", fn := fun _ => fun
  | [d1, d2, d3] => { results := [.lit (.bool false)], args := [d1, d2, d3] }
  | _ => none }
def FnExactPassesWrongFalsely : Prop := fnExactPassesRow.holds Tryd.pinned (OpenSpec.ofChange fnExactPassesWrong)

/-- 'laws.FnExactMaximalWords': WHATEVER THE INPUT: true; the input reads as it did. -/
def fnExactMaximalWordsSpec : ChangeSpec := { name := "fnExactMaximalWords", fn := fun _ => fun
  | [d1, d2] => { results := [.lit (.bool true)], args := [d1, d2] }
  | _ => none }
def fnExactMaximalWordsRow : OpenClaim := { program := "ytdhmciendlihoaadoor", sum := "3de79a3bca0df02478657f947ad8993efafb5d63205461e0191d477b2ba216db", func := "loop.example/g01102/laws.FnExactMaximalWords", spec := "fnExactMaximalWords", inPlace := ["internal/reflectlite.ValueOf", "(internal/reflectlite.Value).Type", "(internal/reflectlite.Value).IsNil", "internal/reflectlite.TypeOf", "(internal/reflectlite.Value).Elem", "(internal/reflectlite.Value).Set", "slices.overlaps[[]int64]"], unfollowed := true, recurses := true, named := ["errors.errorType"], apart := false, laid := [("errors.errorType", laid_errors_errorType)] }
def FnExactMaximalWordsSaid : Prop := fnExactMaximalWordsRow.holds Tryd.pinned (OpenSpec.ofChange fnExactMaximalWordsSpec)

/-- ITS FALSE NEIGHBOUR: 'it returns false'. Refute it at one input. -/
def fnExactMaximalWordsWrong : ChangeSpec := { name := "fnExactMaximalWords", fn := fun _ => fun
  | [d1, d2] => { results := [.lit (.bool false)], args := [d1, d2] }
  | _ => none }
def FnExactMaximalWordsWrongFalsely : Prop := fnExactMaximalWordsRow.holds Tryd.pinned (OpenSpec.ofChange fnExactMaximalWordsWrong)

/- THE SECOND FORM. 'bulk': how many values and letters a reading holds, each counted each time it is reached (what is shared counts as often as it is met; a slice's spare places count too). A statement '..UptoSaid' is the law's where the arguments, and the package variables that the reading takes, are together of bulk at most 1048576: NARROWER than '..Said'. Prove '..Said' where nothing that the law and all that it calls make is longer than what came in: it says more and counts as full. Else prove '..UptoSaid'. A law counts once. -/
mutual
def uptoBulk {H : Type} : DataW H → Nat
  | .lit (.string bytes) => bytes.length + 1
  | .lit _ => 1
  | .nil => 1
  | .ptr d => uptoBulk d + 1
  | .slice elems spare => uptoBulkAll elems + uptoBulkAll spare + 1
  | .agg parts => uptoBulkAll parts + 1
  | .iface _ d => uptoBulk d + 1
  | .map entries => uptoBulkEntries entries + 1
  | .held _ => 1
def uptoBulkAll {H : Type} : List (DataW H) → Nat
  | [] => 0
  | d :: r => uptoBulk d + uptoBulkAll r
def uptoBulkEntries {H : Type} : List (Lit × DataW H) → Nat
  | [] => 0
  | x :: r => uptoBulkEntry x + uptoBulkEntries r
def uptoBulkEntry {H : Type} : Lit × DataW H → Nat
  | (.string bytes, d) => bytes.length + uptoBulk d + 1
  | (_, d) => uptoBulk d + 1
 end
def uptoSmall : (H : Type) → List (DataW H) → Bool := fun _ ds => decide (uptoBulkAll ds ≤ 1048576)
def OpenSpec.upto (s : _root_.Go.ChangeSpec) : _root_.Go.OpenSpec := { _root_.Go.OpenSpec.ofChange s with cond := some uptoSmall }

/-- 'laws.FnExactValidSuite', WHERE WHAT IT READS IS OF BULK AT MOST 1048576: true; the input reads as it did. -/
def fnExactValidSuiteUptoRow : OpenClaim := { program := "ytdhmciendlihoaadoor", sum := "3de79a3bca0df02478657f947ad8993efafb5d63205461e0191d477b2ba216db", func := "loop.example/g01102/laws.FnExactValidSuite", spec := "fnExactValidSuite", inPlace := ["internal/reflectlite.ValueOf", "(internal/reflectlite.Value).Type", "(internal/reflectlite.Value).IsNil", "internal/reflectlite.TypeOf", "(internal/reflectlite.Value).Elem", "(internal/reflectlite.Value).Set"], unfollowed := true, recurses := true, named := ["errors.errorType"], apart := false, laid := [("errors.errorType", laid_errors_errorType)], narrowed := true }
def FnExactValidSuiteUptoSaid : Prop := fnExactValidSuiteUptoRow.holds Tryd.pinned (OpenSpec.upto fnExactValidSuiteSpec)

/-- 'laws.FnExactSuiteText', WHERE WHAT IT READS IS OF BULK AT MOST 1048576: true; the input reads as it did. -/
def fnExactSuiteTextUptoRow : OpenClaim := { program := "ytdhmciendlihoaadoor", sum := "3de79a3bca0df02478657f947ad8993efafb5d63205461e0191d477b2ba216db", func := "loop.example/g01102/laws.FnExactSuiteText", spec := "fnExactSuiteText", inPlace := ["internal/reflectlite.ValueOf", "(internal/reflectlite.Value).Type", "(internal/reflectlite.Value).IsNil", "internal/reflectlite.TypeOf", "(internal/reflectlite.Value).Elem", "(internal/reflectlite.Value).Set", "internal/abi.NoEscape"], unfollowed := true, recurses := true, named := ["errors.errorType"], apart := false, laid := [("errors.errorType", laid_errors_errorType)], narrowed := true }
def FnExactSuiteTextUptoSaid : Prop := fnExactSuiteTextUptoRow.holds Tryd.pinned (OpenSpec.upto fnExactSuiteTextSpec)

/-- 'laws.FnExactSuiteCost', WHERE WHAT IT READS IS OF BULK AT MOST 1048576: true; the input reads as it did. -/
def fnExactSuiteCostUptoRow : OpenClaim := { program := "ytdhmciendlihoaadoor", sum := "3de79a3bca0df02478657f947ad8993efafb5d63205461e0191d477b2ba216db", func := "loop.example/g01102/laws.FnExactSuiteCost", spec := "fnExactSuiteCost", inPlace := ["internal/reflectlite.ValueOf", "(internal/reflectlite.Value).Type", "(internal/reflectlite.Value).IsNil", "internal/reflectlite.TypeOf", "(internal/reflectlite.Value).Elem", "(internal/reflectlite.Value).Set"], unfollowed := true, recurses := true, named := ["errors.errorType"], apart := false, laid := [("errors.errorType", laid_errors_errorType)], narrowed := true }
def FnExactSuiteCostUptoSaid : Prop := fnExactSuiteCostUptoRow.holds Tryd.pinned (OpenSpec.upto fnExactSuiteCostSpec)

/-- 'laws.FnExactFirstFailing', WHERE WHAT IT READS IS OF BULK AT MOST 1048576: true; the input reads as it did. -/
def fnExactFirstFailingUptoRow : OpenClaim := { program := "ytdhmciendlihoaadoor", sum := "3de79a3bca0df02478657f947ad8993efafb5d63205461e0191d477b2ba216db", func := "loop.example/g01102/laws.FnExactFirstFailing", spec := "fnExactFirstFailing", inPlace := ["internal/reflectlite.ValueOf", "(internal/reflectlite.Value).Type", "(internal/reflectlite.Value).IsNil", "internal/reflectlite.TypeOf", "(internal/reflectlite.Value).Elem", "(internal/reflectlite.Value).Set"], unfollowed := true, recurses := true, named := ["errors.errorType"], apart := false, laid := [("errors.errorType", laid_errors_errorType)], narrowed := true }
def FnExactFirstFailingUptoSaid : Prop := fnExactFirstFailingUptoRow.holds Tryd.pinned (OpenSpec.upto fnExactFirstFailingSpec)

/-- 'laws.FnExactPasses', WHERE WHAT IT READS IS OF BULK AT MOST 1048576: true; the input reads as it did. -/
def fnExactPassesUptoRow : OpenClaim := { program := "ytdhmciendlihoaadoor", sum := "3de79a3bca0df02478657f947ad8993efafb5d63205461e0191d477b2ba216db", func := "loop.example/g01102/laws.FnExactPasses", spec := "fnExactPasses", inPlace := ["internal/reflectlite.ValueOf", "(internal/reflectlite.Value).Type", "(internal/reflectlite.Value).IsNil", "internal/reflectlite.TypeOf", "(internal/reflectlite.Value).Elem", "(internal/reflectlite.Value).Set"], unfollowed := true, recurses := true, named := ["errors.errorType"], apart := false, laid := [("errors.errorType", laid_errors_errorType)], narrowed := true }
def FnExactPassesUptoSaid : Prop := fnExactPassesUptoRow.holds Tryd.pinned (OpenSpec.upto fnExactPassesSpec)

/-- 'laws.FnExactMaximalWords', WHERE WHAT IT READS IS OF BULK AT MOST 1048576: true; the input reads as it did. -/
def fnExactMaximalWordsUptoRow : OpenClaim := { program := "ytdhmciendlihoaadoor", sum := "3de79a3bca0df02478657f947ad8993efafb5d63205461e0191d477b2ba216db", func := "loop.example/g01102/laws.FnExactMaximalWords", spec := "fnExactMaximalWords", inPlace := ["internal/reflectlite.ValueOf", "(internal/reflectlite.Value).Type", "(internal/reflectlite.Value).IsNil", "internal/reflectlite.TypeOf", "(internal/reflectlite.Value).Elem", "(internal/reflectlite.Value).Set", "slices.overlaps[[]int64]"], unfollowed := true, recurses := true, named := ["errors.errorType"], apart := false, laid := [("errors.errorType", laid_errors_errorType)], narrowed := true }
def FnExactMaximalWordsUptoSaid : Prop := fnExactMaximalWordsUptoRow.holds Tryd.pinned (OpenSpec.upto fnExactMaximalWordsSpec)

end Rows
end Go.Proofs.YtdhmciendlihoaaDoor
