/-
  No cell of these rows narrows 'for every input' (looked for: loops, veiled, ifaces, maps, wideKeys, modest, calm, conditions, laid).
  DERIVED. THE GIVEN ROWS OF THIS SEAT. 5 by the template 'for every input the law returns true; each argument reads behind the call as it read before'; 0 by the template 'total and deterministic' (their statements: YtdhmciendlihoaaTotals.lean).
  GIVEN WITH THE SEED: the statements are not yours to turn. If you find one false, say at which input.
  Laid BY PROGRAM, IN A SANDBOX (cutbox-rows.mjs): the forced cells as the released guide's own fill.sh prints them over the translation 5dba15a491c98d78… (all of the seat's roots in one cut). By AI agents, Wed Nov 11 2026. No macro, syntax, notation, axiom, sorry.
-/
import Derived.Test.YtdhmciendlihoaaChecked
import GoSem.Claim
import GoSem.ClaimJoined
import GoSem.ClaimMapViews
import Derived.JoinedTies
import Derived.KernelRfl
namespace Go.Proofs.Ytdhmciendlihoaa
/- THE CELL 'sum', in the pinned program and in every row, IS THE sha256 OF THE DUMP (.gsa) THAT YtdhmciendlihoaaProg.lean LOADS. Nothing in Lean hashes anything: it is a label: what it is worth is what the hold of that sum in a sandbox is worth. -/
noncomputable def Try.pinned : Pinned := { name := "ytdhmciendlihoaa", sum := "5dba15a491c98d7815204080a138e655a658a7ea2c44054469d492c90ced14bb", checked := Try.checked }
namespace Rows
def none {H : Type} : Left H := { results := [], args := [] }

/-- 'laws.FnExactReadSuite': WHATEVER THE INPUT: true; the input reads as it did. -/
def fnExactReadSuiteSpec : ChangeSpec := { name := "fnExactReadSuite", fn := fun _ => fun
  | [d] => { results := [.lit (.bool true)], args := [d] }
  | _ => none }
def fnExactReadSuiteRow : OpenClaim := { program := "ytdhmciendlihoaa", sum := "5dba15a491c98d7815204080a138e655a658a7ea2c44054469d492c90ced14bb", func := "loop.example/g01102/laws.FnExactReadSuite", spec := "fnExactReadSuite", inPlace := ["internal/bytealg.IndexByteString"], unfollowed := true, recurses := true, apart := false }
def FnExactReadSuiteSaid : Prop := fnExactReadSuiteRow.holds Try.pinned (OpenSpec.ofChange fnExactReadSuiteSpec)

/-- ITS FALSE NEIGHBOUR: 'it returns false'. Refute it at one input. -/
def fnExactReadSuiteWrong : ChangeSpec := { name := "fnExactReadSuite", fn := fun _ => fun
  | [d] => { results := [.lit (.bool false)], args := [d] }
  | _ => none }
def FnExactReadSuiteWrongFalsely : Prop := fnExactReadSuiteRow.holds Try.pinned (OpenSpec.ofChange fnExactReadSuiteWrong)

/-- 'laws.FnExactStateCover': WHATEVER THE INPUT: true; the input reads as it did. -/
def fnExactStateCoverSpec : ChangeSpec := { name := "fnExactStateCover", fn := fun _ => fun
  | [d] => { results := [.lit (.bool true)], args := [d] }
  | _ => none }
def fnExactStateCoverRow : OpenClaim := { program := "ytdhmciendlihoaa", sum := "5dba15a491c98d7815204080a138e655a658a7ea2c44054469d492c90ced14bb", func := "loop.example/g01102/laws.FnExactStateCover", spec := "fnExactStateCover", unfollowed := true, recurses := true, apart := false }
def FnExactStateCoverSaid : Prop := fnExactStateCoverRow.holds Try.pinned (OpenSpec.ofChange fnExactStateCoverSpec)

/-- ITS FALSE NEIGHBOUR: 'it returns false'. Refute it at one input. -/
def fnExactStateCoverWrong : ChangeSpec := { name := "fnExactStateCover", fn := fun _ => fun
  | [d] => { results := [.lit (.bool false)], args := [d] }
  | _ => none }
def FnExactStateCoverWrongFalsely : Prop := fnExactStateCoverRow.holds Try.pinned (OpenSpec.ofChange fnExactStateCoverWrong)

/-- 'laws.FnExactTransitionCover': WHATEVER THE INPUT: true; the input reads as it did. -/
def fnExactTransitionCoverSpec : ChangeSpec := { name := "fnExactTransitionCover", fn := fun _ => fun
  | [d] => { results := [.lit (.bool true)], args := [d] }
  | _ => none }
def fnExactTransitionCoverRow : OpenClaim := { program := "ytdhmciendlihoaa", sum := "5dba15a491c98d7815204080a138e655a658a7ea2c44054469d492c90ced14bb", func := "loop.example/g01102/laws.FnExactTransitionCover", spec := "fnExactTransitionCover", inPlace := ["slices.overlaps[[]int64]"], unfollowed := true, recurses := true, apart := false }
def FnExactTransitionCoverSaid : Prop := fnExactTransitionCoverRow.holds Try.pinned (OpenSpec.ofChange fnExactTransitionCoverSpec)

/-- ITS FALSE NEIGHBOUR: 'it returns false'. Refute it at one input. -/
def fnExactTransitionCoverWrong : ChangeSpec := { name := "fnExactTransitionCover", fn := fun _ => fun
  | [d] => { results := [.lit (.bool false)], args := [d] }
  | _ => none }
def FnExactTransitionCoverWrongFalsely : Prop := fnExactTransitionCoverRow.holds Try.pinned (OpenSpec.ofChange fnExactTransitionCoverWrong)

/-- 'laws.FnExactMutantCount': WHATEVER THE INPUT: true; the input reads as it did. -/
def fnExactMutantCountSpec : ChangeSpec := { name := "fnExactMutantCount", fn := fun _ => fun
  | [d] => { results := [.lit (.bool true)], args := [d] }
  | _ => none }
def fnExactMutantCountRow : OpenClaim := { program := "ytdhmciendlihoaa", sum := "5dba15a491c98d7815204080a138e655a658a7ea2c44054469d492c90ced14bb", func := "loop.example/g01102/laws.FnExactMutantCount", spec := "fnExactMutantCount", unfollowed := true, recurses := true, apart := false }
def FnExactMutantCountSaid : Prop := fnExactMutantCountRow.holds Try.pinned (OpenSpec.ofChange fnExactMutantCountSpec)

/-- ITS FALSE NEIGHBOUR: 'it returns false'. Refute it at one input. -/
def fnExactMutantCountWrong : ChangeSpec := { name := "fnExactMutantCount", fn := fun _ => fun
  | [d] => { results := [.lit (.bool false)], args := [d] }
  | _ => none }
def FnExactMutantCountWrongFalsely : Prop := fnExactMutantCountRow.holds Try.pinned (OpenSpec.ofChange fnExactMutantCountWrong)

/-- 'laws.FnExactMutantAt': WHATEVER THE INPUT: true; the input reads as it did. -/
def fnExactMutantAtSpec : ChangeSpec := { name := "fnExactMutantAt", fn := fun _ => fun
  | [d1, d2] => { results := [.lit (.bool true)], args := [d1, d2] }
  | _ => none }
def fnExactMutantAtRow : OpenClaim := { program := "ytdhmciendlihoaa", sum := "5dba15a491c98d7815204080a138e655a658a7ea2c44054469d492c90ced14bb", func := "loop.example/g01102/laws.FnExactMutantAt", spec := "fnExactMutantAt", unfollowed := true, recurses := true, apart := false }
def FnExactMutantAtSaid : Prop := fnExactMutantAtRow.holds Try.pinned (OpenSpec.ofChange fnExactMutantAtSpec)

/-- ITS FALSE NEIGHBOUR: 'it returns false'. Refute it at one input. -/
def fnExactMutantAtWrong : ChangeSpec := { name := "fnExactMutantAt", fn := fun _ => fun
  | [d1, d2] => { results := [.lit (.bool false)], args := [d1, d2] }
  | _ => none }
def FnExactMutantAtWrongFalsely : Prop := fnExactMutantAtRow.holds Try.pinned (OpenSpec.ofChange fnExactMutantAtWrong)

/- THE SECOND FORM. 'bulk': how many values and letters a reading holds, each counted each time it is reached (what is shared counts as often as it is met; a slice's spare places count too). A statement '..UptoSaid' is the law's where the arguments, and the package variables that the reading takes, are together of bulk at most 1048576: NARROWER than '..Said'. Prove '..Said' where nothing that the law and all that it calls make is longer than what came in: it says more and counts as full. Else prove '..UptoSaid'. A law counts once. -/
mutual
def uptoBulk {H : Type} : DataW H → Nat
  | .lit (.string bytes) => bytes.length + 1
  | .lit _ => 1
  | .nil => 1
  | .ptr d => uptoBulk d + 1
  | .slice elems spare => uptoBulkAll elems + uptoBulkAll spare + 1
  | .agg parts => uptoBulkAll parts + 1
  | .iface _ d => uptoBulk d + 1
  | .map entries => uptoBulkEntries entries + 1
  | .held _ => 1
def uptoBulkAll {H : Type} : List (DataW H) → Nat
  | [] => 0
  | d :: r => uptoBulk d + uptoBulkAll r
def uptoBulkEntries {H : Type} : List (Lit × DataW H) → Nat
  | [] => 0
  | x :: r => uptoBulkEntry x + uptoBulkEntries r
def uptoBulkEntry {H : Type} : Lit × DataW H → Nat
  | (.string bytes, d) => bytes.length + uptoBulk d + 1
  | (_, d) => uptoBulk d + 1
 end
def uptoSmall : (H : Type) → List (DataW H) → Bool := fun _ ds => decide (uptoBulkAll ds ≤ 1048576)
def OpenSpec.upto (s : _root_.Go.ChangeSpec) : _root_.Go.OpenSpec := { _root_.Go.OpenSpec.ofChange s with cond := some uptoSmall }

/-- 'laws.FnExactReadSuite', WHERE WHAT IT READS IS OF BULK AT MOST 1048576: true; the input reads as it did. -/
def fnExactReadSuiteUptoRow : OpenClaim := { program := "ytdhmciendlihoaa", sum := "5dba15a491c98d7815204080a138e655a658a7ea2c44054469d492c90ced14bb", func := "loop.example/g01102/laws.FnExactReadSuite", spec := "fnExactReadSuite", inPlace := ["internal/bytealg.IndexByteString"], unfollowed := true, recurses := true, apart := false, narrowed := true }
def FnExactReadSuiteUptoSaid : Prop := fnExactReadSuiteUptoRow.holds Try.pinned (OpenSpec.upto fnExactReadSuiteSpec)

/-- 'laws.FnExactStateCover', WHERE WHAT IT READS IS OF BULK AT MOST 1048576: true; the input reads as it did. -/
def fnExactStateCoverUptoRow : OpenClaim := { program := "ytdhmciendlihoaa", sum := "5dba15a491c98d7815204080a138e655a658a7ea2c44054469d492c90ced14bb", func := "loop.example/g01102/laws.FnExactStateCover", spec := "fnExactStateCover", unfollowed := true, recurses := true, apart := false, narrowed := true }
def FnExactStateCoverUptoSaid : Prop := fnExactStateCoverUptoRow.holds Try.pinned (OpenSpec.upto fnExactStateCoverSpec)

/-- 'laws.FnExactTransitionCover', WHERE WHAT IT READS IS OF BULK AT MOST 1048576: true; the input reads as it did. -/
def fnExactTransitionCoverUptoRow : OpenClaim := { program := "ytdhmciendlihoaa", sum := "5dba15a491c98d7815204080a138e655a658a7ea2c44054469d492c90ced14bb", func := "loop.example/g01102/laws.FnExactTransitionCover", spec := "fnExactTransitionCover", inPlace := ["slices.overlaps[[]int64]"], unfollowed := true, recurses := true, apart := false, narrowed := true }
def FnExactTransitionCoverUptoSaid : Prop := fnExactTransitionCoverUptoRow.holds Try.pinned (OpenSpec.upto fnExactTransitionCoverSpec)

/-- 'laws.FnExactMutantCount', WHERE WHAT IT READS IS OF BULK AT MOST 1048576: true; the input reads as it did. -/
def fnExactMutantCountUptoRow : OpenClaim := { program := "ytdhmciendlihoaa", sum := "5dba15a491c98d7815204080a138e655a658a7ea2c44054469d492c90ced14bb", func := "loop.example/g01102/laws.FnExactMutantCount", spec := "fnExactMutantCount", unfollowed := true, recurses := true, apart := false, narrowed := true }
def FnExactMutantCountUptoSaid : Prop := fnExactMutantCountUptoRow.holds Try.pinned (OpenSpec.upto fnExactMutantCountSpec)

/-- 'laws.FnExactMutantAt', WHERE WHAT IT READS IS OF BULK AT MOST 1048576: true; the input reads as it did. -/
def fnExactMutantAtUptoRow : OpenClaim := { program := "ytdhmciendlihoaa", sum := "5dba15a491c98d7815204080a138e655a658a7ea2c44054469d492c90ced14bb", func := "loop.example/g01102/laws.FnExactMutantAt", spec := "fnExactMutantAt", unfollowed := true, recurses := true, apart := false, narrowed := true }
def FnExactMutantAtUptoSaid : Prop := fnExactMutantAtUptoRow.holds Try.pinned (OpenSpec.upto fnExactMutantAtSpec)

end Rows
end Go.Proofs.Ytdhmciendlihoaa
