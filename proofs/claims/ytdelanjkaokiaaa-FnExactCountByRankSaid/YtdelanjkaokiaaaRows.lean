/-
  No cell of these rows narrows 'for every input' (looked for: loops, veiled, ifaces, maps, wideKeys, modest, calm, conditions, laid).
  DERIVED. THE GIVEN ROWS OF THIS SEAT. 8 by the template 'for every input the law returns true; each argument reads behind the call as it read before'; 0 by the template 'total and deterministic' (their statements: YtdelanjkaokiaaaTotals.lean).
  GIVEN WITH THE SEED: the statements are not yours to turn. If you find one false, say at which input.
  Laid BY PROGRAM, IN A SANDBOX (cutbox-rows.mjs): the forced cells as the released guide's own fill.sh prints them over the translation 95dd79f1b226bf19… (all of the seat's roots in one cut). By AI agents, Wed Nov 11 2026. No macro, syntax, notation, axiom, sorry.
-/
import Derived.Test.YtdelanjkaokiaaaChecked
import GoSem.Claim
import GoSem.ClaimJoined
import GoSem.ClaimMapViews
import Derived.JoinedTies
import Derived.KernelRfl
namespace Go.Proofs.Ytdelanjkaokiaaa
/- THE CELL 'sum', in the pinned program and in every row, IS THE sha256 OF THE DUMP (.gsa) THAT YtdelanjkaokiaaaProg.lean LOADS. Nothing in Lean hashes anything: it is a label: what it is worth is what the hold of that sum in a sandbox is worth. -/
noncomputable def Try.pinned : Pinned := { name := "ytdelanjkaokiaaa", sum := "95dd79f1b226bf197871f98871f42aa7d4aafbb9d0bee3857cf82edab1042629", checked := Try.checked }
namespace Rows
def none {H : Type} : Left H := { results := [], args := [] }

/-- 'laws.FnExactAdaptiveDepth': WHATEVER THE INPUT: true; the input reads as it did. -/
def fnExactAdaptiveDepthSpec : ChangeSpec := { name := "fnExactAdaptiveDepth", fn := fun _ => fun
  | [d1, d2] => { results := [.lit (.bool true)], args := [d1, d2] }
  | _ => none }
def fnExactAdaptiveDepthRow : OpenClaim := { program := "ytdelanjkaokiaaa", sum := "95dd79f1b226bf197871f98871f42aa7d4aafbb9d0bee3857cf82edab1042629", func := "loop.example/g01102/laws.FnExactAdaptiveDepth", spec := "fnExactAdaptiveDepth", unfollowed := true, recurses := true, apart := false }
def FnExactAdaptiveDepthSaid : Prop := fnExactAdaptiveDepthRow.holds Try.pinned (OpenSpec.ofChange fnExactAdaptiveDepthSpec)

/-- ITS FALSE NEIGHBOUR: 'it returns false'. Refute it at one input. -/
def fnExactAdaptiveDepthWrong : ChangeSpec := { name := "fnExactAdaptiveDepth", fn := fun _ => fun
  | [d1, d2] => { results := [.lit (.bool false)], args := [d1, d2] }
  | _ => none }
def FnExactAdaptiveDepthWrongFalsely : Prop := fnExactAdaptiveDepthRow.holds Try.pinned (OpenSpec.ofChange fnExactAdaptiveDepthWrong)

/-- 'laws.FnExactAdaptiveLetter': WHATEVER THE INPUT: true; the input reads as it did. -/
def fnExactAdaptiveLetterSpec : ChangeSpec := { name := "fnExactAdaptiveLetter", fn := fun _ => fun
  | [d1, d2] => { results := [.lit (.bool true)], args := [d1, d2] }
  | _ => none }
def fnExactAdaptiveLetterRow : OpenClaim := { program := "ytdelanjkaokiaaa", sum := "95dd79f1b226bf197871f98871f42aa7d4aafbb9d0bee3857cf82edab1042629", func := "loop.example/g01102/laws.FnExactAdaptiveLetter", spec := "fnExactAdaptiveLetter", unfollowed := true, recurses := true, apart := false }
def FnExactAdaptiveLetterSaid : Prop := fnExactAdaptiveLetterRow.holds Try.pinned (OpenSpec.ofChange fnExactAdaptiveLetterSpec)

/-- ITS FALSE NEIGHBOUR: 'it returns false'. Refute it at one input. -/
def fnExactAdaptiveLetterWrong : ChangeSpec := { name := "fnExactAdaptiveLetter", fn := fun _ => fun
  | [d1, d2] => { results := [.lit (.bool false)], args := [d1, d2] }
  | _ => none }
def FnExactAdaptiveLetterWrongFalsely : Prop := fnExactAdaptiveLetterRow.holds Try.pinned (OpenSpec.ofChange fnExactAdaptiveLetterWrong)

/-- 'laws.FnExactAdaptiveRun': WHATEVER THE INPUT: true; the input reads as it did. -/
def fnExactAdaptiveRunSpec : ChangeSpec := { name := "fnExactAdaptiveRun", fn := fun _ => fun
  | [d1, d2, d3] => { results := [.lit (.bool true)], args := [d1, d2, d3] }
  | _ => none }
def fnExactAdaptiveRunRow : OpenClaim := { program := "ytdelanjkaokiaaa", sum := "95dd79f1b226bf197871f98871f42aa7d4aafbb9d0bee3857cf82edab1042629", func := "loop.example/g01102/laws.FnExactAdaptiveRun", spec := "fnExactAdaptiveRun", unfollowed := true, recurses := true, apart := false }
def FnExactAdaptiveRunSaid : Prop := fnExactAdaptiveRunRow.holds Try.pinned (OpenSpec.ofChange fnExactAdaptiveRunSpec)

/-- ITS FALSE NEIGHBOUR: 'it returns false'. Refute it at one input. -/
def fnExactAdaptiveRunWrong : ChangeSpec := { name := "fnExactAdaptiveRun", fn := fun _ => fun
  | [d1, d2, d3] => { results := [.lit (.bool false)], args := [d1, d2, d3] }
  | _ => none }
def FnExactAdaptiveRunWrongFalsely : Prop := fnExactAdaptiveRunRow.holds Try.pinned (OpenSpec.ofChange fnExactAdaptiveRunWrong)

/-- 'laws.FnExactCountResets': WHATEVER THE INPUT: true; the input reads as it did. -/
def fnExactCountResetsSpec : ChangeSpec := { name := "fnExactCountResets", fn := fun _ => fun
  | [d1, d2] => { results := [.lit (.bool true)], args := [d1, d2] }
  | _ => none }
def fnExactCountResetsRow : OpenClaim := { program := "ytdelanjkaokiaaa", sum := "95dd79f1b226bf197871f98871f42aa7d4aafbb9d0bee3857cf82edab1042629", func := "loop.example/g01102/laws.FnExactCountResets", spec := "fnExactCountResets", unfollowed := true, recurses := true, apart := false }
def FnExactCountResetsSaid : Prop := fnExactCountResetsRow.holds Try.pinned (OpenSpec.ofChange fnExactCountResetsSpec)

/-- ITS FALSE NEIGHBOUR: 'it returns false'. Refute it at one input. -/
def fnExactCountResetsWrong : ChangeSpec := { name := "fnExactCountResets", fn := fun _ => fun
  | [d1, d2] => { results := [.lit (.bool false)], args := [d1, d2] }
  | _ => none }
def FnExactCountResetsWrongFalsely : Prop := fnExactCountResetsRow.holds Try.pinned (OpenSpec.ofChange fnExactCountResetsWrong)

/-- 'laws.FnExactCountByRank': WHATEVER THE INPUT: true; the input reads as it did. -/
def fnExactCountByRankSpec : ChangeSpec := { name := "fnExactCountByRank", fn := fun _ => fun
  | [d1, d2] => { results := [.lit (.bool true)], args := [d1, d2] }
  | _ => none }
def fnExactCountByRankRow : OpenClaim := { program := "ytdelanjkaokiaaa", sum := "95dd79f1b226bf197871f98871f42aa7d4aafbb9d0bee3857cf82edab1042629", func := "loop.example/g01102/laws.FnExactCountByRank", spec := "fnExactCountByRank", unfollowed := true, recurses := true, apart := false }
def FnExactCountByRankSaid : Prop := fnExactCountByRankRow.holds Try.pinned (OpenSpec.ofChange fnExactCountByRankSpec)

/-- ITS FALSE NEIGHBOUR: 'it returns false'. Refute it at one input. -/
def fnExactCountByRankWrong : ChangeSpec := { name := "fnExactCountByRank", fn := fun _ => fun
  | [d1, d2] => { results := [.lit (.bool false)], args := [d1, d2] }
  | _ => none }
def FnExactCountByRankWrongFalsely : Prop := fnExactCountByRankRow.holds Try.pinned (OpenSpec.ofChange fnExactCountByRankWrong)

/-- 'laws.FnExactLeastCongruence': WHATEVER THE INPUT: true; the input reads as it did. -/
def fnExactLeastCongruenceSpec : ChangeSpec := { name := "fnExactLeastCongruence", fn := fun _ => fun
  | [d1, d2, d3] => { results := [.lit (.bool true)], args := [d1, d2, d3] }
  | _ => none }
def fnExactLeastCongruenceRow : OpenClaim := { program := "ytdelanjkaokiaaa", sum := "95dd79f1b226bf197871f98871f42aa7d4aafbb9d0bee3857cf82edab1042629", func := "loop.example/g01102/laws.FnExactLeastCongruence", spec := "fnExactLeastCongruence", unfollowed := true, recurses := true, apart := false }
def FnExactLeastCongruenceSaid : Prop := fnExactLeastCongruenceRow.holds Try.pinned (OpenSpec.ofChange fnExactLeastCongruenceSpec)

/-- ITS FALSE NEIGHBOUR: 'it returns false'. Refute it at one input. -/
def fnExactLeastCongruenceWrong : ChangeSpec := { name := "fnExactLeastCongruence", fn := fun _ => fun
  | [d1, d2, d3] => { results := [.lit (.bool false)], args := [d1, d2, d3] }
  | _ => none }
def FnExactLeastCongruenceWrongFalsely : Prop := fnExactLeastCongruenceRow.holds Try.pinned (OpenSpec.ofChange fnExactLeastCongruenceWrong)

/-- 'laws.FnExactPairTable': WHATEVER THE INPUT: true; the input reads as it did. -/
def fnExactPairTableSpec : ChangeSpec := { name := "fnExactPairTable", fn := fun _ => fun
  | [d] => { results := [.lit (.bool true)], args := [d] }
  | _ => none }
def fnExactPairTableRow : OpenClaim := { program := "ytdelanjkaokiaaa", sum := "95dd79f1b226bf197871f98871f42aa7d4aafbb9d0bee3857cf82edab1042629", func := "loop.example/g01102/laws.FnExactPairTable", spec := "fnExactPairTable", unfollowed := true, recurses := true, apart := false }
def FnExactPairTableSaid : Prop := fnExactPairTableRow.holds Try.pinned (OpenSpec.ofChange fnExactPairTableSpec)

/-- ITS FALSE NEIGHBOUR: 'it returns false'. Refute it at one input. -/
def fnExactPairTableWrong : ChangeSpec := { name := "fnExactPairTable", fn := fun _ => fun
  | [d] => { results := [.lit (.bool false)], args := [d] }
  | _ => none }
def FnExactPairTableWrongFalsely : Prop := fnExactPairTableRow.holds Try.pinned (OpenSpec.ofChange fnExactPairTableWrong)

/-- 'laws.FnExactMutantAt': WHATEVER THE INPUT: true; the input reads as it did. -/
def fnExactMutantAtSpec : ChangeSpec := { name := "fnExactMutantAt", fn := fun _ => fun
  | [d1, d2] => { results := [.lit (.bool true)], args := [d1, d2] }
  | _ => none }
def fnExactMutantAtRow : OpenClaim := { program := "ytdelanjkaokiaaa", sum := "95dd79f1b226bf197871f98871f42aa7d4aafbb9d0bee3857cf82edab1042629", func := "loop.example/g01102/laws.FnExactMutantAt", spec := "fnExactMutantAt", unfollowed := true, recurses := true, apart := false }
def FnExactMutantAtSaid : Prop := fnExactMutantAtRow.holds Try.pinned (OpenSpec.ofChange fnExactMutantAtSpec)

/-- ITS FALSE NEIGHBOUR: 'it returns false'. Refute it at one input. -/
def fnExactMutantAtWrong : ChangeSpec := { name := "fnExactMutantAt", fn := fun _ => fun
  | [d1, d2] => { results := [.lit (.bool false)], args := [d1, d2] }
  | _ => none }
def FnExactMutantAtWrongFalsely : Prop := fnExactMutantAtRow.holds Try.pinned (OpenSpec.ofChange fnExactMutantAtWrong)

/- THE SECOND FORM. 'bulk': how many values and letters a reading holds, each counted each time it is reached (what is shared counts as often as it is met; a slice's spare places count too). A statement '..UptoSaid' is the law's where the arguments, and the package variables that the reading takes, are together of bulk at most 1048576: NARROWER than '..Said'. Prove '..Said' where nothing that the law and all that it calls make is longer than what came in: it says more and counts as full. Else prove '..UptoSaid'. A law counts once. -/
mutual
def uptoBulk {H : Type} : DataW H → Nat
  | .lit (.string bytes) => bytes.length + 1
  | .lit _ => 1
  | .nil => 1
  | .ptr d => uptoBulk d + 1
  | .slice elems spare => uptoBulkAll elems + uptoBulkAll spare + 1
  | .agg parts => uptoBulkAll parts + 1
  | .iface _ d => uptoBulk d + 1
  | .map entries => uptoBulkEntries entries + 1
  | .held _ => 1
def uptoBulkAll {H : Type} : List (DataW H) → Nat
  | [] => 0
  | d :: r => uptoBulk d + uptoBulkAll r
def uptoBulkEntries {H : Type} : List (Lit × DataW H) → Nat
  | [] => 0
  | x :: r => uptoBulkEntry x + uptoBulkEntries r
def uptoBulkEntry {H : Type} : Lit × DataW H → Nat
  | (.string bytes, d) => bytes.length + uptoBulk d + 1
  | (_, d) => uptoBulk d + 1
 end
def uptoSmall : (H : Type) → List (DataW H) → Bool := fun _ ds => decide (uptoBulkAll ds ≤ 1048576)
def OpenSpec.upto (s : _root_.Go.ChangeSpec) : _root_.Go.OpenSpec := { _root_.Go.OpenSpec.ofChange s with cond := some uptoSmall }

/-- 'laws.FnExactAdaptiveDepth', WHERE WHAT IT READS IS OF BULK AT MOST 1048576: true; the input reads as it did. -/
def fnExactAdaptiveDepthUptoRow : OpenClaim := { program := "ytdelanjkaokiaaa", sum := "95dd79f1b226bf197871f98871f42aa7d4aafbb9d0bee3857cf82edab1042629", func := "loop.example/g01102/laws.FnExactAdaptiveDepth", spec := "fnExactAdaptiveDepth", unfollowed := true, recurses := true, apart := false, narrowed := true }
def FnExactAdaptiveDepthUptoSaid : Prop := fnExactAdaptiveDepthUptoRow.holds Try.pinned (OpenSpec.upto fnExactAdaptiveDepthSpec)

/-- 'laws.FnExactAdaptiveLetter', WHERE WHAT IT READS IS OF BULK AT MOST 1048576: true; the input reads as it did. -/
def fnExactAdaptiveLetterUptoRow : OpenClaim := { program := "ytdelanjkaokiaaa", sum := "95dd79f1b226bf197871f98871f42aa7d4aafbb9d0bee3857cf82edab1042629", func := "loop.example/g01102/laws.FnExactAdaptiveLetter", spec := "fnExactAdaptiveLetter", unfollowed := true, recurses := true, apart := false, narrowed := true }
def FnExactAdaptiveLetterUptoSaid : Prop := fnExactAdaptiveLetterUptoRow.holds Try.pinned (OpenSpec.upto fnExactAdaptiveLetterSpec)

/-- 'laws.FnExactAdaptiveRun', WHERE WHAT IT READS IS OF BULK AT MOST 1048576: true; the input reads as it did. -/
def fnExactAdaptiveRunUptoRow : OpenClaim := { program := "ytdelanjkaokiaaa", sum := "95dd79f1b226bf197871f98871f42aa7d4aafbb9d0bee3857cf82edab1042629", func := "loop.example/g01102/laws.FnExactAdaptiveRun", spec := "fnExactAdaptiveRun", unfollowed := true, recurses := true, apart := false, narrowed := true }
def FnExactAdaptiveRunUptoSaid : Prop := fnExactAdaptiveRunUptoRow.holds Try.pinned (OpenSpec.upto fnExactAdaptiveRunSpec)

/-- 'laws.FnExactCountResets', WHERE WHAT IT READS IS OF BULK AT MOST 1048576: true; the input reads as it did. -/
def fnExactCountResetsUptoRow : OpenClaim := { program := "ytdelanjkaokiaaa", sum := "95dd79f1b226bf197871f98871f42aa7d4aafbb9d0bee3857cf82edab1042629", func := "loop.example/g01102/laws.FnExactCountResets", spec := "fnExactCountResets", unfollowed := true, recurses := true, apart := false, narrowed := true }
def FnExactCountResetsUptoSaid : Prop := fnExactCountResetsUptoRow.holds Try.pinned (OpenSpec.upto fnExactCountResetsSpec)

/-- 'laws.FnExactCountByRank', WHERE WHAT IT READS IS OF BULK AT MOST 1048576: true; the input reads as it did. -/
def fnExactCountByRankUptoRow : OpenClaim := { program := "ytdelanjkaokiaaa", sum := "95dd79f1b226bf197871f98871f42aa7d4aafbb9d0bee3857cf82edab1042629", func := "loop.example/g01102/laws.FnExactCountByRank", spec := "fnExactCountByRank", unfollowed := true, recurses := true, apart := false, narrowed := true }
def FnExactCountByRankUptoSaid : Prop := fnExactCountByRankUptoRow.holds Try.pinned (OpenSpec.upto fnExactCountByRankSpec)

/-- 'laws.FnExactLeastCongruence', WHERE WHAT IT READS IS OF BULK AT MOST 1048576: true; the input reads as it did. -/
def fnExactLeastCongruenceUptoRow : OpenClaim := { program := "ytdelanjkaokiaaa", sum := "95dd79f1b226bf197871f98871f42aa7d4aafbb9d0bee3857cf82edab1042629", func := "loop.example/g01102/laws.FnExactLeastCongruence", spec := "fnExactLeastCongruence", unfollowed := true, recurses := true, apart := false, narrowed := true }
def FnExactLeastCongruenceUptoSaid : Prop := fnExactLeastCongruenceUptoRow.holds Try.pinned (OpenSpec.upto fnExactLeastCongruenceSpec)

/-- 'laws.FnExactPairTable', WHERE WHAT IT READS IS OF BULK AT MOST 1048576: true; the input reads as it did. -/
def fnExactPairTableUptoRow : OpenClaim := { program := "ytdelanjkaokiaaa", sum := "95dd79f1b226bf197871f98871f42aa7d4aafbb9d0bee3857cf82edab1042629", func := "loop.example/g01102/laws.FnExactPairTable", spec := "fnExactPairTable", unfollowed := true, recurses := true, apart := false, narrowed := true }
def FnExactPairTableUptoSaid : Prop := fnExactPairTableUptoRow.holds Try.pinned (OpenSpec.upto fnExactPairTableSpec)

/-- 'laws.FnExactMutantAt', WHERE WHAT IT READS IS OF BULK AT MOST 1048576: true; the input reads as it did. -/
def fnExactMutantAtUptoRow : OpenClaim := { program := "ytdelanjkaokiaaa", sum := "95dd79f1b226bf197871f98871f42aa7d4aafbb9d0bee3857cf82edab1042629", func := "loop.example/g01102/laws.FnExactMutantAt", spec := "fnExactMutantAt", unfollowed := true, recurses := true, apart := false, narrowed := true }
def FnExactMutantAtUptoSaid : Prop := fnExactMutantAtUptoRow.holds Try.pinned (OpenSpec.upto fnExactMutantAtSpec)

end Rows
end Go.Proofs.Ytdelanjkaokiaaa
