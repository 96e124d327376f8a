/-
  No cell of these rows narrows 'for every input' (looked for: loops, veiled, ifaces, maps, wideKeys, modest, calm, conditions, laid).
  DERIVED. THE GIVEN ROWS OF THIS SEAT. 6 by the template 'for every input the law returns true; each argument reads behind the call as it read before'; 0 by the template 'total and deterministic' (their statements: YtkfajimhooidcaaTotals.lean).
  GIVEN WITH THE SEED: the statements are not yours to turn. If you find one false, say at which input.
  Laid BY PROGRAM, IN A SANDBOX (cutbox-rows.mjs): the forced cells as the released guide's own fill.sh prints them over the translation 33ad2c62e9bb6748… (all of the seat's roots in one cut). By AI agents, Wed Nov 11 2026. No macro, syntax, notation, axiom, sorry.
-/
import Derived.Test.YtkfajimhooidcaaChecked
import GoSem.Claim
import GoSem.ClaimJoined
import GoSem.ClaimMapViews
import Derived.JoinedTies
import Derived.KernelRfl
namespace Go.Proofs.Ytkfajimhooidcaa
/- THE CELL 'sum', in the pinned program and in every row, IS THE sha256 OF THE DUMP (.gsa) THAT YtkfajimhooidcaaProg.lean LOADS. Nothing in Lean hashes anything: it is a label: what it is worth is what the hold of that sum in a sandbox is worth. -/
noncomputable def Try.pinned : Pinned := { name := "ytkfajimhooidcaa", sum := "33ad2c62e9bb6748aa5aba56ba58889e5f91d2676350312274c1620d7e8f8b0d", checked := Try.checked }
namespace Rows
def none {H : Type} : Left H := { results := [], args := [] }

/-- 'laws.FnExactValidLit': WHATEVER THE INPUT: true; the input reads as it did. -/
def fnExactValidLitSpec : ChangeSpec := { name := "fnExactValidLit", fn := fun _ => fun
  | [d] => { results := [.lit (.bool true)], args := [d] }
  | _ => none }
def fnExactValidLitRow : OpenClaim := { program := "ytkfajimhooidcaa", sum := "33ad2c62e9bb6748aa5aba56ba58889e5f91d2676350312274c1620d7e8f8b0d", func := "loop.example/g01102/laws.FnExactValidLit", spec := "fnExactValidLit", unfollowed := true, recurses := true, apart := false }
def FnExactValidLitSaid : Prop := fnExactValidLitRow.holds Try.pinned (OpenSpec.ofChange fnExactValidLitSpec)

/-- ITS FALSE NEIGHBOUR: 'it returns false'. Refute it at one input. -/
def fnExactValidLitWrong : ChangeSpec := { name := "fnExactValidLit", fn := fun _ => fun
  | [d] => { results := [.lit (.bool false)], args := [d] }
  | _ => none }
def FnExactValidLitWrongFalsely : Prop := fnExactValidLitRow.holds Try.pinned (OpenSpec.ofChange fnExactValidLitWrong)

/-- 'laws.FnExactLampClasses': WHATEVER THE INPUT: true; the input reads as it did. -/
def fnExactLampClassesSpec : ChangeSpec := { name := "fnExactLampClasses", fn := fun _ => fun
  | [d] => { results := [.lit (.bool true)], args := [d] }
  | _ => none }
def fnExactLampClassesRow : OpenClaim := { program := "ytkfajimhooidcaa", sum := "33ad2c62e9bb6748aa5aba56ba58889e5f91d2676350312274c1620d7e8f8b0d", func := "loop.example/g01102/laws.FnExactLampClasses", spec := "fnExactLampClasses", unfollowed := true, recurses := true, apart := false }
def FnExactLampClassesSaid : Prop := fnExactLampClassesRow.holds Try.pinned (OpenSpec.ofChange fnExactLampClassesSpec)

/-- ITS FALSE NEIGHBOUR: 'it returns false'. Refute it at one input. -/
def fnExactLampClassesWrong : ChangeSpec := { name := "fnExactLampClasses", fn := fun _ => fun
  | [d] => { results := [.lit (.bool false)], args := [d] }
  | _ => none }
def FnExactLampClassesWrongFalsely : Prop := fnExactLampClassesRow.holds Try.pinned (OpenSpec.ofChange fnExactLampClassesWrong)

/-- 'laws.FnExactBelieved': WHATEVER THE INPUT: true; the input reads as it did. -/
def fnExactBelievedSpec : ChangeSpec := { name := "fnExactBelieved", fn := fun _ => fun
  | [d1, d2, d3, d4] => { results := [.lit (.bool true)], args := [d1, d2, d3, d4] }
  | _ => none }
def fnExactBelievedRow : OpenClaim := { program := "ytkfajimhooidcaa", sum := "33ad2c62e9bb6748aa5aba56ba58889e5f91d2676350312274c1620d7e8f8b0d", func := "loop.example/g01102/laws.FnExactBelieved", spec := "fnExactBelieved", unfollowed := true, recurses := true, apart := false }
def FnExactBelievedSaid : Prop := fnExactBelievedRow.holds Try.pinned (OpenSpec.ofChange fnExactBelievedSpec)

/-- ITS FALSE NEIGHBOUR: 'it returns false'. Refute it at one input. -/
def fnExactBelievedWrong : ChangeSpec := { name := "fnExactBelieved", fn := fun _ => fun
  | [d1, d2, d3, d4] => { results := [.lit (.bool false)], args := [d1, d2, d3, d4] }
  | _ => none }
def FnExactBelievedWrongFalsely : Prop := fnExactBelievedRow.holds Try.pinned (OpenSpec.ofChange fnExactBelievedWrong)

/-- 'laws.FnExactAdaptiveDepth': WHATEVER THE INPUT: true; the input reads as it did. -/
def fnExactAdaptiveDepthSpec : ChangeSpec := { name := "fnExactAdaptiveDepth", fn := fun _ => fun
  | [d1, d2] => { results := [.lit (.bool true)], args := [d1, d2] }
  | _ => none }
def fnExactAdaptiveDepthRow : OpenClaim := { program := "ytkfajimhooidcaa", sum := "33ad2c62e9bb6748aa5aba56ba58889e5f91d2676350312274c1620d7e8f8b0d", func := "loop.example/g01102/laws.FnExactAdaptiveDepth", spec := "fnExactAdaptiveDepth", unfollowed := true, recurses := true, apart := false }
def FnExactAdaptiveDepthSaid : Prop := fnExactAdaptiveDepthRow.holds Try.pinned (OpenSpec.ofChange fnExactAdaptiveDepthSpec)

/-- ITS FALSE NEIGHBOUR: 'it returns false'. Refute it at one input. -/
def fnExactAdaptiveDepthWrong : ChangeSpec := { name := "fnExactAdaptiveDepth", fn := fun _ => fun
  | [d1, d2] => { results := [.lit (.bool false)], args := [d1, d2] }
  | _ => none }
def FnExactAdaptiveDepthWrongFalsely : Prop := fnExactAdaptiveDepthRow.holds Try.pinned (OpenSpec.ofChange fnExactAdaptiveDepthWrong)

/-- 'laws.FnExactAdaptiveLetter': WHATEVER THE INPUT: true; the input reads as it did. -/
def fnExactAdaptiveLetterSpec : ChangeSpec := { name := "fnExactAdaptiveLetter", fn := fun _ => fun
  | [d1, d2] => { results := [.lit (.bool true)], args := [d1, d2] }
  | _ => none }
def fnExactAdaptiveLetterRow : OpenClaim := { program := "ytkfajimhooidcaa", sum := "33ad2c62e9bb6748aa5aba56ba58889e5f91d2676350312274c1620d7e8f8b0d", func := "loop.example/g01102/laws.FnExactAdaptiveLetter", spec := "fnExactAdaptiveLetter", unfollowed := true, recurses := true, apart := false }
def FnExactAdaptiveLetterSaid : Prop := fnExactAdaptiveLetterRow.holds Try.pinned (OpenSpec.ofChange fnExactAdaptiveLetterSpec)

/-- ITS FALSE NEIGHBOUR: 'it returns false'. Refute it at one input. -/
def fnExactAdaptiveLetterWrong : ChangeSpec := { name := "fnExactAdaptiveLetter", fn := fun _ => fun
  | [d1, d2] => { results := [.lit (.bool false)], args := [d1, d2] }
  | _ => none }
def FnExactAdaptiveLetterWrongFalsely : Prop := fnExactAdaptiveLetterRow.holds Try.pinned (OpenSpec.ofChange fnExactAdaptiveLetterWrong)

/-- 'laws.FnExactAdaptiveRun': WHATEVER THE INPUT: true; the input reads as it did. -/
def fnExactAdaptiveRunSpec : ChangeSpec := { name := "fnExactAdaptiveRun", fn := fun _ => fun
  | [d1, d2, d3] => { results := [.lit (.bool true)], args := [d1, d2, d3] }
  | _ => none }
def fnExactAdaptiveRunRow : OpenClaim := { program := "ytkfajimhooidcaa", sum := "33ad2c62e9bb6748aa5aba56ba58889e5f91d2676350312274c1620d7e8f8b0d", func := "loop.example/g01102/laws.FnExactAdaptiveRun", spec := "fnExactAdaptiveRun", unfollowed := true, recurses := true, apart := false }
def FnExactAdaptiveRunSaid : Prop := fnExactAdaptiveRunRow.holds Try.pinned (OpenSpec.ofChange fnExactAdaptiveRunSpec)

/-- ITS FALSE NEIGHBOUR: 'it returns false'. Refute it at one input. -/
def fnExactAdaptiveRunWrong : ChangeSpec := { name := "fnExactAdaptiveRun", fn := fun _ => fun
  | [d1, d2, d3] => { results := [.lit (.bool false)], args := [d1, d2, d3] }
  | _ => none }
def FnExactAdaptiveRunWrongFalsely : Prop := fnExactAdaptiveRunRow.holds Try.pinned (OpenSpec.ofChange fnExactAdaptiveRunWrong)

/- THE SECOND FORM. 'bulk': how many values and letters a reading holds, each counted each time it is reached (what is shared counts as often as it is met; a slice's spare places count too). A statement '..UptoSaid' is the law's where the arguments, and the package variables that the reading takes, are together of bulk at most 1048576: NARROWER than '..Said'. Prove '..Said' where nothing that the law and all that it calls make is longer than what came in: it says more and counts as full. Else prove '..UptoSaid'. A law counts once. -/
mutual
def uptoBulk {H : Type} : DataW H → Nat
  | .lit (.string bytes) => bytes.length + 1
  | .lit _ => 1
  | .nil => 1
  | .ptr d => uptoBulk d + 1
  | .slice elems spare => uptoBulkAll elems + uptoBulkAll spare + 1
  | .agg parts => uptoBulkAll parts + 1
  | .iface _ d => uptoBulk d + 1
  | .map entries => uptoBulkEntries entries + 1
  | .held _ => 1
def uptoBulkAll {H : Type} : List (DataW H) → Nat
  | [] => 0
  | d :: r => uptoBulk d + uptoBulkAll r
def uptoBulkEntries {H : Type} : List (Lit × DataW H) → Nat
  | [] => 0
  | x :: r => uptoBulkEntry x + uptoBulkEntries r
def uptoBulkEntry {H : Type} : Lit × DataW H → Nat
  | (.string bytes, d) => bytes.length + uptoBulk d + 1
  | (_, d) => uptoBulk d + 1
 end
def uptoSmall : (H : Type) → List (DataW H) → Bool := fun _ ds => decide (uptoBulkAll ds ≤ 1048576)
def OpenSpec.upto (s : _root_.Go.ChangeSpec) : _root_.Go.OpenSpec := { _root_.Go.OpenSpec.ofChange s with cond := some uptoSmall }

/-- 'laws.FnExactValidLit', WHERE WHAT IT READS IS OF BULK AT MOST 1048576: true; the input reads as it did. -/
def fnExactValidLitUptoRow : OpenClaim := { program := "ytkfajimhooidcaa", sum := "33ad2c62e9bb6748aa5aba56ba58889e5f91d2676350312274c1620d7e8f8b0d", func := "loop.example/g01102/laws.FnExactValidLit", spec := "fnExactValidLit", unfollowed := true, recurses := true, apart := false, narrowed := true }
def FnExactValidLitUptoSaid : Prop := fnExactValidLitUptoRow.holds Try.pinned (OpenSpec.upto fnExactValidLitSpec)

/-- 'laws.FnExactLampClasses', WHERE WHAT IT READS IS OF BULK AT MOST 1048576: true; the input reads as it did. -/
def fnExactLampClassesUptoRow : OpenClaim := { program := "ytkfajimhooidcaa", sum := "33ad2c62e9bb6748aa5aba56ba58889e5f91d2676350312274c1620d7e8f8b0d", func := "loop.example/g01102/laws.FnExactLampClasses", spec := "fnExactLampClasses", unfollowed := true, recurses := true, apart := false, narrowed := true }
def FnExactLampClassesUptoSaid : Prop := fnExactLampClassesUptoRow.holds Try.pinned (OpenSpec.upto fnExactLampClassesSpec)

/-- 'laws.FnExactBelieved', WHERE WHAT IT READS IS OF BULK AT MOST 1048576: true; the input reads as it did. -/
def fnExactBelievedUptoRow : OpenClaim := { program := "ytkfajimhooidcaa", sum := "33ad2c62e9bb6748aa5aba56ba58889e5f91d2676350312274c1620d7e8f8b0d", func := "loop.example/g01102/laws.FnExactBelieved", spec := "fnExactBelieved", unfollowed := true, recurses := true, apart := false, narrowed := true }
def FnExactBelievedUptoSaid : Prop := fnExactBelievedUptoRow.holds Try.pinned (OpenSpec.upto fnExactBelievedSpec)

/-- 'laws.FnExactAdaptiveDepth', WHERE WHAT IT READS IS OF BULK AT MOST 1048576: true; the input reads as it did. -/
def fnExactAdaptiveDepthUptoRow : OpenClaim := { program := "ytkfajimhooidcaa", sum := "33ad2c62e9bb6748aa5aba56ba58889e5f91d2676350312274c1620d7e8f8b0d", func := "loop.example/g01102/laws.FnExactAdaptiveDepth", spec := "fnExactAdaptiveDepth", unfollowed := true, recurses := true, apart := false, narrowed := true }
def FnExactAdaptiveDepthUptoSaid : Prop := fnExactAdaptiveDepthUptoRow.holds Try.pinned (OpenSpec.upto fnExactAdaptiveDepthSpec)

/-- 'laws.FnExactAdaptiveLetter', WHERE WHAT IT READS IS OF BULK AT MOST 1048576: true; the input reads as it did. -/
def fnExactAdaptiveLetterUptoRow : OpenClaim := { program := "ytkfajimhooidcaa", sum := "33ad2c62e9bb6748aa5aba56ba58889e5f91d2676350312274c1620d7e8f8b0d", func := "loop.example/g01102/laws.FnExactAdaptiveLetter", spec := "fnExactAdaptiveLetter", unfollowed := true, recurses := true, apart := false, narrowed := true }
def FnExactAdaptiveLetterUptoSaid : Prop := fnExactAdaptiveLetterUptoRow.holds Try.pinned (OpenSpec.upto fnExactAdaptiveLetterSpec)

/-- 'laws.FnExactAdaptiveRun', WHERE WHAT IT READS IS OF BULK AT MOST 1048576: true; the input reads as it did. -/
def fnExactAdaptiveRunUptoRow : OpenClaim := { program := "ytkfajimhooidcaa", sum := "33ad2c62e9bb6748aa5aba56ba58889e5f91d2676350312274c1620d7e8f8b0d", func := "loop.example/g01102/laws.FnExactAdaptiveRun", spec := "fnExactAdaptiveRun", unfollowed := true, recurses := true, apart := false, narrowed := true }
def FnExactAdaptiveRunUptoSaid : Prop := fnExactAdaptiveRunUptoRow.holds Try.pinned (OpenSpec.upto fnExactAdaptiveRunSpec)

end Rows
end Go.Proofs.Ytkfajimhooidcaa
