/-
  No cell of these rows narrows 'for every input' (looked for: loops, veiled, ifaces, maps, wideKeys, modest, calm, conditions, laid).
  DERIVED. THE GIVEN ROWS OF THIS SEAT. 12 by the template 'for every input the law returns true; each argument reads behind the call as it read before'; 0 by the template 'total and deterministic' (their statements: YtikimfncpemmkaaTotals.lean).
  GIVEN WITH THE SEED: the statements are not yours to turn. If you find one false, say at which input.
  Laid BY PROGRAM, IN A SANDBOX (cutbox-rows.mjs): the forced cells as the released guide's own fill.sh prints them over the translation f57fffef4f5e3673… (all of the seat's roots in one cut). By AI agents, Wed Nov 11 2026. No macro, syntax, notation, axiom, sorry.
-/
import Derived.Test.YtikimfncpemmkaaChecked
import GoSem.Claim
import GoSem.ClaimJoined
import GoSem.ClaimMapViews
import Derived.JoinedTies
import Derived.KernelRfl
namespace Go.Proofs.Ytikimfncpemmkaa
/- THE CELL 'sum', in the pinned program and in every row, IS THE sha256 OF THE DUMP (.gsa) THAT YtikimfncpemmkaaProg.lean LOADS. Nothing in Lean hashes anything: it is a label: what it is worth is what the hold of that sum in a sandbox is worth. -/
noncomputable def Try.pinned : Pinned := { name := "ytikimfncpemmkaa", sum := "f57fffef4f5e3673c49bbdebdc67cca12bd4a2555a2d6294b9971e85c91e158c", checked := Try.checked }
namespace Rows
def none {H : Type} : Left H := { results := [], args := [] }

/-- 'laws.FnExactValidPartial': WHATEVER THE INPUT: true; the input reads as it did. -/
def fnExactValidPartialSpec : ChangeSpec := { name := "fnExactValidPartial", fn := fun _ => fun
  | [d] => { results := [.lit (.bool true)], args := [d] }
  | _ => none }
def fnExactValidPartialRow : OpenClaim := { program := "ytikimfncpemmkaa", sum := "f57fffef4f5e3673c49bbdebdc67cca12bd4a2555a2d6294b9971e85c91e158c", func := "loop.example/g01102/laws.FnExactValidPartial", spec := "fnExactValidPartial", unfollowed := true, recurses := true, apart := false }
def FnExactValidPartialSaid : Prop := fnExactValidPartialRow.holds Try.pinned (OpenSpec.ofChange fnExactValidPartialSpec)

/-- ITS FALSE NEIGHBOUR: 'it returns false'. Refute it at one input. -/
def fnExactValidPartialWrong : ChangeSpec := { name := "fnExactValidPartial", fn := fun _ => fun
  | [d] => { results := [.lit (.bool false)], args := [d] }
  | _ => none }
def FnExactValidPartialWrongFalsely : Prop := fnExactValidPartialRow.holds Try.pinned (OpenSpec.ofChange fnExactValidPartialWrong)

/-- 'laws.FnExactSamePartial': WHATEVER THE INPUT: true; the input reads as it did. -/
def fnExactSamePartialSpec : ChangeSpec := { name := "fnExactSamePartial", fn := fun _ => fun
  | [d1, d2] => { results := [.lit (.bool true)], args := [d1, d2] }
  | _ => none }
def fnExactSamePartialRow : OpenClaim := { program := "ytikimfncpemmkaa", sum := "f57fffef4f5e3673c49bbdebdc67cca12bd4a2555a2d6294b9971e85c91e158c", func := "loop.example/g01102/laws.FnExactSamePartial", spec := "fnExactSamePartial", unfollowed := true, recurses := true, apart := false }
def FnExactSamePartialSaid : Prop := fnExactSamePartialRow.holds Try.pinned (OpenSpec.ofChange fnExactSamePartialSpec)

/-- ITS FALSE NEIGHBOUR: 'it returns false'. Refute it at one input. -/
def fnExactSamePartialWrong : ChangeSpec := { name := "fnExactSamePartial", fn := fun _ => fun
  | [d1, d2] => { results := [.lit (.bool false)], args := [d1, d2] }
  | _ => none }
def FnExactSamePartialWrongFalsely : Prop := fnExactSamePartialRow.holds Try.pinned (OpenSpec.ofChange fnExactSamePartialWrong)

/-- 'laws.FnExactGapsOf': WHATEVER THE INPUT: true; the input reads as it did. -/
def fnExactGapsOfSpec : ChangeSpec := { name := "fnExactGapsOf", fn := fun _ => fun
  | [d] => { results := [.lit (.bool true)], args := [d] }
  | _ => none }
def fnExactGapsOfRow : OpenClaim := { program := "ytikimfncpemmkaa", sum := "f57fffef4f5e3673c49bbdebdc67cca12bd4a2555a2d6294b9971e85c91e158c", func := "loop.example/g01102/laws.FnExactGapsOf", spec := "fnExactGapsOf", unfollowed := true, recurses := true, apart := false }
def FnExactGapsOfSaid : Prop := fnExactGapsOfRow.holds Try.pinned (OpenSpec.ofChange fnExactGapsOfSpec)

/-- ITS FALSE NEIGHBOUR: 'it returns false'. Refute it at one input. -/
def fnExactGapsOfWrong : ChangeSpec := { name := "fnExactGapsOf", fn := fun _ => fun
  | [d] => { results := [.lit (.bool false)], args := [d] }
  | _ => none }
def FnExactGapsOfWrongFalsely : Prop := fnExactGapsOfRow.holds Try.pinned (OpenSpec.ofChange fnExactGapsOfWrong)

/-- 'laws.FnExactFillGaps': WHATEVER THE INPUT: true; the input reads as it did. -/
def fnExactFillGapsSpec : ChangeSpec := { name := "fnExactFillGaps", fn := fun _ => fun
  | [d1, d2] => { results := [.lit (.bool true)], args := [d1, d2] }
  | _ => none }
def fnExactFillGapsRow : OpenClaim := { program := "ytikimfncpemmkaa", sum := "f57fffef4f5e3673c49bbdebdc67cca12bd4a2555a2d6294b9971e85c91e158c", func := "loop.example/g01102/laws.FnExactFillGaps", spec := "fnExactFillGaps", unfollowed := true, recurses := true, apart := false }
def FnExactFillGapsSaid : Prop := fnExactFillGapsRow.holds Try.pinned (OpenSpec.ofChange fnExactFillGapsSpec)

/-- ITS FALSE NEIGHBOUR: 'it returns false'. Refute it at one input. -/
def fnExactFillGapsWrong : ChangeSpec := { name := "fnExactFillGaps", fn := fun _ => fun
  | [d1, d2] => { results := [.lit (.bool false)], args := [d1, d2] }
  | _ => none }
def FnExactFillGapsWrongFalsely : Prop := fnExactFillGapsRow.holds Try.pinned (OpenSpec.ofChange fnExactFillGapsWrong)

/-- 'laws.FnExactCarefulImage': WHATEVER THE INPUT: true; the input reads as it did. -/
def fnExactCarefulImageSpec : ChangeSpec := { name := "fnExactCarefulImage", fn := fun _ => fun
  | [d1, d2, d3] => { results := [.lit (.bool true)], args := [d1, d2, d3] }
  | _ => none }
def fnExactCarefulImageRow : OpenClaim := { program := "ytikimfncpemmkaa", sum := "f57fffef4f5e3673c49bbdebdc67cca12bd4a2555a2d6294b9971e85c91e158c", func := "loop.example/g01102/laws.FnExactCarefulImage", spec := "fnExactCarefulImage", unfollowed := true, recurses := true, apart := false }
def FnExactCarefulImageSaid : Prop := fnExactCarefulImageRow.holds Try.pinned (OpenSpec.ofChange fnExactCarefulImageSpec)

/-- ITS FALSE NEIGHBOUR: 'it returns false'. Refute it at one input. -/
def fnExactCarefulImageWrong : ChangeSpec := { name := "fnExactCarefulImage", fn := fun _ => fun
  | [d1, d2, d3] => { results := [.lit (.bool false)], args := [d1, d2, d3] }
  | _ => none }
def FnExactCarefulImageWrongFalsely : Prop := fnExactCarefulImageRow.holds Try.pinned (OpenSpec.ofChange fnExactCarefulImageWrong)

/-- 'laws.FnExactIsCareful': WHATEVER THE INPUT: true; the input reads as it did. -/
def fnExactIsCarefulSpec : ChangeSpec := { name := "fnExactIsCareful", fn := fun _ => fun
  | [d1, d2] => { results := [.lit (.bool true)], args := [d1, d2] }
  | _ => none }
def fnExactIsCarefulRow : OpenClaim := { program := "ytikimfncpemmkaa", sum := "f57fffef4f5e3673c49bbdebdc67cca12bd4a2555a2d6294b9971e85c91e158c", func := "loop.example/g01102/laws.FnExactIsCareful", spec := "fnExactIsCareful", unfollowed := true, recurses := true, apart := false }
def FnExactIsCarefulSaid : Prop := fnExactIsCarefulRow.holds Try.pinned (OpenSpec.ofChange fnExactIsCarefulSpec)

/-- ITS FALSE NEIGHBOUR: 'it returns false'. Refute it at one input. -/
def fnExactIsCarefulWrong : ChangeSpec := { name := "fnExactIsCareful", fn := fun _ => fun
  | [d1, d2] => { results := [.lit (.bool false)], args := [d1, d2] }
  | _ => none }
def FnExactIsCarefulWrongFalsely : Prop := fnExactIsCarefulRow.holds Try.pinned (OpenSpec.ofChange fnExactIsCarefulWrong)

/-- 'laws.FnExactTrapCompletion': WHATEVER THE INPUT: true; the input reads as it did. -/
def fnExactTrapCompletionSpec : ChangeSpec := { name := "fnExactTrapCompletion", fn := fun _ => fun
  | [d] => { results := [.lit (.bool true)], args := [d] }
  | _ => none }
def fnExactTrapCompletionRow : OpenClaim := { program := "ytikimfncpemmkaa", sum := "f57fffef4f5e3673c49bbdebdc67cca12bd4a2555a2d6294b9971e85c91e158c", func := "loop.example/g01102/laws.FnExactTrapCompletion", spec := "fnExactTrapCompletion", unfollowed := true, recurses := true, apart := false }
def FnExactTrapCompletionSaid : Prop := fnExactTrapCompletionRow.holds Try.pinned (OpenSpec.ofChange fnExactTrapCompletionSpec)

/-- ITS FALSE NEIGHBOUR: 'it returns false'. Refute it at one input. -/
def fnExactTrapCompletionWrong : ChangeSpec := { name := "fnExactTrapCompletion", fn := fun _ => fun
  | [d] => { results := [.lit (.bool false)], args := [d] }
  | _ => none }
def FnExactTrapCompletionWrongFalsely : Prop := fnExactTrapCompletionRow.holds Try.pinned (OpenSpec.ofChange fnExactTrapCompletionWrong)

/-- 'laws.FnExactChoiceOf': WHATEVER THE INPUT: true; the input reads as it did. -/
def fnExactChoiceOfSpec : ChangeSpec := { name := "fnExactChoiceOf", fn := fun _ => fun
  | [d] => { results := [.lit (.bool true)], args := [d] }
  | _ => none }
def fnExactChoiceOfRow : OpenClaim := { program := "ytikimfncpemmkaa", sum := "f57fffef4f5e3673c49bbdebdc67cca12bd4a2555a2d6294b9971e85c91e158c", func := "loop.example/g01102/laws.FnExactChoiceOf", spec := "fnExactChoiceOf", unfollowed := true, recurses := true, apart := false }
def FnExactChoiceOfSaid : Prop := fnExactChoiceOfRow.holds Try.pinned (OpenSpec.ofChange fnExactChoiceOfSpec)

/-- ITS FALSE NEIGHBOUR: 'it returns false'. Refute it at one input. -/
def fnExactChoiceOfWrong : ChangeSpec := { name := "fnExactChoiceOf", fn := fun _ => fun
  | [d] => { results := [.lit (.bool false)], args := [d] }
  | _ => none }
def FnExactChoiceOfWrongFalsely : Prop := fnExactChoiceOfRow.holds Try.pinned (OpenSpec.ofChange fnExactChoiceOfWrong)

/-- 'laws.FnExactValidChoice': WHATEVER THE INPUT: true; the input reads as it did. -/
def fnExactValidChoiceSpec : ChangeSpec := { name := "fnExactValidChoice", fn := fun _ => fun
  | [d] => { results := [.lit (.bool true)], args := [d] }
  | _ => none }
def fnExactValidChoiceRow : OpenClaim := { program := "ytikimfncpemmkaa", sum := "f57fffef4f5e3673c49bbdebdc67cca12bd4a2555a2d6294b9971e85c91e158c", func := "loop.example/g01102/laws.FnExactValidChoice", spec := "fnExactValidChoice", unfollowed := true, recurses := true, apart := false }
def FnExactValidChoiceSaid : Prop := fnExactValidChoiceRow.holds Try.pinned (OpenSpec.ofChange fnExactValidChoiceSpec)

/-- ITS FALSE NEIGHBOUR: 'it returns false'. Refute it at one input. -/
def fnExactValidChoiceWrong : ChangeSpec := { name := "fnExactValidChoice", fn := fun _ => fun
  | [d] => { results := [.lit (.bool false)], args := [d] }
  | _ => none }
def FnExactValidChoiceWrongFalsely : Prop := fnExactValidChoiceRow.holds Try.pinned (OpenSpec.ofChange fnExactValidChoiceWrong)

/-- 'laws.FnExactSameChoice': WHATEVER THE INPUT: true; the input reads as it did. -/
def fnExactSameChoiceSpec : ChangeSpec := { name := "fnExactSameChoice", fn := fun _ => fun
  | [d1, d2] => { results := [.lit (.bool true)], args := [d1, d2] }
  | _ => none }
def fnExactSameChoiceRow : OpenClaim := { program := "ytikimfncpemmkaa", sum := "f57fffef4f5e3673c49bbdebdc67cca12bd4a2555a2d6294b9971e85c91e158c", func := "loop.example/g01102/laws.FnExactSameChoice", spec := "fnExactSameChoice", unfollowed := true, recurses := true, apart := false }
def FnExactSameChoiceSaid : Prop := fnExactSameChoiceRow.holds Try.pinned (OpenSpec.ofChange fnExactSameChoiceSpec)

/-- ITS FALSE NEIGHBOUR: 'it returns false'. Refute it at one input. -/
def fnExactSameChoiceWrong : ChangeSpec := { name := "fnExactSameChoice", fn := fun _ => fun
  | [d1, d2] => { results := [.lit (.bool false)], args := [d1, d2] }
  | _ => none }
def FnExactSameChoiceWrongFalsely : Prop := fnExactSameChoiceRow.holds Try.pinned (OpenSpec.ofChange fnExactSameChoiceWrong)

/-- 'laws.FnExactIsTotal': WHATEVER THE INPUT: true; the input reads as it did. -/
def fnExactIsTotalSpec : ChangeSpec := { name := "fnExactIsTotal", fn := fun _ => fun
  | [d] => { results := [.lit (.bool true)], args := [d] }
  | _ => none }
def fnExactIsTotalRow : OpenClaim := { program := "ytikimfncpemmkaa", sum := "f57fffef4f5e3673c49bbdebdc67cca12bd4a2555a2d6294b9971e85c91e158c", func := "loop.example/g01102/laws.FnExactIsTotal", spec := "fnExactIsTotal", unfollowed := true, recurses := true, apart := false }
def FnExactIsTotalSaid : Prop := fnExactIsTotalRow.holds Try.pinned (OpenSpec.ofChange fnExactIsTotalSpec)

/-- ITS FALSE NEIGHBOUR: 'it returns false'. Refute it at one input. -/
def fnExactIsTotalWrong : ChangeSpec := { name := "fnExactIsTotal", fn := fun _ => fun
  | [d] => { results := [.lit (.bool false)], args := [d] }
  | _ => none }
def FnExactIsTotalWrongFalsely : Prop := fnExactIsTotalRow.holds Try.pinned (OpenSpec.ofChange fnExactIsTotalWrong)

/-- 'laws.FnExactReachBy': WHATEVER THE INPUT: true; the input reads as it did. -/
def fnExactReachBySpec : ChangeSpec := { name := "fnExactReachBy", fn := fun _ => fun
  | [d1, d2, d3] => { results := [.lit (.bool true)], args := [d1, d2, d3] }
  | _ => none }
def fnExactReachByRow : OpenClaim := { program := "ytikimfncpemmkaa", sum := "f57fffef4f5e3673c49bbdebdc67cca12bd4a2555a2d6294b9971e85c91e158c", func := "loop.example/g01102/laws.FnExactReachBy", spec := "fnExactReachBy", unfollowed := true, recurses := true, apart := false }
def FnExactReachBySaid : Prop := fnExactReachByRow.holds Try.pinned (OpenSpec.ofChange fnExactReachBySpec)

/-- ITS FALSE NEIGHBOUR: 'it returns false'. Refute it at one input. -/
def fnExactReachByWrong : ChangeSpec := { name := "fnExactReachBy", fn := fun _ => fun
  | [d1, d2, d3] => { results := [.lit (.bool false)], args := [d1, d2, d3] }
  | _ => none }
def FnExactReachByWrongFalsely : Prop := fnExactReachByRow.holds Try.pinned (OpenSpec.ofChange fnExactReachByWrong)

/- THE SECOND FORM. 'bulk': how many values and letters a reading holds, each counted each time it is reached (what is shared counts as often as it is met; a slice's spare places count too). A statement '..UptoSaid' is the law's where the arguments, and the package variables that the reading takes, are together of bulk at most 1048576: NARROWER than '..Said'. Prove '..Said' where nothing that the law and all that it calls make is longer than what came in: it says more and counts as full. Else prove '..UptoSaid'. A law counts once. -/
mutual
def uptoBulk {H : Type} : DataW H → Nat
  | .lit (.string bytes) => bytes.length + 1
  | .lit _ => 1
  | .nil => 1
  | .ptr d => uptoBulk d + 1
  | .slice elems spare => uptoBulkAll elems + uptoBulkAll spare + 1
  | .agg parts => uptoBulkAll parts + 1
  | .iface _ d => uptoBulk d + 1
  | .map entries => uptoBulkEntries entries + 1
  | .held _ => 1
def uptoBulkAll {H : Type} : List (DataW H) → Nat
  | [] => 0
  | d :: r => uptoBulk d + uptoBulkAll r
def uptoBulkEntries {H : Type} : List (Lit × DataW H) → Nat
  | [] => 0
  | x :: r => uptoBulkEntry x + uptoBulkEntries r
def uptoBulkEntry {H : Type} : Lit × DataW H → Nat
  | (.string bytes, d) => bytes.length + uptoBulk d + 1
  | (_, d) => uptoBulk d + 1
 end
def uptoSmall : (H : Type) → List (DataW H) → Bool := fun _ ds => decide (uptoBulkAll ds ≤ 1048576)
def OpenSpec.upto (s : _root_.Go.ChangeSpec) : _root_.Go.OpenSpec := { _root_.Go.OpenSpec.ofChange s with cond := some uptoSmall }

/-- 'laws.FnExactValidPartial', WHERE WHAT IT READS IS OF BULK AT MOST 1048576: true; the input reads as it did. -/
def fnExactValidPartialUptoRow : OpenClaim := { program := "ytikimfncpemmkaa", sum := "f57fffef4f5e3673c49bbdebdc67cca12bd4a2555a2d6294b9971e85c91e158c", func := "loop.example/g01102/laws.FnExactValidPartial", spec := "fnExactValidPartial", unfollowed := true, recurses := true, apart := false, narrowed := true }
def FnExactValidPartialUptoSaid : Prop := fnExactValidPartialUptoRow.holds Try.pinned (OpenSpec.upto fnExactValidPartialSpec)

/-- 'laws.FnExactSamePartial', WHERE WHAT IT READS IS OF BULK AT MOST 1048576: true; the input reads as it did. -/
def fnExactSamePartialUptoRow : OpenClaim := { program := "ytikimfncpemmkaa", sum := "f57fffef4f5e3673c49bbdebdc67cca12bd4a2555a2d6294b9971e85c91e158c", func := "loop.example/g01102/laws.FnExactSamePartial", spec := "fnExactSamePartial", unfollowed := true, recurses := true, apart := false, narrowed := true }
def FnExactSamePartialUptoSaid : Prop := fnExactSamePartialUptoRow.holds Try.pinned (OpenSpec.upto fnExactSamePartialSpec)

/-- 'laws.FnExactGapsOf', WHERE WHAT IT READS IS OF BULK AT MOST 1048576: true; the input reads as it did. -/
def fnExactGapsOfUptoRow : OpenClaim := { program := "ytikimfncpemmkaa", sum := "f57fffef4f5e3673c49bbdebdc67cca12bd4a2555a2d6294b9971e85c91e158c", func := "loop.example/g01102/laws.FnExactGapsOf", spec := "fnExactGapsOf", unfollowed := true, recurses := true, apart := false, narrowed := true }
def FnExactGapsOfUptoSaid : Prop := fnExactGapsOfUptoRow.holds Try.pinned (OpenSpec.upto fnExactGapsOfSpec)

/-- 'laws.FnExactFillGaps', WHERE WHAT IT READS IS OF BULK AT MOST 1048576: true; the input reads as it did. -/
def fnExactFillGapsUptoRow : OpenClaim := { program := "ytikimfncpemmkaa", sum := "f57fffef4f5e3673c49bbdebdc67cca12bd4a2555a2d6294b9971e85c91e158c", func := "loop.example/g01102/laws.FnExactFillGaps", spec := "fnExactFillGaps", unfollowed := true, recurses := true, apart := false, narrowed := true }
def FnExactFillGapsUptoSaid : Prop := fnExactFillGapsUptoRow.holds Try.pinned (OpenSpec.upto fnExactFillGapsSpec)

/-- 'laws.FnExactCarefulImage', WHERE WHAT IT READS IS OF BULK AT MOST 1048576: true; the input reads as it did. -/
def fnExactCarefulImageUptoRow : OpenClaim := { program := "ytikimfncpemmkaa", sum := "f57fffef4f5e3673c49bbdebdc67cca12bd4a2555a2d6294b9971e85c91e158c", func := "loop.example/g01102/laws.FnExactCarefulImage", spec := "fnExactCarefulImage", unfollowed := true, recurses := true, apart := false, narrowed := true }
def FnExactCarefulImageUptoSaid : Prop := fnExactCarefulImageUptoRow.holds Try.pinned (OpenSpec.upto fnExactCarefulImageSpec)

/-- 'laws.FnExactIsCareful', WHERE WHAT IT READS IS OF BULK AT MOST 1048576: true; the input reads as it did. -/
def fnExactIsCarefulUptoRow : OpenClaim := { program := "ytikimfncpemmkaa", sum := "f57fffef4f5e3673c49bbdebdc67cca12bd4a2555a2d6294b9971e85c91e158c", func := "loop.example/g01102/laws.FnExactIsCareful", spec := "fnExactIsCareful", unfollowed := true, recurses := true, apart := false, narrowed := true }
def FnExactIsCarefulUptoSaid : Prop := fnExactIsCarefulUptoRow.holds Try.pinned (OpenSpec.upto fnExactIsCarefulSpec)

/-- 'laws.FnExactTrapCompletion', WHERE WHAT IT READS IS OF BULK AT MOST 1048576: true; the input reads as it did. -/
def fnExactTrapCompletionUptoRow : OpenClaim := { program := "ytikimfncpemmkaa", sum := "f57fffef4f5e3673c49bbdebdc67cca12bd4a2555a2d6294b9971e85c91e158c", func := "loop.example/g01102/laws.FnExactTrapCompletion", spec := "fnExactTrapCompletion", unfollowed := true, recurses := true, apart := false, narrowed := true }
def FnExactTrapCompletionUptoSaid : Prop := fnExactTrapCompletionUptoRow.holds Try.pinned (OpenSpec.upto fnExactTrapCompletionSpec)

/-- 'laws.FnExactChoiceOf', WHERE WHAT IT READS IS OF BULK AT MOST 1048576: true; the input reads as it did. -/
def fnExactChoiceOfUptoRow : OpenClaim := { program := "ytikimfncpemmkaa", sum := "f57fffef4f5e3673c49bbdebdc67cca12bd4a2555a2d6294b9971e85c91e158c", func := "loop.example/g01102/laws.FnExactChoiceOf", spec := "fnExactChoiceOf", unfollowed := true, recurses := true, apart := false, narrowed := true }
def FnExactChoiceOfUptoSaid : Prop := fnExactChoiceOfUptoRow.holds Try.pinned (OpenSpec.upto fnExactChoiceOfSpec)

/-- 'laws.FnExactValidChoice', WHERE WHAT IT READS IS OF BULK AT MOST 1048576: true; the input reads as it did. -/
def fnExactValidChoiceUptoRow : OpenClaim := { program := "ytikimfncpemmkaa", sum := "f57fffef4f5e3673c49bbdebdc67cca12bd4a2555a2d6294b9971e85c91e158c", func := "loop.example/g01102/laws.FnExactValidChoice", spec := "fnExactValidChoice", unfollowed := true, recurses := true, apart := false, narrowed := true }
def FnExactValidChoiceUptoSaid : Prop := fnExactValidChoiceUptoRow.holds Try.pinned (OpenSpec.upto fnExactValidChoiceSpec)

/-- 'laws.FnExactSameChoice', WHERE WHAT IT READS IS OF BULK AT MOST 1048576: true; the input reads as it did. -/
def fnExactSameChoiceUptoRow : OpenClaim := { program := "ytikimfncpemmkaa", sum := "f57fffef4f5e3673c49bbdebdc67cca12bd4a2555a2d6294b9971e85c91e158c", func := "loop.example/g01102/laws.FnExactSameChoice", spec := "fnExactSameChoice", unfollowed := true, recurses := true, apart := false, narrowed := true }
def FnExactSameChoiceUptoSaid : Prop := fnExactSameChoiceUptoRow.holds Try.pinned (OpenSpec.upto fnExactSameChoiceSpec)

/-- 'laws.FnExactIsTotal', WHERE WHAT IT READS IS OF BULK AT MOST 1048576: true; the input reads as it did. -/
def fnExactIsTotalUptoRow : OpenClaim := { program := "ytikimfncpemmkaa", sum := "f57fffef4f5e3673c49bbdebdc67cca12bd4a2555a2d6294b9971e85c91e158c", func := "loop.example/g01102/laws.FnExactIsTotal", spec := "fnExactIsTotal", unfollowed := true, recurses := true, apart := false, narrowed := true }
def FnExactIsTotalUptoSaid : Prop := fnExactIsTotalUptoRow.holds Try.pinned (OpenSpec.upto fnExactIsTotalSpec)

/-- 'laws.FnExactReachBy', WHERE WHAT IT READS IS OF BULK AT MOST 1048576: true; the input reads as it did. -/
def fnExactReachByUptoRow : OpenClaim := { program := "ytikimfncpemmkaa", sum := "f57fffef4f5e3673c49bbdebdc67cca12bd4a2555a2d6294b9971e85c91e158c", func := "loop.example/g01102/laws.FnExactReachBy", spec := "fnExactReachBy", unfollowed := true, recurses := true, apart := false, narrowed := true }
def FnExactReachByUptoSaid : Prop := fnExactReachByUptoRow.holds Try.pinned (OpenSpec.upto fnExactReachBySpec)

end Rows
end Go.Proofs.Ytikimfncpemmkaa
