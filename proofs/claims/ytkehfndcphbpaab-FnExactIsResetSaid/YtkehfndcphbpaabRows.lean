/-
  No cell of these rows narrows 'for every input' (looked for: loops, veiled, ifaces, maps, wideKeys, modest, calm, conditions, laid).
  DERIVED. THE GIVEN ROWS OF THIS SEAT. 12 by the template 'for every input the law returns true; each argument reads behind the call as it read before'; 0 by the template 'total and deterministic' (their statements: YtkehfndcphbpaabTotals.lean).
  GIVEN WITH THE SEED: the statements are not yours to turn. If you find one false, say at which input.
  Laid BY PROGRAM, IN A SANDBOX (cutbox-rows.mjs): the forced cells as the released guide's own fill.sh prints them over the translation cd7646af65f3f6de… (all of the seat's roots in one cut). By AI agents, Wed Nov 11 2026. No macro, syntax, notation, axiom, sorry.
-/
import Derived.Test.YtkehfndcphbpaabChecked
import GoSem.Claim
import GoSem.ClaimJoined
import GoSem.ClaimMapViews
import Derived.JoinedTies
import Derived.KernelRfl
namespace Go.Proofs.Ytkehfndcphbpaab
/- THE CELL 'sum', in the pinned program and in every row, IS THE sha256 OF THE DUMP (.gsa) THAT YtkehfndcphbpaabProg.lean LOADS. Nothing in Lean hashes anything: it is a label: what it is worth is what the hold of that sum in a sandbox is worth. -/
noncomputable def Try.pinned : Pinned := { name := "ytkehfndcphbpaab", sum := "cd7646af65f3f6def2b7ea0a206b137a4ace3e2d642afebab6f378a89561db88", checked := Try.checked }
namespace Rows
def none {H : Type} : Left H := { results := [], args := [] }

/-- 'laws.FnExactIsReset': WHATEVER THE INPUT: true; the input reads as it did. -/
def fnExactIsResetSpec : ChangeSpec := { name := "fnExactIsReset", fn := fun _ => fun
  | [d1, d2] => { results := [.lit (.bool true)], args := [d1, d2] }
  | _ => none }
def fnExactIsResetRow : OpenClaim := { program := "ytkehfndcphbpaab", sum := "cd7646af65f3f6def2b7ea0a206b137a4ace3e2d642afebab6f378a89561db88", func := "loop.example/g01102/laws.FnExactIsReset", spec := "fnExactIsReset", apart := false }
def FnExactIsResetSaid : Prop := fnExactIsResetRow.holds Try.pinned (OpenSpec.ofChange fnExactIsResetSpec)

/-- ITS FALSE NEIGHBOUR: 'it returns false'. Refute it at one input. -/
def fnExactIsResetWrong : ChangeSpec := { name := "fnExactIsReset", fn := fun _ => fun
  | [d1, d2] => { results := [.lit (.bool false)], args := [d1, d2] }
  | _ => none }
def FnExactIsResetWrongFalsely : Prop := fnExactIsResetRow.holds Try.pinned (OpenSpec.ofChange fnExactIsResetWrong)

/-- 'laws.FnExactCanReset': WHATEVER THE INPUT: true; the input reads as it did. -/
def fnExactCanResetSpec : ChangeSpec := { name := "fnExactCanReset", fn := fun _ => fun
  | [d] => { results := [.lit (.bool true)], args := [d] }
  | _ => none }
def fnExactCanResetRow : OpenClaim := { program := "ytkehfndcphbpaab", sum := "cd7646af65f3f6def2b7ea0a206b137a4ace3e2d642afebab6f378a89561db88", func := "loop.example/g01102/laws.FnExactCanReset", spec := "fnExactCanReset", unfollowed := true, recurses := true, apart := false }
def FnExactCanResetSaid : Prop := fnExactCanResetRow.holds Try.pinned (OpenSpec.ofChange fnExactCanResetSpec)

/-- ITS FALSE NEIGHBOUR: 'it returns false'. Refute it at one input. -/
def fnExactCanResetWrong : ChangeSpec := { name := "fnExactCanReset", fn := fun _ => fun
  | [d] => { results := [.lit (.bool false)], args := [d] }
  | _ => none }
def FnExactCanResetWrongFalsely : Prop := fnExactCanResetRow.holds Try.pinned (OpenSpec.ofChange fnExactCanResetWrong)

/-- 'laws.FnExactShortestReset': WHATEVER THE INPUT: true; the input reads as it did. -/
def fnExactShortestResetSpec : ChangeSpec := { name := "fnExactShortestReset", fn := fun _ => fun
  | [d] => { results := [.lit (.bool true)], args := [d] }
  | _ => none }
def fnExactShortestResetRow : OpenClaim := { program := "ytkehfndcphbpaab", sum := "cd7646af65f3f6def2b7ea0a206b137a4ace3e2d642afebab6f378a89561db88", func := "loop.example/g01102/laws.FnExactShortestReset", spec := "fnExactShortestReset", unfollowed := true, recurses := true, apart := false }
def FnExactShortestResetSaid : Prop := fnExactShortestResetRow.holds Try.pinned (OpenSpec.ofChange fnExactShortestResetSpec)

/-- ITS FALSE NEIGHBOUR: 'it returns false'. Refute it at one input. -/
def fnExactShortestResetWrong : ChangeSpec := { name := "fnExactShortestReset", fn := fun _ => fun
  | [d] => { results := [.lit (.bool false)], args := [d] }
  | _ => none }
def FnExactShortestResetWrongFalsely : Prop := fnExactShortestResetRow.holds Try.pinned (OpenSpec.ofChange fnExactShortestResetWrong)

/-- 'laws.FnExactShortestTo': WHATEVER THE INPUT: true; the input reads as it did. -/
def fnExactShortestToSpec : ChangeSpec := { name := "fnExactShortestTo", fn := fun _ => fun
  | [d1, d2] => { results := [.lit (.bool true)], args := [d1, d2] }
  | _ => none }
def fnExactShortestToRow : OpenClaim := { program := "ytkehfndcphbpaab", sum := "cd7646af65f3f6def2b7ea0a206b137a4ace3e2d642afebab6f378a89561db88", func := "loop.example/g01102/laws.FnExactShortestTo", spec := "fnExactShortestTo", unfollowed := true, recurses := true, apart := false }
def FnExactShortestToSaid : Prop := fnExactShortestToRow.holds Try.pinned (OpenSpec.ofChange fnExactShortestToSpec)

/-- ITS FALSE NEIGHBOUR: 'it returns false'. Refute it at one input. -/
def fnExactShortestToWrong : ChangeSpec := { name := "fnExactShortestTo", fn := fun _ => fun
  | [d1, d2] => { results := [.lit (.bool false)], args := [d1, d2] }
  | _ => none }
def FnExactShortestToWrongFalsely : Prop := fnExactShortestToRow.holds Try.pinned (OpenSpec.ofChange fnExactShortestToWrong)

/-- 'laws.FnExactShortestFor': WHATEVER THE INPUT: true; the input reads as it did. -/
def fnExactShortestForSpec : ChangeSpec := { name := "fnExactShortestFor", fn := fun _ => fun
  | [d1, d2] => { results := [.lit (.bool true)], args := [d1, d2] }
  | _ => none }
def fnExactShortestForRow : OpenClaim := { program := "ytkehfndcphbpaab", sum := "cd7646af65f3f6def2b7ea0a206b137a4ace3e2d642afebab6f378a89561db88", func := "loop.example/g01102/laws.FnExactShortestFor", spec := "fnExactShortestFor", unfollowed := true, recurses := true, apart := false }
def FnExactShortestForSaid : Prop := fnExactShortestForRow.holds Try.pinned (OpenSpec.ofChange fnExactShortestForSpec)

/-- ITS FALSE NEIGHBOUR: 'it returns false'. Refute it at one input. -/
def fnExactShortestForWrong : ChangeSpec := { name := "fnExactShortestFor", fn := fun _ => fun
  | [d1, d2] => { results := [.lit (.bool false)], args := [d1, d2] }
  | _ => none }
def FnExactShortestForWrongFalsely : Prop := fnExactShortestForRow.holds Try.pinned (OpenSpec.ofChange fnExactShortestForWrong)

/-- 'laws.FnExactTargetsOf': WHATEVER THE INPUT: true; the input reads as it did. -/
def fnExactTargetsOfSpec : ChangeSpec := { name := "fnExactTargetsOf", fn := fun _ => fun
  | [d] => { results := [.lit (.bool true)], args := [d] }
  | _ => none }
def fnExactTargetsOfRow : OpenClaim := { program := "ytkehfndcphbpaab", sum := "cd7646af65f3f6def2b7ea0a206b137a4ace3e2d642afebab6f378a89561db88", func := "loop.example/g01102/laws.FnExactTargetsOf", spec := "fnExactTargetsOf", unfollowed := true, recurses := true, apart := false }
def FnExactTargetsOfSaid : Prop := fnExactTargetsOfRow.holds Try.pinned (OpenSpec.ofChange fnExactTargetsOfSpec)

/-- ITS FALSE NEIGHBOUR: 'it returns false'. Refute it at one input. -/
def fnExactTargetsOfWrong : ChangeSpec := { name := "fnExactTargetsOf", fn := fun _ => fun
  | [d] => { results := [.lit (.bool false)], args := [d] }
  | _ => none }
def FnExactTargetsOfWrongFalsely : Prop := fnExactTargetsOfRow.holds Try.pinned (OpenSpec.ofChange fnExactTargetsOfWrong)

/-- 'laws.FnExactMergingWord': WHATEVER THE INPUT: true; the input reads as it did. -/
def fnExactMergingWordSpec : ChangeSpec := { name := "fnExactMergingWord", fn := fun _ => fun
  | [d1, d2, d3] => { results := [.lit (.bool true)], args := [d1, d2, d3] }
  | _ => none }
def fnExactMergingWordRow : OpenClaim := { program := "ytkehfndcphbpaab", sum := "cd7646af65f3f6def2b7ea0a206b137a4ace3e2d642afebab6f378a89561db88", func := "loop.example/g01102/laws.FnExactMergingWord", spec := "fnExactMergingWord", unfollowed := true, recurses := true, apart := false }
def FnExactMergingWordSaid : Prop := fnExactMergingWordRow.holds Try.pinned (OpenSpec.ofChange fnExactMergingWordSpec)

/-- ITS FALSE NEIGHBOUR: 'it returns false'. Refute it at one input. -/
def fnExactMergingWordWrong : ChangeSpec := { name := "fnExactMergingWord", fn := fun _ => fun
  | [d1, d2, d3] => { results := [.lit (.bool false)], args := [d1, d2, d3] }
  | _ => none }
def FnExactMergingWordWrongFalsely : Prop := fnExactMergingWordRow.holds Try.pinned (OpenSpec.ofChange fnExactMergingWordWrong)

/-- 'laws.FnExactPairTable': WHATEVER THE INPUT: true; the input reads as it did. -/
def fnExactPairTableSpec : ChangeSpec := { name := "fnExactPairTable", fn := fun _ => fun
  | [d] => { results := [.lit (.bool true)], args := [d] }
  | _ => none }
def fnExactPairTableRow : OpenClaim := { program := "ytkehfndcphbpaab", sum := "cd7646af65f3f6def2b7ea0a206b137a4ace3e2d642afebab6f378a89561db88", func := "loop.example/g01102/laws.FnExactPairTable", spec := "fnExactPairTable", unfollowed := true, recurses := true, apart := false }
def FnExactPairTableSaid : Prop := fnExactPairTableRow.holds Try.pinned (OpenSpec.ofChange fnExactPairTableSpec)

/-- ITS FALSE NEIGHBOUR: 'it returns false'. Refute it at one input. -/
def fnExactPairTableWrong : ChangeSpec := { name := "fnExactPairTable", fn := fun _ => fun
  | [d] => { results := [.lit (.bool false)], args := [d] }
  | _ => none }
def FnExactPairTableWrongFalsely : Prop := fnExactPairTableRow.holds Try.pinned (OpenSpec.ofChange fnExactPairTableWrong)

/-- 'laws.FnExactCountResets': WHATEVER THE INPUT: true; the input reads as it did. -/
def fnExactCountResetsSpec : ChangeSpec := { name := "fnExactCountResets", fn := fun _ => fun
  | [d1, d2] => { results := [.lit (.bool true)], args := [d1, d2] }
  | _ => none }
def fnExactCountResetsRow : OpenClaim := { program := "ytkehfndcphbpaab", sum := "cd7646af65f3f6def2b7ea0a206b137a4ace3e2d642afebab6f378a89561db88", func := "loop.example/g01102/laws.FnExactCountResets", spec := "fnExactCountResets", apart := false }
def FnExactCountResetsSaid : Prop := fnExactCountResetsRow.holds Try.pinned (OpenSpec.ofChange fnExactCountResetsSpec)

/-- ITS FALSE NEIGHBOUR: 'it returns false'. Refute it at one input. -/
def fnExactCountResetsWrong : ChangeSpec := { name := "fnExactCountResets", fn := fun _ => fun
  | [d1, d2] => { results := [.lit (.bool false)], args := [d1, d2] }
  | _ => none }
def FnExactCountResetsWrongFalsely : Prop := fnExactCountResetsRow.holds Try.pinned (OpenSpec.ofChange fnExactCountResetsWrong)

/-- 'laws.FnExactSlowAutomaton': WHATEVER THE INPUT: true; the input reads as it did. -/
def fnExactSlowAutomatonSpec : ChangeSpec := { name := "fnExactSlowAutomaton", fn := fun _ => fun
  | [d] => { results := [.lit (.bool true)], args := [d] }
  | _ => none }
def fnExactSlowAutomatonRow : OpenClaim := { program := "ytkehfndcphbpaab", sum := "cd7646af65f3f6def2b7ea0a206b137a4ace3e2d642afebab6f378a89561db88", func := "loop.example/g01102/laws.FnExactSlowAutomaton", spec := "fnExactSlowAutomaton", unfollowed := true, recurses := true, apart := false }
def FnExactSlowAutomatonSaid : Prop := fnExactSlowAutomatonRow.holds Try.pinned (OpenSpec.ofChange fnExactSlowAutomatonSpec)

/-- ITS FALSE NEIGHBOUR: 'it returns false'. Refute it at one input. -/
def fnExactSlowAutomatonWrong : ChangeSpec := { name := "fnExactSlowAutomaton", fn := fun _ => fun
  | [d] => { results := [.lit (.bool false)], args := [d] }
  | _ => none }
def FnExactSlowAutomatonWrongFalsely : Prop := fnExactSlowAutomatonRow.holds Try.pinned (OpenSpec.ofChange fnExactSlowAutomatonWrong)

/-- 'laws.FnExactResetBound': WHATEVER THE INPUT: true; the input reads as it did. -/
def fnExactResetBoundSpec : ChangeSpec := { name := "fnExactResetBound", fn := fun _ => fun
  | [d] => { results := [.lit (.bool true)], args := [d] }
  | _ => none }
def fnExactResetBoundRow : OpenClaim := { program := "ytkehfndcphbpaab", sum := "cd7646af65f3f6def2b7ea0a206b137a4ace3e2d642afebab6f378a89561db88", func := "loop.example/g01102/laws.FnExactResetBound", spec := "fnExactResetBound", apart := false }
def FnExactResetBoundSaid : Prop := fnExactResetBoundRow.holds Try.pinned (OpenSpec.ofChange fnExactResetBoundSpec)

/-- ITS FALSE NEIGHBOUR: 'it returns false'. Refute it at one input. -/
def fnExactResetBoundWrong : ChangeSpec := { name := "fnExactResetBound", fn := fun _ => fun
  | [d] => { results := [.lit (.bool false)], args := [d] }
  | _ => none }
def FnExactResetBoundWrongFalsely : Prop := fnExactResetBoundRow.holds Try.pinned (OpenSpec.ofChange fnExactResetBoundWrong)

/-- 'laws.FnSlow': WHATEVER THE INPUT: true; the input reads as it did. -/
def fnSlowSpec : ChangeSpec := { name := "fnSlow", fn := fun _ => fun
  | [d1, d2] => { results := [.lit (.bool true)], args := [d1, d2] }
  | _ => none }
def fnSlowRow : OpenClaim := { program := "ytkehfndcphbpaab", sum := "cd7646af65f3f6def2b7ea0a206b137a4ace3e2d642afebab6f378a89561db88", func := "loop.example/g01102/laws.FnSlow", spec := "fnSlow", unfollowed := true, recurses := true, apart := false }
def FnSlowSaid : Prop := fnSlowRow.holds Try.pinned (OpenSpec.ofChange fnSlowSpec)

/-- ITS FALSE NEIGHBOUR: 'it returns false'. Refute it at one input. -/
def fnSlowWrong : ChangeSpec := { name := "fnSlow", fn := fun _ => fun
  | [d1, d2] => { results := [.lit (.bool false)], args := [d1, d2] }
  | _ => none }
def FnSlowWrongFalsely : Prop := fnSlowRow.holds Try.pinned (OpenSpec.ofChange fnSlowWrong)

/- THE SECOND FORM. 'bulk': how many values and letters a reading holds, each counted each time it is reached (what is shared counts as often as it is met; a slice's spare places count too). A statement '..UptoSaid' is the law's where the arguments, and the package variables that the reading takes, are together of bulk at most 1048576: NARROWER than '..Said'. Prove '..Said' where nothing that the law and all that it calls make is longer than what came in: it says more and counts as full. Else prove '..UptoSaid'. A law counts once. -/
mutual
def uptoBulk {H : Type} : DataW H → Nat
  | .lit (.string bytes) => bytes.length + 1
  | .lit _ => 1
  | .nil => 1
  | .ptr d => uptoBulk d + 1
  | .slice elems spare => uptoBulkAll elems + uptoBulkAll spare + 1
  | .agg parts => uptoBulkAll parts + 1
  | .iface _ d => uptoBulk d + 1
  | .map entries => uptoBulkEntries entries + 1
  | .held _ => 1
def uptoBulkAll {H : Type} : List (DataW H) → Nat
  | [] => 0
  | d :: r => uptoBulk d + uptoBulkAll r
def uptoBulkEntries {H : Type} : List (Lit × DataW H) → Nat
  | [] => 0
  | x :: r => uptoBulkEntry x + uptoBulkEntries r
def uptoBulkEntry {H : Type} : Lit × DataW H → Nat
  | (.string bytes, d) => bytes.length + uptoBulk d + 1
  | (_, d) => uptoBulk d + 1
 end
def uptoSmall : (H : Type) → List (DataW H) → Bool := fun _ ds => decide (uptoBulkAll ds ≤ 1048576)
def OpenSpec.upto (s : _root_.Go.ChangeSpec) : _root_.Go.OpenSpec := { _root_.Go.OpenSpec.ofChange s with cond := some uptoSmall }

/-- 'laws.FnExactIsReset', WHERE WHAT IT READS IS OF BULK AT MOST 1048576: true; the input reads as it did. -/
def fnExactIsResetUptoRow : OpenClaim := { program := "ytkehfndcphbpaab", sum := "cd7646af65f3f6def2b7ea0a206b137a4ace3e2d642afebab6f378a89561db88", func := "loop.example/g01102/laws.FnExactIsReset", spec := "fnExactIsReset", apart := false, narrowed := true }
def FnExactIsResetUptoSaid : Prop := fnExactIsResetUptoRow.holds Try.pinned (OpenSpec.upto fnExactIsResetSpec)

/-- 'laws.FnExactCanReset', WHERE WHAT IT READS IS OF BULK AT MOST 1048576: true; the input reads as it did. -/
def fnExactCanResetUptoRow : OpenClaim := { program := "ytkehfndcphbpaab", sum := "cd7646af65f3f6def2b7ea0a206b137a4ace3e2d642afebab6f378a89561db88", func := "loop.example/g01102/laws.FnExactCanReset", spec := "fnExactCanReset", unfollowed := true, recurses := true, apart := false, narrowed := true }
def FnExactCanResetUptoSaid : Prop := fnExactCanResetUptoRow.holds Try.pinned (OpenSpec.upto fnExactCanResetSpec)

/-- 'laws.FnExactShortestReset', WHERE WHAT IT READS IS OF BULK AT MOST 1048576: true; the input reads as it did. -/
def fnExactShortestResetUptoRow : OpenClaim := { program := "ytkehfndcphbpaab", sum := "cd7646af65f3f6def2b7ea0a206b137a4ace3e2d642afebab6f378a89561db88", func := "loop.example/g01102/laws.FnExactShortestReset", spec := "fnExactShortestReset", unfollowed := true, recurses := true, apart := false, narrowed := true }
def FnExactShortestResetUptoSaid : Prop := fnExactShortestResetUptoRow.holds Try.pinned (OpenSpec.upto fnExactShortestResetSpec)

/-- 'laws.FnExactShortestTo', WHERE WHAT IT READS IS OF BULK AT MOST 1048576: true; the input reads as it did. -/
def fnExactShortestToUptoRow : OpenClaim := { program := "ytkehfndcphbpaab", sum := "cd7646af65f3f6def2b7ea0a206b137a4ace3e2d642afebab6f378a89561db88", func := "loop.example/g01102/laws.FnExactShortestTo", spec := "fnExactShortestTo", unfollowed := true, recurses := true, apart := false, narrowed := true }
def FnExactShortestToUptoSaid : Prop := fnExactShortestToUptoRow.holds Try.pinned (OpenSpec.upto fnExactShortestToSpec)

/-- 'laws.FnExactShortestFor', WHERE WHAT IT READS IS OF BULK AT MOST 1048576: true; the input reads as it did. -/
def fnExactShortestForUptoRow : OpenClaim := { program := "ytkehfndcphbpaab", sum := "cd7646af65f3f6def2b7ea0a206b137a4ace3e2d642afebab6f378a89561db88", func := "loop.example/g01102/laws.FnExactShortestFor", spec := "fnExactShortestFor", unfollowed := true, recurses := true, apart := false, narrowed := true }
def FnExactShortestForUptoSaid : Prop := fnExactShortestForUptoRow.holds Try.pinned (OpenSpec.upto fnExactShortestForSpec)

/-- 'laws.FnExactTargetsOf', WHERE WHAT IT READS IS OF BULK AT MOST 1048576: true; the input reads as it did. -/
def fnExactTargetsOfUptoRow : OpenClaim := { program := "ytkehfndcphbpaab", sum := "cd7646af65f3f6def2b7ea0a206b137a4ace3e2d642afebab6f378a89561db88", func := "loop.example/g01102/laws.FnExactTargetsOf", spec := "fnExactTargetsOf", unfollowed := true, recurses := true, apart := false, narrowed := true }
def FnExactTargetsOfUptoSaid : Prop := fnExactTargetsOfUptoRow.holds Try.pinned (OpenSpec.upto fnExactTargetsOfSpec)

/-- 'laws.FnExactMergingWord', WHERE WHAT IT READS IS OF BULK AT MOST 1048576: true; the input reads as it did. -/
def fnExactMergingWordUptoRow : OpenClaim := { program := "ytkehfndcphbpaab", sum := "cd7646af65f3f6def2b7ea0a206b137a4ace3e2d642afebab6f378a89561db88", func := "loop.example/g01102/laws.FnExactMergingWord", spec := "fnExactMergingWord", unfollowed := true, recurses := true, apart := false, narrowed := true }
def FnExactMergingWordUptoSaid : Prop := fnExactMergingWordUptoRow.holds Try.pinned (OpenSpec.upto fnExactMergingWordSpec)

/-- 'laws.FnExactPairTable', WHERE WHAT IT READS IS OF BULK AT MOST 1048576: true; the input reads as it did. -/
def fnExactPairTableUptoRow : OpenClaim := { program := "ytkehfndcphbpaab", sum := "cd7646af65f3f6def2b7ea0a206b137a4ace3e2d642afebab6f378a89561db88", func := "loop.example/g01102/laws.FnExactPairTable", spec := "fnExactPairTable", unfollowed := true, recurses := true, apart := false, narrowed := true }
def FnExactPairTableUptoSaid : Prop := fnExactPairTableUptoRow.holds Try.pinned (OpenSpec.upto fnExactPairTableSpec)

/-- 'laws.FnExactCountResets', WHERE WHAT IT READS IS OF BULK AT MOST 1048576: true; the input reads as it did. -/
def fnExactCountResetsUptoRow : OpenClaim := { program := "ytkehfndcphbpaab", sum := "cd7646af65f3f6def2b7ea0a206b137a4ace3e2d642afebab6f378a89561db88", func := "loop.example/g01102/laws.FnExactCountResets", spec := "fnExactCountResets", apart := false, narrowed := true }
def FnExactCountResetsUptoSaid : Prop := fnExactCountResetsUptoRow.holds Try.pinned (OpenSpec.upto fnExactCountResetsSpec)

/-- 'laws.FnExactSlowAutomaton', WHERE WHAT IT READS IS OF BULK AT MOST 1048576: true; the input reads as it did. -/
def fnExactSlowAutomatonUptoRow : OpenClaim := { program := "ytkehfndcphbpaab", sum := "cd7646af65f3f6def2b7ea0a206b137a4ace3e2d642afebab6f378a89561db88", func := "loop.example/g01102/laws.FnExactSlowAutomaton", spec := "fnExactSlowAutomaton", unfollowed := true, recurses := true, apart := false, narrowed := true }
def FnExactSlowAutomatonUptoSaid : Prop := fnExactSlowAutomatonUptoRow.holds Try.pinned (OpenSpec.upto fnExactSlowAutomatonSpec)

/-- 'laws.FnExactResetBound', WHERE WHAT IT READS IS OF BULK AT MOST 1048576: true; the input reads as it did. -/
def fnExactResetBoundUptoRow : OpenClaim := { program := "ytkehfndcphbpaab", sum := "cd7646af65f3f6def2b7ea0a206b137a4ace3e2d642afebab6f378a89561db88", func := "loop.example/g01102/laws.FnExactResetBound", spec := "fnExactResetBound", apart := false, narrowed := true }
def FnExactResetBoundUptoSaid : Prop := fnExactResetBoundUptoRow.holds Try.pinned (OpenSpec.upto fnExactResetBoundSpec)

/-- 'laws.FnSlow', WHERE WHAT IT READS IS OF BULK AT MOST 1048576: true; the input reads as it did. -/
def fnSlowUptoRow : OpenClaim := { program := "ytkehfndcphbpaab", sum := "cd7646af65f3f6def2b7ea0a206b137a4ace3e2d642afebab6f378a89561db88", func := "loop.example/g01102/laws.FnSlow", spec := "fnSlow", unfollowed := true, recurses := true, apart := false, narrowed := true }
def FnSlowUptoSaid : Prop := fnSlowUptoRow.holds Try.pinned (OpenSpec.upto fnSlowSpec)

end Rows
end Go.Proofs.Ytkehfndcphbpaab
