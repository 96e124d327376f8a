/-
  No cell of these rows narrows 'for every input' (looked for: loops, veiled, ifaces, maps, wideKeys, modest, calm, conditions, laid).
  DERIVED. THE GIVEN ROWS OF THIS SEAT. 12 by the template 'for every input the law returns true; each argument reads behind the call as it read before'; 0 by the template 'total and deterministic' (their statements: YtikhfdpmmkjnlaaTotals.lean).
  GIVEN WITH THE SEED: the statements are not yours to turn. If you find one false, say at which input.
  Laid BY PROGRAM, IN A SANDBOX (cutbox-rows.mjs): the forced cells as the released guide's own fill.sh prints them over the translation ea3e5c30bb1cf0de… (all of the seat's roots in one cut). By AI agents, Wed Nov 11 2026. No macro, syntax, notation, axiom, sorry.
-/
import Derived.Test.YtikhfdpmmkjnlaaChecked
import GoSem.Claim
import GoSem.ClaimJoined
import GoSem.ClaimMapViews
import Derived.JoinedTies
import Derived.KernelRfl
namespace Go.Proofs.Ytikhfdpmmkjnlaa
/- THE CELL 'sum', in the pinned program and in every row, IS THE sha256 OF THE DUMP (.gsa) THAT YtikhfdpmmkjnlaaProg.lean LOADS. Nothing in Lean hashes anything: it is a label: what it is worth is what the hold of that sum in a sandbox is worth. -/
noncomputable def Try.pinned : Pinned := { name := "ytikhfdpmmkjnlaa", sum := "ea3e5c30bb1cf0debd7ce112ec1812106e3ff4174bd11b460ac6cc06b97c63f0", checked := Try.checked }
namespace Rows
def none {H : Type} : Left H := { results := [], args := [] }

/-- 'laws.FnExactValidAutomaton': WHATEVER THE INPUT: true; the input reads as it did. -/
def fnExactValidAutomatonSpec : ChangeSpec := { name := "fnExactValidAutomaton", fn := fun _ => fun
  | [d] => { results := [.lit (.bool true)], args := [d] }
  | _ => none }
def fnExactValidAutomatonRow : OpenClaim := { program := "ytikhfdpmmkjnlaa", sum := "ea3e5c30bb1cf0debd7ce112ec1812106e3ff4174bd11b460ac6cc06b97c63f0", func := "loop.example/g01102/laws.FnExactValidAutomaton", spec := "fnExactValidAutomaton", unfollowed := true, recurses := true, apart := false }
def FnExactValidAutomatonSaid : Prop := fnExactValidAutomatonRow.holds Try.pinned (OpenSpec.ofChange fnExactValidAutomatonSpec)

/-- ITS FALSE NEIGHBOUR: 'it returns false'. Refute it at one input. -/
def fnExactValidAutomatonWrong : ChangeSpec := { name := "fnExactValidAutomaton", fn := fun _ => fun
  | [d] => { results := [.lit (.bool false)], args := [d] }
  | _ => none }
def FnExactValidAutomatonWrongFalsely : Prop := fnExactValidAutomatonRow.holds Try.pinned (OpenSpec.ofChange fnExactValidAutomatonWrong)

/-- 'laws.FnExactValidWord': WHATEVER THE INPUT: true; the input reads as it did. -/
def fnExactValidWordSpec : ChangeSpec := { name := "fnExactValidWord", fn := fun _ => fun
  | [d1, d2] => { results := [.lit (.bool true)], args := [d1, d2] }
  | _ => none }
def fnExactValidWordRow : OpenClaim := { program := "ytikhfdpmmkjnlaa", sum := "ea3e5c30bb1cf0debd7ce112ec1812106e3ff4174bd11b460ac6cc06b97c63f0", func := "loop.example/g01102/laws.FnExactValidWord", spec := "fnExactValidWord", unfollowed := true, recurses := true, apart := false }
def FnExactValidWordSaid : Prop := fnExactValidWordRow.holds Try.pinned (OpenSpec.ofChange fnExactValidWordSpec)

/-- ITS FALSE NEIGHBOUR: 'it returns false'. Refute it at one input. -/
def fnExactValidWordWrong : ChangeSpec := { name := "fnExactValidWord", fn := fun _ => fun
  | [d1, d2] => { results := [.lit (.bool false)], args := [d1, d2] }
  | _ => none }
def FnExactValidWordWrongFalsely : Prop := fnExactValidWordRow.holds Try.pinned (OpenSpec.ofChange fnExactValidWordWrong)

/-- 'laws.FnExactActionOf': WHATEVER THE INPUT: true; the input reads as it did. -/
def fnExactActionOfSpec : ChangeSpec := { name := "fnExactActionOf", fn := fun _ => fun
  | [d1, d2] => { results := [.lit (.bool true)], args := [d1, d2] }
  | _ => none }
def fnExactActionOfRow : OpenClaim := { program := "ytikhfdpmmkjnlaa", sum := "ea3e5c30bb1cf0debd7ce112ec1812106e3ff4174bd11b460ac6cc06b97c63f0", func := "loop.example/g01102/laws.FnExactActionOf", spec := "fnExactActionOf", unfollowed := true, recurses := true, apart := false }
def FnExactActionOfSaid : Prop := fnExactActionOfRow.holds Try.pinned (OpenSpec.ofChange fnExactActionOfSpec)

/-- ITS FALSE NEIGHBOUR: 'it returns false'. Refute it at one input. -/
def fnExactActionOfWrong : ChangeSpec := { name := "fnExactActionOf", fn := fun _ => fun
  | [d1, d2] => { results := [.lit (.bool false)], args := [d1, d2] }
  | _ => none }
def FnExactActionOfWrongFalsely : Prop := fnExactActionOfRow.holds Try.pinned (OpenSpec.ofChange fnExactActionOfWrong)

/-- 'laws.FnExactPreimageOf': WHATEVER THE INPUT: true; the input reads as it did. -/
def fnExactPreimageOfSpec : ChangeSpec := { name := "fnExactPreimageOf", fn := fun _ => fun
  | [d1, d2, d3] => { results := [.lit (.bool true)], args := [d1, d2, d3] }
  | _ => none }
def fnExactPreimageOfRow : OpenClaim := { program := "ytikhfdpmmkjnlaa", sum := "ea3e5c30bb1cf0debd7ce112ec1812106e3ff4174bd11b460ac6cc06b97c63f0", func := "loop.example/g01102/laws.FnExactPreimageOf", spec := "fnExactPreimageOf", unfollowed := true, recurses := true, apart := false }
def FnExactPreimageOfSaid : Prop := fnExactPreimageOfRow.holds Try.pinned (OpenSpec.ofChange fnExactPreimageOfSpec)

/-- ITS FALSE NEIGHBOUR: 'it returns false'. Refute it at one input. -/
def fnExactPreimageOfWrong : ChangeSpec := { name := "fnExactPreimageOf", fn := fun _ => fun
  | [d1, d2, d3] => { results := [.lit (.bool false)], args := [d1, d2, d3] }
  | _ => none }
def FnExactPreimageOfWrongFalsely : Prop := fnExactPreimageOfRow.holds Try.pinned (OpenSpec.ofChange fnExactPreimageOfWrong)

/-- 'laws.FnExactImageOf': WHATEVER THE INPUT: true; the input reads as it did. -/
def fnExactImageOfSpec : ChangeSpec := { name := "fnExactImageOf", fn := fun _ => fun
  | [d1, d2, d3] => { results := [.lit (.bool true)], args := [d1, d2, d3] }
  | _ => none }
def fnExactImageOfRow : OpenClaim := { program := "ytikhfdpmmkjnlaa", sum := "ea3e5c30bb1cf0debd7ce112ec1812106e3ff4174bd11b460ac6cc06b97c63f0", func := "loop.example/g01102/laws.FnExactImageOf", spec := "fnExactImageOf", unfollowed := true, recurses := true, apart := false }
def FnExactImageOfSaid : Prop := fnExactImageOfRow.holds Try.pinned (OpenSpec.ofChange fnExactImageOfSpec)

/-- ITS FALSE NEIGHBOUR: 'it returns false'. Refute it at one input. -/
def fnExactImageOfWrong : ChangeSpec := { name := "fnExactImageOf", fn := fun _ => fun
  | [d1, d2, d3] => { results := [.lit (.bool false)], args := [d1, d2, d3] }
  | _ => none }
def FnExactImageOfWrongFalsely : Prop := fnExactImageOfRow.holds Try.pinned (OpenSpec.ofChange fnExactImageOfWrong)

/-- 'laws.FnExactIsCongruence': WHATEVER THE INPUT: true; the input reads as it did. -/
def fnExactIsCongruenceSpec : ChangeSpec := { name := "fnExactIsCongruence", fn := fun _ => fun
  | [d1, d2] => { results := [.lit (.bool true)], args := [d1, d2] }
  | _ => none }
def fnExactIsCongruenceRow : OpenClaim := { program := "ytikhfdpmmkjnlaa", sum := "ea3e5c30bb1cf0debd7ce112ec1812106e3ff4174bd11b460ac6cc06b97c63f0", func := "loop.example/g01102/laws.FnExactIsCongruence", spec := "fnExactIsCongruence", unfollowed := true, recurses := true, apart := false }
def FnExactIsCongruenceSaid : Prop := fnExactIsCongruenceRow.holds Try.pinned (OpenSpec.ofChange fnExactIsCongruenceSpec)

/-- ITS FALSE NEIGHBOUR: 'it returns false'. Refute it at one input. -/
def fnExactIsCongruenceWrong : ChangeSpec := { name := "fnExactIsCongruence", fn := fun _ => fun
  | [d1, d2] => { results := [.lit (.bool false)], args := [d1, d2] }
  | _ => none }
def FnExactIsCongruenceWrongFalsely : Prop := fnExactIsCongruenceRow.holds Try.pinned (OpenSpec.ofChange fnExactIsCongruenceWrong)

/-- 'laws.FnExactIsReset': WHATEVER THE INPUT: true; the input reads as it did. -/
def fnExactIsResetSpec : ChangeSpec := { name := "fnExactIsReset", fn := fun _ => fun
  | [d1, d2] => { results := [.lit (.bool true)], args := [d1, d2] }
  | _ => none }
def fnExactIsResetRow : OpenClaim := { program := "ytikhfdpmmkjnlaa", sum := "ea3e5c30bb1cf0debd7ce112ec1812106e3ff4174bd11b460ac6cc06b97c63f0", func := "loop.example/g01102/laws.FnExactIsReset", spec := "fnExactIsReset", unfollowed := true, recurses := true, apart := false }
def FnExactIsResetSaid : Prop := fnExactIsResetRow.holds Try.pinned (OpenSpec.ofChange fnExactIsResetSpec)

/-- ITS FALSE NEIGHBOUR: 'it returns false'. Refute it at one input. -/
def fnExactIsResetWrong : ChangeSpec := { name := "fnExactIsReset", fn := fun _ => fun
  | [d1, d2] => { results := [.lit (.bool false)], args := [d1, d2] }
  | _ => none }
def FnExactIsResetWrongFalsely : Prop := fnExactIsResetRow.holds Try.pinned (OpenSpec.ofChange fnExactIsResetWrong)

/-- 'laws.FnExactRankOfWord': WHATEVER THE INPUT: true; the input reads as it did. -/
def fnExactRankOfWordSpec : ChangeSpec := { name := "fnExactRankOfWord", fn := fun _ => fun
  | [d1, d2] => { results := [.lit (.bool true)], args := [d1, d2] }
  | _ => none }
def fnExactRankOfWordRow : OpenClaim := { program := "ytikhfdpmmkjnlaa", sum := "ea3e5c30bb1cf0debd7ce112ec1812106e3ff4174bd11b460ac6cc06b97c63f0", func := "loop.example/g01102/laws.FnExactRankOfWord", spec := "fnExactRankOfWord", unfollowed := true, recurses := true, apart := false }
def FnExactRankOfWordSaid : Prop := fnExactRankOfWordRow.holds Try.pinned (OpenSpec.ofChange fnExactRankOfWordSpec)

/-- ITS FALSE NEIGHBOUR: 'it returns false'. Refute it at one input. -/
def fnExactRankOfWordWrong : ChangeSpec := { name := "fnExactRankOfWord", fn := fun _ => fun
  | [d1, d2] => { results := [.lit (.bool false)], args := [d1, d2] }
  | _ => none }
def FnExactRankOfWordWrongFalsely : Prop := fnExactRankOfWordRow.holds Try.pinned (OpenSpec.ofChange fnExactRankOfWordWrong)

/-- 'laws.FnExactCanReset': WHATEVER THE INPUT: true; the input reads as it did. -/
def fnExactCanResetSpec : ChangeSpec := { name := "fnExactCanReset", fn := fun _ => fun
  | [d] => { results := [.lit (.bool true)], args := [d] }
  | _ => none }
def fnExactCanResetRow : OpenClaim := { program := "ytikhfdpmmkjnlaa", sum := "ea3e5c30bb1cf0debd7ce112ec1812106e3ff4174bd11b460ac6cc06b97c63f0", func := "loop.example/g01102/laws.FnExactCanReset", spec := "fnExactCanReset", unfollowed := true, recurses := true, apart := false }
def FnExactCanResetSaid : Prop := fnExactCanResetRow.holds Try.pinned (OpenSpec.ofChange fnExactCanResetSpec)

/-- ITS FALSE NEIGHBOUR: 'it returns false'. Refute it at one input. -/
def fnExactCanResetWrong : ChangeSpec := { name := "fnExactCanReset", fn := fun _ => fun
  | [d] => { results := [.lit (.bool false)], args := [d] }
  | _ => none }
def FnExactCanResetWrongFalsely : Prop := fnExactCanResetRow.holds Try.pinned (OpenSpec.ofChange fnExactCanResetWrong)

/-- 'laws.FnExactShortestReset': WHATEVER THE INPUT: true; the input reads as it did. -/
def fnExactShortestResetSpec : ChangeSpec := { name := "fnExactShortestReset", fn := fun _ => fun
  | [d] => { results := [.lit (.bool true)], args := [d] }
  | _ => none }
def fnExactShortestResetRow : OpenClaim := { program := "ytikhfdpmmkjnlaa", sum := "ea3e5c30bb1cf0debd7ce112ec1812106e3ff4174bd11b460ac6cc06b97c63f0", func := "loop.example/g01102/laws.FnExactShortestReset", spec := "fnExactShortestReset", unfollowed := true, recurses := true, apart := false }
def FnExactShortestResetSaid : Prop := fnExactShortestResetRow.holds Try.pinned (OpenSpec.ofChange fnExactShortestResetSpec)

/-- ITS FALSE NEIGHBOUR: 'it returns false'. Refute it at one input. -/
def fnExactShortestResetWrong : ChangeSpec := { name := "fnExactShortestReset", fn := fun _ => fun
  | [d] => { results := [.lit (.bool false)], args := [d] }
  | _ => none }
def FnExactShortestResetWrongFalsely : Prop := fnExactShortestResetRow.holds Try.pinned (OpenSpec.ofChange fnExactShortestResetWrong)

/-- 'laws.FnExactMergingWord': WHATEVER THE INPUT: true; the input reads as it did. -/
def fnExactMergingWordSpec : ChangeSpec := { name := "fnExactMergingWord", fn := fun _ => fun
  | [d1, d2, d3] => { results := [.lit (.bool true)], args := [d1, d2, d3] }
  | _ => none }
def fnExactMergingWordRow : OpenClaim := { program := "ytikhfdpmmkjnlaa", sum := "ea3e5c30bb1cf0debd7ce112ec1812106e3ff4174bd11b460ac6cc06b97c63f0", func := "loop.example/g01102/laws.FnExactMergingWord", spec := "fnExactMergingWord", unfollowed := true, recurses := true, apart := false }
def FnExactMergingWordSaid : Prop := fnExactMergingWordRow.holds Try.pinned (OpenSpec.ofChange fnExactMergingWordSpec)

/-- ITS FALSE NEIGHBOUR: 'it returns false'. Refute it at one input. -/
def fnExactMergingWordWrong : ChangeSpec := { name := "fnExactMergingWord", fn := fun _ => fun
  | [d1, d2, d3] => { results := [.lit (.bool false)], args := [d1, d2, d3] }
  | _ => none }
def FnExactMergingWordWrongFalsely : Prop := fnExactMergingWordRow.holds Try.pinned (OpenSpec.ofChange fnExactMergingWordWrong)

/-- 'laws.FnExactShortestTo': WHATEVER THE INPUT: true; the input reads as it did. -/
def fnExactShortestToSpec : ChangeSpec := { name := "fnExactShortestTo", fn := fun _ => fun
  | [d1, d2] => { results := [.lit (.bool true)], args := [d1, d2] }
  | _ => none }
def fnExactShortestToRow : OpenClaim := { program := "ytikhfdpmmkjnlaa", sum := "ea3e5c30bb1cf0debd7ce112ec1812106e3ff4174bd11b460ac6cc06b97c63f0", func := "loop.example/g01102/laws.FnExactShortestTo", spec := "fnExactShortestTo", unfollowed := true, recurses := true, apart := false }
def FnExactShortestToSaid : Prop := fnExactShortestToRow.holds Try.pinned (OpenSpec.ofChange fnExactShortestToSpec)

/-- ITS FALSE NEIGHBOUR: 'it returns false'. Refute it at one input. -/
def fnExactShortestToWrong : ChangeSpec := { name := "fnExactShortestTo", fn := fun _ => fun
  | [d1, d2] => { results := [.lit (.bool false)], args := [d1, d2] }
  | _ => none }
def FnExactShortestToWrongFalsely : Prop := fnExactShortestToRow.holds Try.pinned (OpenSpec.ofChange fnExactShortestToWrong)

/- THE SECOND FORM. 'bulk': how many values and letters a reading holds, each counted each time it is reached (what is shared counts as often as it is met; a slice's spare places count too). A statement '..UptoSaid' is the law's where the arguments, and the package variables that the reading takes, are together of bulk at most 1048576: NARROWER than '..Said'. Prove '..Said' where nothing that the law and all that it calls make is longer than what came in: it says more and counts as full. Else prove '..UptoSaid'. A law counts once. -/
mutual
def uptoBulk {H : Type} : DataW H → Nat
  | .lit (.string bytes) => bytes.length + 1
  | .lit _ => 1
  | .nil => 1
  | .ptr d => uptoBulk d + 1
  | .slice elems spare => uptoBulkAll elems + uptoBulkAll spare + 1
  | .agg parts => uptoBulkAll parts + 1
  | .iface _ d => uptoBulk d + 1
  | .map entries => uptoBulkEntries entries + 1
  | .held _ => 1
def uptoBulkAll {H : Type} : List (DataW H) → Nat
  | [] => 0
  | d :: r => uptoBulk d + uptoBulkAll r
def uptoBulkEntries {H : Type} : List (Lit × DataW H) → Nat
  | [] => 0
  | x :: r => uptoBulkEntry x + uptoBulkEntries r
def uptoBulkEntry {H : Type} : Lit × DataW H → Nat
  | (.string bytes, d) => bytes.length + uptoBulk d + 1
  | (_, d) => uptoBulk d + 1
 end
def uptoSmall : (H : Type) → List (DataW H) → Bool := fun _ ds => decide (uptoBulkAll ds ≤ 1048576)
def OpenSpec.upto (s : _root_.Go.ChangeSpec) : _root_.Go.OpenSpec := { _root_.Go.OpenSpec.ofChange s with cond := some uptoSmall }

/-- 'laws.FnExactValidAutomaton', WHERE WHAT IT READS IS OF BULK AT MOST 1048576: true; the input reads as it did. -/
def fnExactValidAutomatonUptoRow : OpenClaim := { program := "ytikhfdpmmkjnlaa", sum := "ea3e5c30bb1cf0debd7ce112ec1812106e3ff4174bd11b460ac6cc06b97c63f0", func := "loop.example/g01102/laws.FnExactValidAutomaton", spec := "fnExactValidAutomaton", unfollowed := true, recurses := true, apart := false, narrowed := true }
def FnExactValidAutomatonUptoSaid : Prop := fnExactValidAutomatonUptoRow.holds Try.pinned (OpenSpec.upto fnExactValidAutomatonSpec)

/-- 'laws.FnExactValidWord', WHERE WHAT IT READS IS OF BULK AT MOST 1048576: true; the input reads as it did. -/
def fnExactValidWordUptoRow : OpenClaim := { program := "ytikhfdpmmkjnlaa", sum := "ea3e5c30bb1cf0debd7ce112ec1812106e3ff4174bd11b460ac6cc06b97c63f0", func := "loop.example/g01102/laws.FnExactValidWord", spec := "fnExactValidWord", unfollowed := true, recurses := true, apart := false, narrowed := true }
def FnExactValidWordUptoSaid : Prop := fnExactValidWordUptoRow.holds Try.pinned (OpenSpec.upto fnExactValidWordSpec)

/-- 'laws.FnExactActionOf', WHERE WHAT IT READS IS OF BULK AT MOST 1048576: true; the input reads as it did. -/
def fnExactActionOfUptoRow : OpenClaim := { program := "ytikhfdpmmkjnlaa", sum := "ea3e5c30bb1cf0debd7ce112ec1812106e3ff4174bd11b460ac6cc06b97c63f0", func := "loop.example/g01102/laws.FnExactActionOf", spec := "fnExactActionOf", unfollowed := true, recurses := true, apart := false, narrowed := true }
def FnExactActionOfUptoSaid : Prop := fnExactActionOfUptoRow.holds Try.pinned (OpenSpec.upto fnExactActionOfSpec)

/-- 'laws.FnExactPreimageOf', WHERE WHAT IT READS IS OF BULK AT MOST 1048576: true; the input reads as it did. -/
def fnExactPreimageOfUptoRow : OpenClaim := { program := "ytikhfdpmmkjnlaa", sum := "ea3e5c30bb1cf0debd7ce112ec1812106e3ff4174bd11b460ac6cc06b97c63f0", func := "loop.example/g01102/laws.FnExactPreimageOf", spec := "fnExactPreimageOf", unfollowed := true, recurses := true, apart := false, narrowed := true }
def FnExactPreimageOfUptoSaid : Prop := fnExactPreimageOfUptoRow.holds Try.pinned (OpenSpec.upto fnExactPreimageOfSpec)

/-- 'laws.FnExactImageOf', WHERE WHAT IT READS IS OF BULK AT MOST 1048576: true; the input reads as it did. -/
def fnExactImageOfUptoRow : OpenClaim := { program := "ytikhfdpmmkjnlaa", sum := "ea3e5c30bb1cf0debd7ce112ec1812106e3ff4174bd11b460ac6cc06b97c63f0", func := "loop.example/g01102/laws.FnExactImageOf", spec := "fnExactImageOf", unfollowed := true, recurses := true, apart := false, narrowed := true }
def FnExactImageOfUptoSaid : Prop := fnExactImageOfUptoRow.holds Try.pinned (OpenSpec.upto fnExactImageOfSpec)

/-- 'laws.FnExactIsCongruence', WHERE WHAT IT READS IS OF BULK AT MOST 1048576: true; the input reads as it did. -/
def fnExactIsCongruenceUptoRow : OpenClaim := { program := "ytikhfdpmmkjnlaa", sum := "ea3e5c30bb1cf0debd7ce112ec1812106e3ff4174bd11b460ac6cc06b97c63f0", func := "loop.example/g01102/laws.FnExactIsCongruence", spec := "fnExactIsCongruence", unfollowed := true, recurses := true, apart := false, narrowed := true }
def FnExactIsCongruenceUptoSaid : Prop := fnExactIsCongruenceUptoRow.holds Try.pinned (OpenSpec.upto fnExactIsCongruenceSpec)

/-- 'laws.FnExactIsReset', WHERE WHAT IT READS IS OF BULK AT MOST 1048576: true; the input reads as it did. -/
def fnExactIsResetUptoRow : OpenClaim := { program := "ytikhfdpmmkjnlaa", sum := "ea3e5c30bb1cf0debd7ce112ec1812106e3ff4174bd11b460ac6cc06b97c63f0", func := "loop.example/g01102/laws.FnExactIsReset", spec := "fnExactIsReset", unfollowed := true, recurses := true, apart := false, narrowed := true }
def FnExactIsResetUptoSaid : Prop := fnExactIsResetUptoRow.holds Try.pinned (OpenSpec.upto fnExactIsResetSpec)

/-- 'laws.FnExactRankOfWord', WHERE WHAT IT READS IS OF BULK AT MOST 1048576: true; the input reads as it did. -/
def fnExactRankOfWordUptoRow : OpenClaim := { program := "ytikhfdpmmkjnlaa", sum := "ea3e5c30bb1cf0debd7ce112ec1812106e3ff4174bd11b460ac6cc06b97c63f0", func := "loop.example/g01102/laws.FnExactRankOfWord", spec := "fnExactRankOfWord", unfollowed := true, recurses := true, apart := false, narrowed := true }
def FnExactRankOfWordUptoSaid : Prop := fnExactRankOfWordUptoRow.holds Try.pinned (OpenSpec.upto fnExactRankOfWordSpec)

/-- 'laws.FnExactCanReset', WHERE WHAT IT READS IS OF BULK AT MOST 1048576: true; the input reads as it did. -/
def fnExactCanResetUptoRow : OpenClaim := { program := "ytikhfdpmmkjnlaa", sum := "ea3e5c30bb1cf0debd7ce112ec1812106e3ff4174bd11b460ac6cc06b97c63f0", func := "loop.example/g01102/laws.FnExactCanReset", spec := "fnExactCanReset", unfollowed := true, recurses := true, apart := false, narrowed := true }
def FnExactCanResetUptoSaid : Prop := fnExactCanResetUptoRow.holds Try.pinned (OpenSpec.upto fnExactCanResetSpec)

/-- 'laws.FnExactShortestReset', WHERE WHAT IT READS IS OF BULK AT MOST 1048576: true; the input reads as it did. -/
def fnExactShortestResetUptoRow : OpenClaim := { program := "ytikhfdpmmkjnlaa", sum := "ea3e5c30bb1cf0debd7ce112ec1812106e3ff4174bd11b460ac6cc06b97c63f0", func := "loop.example/g01102/laws.FnExactShortestReset", spec := "fnExactShortestReset", unfollowed := true, recurses := true, apart := false, narrowed := true }
def FnExactShortestResetUptoSaid : Prop := fnExactShortestResetUptoRow.holds Try.pinned (OpenSpec.upto fnExactShortestResetSpec)

/-- 'laws.FnExactMergingWord', WHERE WHAT IT READS IS OF BULK AT MOST 1048576: true; the input reads as it did. -/
def fnExactMergingWordUptoRow : OpenClaim := { program := "ytikhfdpmmkjnlaa", sum := "ea3e5c30bb1cf0debd7ce112ec1812106e3ff4174bd11b460ac6cc06b97c63f0", func := "loop.example/g01102/laws.FnExactMergingWord", spec := "fnExactMergingWord", unfollowed := true, recurses := true, apart := false, narrowed := true }
def FnExactMergingWordUptoSaid : Prop := fnExactMergingWordUptoRow.holds Try.pinned (OpenSpec.upto fnExactMergingWordSpec)

/-- 'laws.FnExactShortestTo', WHERE WHAT IT READS IS OF BULK AT MOST 1048576: true; the input reads as it did. -/
def fnExactShortestToUptoRow : OpenClaim := { program := "ytikhfdpmmkjnlaa", sum := "ea3e5c30bb1cf0debd7ce112ec1812106e3ff4174bd11b460ac6cc06b97c63f0", func := "loop.example/g01102/laws.FnExactShortestTo", spec := "fnExactShortestTo", unfollowed := true, recurses := true, apart := false, narrowed := true }
def FnExactShortestToUptoSaid : Prop := fnExactShortestToUptoRow.holds Try.pinned (OpenSpec.upto fnExactShortestToSpec)

end Rows
end Go.Proofs.Ytikhfdpmmkjnlaa
