/-
  No cell of these rows narrows 'for every input' (looked for: loops, veiled, ifaces, maps, wideKeys, modest, calm, conditions, laid).
  DERIVED. THE GIVEN ROWS OF THIS SEAT. 12 by the template 'for every input the law returns true; each argument reads behind the call as it read before'; 0 by the template 'total and deterministic' (their statements: YtkdmmdlnlocamaaTotals.lean).
  GIVEN WITH THE SEED: the statements are not yours to turn. If you find one false, say at which input.
  Laid BY PROGRAM, IN A SANDBOX (cutbox-rows.mjs): the forced cells as the released guide's own fill.sh prints them over the translation cb90751185d70a2e… (all of the seat's roots in one cut). By AI agents, Wed Nov 11 2026. No macro, syntax, notation, axiom, sorry.
-/
import Derived.Test.YtkdmmdlnlocamaaChecked
import GoSem.Claim
import GoSem.ClaimJoined
import GoSem.ClaimMapViews
import Derived.JoinedTies
import Derived.KernelRfl
namespace Go.Proofs.Ytkdmmdlnlocamaa
/- THE CELL 'sum', in the pinned program and in every row, IS THE sha256 OF THE DUMP (.gsa) THAT YtkdmmdlnlocamaaProg.lean LOADS. Nothing in Lean hashes anything: it is a label: what it is worth is what the hold of that sum in a sandbox is worth. -/
noncomputable def Try.pinned : Pinned := { name := "ytkdmmdlnlocamaa", sum := "cb90751185d70a2e851f9fd5c614f0519fe975c4a22ff3cbae16810aba66a5d1", checked := Try.checked }
namespace Rows
def none {H : Type} : Left H := { results := [], args := [] }

/-- 'laws.FnExactIsReset': WHATEVER THE INPUT: true; the input reads as it did. -/
def fnExactIsResetSpec : ChangeSpec := { name := "fnExactIsReset", fn := fun _ => fun
  | [d1, d2] => { results := [.lit (.bool true)], args := [d1, d2] }
  | _ => none }
def fnExactIsResetRow : OpenClaim := { program := "ytkdmmdlnlocamaa", sum := "cb90751185d70a2e851f9fd5c614f0519fe975c4a22ff3cbae16810aba66a5d1", func := "loop.example/g01102/laws.FnExactIsReset", spec := "fnExactIsReset", apart := false }
def FnExactIsResetSaid : Prop := fnExactIsResetRow.holds Try.pinned (OpenSpec.ofChange fnExactIsResetSpec)

/-- ITS FALSE NEIGHBOUR: 'it returns false'. Refute it at one input. -/
def fnExactIsResetWrong : ChangeSpec := { name := "fnExactIsReset", fn := fun _ => fun
  | [d1, d2] => { results := [.lit (.bool false)], args := [d1, d2] }
  | _ => none }
def FnExactIsResetWrongFalsely : Prop := fnExactIsResetRow.holds Try.pinned (OpenSpec.ofChange fnExactIsResetWrong)

/-- 'laws.FnExactRankOfWord': WHATEVER THE INPUT: true; the input reads as it did. -/
def fnExactRankOfWordSpec : ChangeSpec := { name := "fnExactRankOfWord", fn := fun _ => fun
  | [d1, d2] => { results := [.lit (.bool true)], args := [d1, d2] }
  | _ => none }
def fnExactRankOfWordRow : OpenClaim := { program := "ytkdmmdlnlocamaa", sum := "cb90751185d70a2e851f9fd5c614f0519fe975c4a22ff3cbae16810aba66a5d1", func := "loop.example/g01102/laws.FnExactRankOfWord", spec := "fnExactRankOfWord", apart := false }
def FnExactRankOfWordSaid : Prop := fnExactRankOfWordRow.holds Try.pinned (OpenSpec.ofChange fnExactRankOfWordSpec)

/-- ITS FALSE NEIGHBOUR: 'it returns false'. Refute it at one input. -/
def fnExactRankOfWordWrong : ChangeSpec := { name := "fnExactRankOfWord", fn := fun _ => fun
  | [d1, d2] => { results := [.lit (.bool false)], args := [d1, d2] }
  | _ => none }
def FnExactRankOfWordWrongFalsely : Prop := fnExactRankOfWordRow.holds Try.pinned (OpenSpec.ofChange fnExactRankOfWordWrong)

/-- 'laws.FnExactKernelOf': WHATEVER THE INPUT: true; the input reads as it did. -/
def fnExactKernelOfSpec : ChangeSpec := { name := "fnExactKernelOf", fn := fun _ => fun
  | [d1, d2] => { results := [.lit (.bool true)], args := [d1, d2] }
  | _ => none }
def fnExactKernelOfRow : OpenClaim := { program := "ytkdmmdlnlocamaa", sum := "cb90751185d70a2e851f9fd5c614f0519fe975c4a22ff3cbae16810aba66a5d1", func := "loop.example/g01102/laws.FnExactKernelOf", spec := "fnExactKernelOf", apart := false }
def FnExactKernelOfSaid : Prop := fnExactKernelOfRow.holds Try.pinned (OpenSpec.ofChange fnExactKernelOfSpec)

/-- ITS FALSE NEIGHBOUR: 'it returns false'. Refute it at one input. -/
def fnExactKernelOfWrong : ChangeSpec := { name := "fnExactKernelOf", fn := fun _ => fun
  | [d1, d2] => { results := [.lit (.bool false)], args := [d1, d2] }
  | _ => none }
def FnExactKernelOfWrongFalsely : Prop := fnExactKernelOfRow.holds Try.pinned (OpenSpec.ofChange fnExactKernelOfWrong)

/-- 'laws.FnExactProductOf': WHATEVER THE INPUT: true; the input reads as it did. -/
def fnExactProductOfSpec : ChangeSpec := { name := "fnExactProductOf", fn := fun _ => fun
  | [d1, d2] => { results := [.lit (.bool true)], args := [d1, d2] }
  | _ => none }
def fnExactProductOfRow : OpenClaim := { program := "ytkdmmdlnlocamaa", sum := "cb90751185d70a2e851f9fd5c614f0519fe975c4a22ff3cbae16810aba66a5d1", func := "loop.example/g01102/laws.FnExactProductOf", spec := "fnExactProductOf", unfollowed := true, recurses := true, apart := false }
def FnExactProductOfSaid : Prop := fnExactProductOfRow.holds Try.pinned (OpenSpec.ofChange fnExactProductOfSpec)

/-- ITS FALSE NEIGHBOUR: 'it returns false'. Refute it at one input. -/
def fnExactProductOfWrong : ChangeSpec := { name := "fnExactProductOf", fn := fun _ => fun
  | [d1, d2] => { results := [.lit (.bool false)], args := [d1, d2] }
  | _ => none }
def FnExactProductOfWrongFalsely : Prop := fnExactProductOfRow.holds Try.pinned (OpenSpec.ofChange fnExactProductOfWrong)

/-- 'laws.FnExactCanReset': WHATEVER THE INPUT: true; the input reads as it did. -/
def fnExactCanResetSpec : ChangeSpec := { name := "fnExactCanReset", fn := fun _ => fun
  | [d] => { results := [.lit (.bool true)], args := [d] }
  | _ => none }
def fnExactCanResetRow : OpenClaim := { program := "ytkdmmdlnlocamaa", sum := "cb90751185d70a2e851f9fd5c614f0519fe975c4a22ff3cbae16810aba66a5d1", func := "loop.example/g01102/laws.FnExactCanReset", spec := "fnExactCanReset", unfollowed := true, recurses := true, apart := false }
def FnExactCanResetSaid : Prop := fnExactCanResetRow.holds Try.pinned (OpenSpec.ofChange fnExactCanResetSpec)

/-- ITS FALSE NEIGHBOUR: 'it returns false'. Refute it at one input. -/
def fnExactCanResetWrong : ChangeSpec := { name := "fnExactCanReset", fn := fun _ => fun
  | [d] => { results := [.lit (.bool false)], args := [d] }
  | _ => none }
def FnExactCanResetWrongFalsely : Prop := fnExactCanResetRow.holds Try.pinned (OpenSpec.ofChange fnExactCanResetWrong)

/-- 'laws.FnExactShortestReset': WHATEVER THE INPUT: true; the input reads as it did. -/
def fnExactShortestResetSpec : ChangeSpec := { name := "fnExactShortestReset", fn := fun _ => fun
  | [d] => { results := [.lit (.bool true)], args := [d] }
  | _ => none }
def fnExactShortestResetRow : OpenClaim := { program := "ytkdmmdlnlocamaa", sum := "cb90751185d70a2e851f9fd5c614f0519fe975c4a22ff3cbae16810aba66a5d1", func := "loop.example/g01102/laws.FnExactShortestReset", spec := "fnExactShortestReset", unfollowed := true, recurses := true, apart := false }
def FnExactShortestResetSaid : Prop := fnExactShortestResetRow.holds Try.pinned (OpenSpec.ofChange fnExactShortestResetSpec)

/-- ITS FALSE NEIGHBOUR: 'it returns false'. Refute it at one input. -/
def fnExactShortestResetWrong : ChangeSpec := { name := "fnExactShortestReset", fn := fun _ => fun
  | [d] => { results := [.lit (.bool false)], args := [d] }
  | _ => none }
def FnExactShortestResetWrongFalsely : Prop := fnExactShortestResetRow.holds Try.pinned (OpenSpec.ofChange fnExactShortestResetWrong)

/-- 'laws.FnExactShortestTo': WHATEVER THE INPUT: true; the input reads as it did. -/
def fnExactShortestToSpec : ChangeSpec := { name := "fnExactShortestTo", fn := fun _ => fun
  | [d1, d2] => { results := [.lit (.bool true)], args := [d1, d2] }
  | _ => none }
def fnExactShortestToRow : OpenClaim := { program := "ytkdmmdlnlocamaa", sum := "cb90751185d70a2e851f9fd5c614f0519fe975c4a22ff3cbae16810aba66a5d1", func := "loop.example/g01102/laws.FnExactShortestTo", spec := "fnExactShortestTo", unfollowed := true, recurses := true, apart := false }
def FnExactShortestToSaid : Prop := fnExactShortestToRow.holds Try.pinned (OpenSpec.ofChange fnExactShortestToSpec)

/-- ITS FALSE NEIGHBOUR: 'it returns false'. Refute it at one input. -/
def fnExactShortestToWrong : ChangeSpec := { name := "fnExactShortestTo", fn := fun _ => fun
  | [d1, d2] => { results := [.lit (.bool false)], args := [d1, d2] }
  | _ => none }
def FnExactShortestToWrongFalsely : Prop := fnExactShortestToRow.holds Try.pinned (OpenSpec.ofChange fnExactShortestToWrong)

/-- 'laws.FnExactTargetsOf': WHATEVER THE INPUT: true; the input reads as it did. -/
def fnExactTargetsOfSpec : ChangeSpec := { name := "fnExactTargetsOf", fn := fun _ => fun
  | [d] => { results := [.lit (.bool true)], args := [d] }
  | _ => none }
def fnExactTargetsOfRow : OpenClaim := { program := "ytkdmmdlnlocamaa", sum := "cb90751185d70a2e851f9fd5c614f0519fe975c4a22ff3cbae16810aba66a5d1", func := "loop.example/g01102/laws.FnExactTargetsOf", spec := "fnExactTargetsOf", unfollowed := true, recurses := true, apart := false }
def FnExactTargetsOfSaid : Prop := fnExactTargetsOfRow.holds Try.pinned (OpenSpec.ofChange fnExactTargetsOfSpec)

/-- ITS FALSE NEIGHBOUR: 'it returns false'. Refute it at one input. -/
def fnExactTargetsOfWrong : ChangeSpec := { name := "fnExactTargetsOf", fn := fun _ => fun
  | [d] => { results := [.lit (.bool false)], args := [d] }
  | _ => none }
def FnExactTargetsOfWrongFalsely : Prop := fnExactTargetsOfRow.holds Try.pinned (OpenSpec.ofChange fnExactTargetsOfWrong)

/-- 'laws.FnExactMergingWord': WHATEVER THE INPUT: true; the input reads as it did. -/
def fnExactMergingWordSpec : ChangeSpec := { name := "fnExactMergingWord", fn := fun _ => fun
  | [d1, d2, d3] => { results := [.lit (.bool true)], args := [d1, d2, d3] }
  | _ => none }
def fnExactMergingWordRow : OpenClaim := { program := "ytkdmmdlnlocamaa", sum := "cb90751185d70a2e851f9fd5c614f0519fe975c4a22ff3cbae16810aba66a5d1", func := "loop.example/g01102/laws.FnExactMergingWord", spec := "fnExactMergingWord", unfollowed := true, recurses := true, apart := false }
def FnExactMergingWordSaid : Prop := fnExactMergingWordRow.holds Try.pinned (OpenSpec.ofChange fnExactMergingWordSpec)

/-- ITS FALSE NEIGHBOUR: 'it returns false'. Refute it at one input. -/
def fnExactMergingWordWrong : ChangeSpec := { name := "fnExactMergingWord", fn := fun _ => fun
  | [d1, d2, d3] => { results := [.lit (.bool false)], args := [d1, d2, d3] }
  | _ => none }
def FnExactMergingWordWrongFalsely : Prop := fnExactMergingWordRow.holds Try.pinned (OpenSpec.ofChange fnExactMergingWordWrong)

/-- 'laws.FnExactRankOf': WHATEVER THE INPUT: true; the input reads as it did. -/
def fnExactRankOfSpec : ChangeSpec := { name := "fnExactRankOf", fn := fun _ => fun
  | [d] => { results := [.lit (.bool true)], args := [d] }
  | _ => none }
def fnExactRankOfRow : OpenClaim := { program := "ytkdmmdlnlocamaa", sum := "cb90751185d70a2e851f9fd5c614f0519fe975c4a22ff3cbae16810aba66a5d1", func := "loop.example/g01102/laws.FnExactRankOf", spec := "fnExactRankOf", unfollowed := true, recurses := true, apart := false }
def FnExactRankOfSaid : Prop := fnExactRankOfRow.holds Try.pinned (OpenSpec.ofChange fnExactRankOfSpec)

/-- ITS FALSE NEIGHBOUR: 'it returns false'. Refute it at one input. -/
def fnExactRankOfWrong : ChangeSpec := { name := "fnExactRankOf", fn := fun _ => fun
  | [d] => { results := [.lit (.bool false)], args := [d] }
  | _ => none }
def FnExactRankOfWrongFalsely : Prop := fnExactRankOfRow.holds Try.pinned (OpenSpec.ofChange fnExactRankOfWrong)

/-- 'laws.FnExactRankOfSet': WHATEVER THE INPUT: true; the input reads as it did. -/
def fnExactRankOfSetSpec : ChangeSpec := { name := "fnExactRankOfSet", fn := fun _ => fun
  | [d1, d2] => { results := [.lit (.bool true)], args := [d1, d2] }
  | _ => none }
def fnExactRankOfSetRow : OpenClaim := { program := "ytkdmmdlnlocamaa", sum := "cb90751185d70a2e851f9fd5c614f0519fe975c4a22ff3cbae16810aba66a5d1", func := "loop.example/g01102/laws.FnExactRankOfSet", spec := "fnExactRankOfSet", unfollowed := true, recurses := true, apart := false }
def FnExactRankOfSetSaid : Prop := fnExactRankOfSetRow.holds Try.pinned (OpenSpec.ofChange fnExactRankOfSetSpec)

/-- ITS FALSE NEIGHBOUR: 'it returns false'. Refute it at one input. -/
def fnExactRankOfSetWrong : ChangeSpec := { name := "fnExactRankOfSet", fn := fun _ => fun
  | [d1, d2] => { results := [.lit (.bool false)], args := [d1, d2] }
  | _ => none }
def FnExactRankOfSetWrongFalsely : Prop := fnExactRankOfSetRow.holds Try.pinned (OpenSpec.ofChange fnExactRankOfSetWrong)

/-- 'laws.FnExactRankWord': WHATEVER THE INPUT: true; the input reads as it did. -/
def fnExactRankWordSpec : ChangeSpec := { name := "fnExactRankWord", fn := fun _ => fun
  | [d] => { results := [.lit (.bool true)], args := [d] }
  | _ => none }
def fnExactRankWordRow : OpenClaim := { program := "ytkdmmdlnlocamaa", sum := "cb90751185d70a2e851f9fd5c614f0519fe975c4a22ff3cbae16810aba66a5d1", func := "loop.example/g01102/laws.FnExactRankWord", spec := "fnExactRankWord", unfollowed := true, recurses := true, apart := false }
def FnExactRankWordSaid : Prop := fnExactRankWordRow.holds Try.pinned (OpenSpec.ofChange fnExactRankWordSpec)

/-- ITS FALSE NEIGHBOUR: 'it returns false'. Refute it at one input. -/
def fnExactRankWordWrong : ChangeSpec := { name := "fnExactRankWord", fn := fun _ => fun
  | [d] => { results := [.lit (.bool false)], args := [d] }
  | _ => none }
def FnExactRankWordWrongFalsely : Prop := fnExactRankWordRow.holds Try.pinned (OpenSpec.ofChange fnExactRankWordWrong)

/- THE SECOND FORM. 'bulk': how many values and letters a reading holds, each counted each time it is reached (what is shared counts as often as it is met; a slice's spare places count too). A statement '..UptoSaid' is the law's where the arguments, and the package variables that the reading takes, are together of bulk at most 1048576: NARROWER than '..Said'. Prove '..Said' where nothing that the law and all that it calls make is longer than what came in: it says more and counts as full. Else prove '..UptoSaid'. A law counts once. -/
mutual
def uptoBulk {H : Type} : DataW H → Nat
  | .lit (.string bytes) => bytes.length + 1
  | .lit _ => 1
  | .nil => 1
  | .ptr d => uptoBulk d + 1
  | .slice elems spare => uptoBulkAll elems + uptoBulkAll spare + 1
  | .agg parts => uptoBulkAll parts + 1
  | .iface _ d => uptoBulk d + 1
  | .map entries => uptoBulkEntries entries + 1
  | .held _ => 1
def uptoBulkAll {H : Type} : List (DataW H) → Nat
  | [] => 0
  | d :: r => uptoBulk d + uptoBulkAll r
def uptoBulkEntries {H : Type} : List (Lit × DataW H) → Nat
  | [] => 0
  | x :: r => uptoBulkEntry x + uptoBulkEntries r
def uptoBulkEntry {H : Type} : Lit × DataW H → Nat
  | (.string bytes, d) => bytes.length + uptoBulk d + 1
  | (_, d) => uptoBulk d + 1
 end
def uptoSmall : (H : Type) → List (DataW H) → Bool := fun _ ds => decide (uptoBulkAll ds ≤ 1048576)
def OpenSpec.upto (s : _root_.Go.ChangeSpec) : _root_.Go.OpenSpec := { _root_.Go.OpenSpec.ofChange s with cond := some uptoSmall }

/-- 'laws.FnExactIsReset', WHERE WHAT IT READS IS OF BULK AT MOST 1048576: true; the input reads as it did. -/
def fnExactIsResetUptoRow : OpenClaim := { program := "ytkdmmdlnlocamaa", sum := "cb90751185d70a2e851f9fd5c614f0519fe975c4a22ff3cbae16810aba66a5d1", func := "loop.example/g01102/laws.FnExactIsReset", spec := "fnExactIsReset", apart := false, narrowed := true }
def FnExactIsResetUptoSaid : Prop := fnExactIsResetUptoRow.holds Try.pinned (OpenSpec.upto fnExactIsResetSpec)

/-- 'laws.FnExactRankOfWord', WHERE WHAT IT READS IS OF BULK AT MOST 1048576: true; the input reads as it did. -/
def fnExactRankOfWordUptoRow : OpenClaim := { program := "ytkdmmdlnlocamaa", sum := "cb90751185d70a2e851f9fd5c614f0519fe975c4a22ff3cbae16810aba66a5d1", func := "loop.example/g01102/laws.FnExactRankOfWord", spec := "fnExactRankOfWord", apart := false, narrowed := true }
def FnExactRankOfWordUptoSaid : Prop := fnExactRankOfWordUptoRow.holds Try.pinned (OpenSpec.upto fnExactRankOfWordSpec)

/-- 'laws.FnExactKernelOf', WHERE WHAT IT READS IS OF BULK AT MOST 1048576: true; the input reads as it did. -/
def fnExactKernelOfUptoRow : OpenClaim := { program := "ytkdmmdlnlocamaa", sum := "cb90751185d70a2e851f9fd5c614f0519fe975c4a22ff3cbae16810aba66a5d1", func := "loop.example/g01102/laws.FnExactKernelOf", spec := "fnExactKernelOf", apart := false, narrowed := true }
def FnExactKernelOfUptoSaid : Prop := fnExactKernelOfUptoRow.holds Try.pinned (OpenSpec.upto fnExactKernelOfSpec)

/-- 'laws.FnExactProductOf', WHERE WHAT IT READS IS OF BULK AT MOST 1048576: true; the input reads as it did. -/
def fnExactProductOfUptoRow : OpenClaim := { program := "ytkdmmdlnlocamaa", sum := "cb90751185d70a2e851f9fd5c614f0519fe975c4a22ff3cbae16810aba66a5d1", func := "loop.example/g01102/laws.FnExactProductOf", spec := "fnExactProductOf", unfollowed := true, recurses := true, apart := false, narrowed := true }
def FnExactProductOfUptoSaid : Prop := fnExactProductOfUptoRow.holds Try.pinned (OpenSpec.upto fnExactProductOfSpec)

/-- 'laws.FnExactCanReset', WHERE WHAT IT READS IS OF BULK AT MOST 1048576: true; the input reads as it did. -/
def fnExactCanResetUptoRow : OpenClaim := { program := "ytkdmmdlnlocamaa", sum := "cb90751185d70a2e851f9fd5c614f0519fe975c4a22ff3cbae16810aba66a5d1", func := "loop.example/g01102/laws.FnExactCanReset", spec := "fnExactCanReset", unfollowed := true, recurses := true, apart := false, narrowed := true }
def FnExactCanResetUptoSaid : Prop := fnExactCanResetUptoRow.holds Try.pinned (OpenSpec.upto fnExactCanResetSpec)

/-- 'laws.FnExactShortestReset', WHERE WHAT IT READS IS OF BULK AT MOST 1048576: true; the input reads as it did. -/
def fnExactShortestResetUptoRow : OpenClaim := { program := "ytkdmmdlnlocamaa", sum := "cb90751185d70a2e851f9fd5c614f0519fe975c4a22ff3cbae16810aba66a5d1", func := "loop.example/g01102/laws.FnExactShortestReset", spec := "fnExactShortestReset", unfollowed := true, recurses := true, apart := false, narrowed := true }
def FnExactShortestResetUptoSaid : Prop := fnExactShortestResetUptoRow.holds Try.pinned (OpenSpec.upto fnExactShortestResetSpec)

/-- 'laws.FnExactShortestTo', WHERE WHAT IT READS IS OF BULK AT MOST 1048576: true; the input reads as it did. -/
def fnExactShortestToUptoRow : OpenClaim := { program := "ytkdmmdlnlocamaa", sum := "cb90751185d70a2e851f9fd5c614f0519fe975c4a22ff3cbae16810aba66a5d1", func := "loop.example/g01102/laws.FnExactShortestTo", spec := "fnExactShortestTo", unfollowed := true, recurses := true, apart := false, narrowed := true }
def FnExactShortestToUptoSaid : Prop := fnExactShortestToUptoRow.holds Try.pinned (OpenSpec.upto fnExactShortestToSpec)

/-- 'laws.FnExactTargetsOf', WHERE WHAT IT READS IS OF BULK AT MOST 1048576: true; the input reads as it did. -/
def fnExactTargetsOfUptoRow : OpenClaim := { program := "ytkdmmdlnlocamaa", sum := "cb90751185d70a2e851f9fd5c614f0519fe975c4a22ff3cbae16810aba66a5d1", func := "loop.example/g01102/laws.FnExactTargetsOf", spec := "fnExactTargetsOf", unfollowed := true, recurses := true, apart := false, narrowed := true }
def FnExactTargetsOfUptoSaid : Prop := fnExactTargetsOfUptoRow.holds Try.pinned (OpenSpec.upto fnExactTargetsOfSpec)

/-- 'laws.FnExactMergingWord', WHERE WHAT IT READS IS OF BULK AT MOST 1048576: true; the input reads as it did. -/
def fnExactMergingWordUptoRow : OpenClaim := { program := "ytkdmmdlnlocamaa", sum := "cb90751185d70a2e851f9fd5c614f0519fe975c4a22ff3cbae16810aba66a5d1", func := "loop.example/g01102/laws.FnExactMergingWord", spec := "fnExactMergingWord", unfollowed := true, recurses := true, apart := false, narrowed := true }
def FnExactMergingWordUptoSaid : Prop := fnExactMergingWordUptoRow.holds Try.pinned (OpenSpec.upto fnExactMergingWordSpec)

/-- 'laws.FnExactRankOf', WHERE WHAT IT READS IS OF BULK AT MOST 1048576: true; the input reads as it did. -/
def fnExactRankOfUptoRow : OpenClaim := { program := "ytkdmmdlnlocamaa", sum := "cb90751185d70a2e851f9fd5c614f0519fe975c4a22ff3cbae16810aba66a5d1", func := "loop.example/g01102/laws.FnExactRankOf", spec := "fnExactRankOf", unfollowed := true, recurses := true, apart := false, narrowed := true }
def FnExactRankOfUptoSaid : Prop := fnExactRankOfUptoRow.holds Try.pinned (OpenSpec.upto fnExactRankOfSpec)

/-- 'laws.FnExactRankOfSet', WHERE WHAT IT READS IS OF BULK AT MOST 1048576: true; the input reads as it did. -/
def fnExactRankOfSetUptoRow : OpenClaim := { program := "ytkdmmdlnlocamaa", sum := "cb90751185d70a2e851f9fd5c614f0519fe975c4a22ff3cbae16810aba66a5d1", func := "loop.example/g01102/laws.FnExactRankOfSet", spec := "fnExactRankOfSet", unfollowed := true, recurses := true, apart := false, narrowed := true }
def FnExactRankOfSetUptoSaid : Prop := fnExactRankOfSetUptoRow.holds Try.pinned (OpenSpec.upto fnExactRankOfSetSpec)

/-- 'laws.FnExactRankWord', WHERE WHAT IT READS IS OF BULK AT MOST 1048576: true; the input reads as it did. -/
def fnExactRankWordUptoRow : OpenClaim := { program := "ytkdmmdlnlocamaa", sum := "cb90751185d70a2e851f9fd5c614f0519fe975c4a22ff3cbae16810aba66a5d1", func := "loop.example/g01102/laws.FnExactRankWord", spec := "fnExactRankWord", unfollowed := true, recurses := true, apart := false, narrowed := true }
def FnExactRankWordUptoSaid : Prop := fnExactRankWordUptoRow.holds Try.pinned (OpenSpec.upto fnExactRankWordSpec)

end Rows
end Go.Proofs.Ytkdmmdlnlocamaa
