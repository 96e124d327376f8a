/-
  No cell of these rows narrows 'for every input' (looked for: loops, veiled, ifaces, maps, wideKeys, modest, calm, conditions, laid).
  DERIVED. THE GIVEN ROWS OF THIS SEAT. 8 by the template 'for every input the law returns true; each argument reads behind the call as it read before'; 0 by the template 'total and deterministic' (their statements: YtcglncepmieaaaaTotals.lean).
  GIVEN WITH THE SEED: the statements are not yours to turn. If you find one false, say at which input.
  Laid BY PROGRAM, IN A SANDBOX (cutbox-rows.mjs): the forced cells as the released guide's own fill.sh prints them over the translation 17a4d1dc374cb60d… (all of the seat's roots in one cut). By AI agents, Wed Nov 11 2026. No macro, syntax, notation, axiom, sorry.
-/
import Derived.Test.YtcglncepmieaaaaChecked
import GoSem.Claim
import GoSem.ClaimJoined
import GoSem.ClaimMapViews
import Derived.JoinedTies
import Derived.KernelRfl
namespace Go.Proofs.Ytcglncepmieaaaa
/- THE CELL 'sum', in the pinned program and in every row, IS THE sha256 OF THE DUMP (.gsa) THAT YtcglncepmieaaaaProg.lean LOADS. Nothing in Lean hashes anything: it is a label: what it is worth is what the hold of that sum in a sandbox is worth. -/
noncomputable def Try.pinned : Pinned := { name := "ytcglncepmieaaaa", sum := "17a4d1dc374cb60d968adffc36219a8f993ec1dd4b79f81f16604da1071f27d7", checked := Try.checked }
namespace Rows
def none {H : Type} : Left H := { results := [], args := [] }

/-- 'laws.FnExactPairTable': WHATEVER THE INPUT: true; the input reads as it did. -/
def fnExactPairTableSpec : ChangeSpec := { name := "fnExactPairTable", fn := fun _ => fun
  | [d] => { results := [.lit (.bool true)], args := [d] }
  | _ => none }
def fnExactPairTableRow : OpenClaim := { program := "ytcglncepmieaaaa", sum := "17a4d1dc374cb60d968adffc36219a8f993ec1dd4b79f81f16604da1071f27d7", func := "loop.example/g01102/laws.FnExactPairTable", spec := "fnExactPairTable", unfollowed := true, recurses := true, apart := false }
def FnExactPairTableSaid : Prop := fnExactPairTableRow.holds Try.pinned (OpenSpec.ofChange fnExactPairTableSpec)

/-- ITS FALSE NEIGHBOUR: 'it returns false'. Refute it at one input. -/
def fnExactPairTableWrong : ChangeSpec := { name := "fnExactPairTable", fn := fun _ => fun
  | [d] => { results := [.lit (.bool false)], args := [d] }
  | _ => none }
def FnExactPairTableWrongFalsely : Prop := fnExactPairTableRow.holds Try.pinned (OpenSpec.ofChange fnExactPairTableWrong)

/-- 'laws.FnExactGreedyReset': WHATEVER THE INPUT: true; the input reads as it did. -/
def fnExactGreedyResetSpec : ChangeSpec := { name := "fnExactGreedyReset", fn := fun _ => fun
  | [d] => { results := [.lit (.bool true)], args := [d] }
  | _ => none }
def fnExactGreedyResetRow : OpenClaim := { program := "ytcglncepmieaaaa", sum := "17a4d1dc374cb60d968adffc36219a8f993ec1dd4b79f81f16604da1071f27d7", func := "loop.example/g01102/laws.FnExactGreedyReset", spec := "fnExactGreedyReset", unfollowed := true, recurses := true, apart := false }
def FnExactGreedyResetSaid : Prop := fnExactGreedyResetRow.holds Try.pinned (OpenSpec.ofChange fnExactGreedyResetSpec)

/-- ITS FALSE NEIGHBOUR: 'it returns false'. Refute it at one input. -/
def fnExactGreedyResetWrong : ChangeSpec := { name := "fnExactGreedyReset", fn := fun _ => fun
  | [d] => { results := [.lit (.bool false)], args := [d] }
  | _ => none }
def FnExactGreedyResetWrongFalsely : Prop := fnExactGreedyResetRow.holds Try.pinned (OpenSpec.ofChange fnExactGreedyResetWrong)

/-- 'laws.FnExactStablePairs': WHATEVER THE INPUT: true; the input reads as it did. -/
def fnExactStablePairsSpec : ChangeSpec := { name := "fnExactStablePairs", fn := fun _ => fun
  | [d] => { results := [.lit (.bool true)], args := [d] }
  | _ => none }
def fnExactStablePairsRow : OpenClaim := { program := "ytcglncepmieaaaa", sum := "17a4d1dc374cb60d968adffc36219a8f993ec1dd4b79f81f16604da1071f27d7", func := "loop.example/g01102/laws.FnExactStablePairs", spec := "fnExactStablePairs", unfollowed := true, recurses := true, apart := false }
def FnExactStablePairsSaid : Prop := fnExactStablePairsRow.holds Try.pinned (OpenSpec.ofChange fnExactStablePairsSpec)

/-- ITS FALSE NEIGHBOUR: 'it returns false'. Refute it at one input. -/
def fnExactStablePairsWrong : ChangeSpec := { name := "fnExactStablePairs", fn := fun _ => fun
  | [d] => { results := [.lit (.bool false)], args := [d] }
  | _ => none }
def FnExactStablePairsWrongFalsely : Prop := fnExactStablePairsRow.holds Try.pinned (OpenSpec.ofChange fnExactStablePairsWrong)

/-- 'laws.FnExactStableDivision': WHATEVER THE INPUT: true; the input reads as it did. -/
def fnExactStableDivisionSpec : ChangeSpec := { name := "fnExactStableDivision", fn := fun _ => fun
  | [d] => { results := [.lit (.bool true)], args := [d] }
  | _ => none }
def fnExactStableDivisionRow : OpenClaim := { program := "ytcglncepmieaaaa", sum := "17a4d1dc374cb60d968adffc36219a8f993ec1dd4b79f81f16604da1071f27d7", func := "loop.example/g01102/laws.FnExactStableDivision", spec := "fnExactStableDivision", unfollowed := true, recurses := true, apart := false }
def FnExactStableDivisionSaid : Prop := fnExactStableDivisionRow.holds Try.pinned (OpenSpec.ofChange fnExactStableDivisionSpec)

/-- ITS FALSE NEIGHBOUR: 'it returns false'. Refute it at one input. -/
def fnExactStableDivisionWrong : ChangeSpec := { name := "fnExactStableDivision", fn := fun _ => fun
  | [d] => { results := [.lit (.bool false)], args := [d] }
  | _ => none }
def FnExactStableDivisionWrongFalsely : Prop := fnExactStableDivisionRow.holds Try.pinned (OpenSpec.ofChange fnExactStableDivisionWrong)

/-- 'laws.FnExactFindCertificate': WHATEVER THE INPUT: true; the input reads as it did. -/
def fnExactFindCertificateSpec : ChangeSpec := { name := "fnExactFindCertificate", fn := fun _ => fun
  | [d] => { results := [.lit (.bool true)], args := [d] }
  | _ => none }
def fnExactFindCertificateRow : OpenClaim := { program := "ytcglncepmieaaaa", sum := "17a4d1dc374cb60d968adffc36219a8f993ec1dd4b79f81f16604da1071f27d7", func := "loop.example/g01102/laws.FnExactFindCertificate", spec := "fnExactFindCertificate", unfollowed := true, recurses := true, apart := false }
def FnExactFindCertificateSaid : Prop := fnExactFindCertificateRow.holds Try.pinned (OpenSpec.ofChange fnExactFindCertificateSpec)

/-- ITS FALSE NEIGHBOUR: 'it returns false'. Refute it at one input. -/
def fnExactFindCertificateWrong : ChangeSpec := { name := "fnExactFindCertificate", fn := fun _ => fun
  | [d] => { results := [.lit (.bool false)], args := [d] }
  | _ => none }
def FnExactFindCertificateWrongFalsely : Prop := fnExactFindCertificateRow.holds Try.pinned (OpenSpec.ofChange fnExactFindCertificateWrong)

/-- 'laws.FnExactCheckCertificate': WHATEVER THE INPUT: true; the input reads as it did. -/
def fnExactCheckCertificateSpec : ChangeSpec := { name := "fnExactCheckCertificate", fn := fun _ => fun
  | [d1, d2] => { results := [.lit (.bool true)], args := [d1, d2] }
  | _ => none }
def fnExactCheckCertificateRow : OpenClaim := { program := "ytcglncepmieaaaa", sum := "17a4d1dc374cb60d968adffc36219a8f993ec1dd4b79f81f16604da1071f27d7", func := "loop.example/g01102/laws.FnExactCheckCertificate", spec := "fnExactCheckCertificate", unfollowed := true, recurses := true, apart := false }
def FnExactCheckCertificateSaid : Prop := fnExactCheckCertificateRow.holds Try.pinned (OpenSpec.ofChange fnExactCheckCertificateSpec)

/-- ITS FALSE NEIGHBOUR: 'it returns false'. Refute it at one input. -/
def fnExactCheckCertificateWrong : ChangeSpec := { name := "fnExactCheckCertificate", fn := fun _ => fun
  | [d1, d2] => { results := [.lit (.bool false)], args := [d1, d2] }
  | _ => none }
def FnExactCheckCertificateWrongFalsely : Prop := fnExactCheckCertificateRow.holds Try.pinned (OpenSpec.ofChange fnExactCheckCertificateWrong)

/-- 'laws.FnExactWordOfCertificate': WHATEVER THE INPUT: true; the input reads as it did. -/
def fnExactWordOfCertificateSpec : ChangeSpec := { name := "fnExactWordOfCertificate", fn := fun _ => fun
  | [d1, d2] => { results := [.lit (.bool true)], args := [d1, d2] }
  | _ => none }
def fnExactWordOfCertificateRow : OpenClaim := { program := "ytcglncepmieaaaa", sum := "17a4d1dc374cb60d968adffc36219a8f993ec1dd4b79f81f16604da1071f27d7", func := "loop.example/g01102/laws.FnExactWordOfCertificate", spec := "fnExactWordOfCertificate", unfollowed := true, recurses := true, apart := false }
def FnExactWordOfCertificateSaid : Prop := fnExactWordOfCertificateRow.holds Try.pinned (OpenSpec.ofChange fnExactWordOfCertificateSpec)

/-- ITS FALSE NEIGHBOUR: 'it returns false'. Refute it at one input. -/
def fnExactWordOfCertificateWrong : ChangeSpec := { name := "fnExactWordOfCertificate", fn := fun _ => fun
  | [d1, d2] => { results := [.lit (.bool false)], args := [d1, d2] }
  | _ => none }
def FnExactWordOfCertificateWrongFalsely : Prop := fnExactWordOfCertificateRow.holds Try.pinned (OpenSpec.ofChange fnExactWordOfCertificateWrong)

/-- 'laws.FnCongruence': WHATEVER THE INPUT: true; the input reads as it did. -/
def fnCongruenceSpec : ChangeSpec := { name := "fnCongruence", fn := fun _ => fun
  | [d1, d2] => { results := [.lit (.bool true)], args := [d1, d2] }
  | _ => none }
def fnCongruenceRow : OpenClaim := { program := "ytcglncepmieaaaa", sum := "17a4d1dc374cb60d968adffc36219a8f993ec1dd4b79f81f16604da1071f27d7", func := "loop.example/g01102/laws.FnCongruence", spec := "fnCongruence", unfollowed := true, recurses := true, apart := false }
def FnCongruenceSaid : Prop := fnCongruenceRow.holds Try.pinned (OpenSpec.ofChange fnCongruenceSpec)

/-- ITS FALSE NEIGHBOUR: 'it returns false'. Refute it at one input. -/
def fnCongruenceWrong : ChangeSpec := { name := "fnCongruence", fn := fun _ => fun
  | [d1, d2] => { results := [.lit (.bool false)], args := [d1, d2] }
  | _ => none }
def FnCongruenceWrongFalsely : Prop := fnCongruenceRow.holds Try.pinned (OpenSpec.ofChange fnCongruenceWrong)

/- THE SECOND FORM. 'bulk': how many values and letters a reading holds, each counted each time it is reached (what is shared counts as often as it is met; a slice's spare places count too). A statement '..UptoSaid' is the law's where the arguments, and the package variables that the reading takes, are together of bulk at most 1048576: NARROWER than '..Said'. Prove '..Said' where nothing that the law and all that it calls make is longer than what came in: it says more and counts as full. Else prove '..UptoSaid'. A law counts once. -/
mutual
def uptoBulk {H : Type} : DataW H → Nat
  | .lit (.string bytes) => bytes.length + 1
  | .lit _ => 1
  | .nil => 1
  | .ptr d => uptoBulk d + 1
  | .slice elems spare => uptoBulkAll elems + uptoBulkAll spare + 1
  | .agg parts => uptoBulkAll parts + 1
  | .iface _ d => uptoBulk d + 1
  | .map entries => uptoBulkEntries entries + 1
  | .held _ => 1
def uptoBulkAll {H : Type} : List (DataW H) → Nat
  | [] => 0
  | d :: r => uptoBulk d + uptoBulkAll r
def uptoBulkEntries {H : Type} : List (Lit × DataW H) → Nat
  | [] => 0
  | x :: r => uptoBulkEntry x + uptoBulkEntries r
def uptoBulkEntry {H : Type} : Lit × DataW H → Nat
  | (.string bytes, d) => bytes.length + uptoBulk d + 1
  | (_, d) => uptoBulk d + 1
 end
def uptoSmall : (H : Type) → List (DataW H) → Bool := fun _ ds => decide (uptoBulkAll ds ≤ 1048576)
def OpenSpec.upto (s : _root_.Go.ChangeSpec) : _root_.Go.OpenSpec := { _root_.Go.OpenSpec.ofChange s with cond := some uptoSmall }

/-- 'laws.FnExactPairTable', WHERE WHAT IT READS IS OF BULK AT MOST 1048576: true; the input reads as it did. -/
def fnExactPairTableUptoRow : OpenClaim := { program := "ytcglncepmieaaaa", sum := "17a4d1dc374cb60d968adffc36219a8f993ec1dd4b79f81f16604da1071f27d7", func := "loop.example/g01102/laws.FnExactPairTable", spec := "fnExactPairTable", unfollowed := true, recurses := true, apart := false, narrowed := true }
def FnExactPairTableUptoSaid : Prop := fnExactPairTableUptoRow.holds Try.pinned (OpenSpec.upto fnExactPairTableSpec)

/-- 'laws.FnExactGreedyReset', WHERE WHAT IT READS IS OF BULK AT MOST 1048576: true; the input reads as it did. -/
def fnExactGreedyResetUptoRow : OpenClaim := { program := "ytcglncepmieaaaa", sum := "17a4d1dc374cb60d968adffc36219a8f993ec1dd4b79f81f16604da1071f27d7", func := "loop.example/g01102/laws.FnExactGreedyReset", spec := "fnExactGreedyReset", unfollowed := true, recurses := true, apart := false, narrowed := true }
def FnExactGreedyResetUptoSaid : Prop := fnExactGreedyResetUptoRow.holds Try.pinned (OpenSpec.upto fnExactGreedyResetSpec)

/-- 'laws.FnExactStablePairs', WHERE WHAT IT READS IS OF BULK AT MOST 1048576: true; the input reads as it did. -/
def fnExactStablePairsUptoRow : OpenClaim := { program := "ytcglncepmieaaaa", sum := "17a4d1dc374cb60d968adffc36219a8f993ec1dd4b79f81f16604da1071f27d7", func := "loop.example/g01102/laws.FnExactStablePairs", spec := "fnExactStablePairs", unfollowed := true, recurses := true, apart := false, narrowed := true }
def FnExactStablePairsUptoSaid : Prop := fnExactStablePairsUptoRow.holds Try.pinned (OpenSpec.upto fnExactStablePairsSpec)

/-- 'laws.FnExactStableDivision', WHERE WHAT IT READS IS OF BULK AT MOST 1048576: true; the input reads as it did. -/
def fnExactStableDivisionUptoRow : OpenClaim := { program := "ytcglncepmieaaaa", sum := "17a4d1dc374cb60d968adffc36219a8f993ec1dd4b79f81f16604da1071f27d7", func := "loop.example/g01102/laws.FnExactStableDivision", spec := "fnExactStableDivision", unfollowed := true, recurses := true, apart := false, narrowed := true }
def FnExactStableDivisionUptoSaid : Prop := fnExactStableDivisionUptoRow.holds Try.pinned (OpenSpec.upto fnExactStableDivisionSpec)

/-- 'laws.FnExactFindCertificate', WHERE WHAT IT READS IS OF BULK AT MOST 1048576: true; the input reads as it did. -/
def fnExactFindCertificateUptoRow : OpenClaim := { program := "ytcglncepmieaaaa", sum := "17a4d1dc374cb60d968adffc36219a8f993ec1dd4b79f81f16604da1071f27d7", func := "loop.example/g01102/laws.FnExactFindCertificate", spec := "fnExactFindCertificate", unfollowed := true, recurses := true, apart := false, narrowed := true }
def FnExactFindCertificateUptoSaid : Prop := fnExactFindCertificateUptoRow.holds Try.pinned (OpenSpec.upto fnExactFindCertificateSpec)

/-- 'laws.FnExactCheckCertificate', WHERE WHAT IT READS IS OF BULK AT MOST 1048576: true; the input reads as it did. -/
def fnExactCheckCertificateUptoRow : OpenClaim := { program := "ytcglncepmieaaaa", sum := "17a4d1dc374cb60d968adffc36219a8f993ec1dd4b79f81f16604da1071f27d7", func := "loop.example/g01102/laws.FnExactCheckCertificate", spec := "fnExactCheckCertificate", unfollowed := true, recurses := true, apart := false, narrowed := true }
def FnExactCheckCertificateUptoSaid : Prop := fnExactCheckCertificateUptoRow.holds Try.pinned (OpenSpec.upto fnExactCheckCertificateSpec)

/-- 'laws.FnExactWordOfCertificate', WHERE WHAT IT READS IS OF BULK AT MOST 1048576: true; the input reads as it did. -/
def fnExactWordOfCertificateUptoRow : OpenClaim := { program := "ytcglncepmieaaaa", sum := "17a4d1dc374cb60d968adffc36219a8f993ec1dd4b79f81f16604da1071f27d7", func := "loop.example/g01102/laws.FnExactWordOfCertificate", spec := "fnExactWordOfCertificate", unfollowed := true, recurses := true, apart := false, narrowed := true }
def FnExactWordOfCertificateUptoSaid : Prop := fnExactWordOfCertificateUptoRow.holds Try.pinned (OpenSpec.upto fnExactWordOfCertificateSpec)

/-- 'laws.FnCongruence', WHERE WHAT IT READS IS OF BULK AT MOST 1048576: true; the input reads as it did. -/
def fnCongruenceUptoRow : OpenClaim := { program := "ytcglncepmieaaaa", sum := "17a4d1dc374cb60d968adffc36219a8f993ec1dd4b79f81f16604da1071f27d7", func := "loop.example/g01102/laws.FnCongruence", spec := "fnCongruence", unfollowed := true, recurses := true, apart := false, narrowed := true }
def FnCongruenceUptoSaid : Prop := fnCongruenceUptoRow.holds Try.pinned (OpenSpec.upto fnCongruenceSpec)

end Rows
end Go.Proofs.Ytcglncepmieaaaa
