/-
  No cell of these rows narrows 'for every input' (looked for: loops, veiled, ifaces, maps, wideKeys, modest, calm, conditions, laid).
  DERIVED. THE GIVEN ROWS OF THIS SEAT. 7 by the template 'for every input the law returns true; each argument reads behind the call as it read before'; 0 by the template 'total and deterministic' (their statements: YtkhhemlfahdbnaaTotals.lean).
  GIVEN WITH THE SEED: the statements are not yours to turn. If you find one false, say at which input.
  Laid BY PROGRAM, IN A SANDBOX (cutbox-rows.mjs): the forced cells as the released guide's own fill.sh prints them over the translation 373d7031548562eb… (all of the seat's roots in one cut). By AI agents, Wed Nov 11 2026. No macro, syntax, notation, axiom, sorry.
-/
import Derived.Test.YtkhhemlfahdbnaaChecked
import GoSem.Claim
import GoSem.ClaimJoined
import GoSem.ClaimMapViews
import Derived.JoinedTies
import Derived.KernelRfl
namespace Go.Proofs.Ytkhhemlfahdbnaa
/- THE CELL 'sum', in the pinned program and in every row, IS THE sha256 OF THE DUMP (.gsa) THAT YtkhhemlfahdbnaaProg.lean LOADS. Nothing in Lean hashes anything: it is a label: what it is worth is what the hold of that sum in a sandbox is worth. -/
noncomputable def Try.pinned : Pinned := { name := "ytkhhemlfahdbnaa", sum := "373d7031548562eb111b455621a2d1fd40945e51c2cffd3581ed921a3ba315b6", checked := Try.checked }
namespace Rows
def none {H : Type} : Left H := { results := [], args := [] }

/-- 'laws.FnExactValidMachine': WHATEVER THE INPUT: true; the input reads as it did. -/
def fnExactValidMachineSpec : ChangeSpec := { name := "fnExactValidMachine", fn := fun _ => fun
  | [d] => { results := [.lit (.bool true)], args := [d] }
  | _ => none }
def fnExactValidMachineRow : OpenClaim := { program := "ytkhhemlfahdbnaa", sum := "373d7031548562eb111b455621a2d1fd40945e51c2cffd3581ed921a3ba315b6", func := "loop.example/g01102/laws.FnExactValidMachine", spec := "fnExactValidMachine", unfollowed := true, recurses := true, apart := false }
def FnExactValidMachineSaid : Prop := fnExactValidMachineRow.holds Try.pinned (OpenSpec.ofChange fnExactValidMachineSpec)

/-- ITS FALSE NEIGHBOUR: 'it returns false'. Refute it at one input. -/
def fnExactValidMachineWrong : ChangeSpec := { name := "fnExactValidMachine", fn := fun _ => fun
  | [d] => { results := [.lit (.bool false)], args := [d] }
  | _ => none }
def FnExactValidMachineWrongFalsely : Prop := fnExactValidMachineRow.holds Try.pinned (OpenSpec.ofChange fnExactValidMachineWrong)

/-- 'laws.FnExactSameMachine': WHATEVER THE INPUT: true; the input reads as it did. -/
def fnExactSameMachineSpec : ChangeSpec := { name := "fnExactSameMachine", fn := fun _ => fun
  | [d1, d2] => { results := [.lit (.bool true)], args := [d1, d2] }
  | _ => none }
def fnExactSameMachineRow : OpenClaim := { program := "ytkhhemlfahdbnaa", sum := "373d7031548562eb111b455621a2d1fd40945e51c2cffd3581ed921a3ba315b6", func := "loop.example/g01102/laws.FnExactSameMachine", spec := "fnExactSameMachine", unfollowed := true, recurses := true, apart := false }
def FnExactSameMachineSaid : Prop := fnExactSameMachineRow.holds Try.pinned (OpenSpec.ofChange fnExactSameMachineSpec)

/-- ITS FALSE NEIGHBOUR: 'it returns false'. Refute it at one input. -/
def fnExactSameMachineWrong : ChangeSpec := { name := "fnExactSameMachine", fn := fun _ => fun
  | [d1, d2] => { results := [.lit (.bool false)], args := [d1, d2] }
  | _ => none }
def FnExactSameMachineWrongFalsely : Prop := fnExactSameMachineRow.holds Try.pinned (OpenSpec.ofChange fnExactSameMachineWrong)

/-- 'laws.FnExactOutputsOf': WHATEVER THE INPUT: true; the input reads as it did. -/
def fnExactOutputsOfSpec : ChangeSpec := { name := "fnExactOutputsOf", fn := fun _ => fun
  | [d1, d2, d3] => { results := [.lit (.bool true)], args := [d1, d2, d3] }
  | _ => none }
def fnExactOutputsOfRow : OpenClaim := { program := "ytkhhemlfahdbnaa", sum := "373d7031548562eb111b455621a2d1fd40945e51c2cffd3581ed921a3ba315b6", func := "loop.example/g01102/laws.FnExactOutputsOf", spec := "fnExactOutputsOf", unfollowed := true, recurses := true, apart := false }
def FnExactOutputsOfSaid : Prop := fnExactOutputsOfRow.holds Try.pinned (OpenSpec.ofChange fnExactOutputsOfSpec)

/-- ITS FALSE NEIGHBOUR: 'it returns false'. Refute it at one input. -/
def fnExactOutputsOfWrong : ChangeSpec := { name := "fnExactOutputsOf", fn := fun _ => fun
  | [d1, d2, d3] => { results := [.lit (.bool false)], args := [d1, d2, d3] }
  | _ => none }
def FnExactOutputsOfWrongFalsely : Prop := fnExactOutputsOfRow.holds Try.pinned (OpenSpec.ofChange fnExactOutputsOfWrong)

/-- 'laws.FnExactForgetOutputs': WHATEVER THE INPUT: true; the input reads as it did. -/
def fnExactForgetOutputsSpec : ChangeSpec := { name := "fnExactForgetOutputs", fn := fun _ => fun
  | [d] => { results := [.lit (.bool true)], args := [d] }
  | _ => none }
def fnExactForgetOutputsRow : OpenClaim := { program := "ytkhhemlfahdbnaa", sum := "373d7031548562eb111b455621a2d1fd40945e51c2cffd3581ed921a3ba315b6", func := "loop.example/g01102/laws.FnExactForgetOutputs", spec := "fnExactForgetOutputs", unfollowed := true, recurses := true, apart := false }
def FnExactForgetOutputsSaid : Prop := fnExactForgetOutputsRow.holds Try.pinned (OpenSpec.ofChange fnExactForgetOutputsSpec)

/-- ITS FALSE NEIGHBOUR: 'it returns false'. Refute it at one input. -/
def fnExactForgetOutputsWrong : ChangeSpec := { name := "fnExactForgetOutputs", fn := fun _ => fun
  | [d] => { results := [.lit (.bool false)], args := [d] }
  | _ => none }
def FnExactForgetOutputsWrongFalsely : Prop := fnExactForgetOutputsRow.holds Try.pinned (OpenSpec.ofChange fnExactForgetOutputsWrong)

/-- 'laws.FnExactTrimMachine': WHATEVER THE INPUT: true; the input reads as it did. -/
def fnExactTrimMachineSpec : ChangeSpec := { name := "fnExactTrimMachine", fn := fun _ => fun
  | [d] => { results := [.lit (.bool true)], args := [d] }
  | _ => none }
def fnExactTrimMachineRow : OpenClaim := { program := "ytkhhemlfahdbnaa", sum := "373d7031548562eb111b455621a2d1fd40945e51c2cffd3581ed921a3ba315b6", func := "loop.example/g01102/laws.FnExactTrimMachine", spec := "fnExactTrimMachine", unfollowed := true, recurses := true, apart := false }
def FnExactTrimMachineSaid : Prop := fnExactTrimMachineRow.holds Try.pinned (OpenSpec.ofChange fnExactTrimMachineSpec)

/-- ITS FALSE NEIGHBOUR: 'it returns false'. Refute it at one input. -/
def fnExactTrimMachineWrong : ChangeSpec := { name := "fnExactTrimMachine", fn := fun _ => fun
  | [d] => { results := [.lit (.bool false)], args := [d] }
  | _ => none }
def FnExactTrimMachineWrongFalsely : Prop := fnExactTrimMachineRow.holds Try.pinned (OpenSpec.ofChange fnExactTrimMachineWrong)

/-- 'laws.FnExactIsHoming': WHATEVER THE INPUT: true; the input reads as it did. -/
def fnExactIsHomingSpec : ChangeSpec := { name := "fnExactIsHoming", fn := fun _ => fun
  | [d1, d2] => { results := [.lit (.bool true)], args := [d1, d2] }
  | _ => none }
def fnExactIsHomingRow : OpenClaim := { program := "ytkhhemlfahdbnaa", sum := "373d7031548562eb111b455621a2d1fd40945e51c2cffd3581ed921a3ba315b6", func := "loop.example/g01102/laws.FnExactIsHoming", spec := "fnExactIsHoming", unfollowed := true, recurses := true, apart := false }
def FnExactIsHomingSaid : Prop := fnExactIsHomingRow.holds Try.pinned (OpenSpec.ofChange fnExactIsHomingSpec)

/-- ITS FALSE NEIGHBOUR: 'it returns false'. Refute it at one input. -/
def fnExactIsHomingWrong : ChangeSpec := { name := "fnExactIsHoming", fn := fun _ => fun
  | [d1, d2] => { results := [.lit (.bool false)], args := [d1, d2] }
  | _ => none }
def FnExactIsHomingWrongFalsely : Prop := fnExactIsHomingRow.holds Try.pinned (OpenSpec.ofChange fnExactIsHomingWrong)

/-- 'laws.FnExactIsTelling': WHATEVER THE INPUT: true; the input reads as it did. -/
def fnExactIsTellingSpec : ChangeSpec := { name := "fnExactIsTelling", fn := fun _ => fun
  | [d1, d2] => { results := [.lit (.bool true)], args := [d1, d2] }
  | _ => none }
def fnExactIsTellingRow : OpenClaim := { program := "ytkhhemlfahdbnaa", sum := "373d7031548562eb111b455621a2d1fd40945e51c2cffd3581ed921a3ba315b6", func := "loop.example/g01102/laws.FnExactIsTelling", spec := "fnExactIsTelling", unfollowed := true, recurses := true, apart := false }
def FnExactIsTellingSaid : Prop := fnExactIsTellingRow.holds Try.pinned (OpenSpec.ofChange fnExactIsTellingSpec)

/-- ITS FALSE NEIGHBOUR: 'it returns false'. Refute it at one input. -/
def fnExactIsTellingWrong : ChangeSpec := { name := "fnExactIsTelling", fn := fun _ => fun
  | [d1, d2] => { results := [.lit (.bool false)], args := [d1, d2] }
  | _ => none }
def FnExactIsTellingWrongFalsely : Prop := fnExactIsTellingRow.holds Try.pinned (OpenSpec.ofChange fnExactIsTellingWrong)

/- THE SECOND FORM. 'bulk': how many values and letters a reading holds, each counted each time it is reached (what is shared counts as often as it is met; a slice's spare places count too). A statement '..UptoSaid' is the law's where the arguments, and the package variables that the reading takes, are together of bulk at most 1048576: NARROWER than '..Said'. Prove '..Said' where nothing that the law and all that it calls make is longer than what came in: it says more and counts as full. Else prove '..UptoSaid'. A law counts once. -/
mutual
def uptoBulk {H : Type} : DataW H → Nat
  | .lit (.string bytes) => bytes.length + 1
  | .lit _ => 1
  | .nil => 1
  | .ptr d => uptoBulk d + 1
  | .slice elems spare => uptoBulkAll elems + uptoBulkAll spare + 1
  | .agg parts => uptoBulkAll parts + 1
  | .iface _ d => uptoBulk d + 1
  | .map entries => uptoBulkEntries entries + 1
  | .held _ => 1
def uptoBulkAll {H : Type} : List (DataW H) → Nat
  | [] => 0
  | d :: r => uptoBulk d + uptoBulkAll r
def uptoBulkEntries {H : Type} : List (Lit × DataW H) → Nat
  | [] => 0
  | x :: r => uptoBulkEntry x + uptoBulkEntries r
def uptoBulkEntry {H : Type} : Lit × DataW H → Nat
  | (.string bytes, d) => bytes.length + uptoBulk d + 1
  | (_, d) => uptoBulk d + 1
 end
def uptoSmall : (H : Type) → List (DataW H) → Bool := fun _ ds => decide (uptoBulkAll ds ≤ 1048576)
def OpenSpec.upto (s : _root_.Go.ChangeSpec) : _root_.Go.OpenSpec := { _root_.Go.OpenSpec.ofChange s with cond := some uptoSmall }

/-- 'laws.FnExactValidMachine', WHERE WHAT IT READS IS OF BULK AT MOST 1048576: true; the input reads as it did. -/
def fnExactValidMachineUptoRow : OpenClaim := { program := "ytkhhemlfahdbnaa", sum := "373d7031548562eb111b455621a2d1fd40945e51c2cffd3581ed921a3ba315b6", func := "loop.example/g01102/laws.FnExactValidMachine", spec := "fnExactValidMachine", unfollowed := true, recurses := true, apart := false, narrowed := true }
def FnExactValidMachineUptoSaid : Prop := fnExactValidMachineUptoRow.holds Try.pinned (OpenSpec.upto fnExactValidMachineSpec)

/-- 'laws.FnExactSameMachine', WHERE WHAT IT READS IS OF BULK AT MOST 1048576: true; the input reads as it did. -/
def fnExactSameMachineUptoRow : OpenClaim := { program := "ytkhhemlfahdbnaa", sum := "373d7031548562eb111b455621a2d1fd40945e51c2cffd3581ed921a3ba315b6", func := "loop.example/g01102/laws.FnExactSameMachine", spec := "fnExactSameMachine", unfollowed := true, recurses := true, apart := false, narrowed := true }
def FnExactSameMachineUptoSaid : Prop := fnExactSameMachineUptoRow.holds Try.pinned (OpenSpec.upto fnExactSameMachineSpec)

/-- 'laws.FnExactOutputsOf', WHERE WHAT IT READS IS OF BULK AT MOST 1048576: true; the input reads as it did. -/
def fnExactOutputsOfUptoRow : OpenClaim := { program := "ytkhhemlfahdbnaa", sum := "373d7031548562eb111b455621a2d1fd40945e51c2cffd3581ed921a3ba315b6", func := "loop.example/g01102/laws.FnExactOutputsOf", spec := "fnExactOutputsOf", unfollowed := true, recurses := true, apart := false, narrowed := true }
def FnExactOutputsOfUptoSaid : Prop := fnExactOutputsOfUptoRow.holds Try.pinned (OpenSpec.upto fnExactOutputsOfSpec)

/-- 'laws.FnExactForgetOutputs', WHERE WHAT IT READS IS OF BULK AT MOST 1048576: true; the input reads as it did. -/
def fnExactForgetOutputsUptoRow : OpenClaim := { program := "ytkhhemlfahdbnaa", sum := "373d7031548562eb111b455621a2d1fd40945e51c2cffd3581ed921a3ba315b6", func := "loop.example/g01102/laws.FnExactForgetOutputs", spec := "fnExactForgetOutputs", unfollowed := true, recurses := true, apart := false, narrowed := true }
def FnExactForgetOutputsUptoSaid : Prop := fnExactForgetOutputsUptoRow.holds Try.pinned (OpenSpec.upto fnExactForgetOutputsSpec)

/-- 'laws.FnExactTrimMachine', WHERE WHAT IT READS IS OF BULK AT MOST 1048576: true; the input reads as it did. -/
def fnExactTrimMachineUptoRow : OpenClaim := { program := "ytkhhemlfahdbnaa", sum := "373d7031548562eb111b455621a2d1fd40945e51c2cffd3581ed921a3ba315b6", func := "loop.example/g01102/laws.FnExactTrimMachine", spec := "fnExactTrimMachine", unfollowed := true, recurses := true, apart := false, narrowed := true }
def FnExactTrimMachineUptoSaid : Prop := fnExactTrimMachineUptoRow.holds Try.pinned (OpenSpec.upto fnExactTrimMachineSpec)

/-- 'laws.FnExactIsHoming', WHERE WHAT IT READS IS OF BULK AT MOST 1048576: true; the input reads as it did. -/
def fnExactIsHomingUptoRow : OpenClaim := { program := "ytkhhemlfahdbnaa", sum := "373d7031548562eb111b455621a2d1fd40945e51c2cffd3581ed921a3ba315b6", func := "loop.example/g01102/laws.FnExactIsHoming", spec := "fnExactIsHoming", unfollowed := true, recurses := true, apart := false, narrowed := true }
def FnExactIsHomingUptoSaid : Prop := fnExactIsHomingUptoRow.holds Try.pinned (OpenSpec.upto fnExactIsHomingSpec)

/-- 'laws.FnExactIsTelling', WHERE WHAT IT READS IS OF BULK AT MOST 1048576: true; the input reads as it did. -/
def fnExactIsTellingUptoRow : OpenClaim := { program := "ytkhhemlfahdbnaa", sum := "373d7031548562eb111b455621a2d1fd40945e51c2cffd3581ed921a3ba315b6", func := "loop.example/g01102/laws.FnExactIsTelling", spec := "fnExactIsTelling", unfollowed := true, recurses := true, apart := false, narrowed := true }
def FnExactIsTellingUptoSaid : Prop := fnExactIsTellingUptoRow.holds Try.pinned (OpenSpec.upto fnExactIsTellingSpec)

end Rows
end Go.Proofs.Ytkhhemlfahdbnaa
