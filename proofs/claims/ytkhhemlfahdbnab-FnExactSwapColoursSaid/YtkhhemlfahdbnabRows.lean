/-
  No cell of these rows narrows 'for every input' (looked for: loops, veiled, ifaces, maps, wideKeys, modest, calm, conditions, laid).
  DERIVED. THE GIVEN ROWS OF THIS SEAT. 10 by the template 'for every input the law returns true; each argument reads behind the call as it read before'; 0 by the template 'total and deterministic' (their statements: YtkhhemlfahdbnabTotals.lean).
  GIVEN WITH THE SEED: the statements are not yours to turn. If you find one false, say at which input.
  Laid BY PROGRAM, IN A SANDBOX (cutbox-rows.mjs): the forced cells as the released guide's own fill.sh prints them over the translation a304867f85e25ac1… (all of the seat's roots in one cut). By AI agents, Wed Nov 11 2026. No macro, syntax, notation, axiom, sorry.
-/
import Derived.Test.YtkhhemlfahdbnabChecked
import GoSem.Claim
import GoSem.ClaimJoined
import GoSem.ClaimMapViews
import Derived.JoinedTies
import Derived.KernelRfl
namespace Go.Proofs.Ytkhhemlfahdbnab
/- THE CELL 'sum', in the pinned program and in every row, IS THE sha256 OF THE DUMP (.gsa) THAT YtkhhemlfahdbnabProg.lean LOADS. Nothing in Lean hashes anything: it is a label: what it is worth is what the hold of that sum in a sandbox is worth. -/
noncomputable def Try.pinned : Pinned := { name := "ytkhhemlfahdbnab", sum := "a304867f85e25ac16fbebc89403ca1d3cfda064d1780dba395c8053462100d6e", checked := Try.checked }
namespace Rows
def none {H : Type} : Left H := { results := [], args := [] }

/-- 'laws.FnExactCountColourings': WHATEVER THE INPUT: true; the input reads as it did. -/
def fnExactCountColouringsSpec : ChangeSpec := { name := "fnExactCountColourings", fn := fun _ => fun
  | [d] => { results := [.lit (.bool true)], args := [d] }
  | _ => none }
def fnExactCountColouringsRow : OpenClaim := { program := "ytkhhemlfahdbnab", sum := "a304867f85e25ac16fbebc89403ca1d3cfda064d1780dba395c8053462100d6e", func := "loop.example/g01102/laws.FnExactCountColourings", spec := "fnExactCountColourings", recurses := true, apart := false }
def FnExactCountColouringsSaid : Prop := fnExactCountColouringsRow.holds Try.pinned (OpenSpec.ofChange fnExactCountColouringsSpec)

/-- ITS FALSE NEIGHBOUR: 'it returns false'. Refute it at one input. -/
def fnExactCountColouringsWrong : ChangeSpec := { name := "fnExactCountColourings", fn := fun _ => fun
  | [d] => { results := [.lit (.bool false)], args := [d] }
  | _ => none }
def FnExactCountColouringsWrongFalsely : Prop := fnExactCountColouringsRow.holds Try.pinned (OpenSpec.ofChange fnExactCountColouringsWrong)

/-- 'laws.FnExactColouringAt': WHATEVER THE INPUT: true; the input reads as it did. -/
def fnExactColouringAtSpec : ChangeSpec := { name := "fnExactColouringAt", fn := fun _ => fun
  | [d1, d2] => { results := [.lit (.bool true)], args := [d1, d2] }
  | _ => none }
def fnExactColouringAtRow : OpenClaim := { program := "ytkhhemlfahdbnab", sum := "a304867f85e25ac16fbebc89403ca1d3cfda064d1780dba395c8053462100d6e", func := "loop.example/g01102/laws.FnExactColouringAt", spec := "fnExactColouringAt", unfollowed := true, recurses := true, apart := false }
def FnExactColouringAtSaid : Prop := fnExactColouringAtRow.holds Try.pinned (OpenSpec.ofChange fnExactColouringAtSpec)

/-- ITS FALSE NEIGHBOUR: 'it returns false'. Refute it at one input. -/
def fnExactColouringAtWrong : ChangeSpec := { name := "fnExactColouringAt", fn := fun _ => fun
  | [d1, d2] => { results := [.lit (.bool false)], args := [d1, d2] }
  | _ => none }
def FnExactColouringAtWrongFalsely : Prop := fnExactColouringAtRow.holds Try.pinned (OpenSpec.ofChange fnExactColouringAtWrong)

/-- 'laws.FnExactNumberOf': WHATEVER THE INPUT: true; the input reads as it did. -/
def fnExactNumberOfSpec : ChangeSpec := { name := "fnExactNumberOf", fn := fun _ => fun
  | [d1, d2] => { results := [.lit (.bool true)], args := [d1, d2] }
  | _ => none }
def fnExactNumberOfRow : OpenClaim := { program := "ytkhhemlfahdbnab", sum := "a304867f85e25ac16fbebc89403ca1d3cfda064d1780dba395c8053462100d6e", func := "loop.example/g01102/laws.FnExactNumberOf", spec := "fnExactNumberOf", unfollowed := true, recurses := true, apart := false }
def FnExactNumberOfSaid : Prop := fnExactNumberOfRow.holds Try.pinned (OpenSpec.ofChange fnExactNumberOfSpec)

/-- ITS FALSE NEIGHBOUR: 'it returns false'. Refute it at one input. -/
def fnExactNumberOfWrong : ChangeSpec := { name := "fnExactNumberOf", fn := fun _ => fun
  | [d1, d2] => { results := [.lit (.bool false)], args := [d1, d2] }
  | _ => none }
def FnExactNumberOfWrongFalsely : Prop := fnExactNumberOfRow.holds Try.pinned (OpenSpec.ofChange fnExactNumberOfWrong)

/-- 'laws.FnExactIsJoined': WHATEVER THE INPUT: true; the input reads as it did. -/
def fnExactIsJoinedSpec : ChangeSpec := { name := "fnExactIsJoined", fn := fun _ => fun
  | [d] => { results := [.lit (.bool true)], args := [d] }
  | _ => none }
def fnExactIsJoinedRow : OpenClaim := { program := "ytkhhemlfahdbnab", sum := "a304867f85e25ac16fbebc89403ca1d3cfda064d1780dba395c8053462100d6e", func := "loop.example/g01102/laws.FnExactIsJoined", spec := "fnExactIsJoined", unfollowed := true, recurses := true, apart := false }
def FnExactIsJoinedSaid : Prop := fnExactIsJoinedRow.holds Try.pinned (OpenSpec.ofChange fnExactIsJoinedSpec)

/-- ITS FALSE NEIGHBOUR: 'it returns false'. Refute it at one input. -/
def fnExactIsJoinedWrong : ChangeSpec := { name := "fnExactIsJoined", fn := fun _ => fun
  | [d] => { results := [.lit (.bool false)], args := [d] }
  | _ => none }
def FnExactIsJoinedWrongFalsely : Prop := fnExactIsJoinedRow.holds Try.pinned (OpenSpec.ofChange fnExactIsJoinedWrong)

/-- 'laws.FnExactRoadPeriod': WHATEVER THE INPUT: true; the input reads as it did. -/
def fnExactRoadPeriodSpec : ChangeSpec := { name := "fnExactRoadPeriod", fn := fun _ => fun
  | [d] => { results := [.lit (.bool true)], args := [d] }
  | _ => none }
def fnExactRoadPeriodRow : OpenClaim := { program := "ytkhhemlfahdbnab", sum := "a304867f85e25ac16fbebc89403ca1d3cfda064d1780dba395c8053462100d6e", func := "loop.example/g01102/laws.FnExactRoadPeriod", spec := "fnExactRoadPeriod", unfollowed := true, recurses := true, apart := false }
def FnExactRoadPeriodSaid : Prop := fnExactRoadPeriodRow.holds Try.pinned (OpenSpec.ofChange fnExactRoadPeriodSpec)

/-- ITS FALSE NEIGHBOUR: 'it returns false'. Refute it at one input. -/
def fnExactRoadPeriodWrong : ChangeSpec := { name := "fnExactRoadPeriod", fn := fun _ => fun
  | [d] => { results := [.lit (.bool false)], args := [d] }
  | _ => none }
def FnExactRoadPeriodWrongFalsely : Prop := fnExactRoadPeriodRow.holds Try.pinned (OpenSpec.ofChange fnExactRoadPeriodWrong)

/-- 'laws.FnExactSwapColours': WHATEVER THE INPUT: true; the input reads as it did. -/
def fnExactSwapColoursSpec : ChangeSpec := { name := "fnExactSwapColours", fn := fun _ => fun
  | [d1, d2, d3, d4] => { results := [.lit (.bool true)], args := [d1, d2, d3, d4] }
  | _ => none }
def fnExactSwapColoursRow : OpenClaim := { program := "ytkhhemlfahdbnab", sum := "a304867f85e25ac16fbebc89403ca1d3cfda064d1780dba395c8053462100d6e", func := "loop.example/g01102/laws.FnExactSwapColours", spec := "fnExactSwapColours", unfollowed := true, recurses := true, apart := false }
def FnExactSwapColoursSaid : Prop := fnExactSwapColoursRow.holds Try.pinned (OpenSpec.ofChange fnExactSwapColoursSpec)

/-- ITS FALSE NEIGHBOUR: 'it returns false'. Refute it at one input. -/
def fnExactSwapColoursWrong : ChangeSpec := { name := "fnExactSwapColours", fn := fun _ => fun
  | [d1, d2, d3, d4] => { results := [.lit (.bool false)], args := [d1, d2, d3, d4] }
  | _ => none }
def FnExactSwapColoursWrongFalsely : Prop := fnExactSwapColoursRow.holds Try.pinned (OpenSpec.ofChange fnExactSwapColoursWrong)

/-- 'laws.FnExactChoiceOf': WHATEVER THE INPUT: true; the input reads as it did. -/
def fnExactChoiceOfSpec : ChangeSpec := { name := "fnExactChoiceOf", fn := fun _ => fun
  | [d] => { results := [.lit (.bool true)], args := [d] }
  | _ => none }
def fnExactChoiceOfRow : OpenClaim := { program := "ytkhhemlfahdbnab", sum := "a304867f85e25ac16fbebc89403ca1d3cfda064d1780dba395c8053462100d6e", func := "loop.example/g01102/laws.FnExactChoiceOf", spec := "fnExactChoiceOf", unfollowed := true, recurses := true, apart := false }
def FnExactChoiceOfSaid : Prop := fnExactChoiceOfRow.holds Try.pinned (OpenSpec.ofChange fnExactChoiceOfSpec)

/-- ITS FALSE NEIGHBOUR: 'it returns false'. Refute it at one input. -/
def fnExactChoiceOfWrong : ChangeSpec := { name := "fnExactChoiceOf", fn := fun _ => fun
  | [d] => { results := [.lit (.bool false)], args := [d] }
  | _ => none }
def FnExactChoiceOfWrongFalsely : Prop := fnExactChoiceOfRow.holds Try.pinned (OpenSpec.ofChange fnExactChoiceOfWrong)

/-- 'laws.FnExactDirects': WHATEVER THE INPUT: true; the input reads as it did. -/
def fnExactDirectsSpec : ChangeSpec := { name := "fnExactDirects", fn := fun _ => fun
  | [d1, d2, d3] => { results := [.lit (.bool true)], args := [d1, d2, d3] }
  | _ => none }
def fnExactDirectsRow : OpenClaim := { program := "ytkhhemlfahdbnab", sum := "a304867f85e25ac16fbebc89403ca1d3cfda064d1780dba395c8053462100d6e", func := "loop.example/g01102/laws.FnExactDirects", spec := "fnExactDirects", unfollowed := true, recurses := true, apart := false }
def FnExactDirectsSaid : Prop := fnExactDirectsRow.holds Try.pinned (OpenSpec.ofChange fnExactDirectsSpec)

/-- ITS FALSE NEIGHBOUR: 'it returns false'. Refute it at one input. -/
def fnExactDirectsWrong : ChangeSpec := { name := "fnExactDirects", fn := fun _ => fun
  | [d1, d2, d3] => { results := [.lit (.bool false)], args := [d1, d2, d3] }
  | _ => none }
def FnExactDirectsWrongFalsely : Prop := fnExactDirectsRow.holds Try.pinned (OpenSpec.ofChange fnExactDirectsWrong)

/-- 'laws.FnActions': WHATEVER THE INPUT: true; the input reads as it did. -/
def fnActionsSpec : ChangeSpec := { name := "fnActions", fn := fun _ => fun
  | [d1, d2] => { results := [.lit (.bool true)], args := [d1, d2] }
  | _ => none }
def fnActionsRow : OpenClaim := { program := "ytkhhemlfahdbnab", sum := "a304867f85e25ac16fbebc89403ca1d3cfda064d1780dba395c8053462100d6e", func := "loop.example/g01102/laws.FnActions", spec := "fnActions", unfollowed := true, recurses := true, apart := false }
def FnActionsSaid : Prop := fnActionsRow.holds Try.pinned (OpenSpec.ofChange fnActionsSpec)

/-- ITS FALSE NEIGHBOUR: 'it returns false'. Refute it at one input. -/
def fnActionsWrong : ChangeSpec := { name := "fnActions", fn := fun _ => fun
  | [d1, d2] => { results := [.lit (.bool false)], args := [d1, d2] }
  | _ => none }
def FnActionsWrongFalsely : Prop := fnActionsRow.holds Try.pinned (OpenSpec.ofChange fnActionsWrong)

/-- 'laws.FnConnection': WHATEVER THE INPUT: true; the input reads as it did. -/
def fnConnectionSpec : ChangeSpec := { name := "fnConnection", fn := fun _ => fun
  | [d1, d2] => { results := [.lit (.bool true)], args := [d1, d2] }
  | _ => none }
def fnConnectionRow : OpenClaim := { program := "ytkhhemlfahdbnab", sum := "a304867f85e25ac16fbebc89403ca1d3cfda064d1780dba395c8053462100d6e", func := "loop.example/g01102/laws.FnConnection", spec := "fnConnection", unfollowed := true, recurses := true, apart := false }
def FnConnectionSaid : Prop := fnConnectionRow.holds Try.pinned (OpenSpec.ofChange fnConnectionSpec)

/-- ITS FALSE NEIGHBOUR: 'it returns false'. Refute it at one input. -/
def fnConnectionWrong : ChangeSpec := { name := "fnConnection", fn := fun _ => fun
  | [d1, d2] => { results := [.lit (.bool false)], args := [d1, d2] }
  | _ => none }
def FnConnectionWrongFalsely : Prop := fnConnectionRow.holds Try.pinned (OpenSpec.ofChange fnConnectionWrong)

/- THE SECOND FORM. 'bulk': how many values and letters a reading holds, each counted each time it is reached (what is shared counts as often as it is met; a slice's spare places count too). A statement '..UptoSaid' is the law's where the arguments, and the package variables that the reading takes, are together of bulk at most 1048576: NARROWER than '..Said'. Prove '..Said' where nothing that the law and all that it calls make is longer than what came in: it says more and counts as full. Else prove '..UptoSaid'. A law counts once. -/
mutual
def uptoBulk {H : Type} : DataW H → Nat
  | .lit (.string bytes) => bytes.length + 1
  | .lit _ => 1
  | .nil => 1
  | .ptr d => uptoBulk d + 1
  | .slice elems spare => uptoBulkAll elems + uptoBulkAll spare + 1
  | .agg parts => uptoBulkAll parts + 1
  | .iface _ d => uptoBulk d + 1
  | .map entries => uptoBulkEntries entries + 1
  | .held _ => 1
def uptoBulkAll {H : Type} : List (DataW H) → Nat
  | [] => 0
  | d :: r => uptoBulk d + uptoBulkAll r
def uptoBulkEntries {H : Type} : List (Lit × DataW H) → Nat
  | [] => 0
  | x :: r => uptoBulkEntry x + uptoBulkEntries r
def uptoBulkEntry {H : Type} : Lit × DataW H → Nat
  | (.string bytes, d) => bytes.length + uptoBulk d + 1
  | (_, d) => uptoBulk d + 1
 end
def uptoSmall : (H : Type) → List (DataW H) → Bool := fun _ ds => decide (uptoBulkAll ds ≤ 1048576)
def OpenSpec.upto (s : _root_.Go.ChangeSpec) : _root_.Go.OpenSpec := { _root_.Go.OpenSpec.ofChange s with cond := some uptoSmall }

/-- 'laws.FnExactCountColourings', WHERE WHAT IT READS IS OF BULK AT MOST 1048576: true; the input reads as it did. -/
def fnExactCountColouringsUptoRow : OpenClaim := { program := "ytkhhemlfahdbnab", sum := "a304867f85e25ac16fbebc89403ca1d3cfda064d1780dba395c8053462100d6e", func := "loop.example/g01102/laws.FnExactCountColourings", spec := "fnExactCountColourings", recurses := true, apart := false, narrowed := true }
def FnExactCountColouringsUptoSaid : Prop := fnExactCountColouringsUptoRow.holds Try.pinned (OpenSpec.upto fnExactCountColouringsSpec)

/-- 'laws.FnExactColouringAt', WHERE WHAT IT READS IS OF BULK AT MOST 1048576: true; the input reads as it did. -/
def fnExactColouringAtUptoRow : OpenClaim := { program := "ytkhhemlfahdbnab", sum := "a304867f85e25ac16fbebc89403ca1d3cfda064d1780dba395c8053462100d6e", func := "loop.example/g01102/laws.FnExactColouringAt", spec := "fnExactColouringAt", unfollowed := true, recurses := true, apart := false, narrowed := true }
def FnExactColouringAtUptoSaid : Prop := fnExactColouringAtUptoRow.holds Try.pinned (OpenSpec.upto fnExactColouringAtSpec)

/-- 'laws.FnExactNumberOf', WHERE WHAT IT READS IS OF BULK AT MOST 1048576: true; the input reads as it did. -/
def fnExactNumberOfUptoRow : OpenClaim := { program := "ytkhhemlfahdbnab", sum := "a304867f85e25ac16fbebc89403ca1d3cfda064d1780dba395c8053462100d6e", func := "loop.example/g01102/laws.FnExactNumberOf", spec := "fnExactNumberOf", unfollowed := true, recurses := true, apart := false, narrowed := true }
def FnExactNumberOfUptoSaid : Prop := fnExactNumberOfUptoRow.holds Try.pinned (OpenSpec.upto fnExactNumberOfSpec)

/-- 'laws.FnExactIsJoined', WHERE WHAT IT READS IS OF BULK AT MOST 1048576: true; the input reads as it did. -/
def fnExactIsJoinedUptoRow : OpenClaim := { program := "ytkhhemlfahdbnab", sum := "a304867f85e25ac16fbebc89403ca1d3cfda064d1780dba395c8053462100d6e", func := "loop.example/g01102/laws.FnExactIsJoined", spec := "fnExactIsJoined", unfollowed := true, recurses := true, apart := false, narrowed := true }
def FnExactIsJoinedUptoSaid : Prop := fnExactIsJoinedUptoRow.holds Try.pinned (OpenSpec.upto fnExactIsJoinedSpec)

/-- 'laws.FnExactRoadPeriod', WHERE WHAT IT READS IS OF BULK AT MOST 1048576: true; the input reads as it did. -/
def fnExactRoadPeriodUptoRow : OpenClaim := { program := "ytkhhemlfahdbnab", sum := "a304867f85e25ac16fbebc89403ca1d3cfda064d1780dba395c8053462100d6e", func := "loop.example/g01102/laws.FnExactRoadPeriod", spec := "fnExactRoadPeriod", unfollowed := true, recurses := true, apart := false, narrowed := true }
def FnExactRoadPeriodUptoSaid : Prop := fnExactRoadPeriodUptoRow.holds Try.pinned (OpenSpec.upto fnExactRoadPeriodSpec)

/-- 'laws.FnExactSwapColours', WHERE WHAT IT READS IS OF BULK AT MOST 1048576: true; the input reads as it did. -/
def fnExactSwapColoursUptoRow : OpenClaim := { program := "ytkhhemlfahdbnab", sum := "a304867f85e25ac16fbebc89403ca1d3cfda064d1780dba395c8053462100d6e", func := "loop.example/g01102/laws.FnExactSwapColours", spec := "fnExactSwapColours", unfollowed := true, recurses := true, apart := false, narrowed := true }
def FnExactSwapColoursUptoSaid : Prop := fnExactSwapColoursUptoRow.holds Try.pinned (OpenSpec.upto fnExactSwapColoursSpec)

/-- 'laws.FnExactChoiceOf', WHERE WHAT IT READS IS OF BULK AT MOST 1048576: true; the input reads as it did. -/
def fnExactChoiceOfUptoRow : OpenClaim := { program := "ytkhhemlfahdbnab", sum := "a304867f85e25ac16fbebc89403ca1d3cfda064d1780dba395c8053462100d6e", func := "loop.example/g01102/laws.FnExactChoiceOf", spec := "fnExactChoiceOf", unfollowed := true, recurses := true, apart := false, narrowed := true }
def FnExactChoiceOfUptoSaid : Prop := fnExactChoiceOfUptoRow.holds Try.pinned (OpenSpec.upto fnExactChoiceOfSpec)

/-- 'laws.FnExactDirects', WHERE WHAT IT READS IS OF BULK AT MOST 1048576: true; the input reads as it did. -/
def fnExactDirectsUptoRow : OpenClaim := { program := "ytkhhemlfahdbnab", sum := "a304867f85e25ac16fbebc89403ca1d3cfda064d1780dba395c8053462100d6e", func := "loop.example/g01102/laws.FnExactDirects", spec := "fnExactDirects", unfollowed := true, recurses := true, apart := false, narrowed := true }
def FnExactDirectsUptoSaid : Prop := fnExactDirectsUptoRow.holds Try.pinned (OpenSpec.upto fnExactDirectsSpec)

/-- 'laws.FnActions', WHERE WHAT IT READS IS OF BULK AT MOST 1048576: true; the input reads as it did. -/
def fnActionsUptoRow : OpenClaim := { program := "ytkhhemlfahdbnab", sum := "a304867f85e25ac16fbebc89403ca1d3cfda064d1780dba395c8053462100d6e", func := "loop.example/g01102/laws.FnActions", spec := "fnActions", unfollowed := true, recurses := true, apart := false, narrowed := true }
def FnActionsUptoSaid : Prop := fnActionsUptoRow.holds Try.pinned (OpenSpec.upto fnActionsSpec)

/-- 'laws.FnConnection', WHERE WHAT IT READS IS OF BULK AT MOST 1048576: true; the input reads as it did. -/
def fnConnectionUptoRow : OpenClaim := { program := "ytkhhemlfahdbnab", sum := "a304867f85e25ac16fbebc89403ca1d3cfda064d1780dba395c8053462100d6e", func := "loop.example/g01102/laws.FnConnection", spec := "fnConnection", unfollowed := true, recurses := true, apart := false, narrowed := true }
def FnConnectionUptoSaid : Prop := fnConnectionUptoRow.holds Try.pinned (OpenSpec.upto fnConnectionSpec)

end Rows
end Go.Proofs.Ytkhhemlfahdbnab
