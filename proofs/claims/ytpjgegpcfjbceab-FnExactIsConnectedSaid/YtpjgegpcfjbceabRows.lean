/-
  No cell of these rows narrows 'for every input' (looked for: loops, veiled, ifaces, maps, wideKeys, modest, calm, conditions, laid).
  DERIVED. THE GIVEN ROWS OF THIS SEAT. 12 by the template 'for every input the law returns true; each argument reads behind the call as it read before'; 0 by the template 'total and deterministic' (their statements: YtpjgegpcfjbceabTotals.lean).
  GIVEN WITH THE SEED: the statements are not yours to turn. If you find one false, say at which input.
  Laid BY PROGRAM, IN A SANDBOX (cutbox-rows.mjs): the forced cells as the released guide's own fill.sh prints them over the translation 01a6966a2b7e54b4… (all of the seat's roots in one cut). By AI agents, Wed Nov 11 2026. No macro, syntax, notation, axiom, sorry.
-/
import Derived.Test.YtpjgegpcfjbceabChecked
import GoSem.Claim
import GoSem.ClaimJoined
import GoSem.ClaimMapViews
import Derived.JoinedTies
import Derived.KernelRfl
namespace Go.Proofs.Ytpjgegpcfjbceab
/- THE CELL 'sum', in the pinned program and in every row, IS THE sha256 OF THE DUMP (.gsa) THAT YtpjgegpcfjbceabProg.lean LOADS. Nothing in Lean hashes anything: it is a label: what it is worth is what the hold of that sum in a sandbox is worth. -/
noncomputable def Try.pinned : Pinned := { name := "ytpjgegpcfjbceab", sum := "01a6966a2b7e54b46e3daf4573b19eb639522a08fdf026480b5a1d5214c61661", checked := Try.checked }
namespace Rows
def none {H : Type} : Left H := { results := [], args := [] }

/-- 'laws.FnExactActionOf': WHATEVER THE INPUT: true; the input reads as it did. -/
def fnExactActionOfSpec : ChangeSpec := { name := "fnExactActionOf", fn := fun _ => fun
  | [d1, d2] => { results := [.lit (.bool true)], args := [d1, d2] }
  | _ => none }
def fnExactActionOfRow : OpenClaim := { program := "ytpjgegpcfjbceab", sum := "01a6966a2b7e54b46e3daf4573b19eb639522a08fdf026480b5a1d5214c61661", func := "loop.example/g01102/laws.FnExactActionOf", spec := "fnExactActionOf", plainKeys := false, apart := false }
def FnExactActionOfSaid : Prop := fnExactActionOfRow.holds Try.pinned (OpenSpec.ofChange fnExactActionOfSpec)

/-- ITS FALSE NEIGHBOUR: 'it returns false'. Refute it at one input. -/
def fnExactActionOfWrong : ChangeSpec := { name := "fnExactActionOf", fn := fun _ => fun
  | [d1, d2] => { results := [.lit (.bool false)], args := [d1, d2] }
  | _ => none }
def FnExactActionOfWrongFalsely : Prop := fnExactActionOfRow.holds Try.pinned (OpenSpec.ofChange fnExactActionOfWrong)

/-- 'laws.FnExactImageOf': WHATEVER THE INPUT: true; the input reads as it did. -/
def fnExactImageOfSpec : ChangeSpec := { name := "fnExactImageOf", fn := fun _ => fun
  | [d1, d2, d3] => { results := [.lit (.bool true)], args := [d1, d2, d3] }
  | _ => none }
def fnExactImageOfRow : OpenClaim := { program := "ytpjgegpcfjbceab", sum := "01a6966a2b7e54b46e3daf4573b19eb639522a08fdf026480b5a1d5214c61661", func := "loop.example/g01102/laws.FnExactImageOf", spec := "fnExactImageOf", plainKeys := false, apart := false }
def FnExactImageOfSaid : Prop := fnExactImageOfRow.holds Try.pinned (OpenSpec.ofChange fnExactImageOfSpec)

/-- ITS FALSE NEIGHBOUR: 'it returns false'. Refute it at one input. -/
def fnExactImageOfWrong : ChangeSpec := { name := "fnExactImageOf", fn := fun _ => fun
  | [d1, d2, d3] => { results := [.lit (.bool false)], args := [d1, d2, d3] }
  | _ => none }
def FnExactImageOfWrongFalsely : Prop := fnExactImageOfRow.holds Try.pinned (OpenSpec.ofChange fnExactImageOfWrong)

/-- 'laws.FnExactPreimageOf': WHATEVER THE INPUT: true; the input reads as it did. -/
def fnExactPreimageOfSpec : ChangeSpec := { name := "fnExactPreimageOf", fn := fun _ => fun
  | [d1, d2, d3] => { results := [.lit (.bool true)], args := [d1, d2, d3] }
  | _ => none }
def fnExactPreimageOfRow : OpenClaim := { program := "ytpjgegpcfjbceab", sum := "01a6966a2b7e54b46e3daf4573b19eb639522a08fdf026480b5a1d5214c61661", func := "loop.example/g01102/laws.FnExactPreimageOf", spec := "fnExactPreimageOf", plainKeys := false, apart := false }
def FnExactPreimageOfSaid : Prop := fnExactPreimageOfRow.holds Try.pinned (OpenSpec.ofChange fnExactPreimageOfSpec)

/-- ITS FALSE NEIGHBOUR: 'it returns false'. Refute it at one input. -/
def fnExactPreimageOfWrong : ChangeSpec := { name := "fnExactPreimageOf", fn := fun _ => fun
  | [d1, d2, d3] => { results := [.lit (.bool false)], args := [d1, d2, d3] }
  | _ => none }
def FnExactPreimageOfWrongFalsely : Prop := fnExactPreimageOfRow.holds Try.pinned (OpenSpec.ofChange fnExactPreimageOfWrong)

/-- 'laws.FnExactMonoidOf': WHATEVER THE INPUT: true; the input reads as it did. -/
def fnExactMonoidOfSpec : ChangeSpec := { name := "fnExactMonoidOf", fn := fun _ => fun
  | [d] => { results := [.lit (.bool true)], args := [d] }
  | _ => none }
def fnExactMonoidOfRow : OpenClaim := { program := "ytpjgegpcfjbceab", sum := "01a6966a2b7e54b46e3daf4573b19eb639522a08fdf026480b5a1d5214c61661", func := "loop.example/g01102/laws.FnExactMonoidOf", spec := "fnExactMonoidOf", unfollowed := true, recurses := true, plainKeys := false, apart := false }
def FnExactMonoidOfSaid : Prop := fnExactMonoidOfRow.holds Try.pinned (OpenSpec.ofChange fnExactMonoidOfSpec)

/-- ITS FALSE NEIGHBOUR: 'it returns false'. Refute it at one input. -/
def fnExactMonoidOfWrong : ChangeSpec := { name := "fnExactMonoidOf", fn := fun _ => fun
  | [d] => { results := [.lit (.bool false)], args := [d] }
  | _ => none }
def FnExactMonoidOfWrongFalsely : Prop := fnExactMonoidOfRow.holds Try.pinned (OpenSpec.ofChange fnExactMonoidOfWrong)

/-- 'laws.FnExactWordFor': WHATEVER THE INPUT: true; the input reads as it did. -/
def fnExactWordForSpec : ChangeSpec := { name := "fnExactWordFor", fn := fun _ => fun
  | [d1, d2] => { results := [.lit (.bool true)], args := [d1, d2] }
  | _ => none }
def fnExactWordForRow : OpenClaim := { program := "ytpjgegpcfjbceab", sum := "01a6966a2b7e54b46e3daf4573b19eb639522a08fdf026480b5a1d5214c61661", func := "loop.example/g01102/laws.FnExactWordFor", spec := "fnExactWordFor", unfollowed := true, recurses := true, plainKeys := false, apart := false }
def FnExactWordForSaid : Prop := fnExactWordForRow.holds Try.pinned (OpenSpec.ofChange fnExactWordForSpec)

/-- ITS FALSE NEIGHBOUR: 'it returns false'. Refute it at one input. -/
def fnExactWordForWrong : ChangeSpec := { name := "fnExactWordFor", fn := fun _ => fun
  | [d1, d2] => { results := [.lit (.bool false)], args := [d1, d2] }
  | _ => none }
def FnExactWordForWrongFalsely : Prop := fnExactWordForRow.holds Try.pinned (OpenSpec.ofChange fnExactWordForWrong)

/-- 'laws.FnExactReachedFrom': WHATEVER THE INPUT: true; the input reads as it did. -/
def fnExactReachedFromSpec : ChangeSpec := { name := "fnExactReachedFrom", fn := fun _ => fun
  | [d1, d2] => { results := [.lit (.bool true)], args := [d1, d2] }
  | _ => none }
def fnExactReachedFromRow : OpenClaim := { program := "ytpjgegpcfjbceab", sum := "01a6966a2b7e54b46e3daf4573b19eb639522a08fdf026480b5a1d5214c61661", func := "loop.example/g01102/laws.FnExactReachedFrom", spec := "fnExactReachedFrom", plainKeys := false, apart := false }
def FnExactReachedFromSaid : Prop := fnExactReachedFromRow.holds Try.pinned (OpenSpec.ofChange fnExactReachedFromSpec)

/-- ITS FALSE NEIGHBOUR: 'it returns false'. Refute it at one input. -/
def fnExactReachedFromWrong : ChangeSpec := { name := "fnExactReachedFrom", fn := fun _ => fun
  | [d1, d2] => { results := [.lit (.bool false)], args := [d1, d2] }
  | _ => none }
def FnExactReachedFromWrongFalsely : Prop := fnExactReachedFromRow.holds Try.pinned (OpenSpec.ofChange fnExactReachedFromWrong)

/-- 'laws.FnExactIsConnected': WHATEVER THE INPUT: true; the input reads as it did. -/
def fnExactIsConnectedSpec : ChangeSpec := { name := "fnExactIsConnected", fn := fun _ => fun
  | [d] => { results := [.lit (.bool true)], args := [d] }
  | _ => none }
def fnExactIsConnectedRow : OpenClaim := { program := "ytpjgegpcfjbceab", sum := "01a6966a2b7e54b46e3daf4573b19eb639522a08fdf026480b5a1d5214c61661", func := "loop.example/g01102/laws.FnExactIsConnected", spec := "fnExactIsConnected", plainKeys := false, apart := false }
def FnExactIsConnectedSaid : Prop := fnExactIsConnectedRow.holds Try.pinned (OpenSpec.ofChange fnExactIsConnectedSpec)

/-- ITS FALSE NEIGHBOUR: 'it returns false'. Refute it at one input. -/
def fnExactIsConnectedWrong : ChangeSpec := { name := "fnExactIsConnected", fn := fun _ => fun
  | [d] => { results := [.lit (.bool false)], args := [d] }
  | _ => none }
def FnExactIsConnectedWrongFalsely : Prop := fnExactIsConnectedRow.holds Try.pinned (OpenSpec.ofChange fnExactIsConnectedWrong)

/-- 'laws.FnExactSinkOf': WHATEVER THE INPUT: true; the input reads as it did. -/
def fnExactSinkOfSpec : ChangeSpec := { name := "fnExactSinkOf", fn := fun _ => fun
  | [d] => { results := [.lit (.bool true)], args := [d] }
  | _ => none }
def fnExactSinkOfRow : OpenClaim := { program := "ytpjgegpcfjbceab", sum := "01a6966a2b7e54b46e3daf4573b19eb639522a08fdf026480b5a1d5214c61661", func := "loop.example/g01102/laws.FnExactSinkOf", spec := "fnExactSinkOf", plainKeys := false, apart := false }
def FnExactSinkOfSaid : Prop := fnExactSinkOfRow.holds Try.pinned (OpenSpec.ofChange fnExactSinkOfSpec)

/-- ITS FALSE NEIGHBOUR: 'it returns false'. Refute it at one input. -/
def fnExactSinkOfWrong : ChangeSpec := { name := "fnExactSinkOf", fn := fun _ => fun
  | [d] => { results := [.lit (.bool false)], args := [d] }
  | _ => none }
def FnExactSinkOfWrongFalsely : Prop := fnExactSinkOfRow.holds Try.pinned (OpenSpec.ofChange fnExactSinkOfWrong)

/-- 'laws.FnExactPeriodOf': WHATEVER THE INPUT: true; the input reads as it did. -/
def fnExactPeriodOfSpec : ChangeSpec := { name := "fnExactPeriodOf", fn := fun _ => fun
  | [d] => { results := [.lit (.bool true)], args := [d] }
  | _ => none }
def fnExactPeriodOfRow : OpenClaim := { program := "ytpjgegpcfjbceab", sum := "01a6966a2b7e54b46e3daf4573b19eb639522a08fdf026480b5a1d5214c61661", func := "loop.example/g01102/laws.FnExactPeriodOf", spec := "fnExactPeriodOf", plainKeys := false, apart := false }
def FnExactPeriodOfSaid : Prop := fnExactPeriodOfRow.holds Try.pinned (OpenSpec.ofChange fnExactPeriodOfSpec)

/-- ITS FALSE NEIGHBOUR: 'it returns false'. Refute it at one input. -/
def fnExactPeriodOfWrong : ChangeSpec := { name := "fnExactPeriodOf", fn := fun _ => fun
  | [d] => { results := [.lit (.bool false)], args := [d] }
  | _ => none }
def FnExactPeriodOfWrongFalsely : Prop := fnExactPeriodOfRow.holds Try.pinned (OpenSpec.ofChange fnExactPeriodOfWrong)

/-- 'laws.FnExactIsCongruence': WHATEVER THE INPUT: true; the input reads as it did. -/
def fnExactIsCongruenceSpec : ChangeSpec := { name := "fnExactIsCongruence", fn := fun _ => fun
  | [d1, d2] => { results := [.lit (.bool true)], args := [d1, d2] }
  | _ => none }
def fnExactIsCongruenceRow : OpenClaim := { program := "ytpjgegpcfjbceab", sum := "01a6966a2b7e54b46e3daf4573b19eb639522a08fdf026480b5a1d5214c61661", func := "loop.example/g01102/laws.FnExactIsCongruence", spec := "fnExactIsCongruence", plainKeys := false, apart := false }
def FnExactIsCongruenceSaid : Prop := fnExactIsCongruenceRow.holds Try.pinned (OpenSpec.ofChange fnExactIsCongruenceSpec)

/-- ITS FALSE NEIGHBOUR: 'it returns false'. Refute it at one input. -/
def fnExactIsCongruenceWrong : ChangeSpec := { name := "fnExactIsCongruence", fn := fun _ => fun
  | [d1, d2] => { results := [.lit (.bool false)], args := [d1, d2] }
  | _ => none }
def FnExactIsCongruenceWrongFalsely : Prop := fnExactIsCongruenceRow.holds Try.pinned (OpenSpec.ofChange fnExactIsCongruenceWrong)

/-- 'laws.FnExactLeastCongruence': WHATEVER THE INPUT: true; the input reads as it did. -/
def fnExactLeastCongruenceSpec : ChangeSpec := { name := "fnExactLeastCongruence", fn := fun _ => fun
  | [d1, d2, d3] => { results := [.lit (.bool true)], args := [d1, d2, d3] }
  | _ => none }
def fnExactLeastCongruenceRow : OpenClaim := { program := "ytpjgegpcfjbceab", sum := "01a6966a2b7e54b46e3daf4573b19eb639522a08fdf026480b5a1d5214c61661", func := "loop.example/g01102/laws.FnExactLeastCongruence", spec := "fnExactLeastCongruence", recurses := true, plainKeys := false, apart := false }
def FnExactLeastCongruenceSaid : Prop := fnExactLeastCongruenceRow.holds Try.pinned (OpenSpec.ofChange fnExactLeastCongruenceSpec)

/-- ITS FALSE NEIGHBOUR: 'it returns false'. Refute it at one input. -/
def fnExactLeastCongruenceWrong : ChangeSpec := { name := "fnExactLeastCongruence", fn := fun _ => fun
  | [d1, d2, d3] => { results := [.lit (.bool false)], args := [d1, d2, d3] }
  | _ => none }
def FnExactLeastCongruenceWrongFalsely : Prop := fnExactLeastCongruenceRow.holds Try.pinned (OpenSpec.ofChange fnExactLeastCongruenceWrong)

/-- 'laws.FnExactQuotientOf': WHATEVER THE INPUT: true; the input reads as it did. -/
def fnExactQuotientOfSpec : ChangeSpec := { name := "fnExactQuotientOf", fn := fun _ => fun
  | [d1, d2] => { results := [.lit (.bool true)], args := [d1, d2] }
  | _ => none }
def fnExactQuotientOfRow : OpenClaim := { program := "ytpjgegpcfjbceab", sum := "01a6966a2b7e54b46e3daf4573b19eb639522a08fdf026480b5a1d5214c61661", func := "loop.example/g01102/laws.FnExactQuotientOf", spec := "fnExactQuotientOf", unfollowed := true, recurses := true, plainKeys := false, apart := false }
def FnExactQuotientOfSaid : Prop := fnExactQuotientOfRow.holds Try.pinned (OpenSpec.ofChange fnExactQuotientOfSpec)

/-- ITS FALSE NEIGHBOUR: 'it returns false'. Refute it at one input. -/
def fnExactQuotientOfWrong : ChangeSpec := { name := "fnExactQuotientOf", fn := fun _ => fun
  | [d1, d2] => { results := [.lit (.bool false)], args := [d1, d2] }
  | _ => none }
def FnExactQuotientOfWrongFalsely : Prop := fnExactQuotientOfRow.holds Try.pinned (OpenSpec.ofChange fnExactQuotientOfWrong)

/- THE SECOND FORM. 'bulk': how many values and letters a reading holds, each counted each time it is reached (what is shared counts as often as it is met; a slice's spare places count too). A statement '..UptoSaid' is the law's where the arguments, and the package variables that the reading takes, are together of bulk at most 1048576: NARROWER than '..Said'. Prove '..Said' where nothing that the law and all that it calls make is longer than what came in: it says more and counts as full. Else prove '..UptoSaid'. A law counts once. -/
mutual
def uptoBulk {H : Type} : DataW H → Nat
  | .lit (.string bytes) => bytes.length + 1
  | .lit _ => 1
  | .nil => 1
  | .ptr d => uptoBulk d + 1
  | .slice elems spare => uptoBulkAll elems + uptoBulkAll spare + 1
  | .agg parts => uptoBulkAll parts + 1
  | .iface _ d => uptoBulk d + 1
  | .map entries => uptoBulkEntries entries + 1
  | .held _ => 1
def uptoBulkAll {H : Type} : List (DataW H) → Nat
  | [] => 0
  | d :: r => uptoBulk d + uptoBulkAll r
def uptoBulkEntries {H : Type} : List (Lit × DataW H) → Nat
  | [] => 0
  | x :: r => uptoBulkEntry x + uptoBulkEntries r
def uptoBulkEntry {H : Type} : Lit × DataW H → Nat
  | (.string bytes, d) => bytes.length + uptoBulk d + 1
  | (_, d) => uptoBulk d + 1
 end
def uptoSmall : (H : Type) → List (DataW H) → Bool := fun _ ds => decide (uptoBulkAll ds ≤ 1048576)
def OpenSpec.upto (s : _root_.Go.ChangeSpec) : _root_.Go.OpenSpec := { _root_.Go.OpenSpec.ofChange s with cond := some uptoSmall }

/-- 'laws.FnExactActionOf', WHERE WHAT IT READS IS OF BULK AT MOST 1048576: true; the input reads as it did. -/
def fnExactActionOfUptoRow : OpenClaim := { program := "ytpjgegpcfjbceab", sum := "01a6966a2b7e54b46e3daf4573b19eb639522a08fdf026480b5a1d5214c61661", func := "loop.example/g01102/laws.FnExactActionOf", spec := "fnExactActionOf", plainKeys := false, apart := false, narrowed := true }
def FnExactActionOfUptoSaid : Prop := fnExactActionOfUptoRow.holds Try.pinned (OpenSpec.upto fnExactActionOfSpec)

/-- 'laws.FnExactImageOf', WHERE WHAT IT READS IS OF BULK AT MOST 1048576: true; the input reads as it did. -/
def fnExactImageOfUptoRow : OpenClaim := { program := "ytpjgegpcfjbceab", sum := "01a6966a2b7e54b46e3daf4573b19eb639522a08fdf026480b5a1d5214c61661", func := "loop.example/g01102/laws.FnExactImageOf", spec := "fnExactImageOf", plainKeys := false, apart := false, narrowed := true }
def FnExactImageOfUptoSaid : Prop := fnExactImageOfUptoRow.holds Try.pinned (OpenSpec.upto fnExactImageOfSpec)

/-- 'laws.FnExactPreimageOf', WHERE WHAT IT READS IS OF BULK AT MOST 1048576: true; the input reads as it did. -/
def fnExactPreimageOfUptoRow : OpenClaim := { program := "ytpjgegpcfjbceab", sum := "01a6966a2b7e54b46e3daf4573b19eb639522a08fdf026480b5a1d5214c61661", func := "loop.example/g01102/laws.FnExactPreimageOf", spec := "fnExactPreimageOf", plainKeys := false, apart := false, narrowed := true }
def FnExactPreimageOfUptoSaid : Prop := fnExactPreimageOfUptoRow.holds Try.pinned (OpenSpec.upto fnExactPreimageOfSpec)

/-- 'laws.FnExactMonoidOf', WHERE WHAT IT READS IS OF BULK AT MOST 1048576: true; the input reads as it did. -/
def fnExactMonoidOfUptoRow : OpenClaim := { program := "ytpjgegpcfjbceab", sum := "01a6966a2b7e54b46e3daf4573b19eb639522a08fdf026480b5a1d5214c61661", func := "loop.example/g01102/laws.FnExactMonoidOf", spec := "fnExactMonoidOf", unfollowed := true, recurses := true, plainKeys := false, apart := false, narrowed := true }
def FnExactMonoidOfUptoSaid : Prop := fnExactMonoidOfUptoRow.holds Try.pinned (OpenSpec.upto fnExactMonoidOfSpec)

/-- 'laws.FnExactWordFor', WHERE WHAT IT READS IS OF BULK AT MOST 1048576: true; the input reads as it did. -/
def fnExactWordForUptoRow : OpenClaim := { program := "ytpjgegpcfjbceab", sum := "01a6966a2b7e54b46e3daf4573b19eb639522a08fdf026480b5a1d5214c61661", func := "loop.example/g01102/laws.FnExactWordFor", spec := "fnExactWordFor", unfollowed := true, recurses := true, plainKeys := false, apart := false, narrowed := true }
def FnExactWordForUptoSaid : Prop := fnExactWordForUptoRow.holds Try.pinned (OpenSpec.upto fnExactWordForSpec)

/-- 'laws.FnExactReachedFrom', WHERE WHAT IT READS IS OF BULK AT MOST 1048576: true; the input reads as it did. -/
def fnExactReachedFromUptoRow : OpenClaim := { program := "ytpjgegpcfjbceab", sum := "01a6966a2b7e54b46e3daf4573b19eb639522a08fdf026480b5a1d5214c61661", func := "loop.example/g01102/laws.FnExactReachedFrom", spec := "fnExactReachedFrom", plainKeys := false, apart := false, narrowed := true }
def FnExactReachedFromUptoSaid : Prop := fnExactReachedFromUptoRow.holds Try.pinned (OpenSpec.upto fnExactReachedFromSpec)

/-- 'laws.FnExactIsConnected', WHERE WHAT IT READS IS OF BULK AT MOST 1048576: true; the input reads as it did. -/
def fnExactIsConnectedUptoRow : OpenClaim := { program := "ytpjgegpcfjbceab", sum := "01a6966a2b7e54b46e3daf4573b19eb639522a08fdf026480b5a1d5214c61661", func := "loop.example/g01102/laws.FnExactIsConnected", spec := "fnExactIsConnected", plainKeys := false, apart := false, narrowed := true }
def FnExactIsConnectedUptoSaid : Prop := fnExactIsConnectedUptoRow.holds Try.pinned (OpenSpec.upto fnExactIsConnectedSpec)

/-- 'laws.FnExactSinkOf', WHERE WHAT IT READS IS OF BULK AT MOST 1048576: true; the input reads as it did. -/
def fnExactSinkOfUptoRow : OpenClaim := { program := "ytpjgegpcfjbceab", sum := "01a6966a2b7e54b46e3daf4573b19eb639522a08fdf026480b5a1d5214c61661", func := "loop.example/g01102/laws.FnExactSinkOf", spec := "fnExactSinkOf", plainKeys := false, apart := false, narrowed := true }
def FnExactSinkOfUptoSaid : Prop := fnExactSinkOfUptoRow.holds Try.pinned (OpenSpec.upto fnExactSinkOfSpec)

/-- 'laws.FnExactPeriodOf', WHERE WHAT IT READS IS OF BULK AT MOST 1048576: true; the input reads as it did. -/
def fnExactPeriodOfUptoRow : OpenClaim := { program := "ytpjgegpcfjbceab", sum := "01a6966a2b7e54b46e3daf4573b19eb639522a08fdf026480b5a1d5214c61661", func := "loop.example/g01102/laws.FnExactPeriodOf", spec := "fnExactPeriodOf", plainKeys := false, apart := false, narrowed := true }
def FnExactPeriodOfUptoSaid : Prop := fnExactPeriodOfUptoRow.holds Try.pinned (OpenSpec.upto fnExactPeriodOfSpec)

/-- 'laws.FnExactIsCongruence', WHERE WHAT IT READS IS OF BULK AT MOST 1048576: true; the input reads as it did. -/
def fnExactIsCongruenceUptoRow : OpenClaim := { program := "ytpjgegpcfjbceab", sum := "01a6966a2b7e54b46e3daf4573b19eb639522a08fdf026480b5a1d5214c61661", func := "loop.example/g01102/laws.FnExactIsCongruence", spec := "fnExactIsCongruence", plainKeys := false, apart := false, narrowed := true }
def FnExactIsCongruenceUptoSaid : Prop := fnExactIsCongruenceUptoRow.holds Try.pinned (OpenSpec.upto fnExactIsCongruenceSpec)

/-- 'laws.FnExactLeastCongruence', WHERE WHAT IT READS IS OF BULK AT MOST 1048576: true; the input reads as it did. -/
def fnExactLeastCongruenceUptoRow : OpenClaim := { program := "ytpjgegpcfjbceab", sum := "01a6966a2b7e54b46e3daf4573b19eb639522a08fdf026480b5a1d5214c61661", func := "loop.example/g01102/laws.FnExactLeastCongruence", spec := "fnExactLeastCongruence", recurses := true, plainKeys := false, apart := false, narrowed := true }
def FnExactLeastCongruenceUptoSaid : Prop := fnExactLeastCongruenceUptoRow.holds Try.pinned (OpenSpec.upto fnExactLeastCongruenceSpec)

/-- 'laws.FnExactQuotientOf', WHERE WHAT IT READS IS OF BULK AT MOST 1048576: true; the input reads as it did. -/
def fnExactQuotientOfUptoRow : OpenClaim := { program := "ytpjgegpcfjbceab", sum := "01a6966a2b7e54b46e3daf4573b19eb639522a08fdf026480b5a1d5214c61661", func := "loop.example/g01102/laws.FnExactQuotientOf", spec := "fnExactQuotientOf", unfollowed := true, recurses := true, plainKeys := false, apart := false, narrowed := true }
def FnExactQuotientOfUptoSaid : Prop := fnExactQuotientOfUptoRow.holds Try.pinned (OpenSpec.upto fnExactQuotientOfSpec)

end Rows
end Go.Proofs.Ytpjgegpcfjbceab
