/-
  No cell of these rows narrows 'for every input' (looked for: loops, veiled, ifaces, maps, wideKeys, modest, calm, conditions, laid).
  DERIVED. THE GIVEN ROWS OF THIS SEAT. 12 by the template 'for every input the law returns true; each argument reads behind the call as it read before'; 0 by the template 'total and deterministic' (their statements: YtkehfndcphbpaaaTotals.lean).
  GIVEN WITH THE SEED: the statements are not yours to turn. If you find one false, say at which input.
  Laid BY PROGRAM, IN A SANDBOX (cutbox-rows.mjs): the forced cells as the released guide's own fill.sh prints them over the translation 3aa86b9f5cf9415a… (all of the seat's roots in one cut). By AI agents, Wed Nov 11 2026. No macro, syntax, notation, axiom, sorry.
-/
import Derived.Test.YtkehfndcphbpaaaChecked
import GoSem.Claim
import GoSem.ClaimJoined
import GoSem.ClaimMapViews
import Derived.JoinedTies
import Derived.KernelRfl
namespace Go.Proofs.Ytkehfndcphbpaaa
/- THE CELL 'sum', in the pinned program and in every row, IS THE sha256 OF THE DUMP (.gsa) THAT YtkehfndcphbpaaaProg.lean LOADS. Nothing in Lean hashes anything: it is a label: what it is worth is what the hold of that sum in a sandbox is worth. -/
noncomputable def Try.pinned : Pinned := { name := "ytkehfndcphbpaaa", sum := "3aa86b9f5cf9415adb30853741ac54bd4116b8773faf729974bff8a2c5259677", checked := Try.checked }
namespace Rows
def none {H : Type} : Left H := { results := [], args := [] }

/-- 'laws.FnExactSinkOf': WHATEVER THE INPUT: true; the input reads as it did. -/
def fnExactSinkOfSpec : ChangeSpec := { name := "fnExactSinkOf", fn := fun _ => fun
  | [d] => { results := [.lit (.bool true)], args := [d] }
  | _ => none }
def fnExactSinkOfRow : OpenClaim := { program := "ytkehfndcphbpaaa", sum := "3aa86b9f5cf9415adb30853741ac54bd4116b8773faf729974bff8a2c5259677", func := "loop.example/g01102/laws.FnExactSinkOf", spec := "fnExactSinkOf", plainKeys := false, apart := false }
def FnExactSinkOfSaid : Prop := fnExactSinkOfRow.holds Try.pinned (OpenSpec.ofChange fnExactSinkOfSpec)

/-- ITS FALSE NEIGHBOUR: 'it returns false'. Refute it at one input. -/
def fnExactSinkOfWrong : ChangeSpec := { name := "fnExactSinkOf", fn := fun _ => fun
  | [d] => { results := [.lit (.bool false)], args := [d] }
  | _ => none }
def FnExactSinkOfWrongFalsely : Prop := fnExactSinkOfRow.holds Try.pinned (OpenSpec.ofChange fnExactSinkOfWrong)

/-- 'laws.FnExactPeriodOf': WHATEVER THE INPUT: true; the input reads as it did. -/
def fnExactPeriodOfSpec : ChangeSpec := { name := "fnExactPeriodOf", fn := fun _ => fun
  | [d] => { results := [.lit (.bool true)], args := [d] }
  | _ => none }
def fnExactPeriodOfRow : OpenClaim := { program := "ytkehfndcphbpaaa", sum := "3aa86b9f5cf9415adb30853741ac54bd4116b8773faf729974bff8a2c5259677", func := "loop.example/g01102/laws.FnExactPeriodOf", spec := "fnExactPeriodOf", plainKeys := false, apart := false }
def FnExactPeriodOfSaid : Prop := fnExactPeriodOfRow.holds Try.pinned (OpenSpec.ofChange fnExactPeriodOfSpec)

/-- ITS FALSE NEIGHBOUR: 'it returns false'. Refute it at one input. -/
def fnExactPeriodOfWrong : ChangeSpec := { name := "fnExactPeriodOf", fn := fun _ => fun
  | [d] => { results := [.lit (.bool false)], args := [d] }
  | _ => none }
def FnExactPeriodOfWrongFalsely : Prop := fnExactPeriodOfRow.holds Try.pinned (OpenSpec.ofChange fnExactPeriodOfWrong)

/-- 'laws.FnExactLeastCongruence': WHATEVER THE INPUT: true; the input reads as it did. -/
def fnExactLeastCongruenceSpec : ChangeSpec := { name := "fnExactLeastCongruence", fn := fun _ => fun
  | [d1, d2, d3] => { results := [.lit (.bool true)], args := [d1, d2, d3] }
  | _ => none }
def fnExactLeastCongruenceRow : OpenClaim := { program := "ytkehfndcphbpaaa", sum := "3aa86b9f5cf9415adb30853741ac54bd4116b8773faf729974bff8a2c5259677", func := "loop.example/g01102/laws.FnExactLeastCongruence", spec := "fnExactLeastCongruence", recurses := true, plainKeys := false, apart := false }
def FnExactLeastCongruenceSaid : Prop := fnExactLeastCongruenceRow.holds Try.pinned (OpenSpec.ofChange fnExactLeastCongruenceSpec)

/-- ITS FALSE NEIGHBOUR: 'it returns false'. Refute it at one input. -/
def fnExactLeastCongruenceWrong : ChangeSpec := { name := "fnExactLeastCongruence", fn := fun _ => fun
  | [d1, d2, d3] => { results := [.lit (.bool false)], args := [d1, d2, d3] }
  | _ => none }
def FnExactLeastCongruenceWrongFalsely : Prop := fnExactLeastCongruenceRow.holds Try.pinned (OpenSpec.ofChange fnExactLeastCongruenceWrong)

/-- 'laws.FnExactQuotientOf': WHATEVER THE INPUT: true; the input reads as it did. -/
def fnExactQuotientOfSpec : ChangeSpec := { name := "fnExactQuotientOf", fn := fun _ => fun
  | [d1, d2] => { results := [.lit (.bool true)], args := [d1, d2] }
  | _ => none }
def fnExactQuotientOfRow : OpenClaim := { program := "ytkehfndcphbpaaa", sum := "3aa86b9f5cf9415adb30853741ac54bd4116b8773faf729974bff8a2c5259677", func := "loop.example/g01102/laws.FnExactQuotientOf", spec := "fnExactQuotientOf", unfollowed := true, recurses := true, plainKeys := false, apart := false }
def FnExactQuotientOfSaid : Prop := fnExactQuotientOfRow.holds Try.pinned (OpenSpec.ofChange fnExactQuotientOfSpec)

/-- ITS FALSE NEIGHBOUR: 'it returns false'. Refute it at one input. -/
def fnExactQuotientOfWrong : ChangeSpec := { name := "fnExactQuotientOf", fn := fun _ => fun
  | [d1, d2] => { results := [.lit (.bool false)], args := [d1, d2] }
  | _ => none }
def FnExactQuotientOfWrongFalsely : Prop := fnExactQuotientOfRow.holds Try.pinned (OpenSpec.ofChange fnExactQuotientOfWrong)

/-- 'laws.FnExactProductOf': WHATEVER THE INPUT: true; the input reads as it did. -/
def fnExactProductOfSpec : ChangeSpec := { name := "fnExactProductOf", fn := fun _ => fun
  | [d1, d2] => { results := [.lit (.bool true)], args := [d1, d2] }
  | _ => none }
def fnExactProductOfRow : OpenClaim := { program := "ytkehfndcphbpaaa", sum := "3aa86b9f5cf9415adb30853741ac54bd4116b8773faf729974bff8a2c5259677", func := "loop.example/g01102/laws.FnExactProductOf", spec := "fnExactProductOf", unfollowed := true, recurses := true, plainKeys := false, apart := false }
def FnExactProductOfSaid : Prop := fnExactProductOfRow.holds Try.pinned (OpenSpec.ofChange fnExactProductOfSpec)

/-- ITS FALSE NEIGHBOUR: 'it returns false'. Refute it at one input. -/
def fnExactProductOfWrong : ChangeSpec := { name := "fnExactProductOf", fn := fun _ => fun
  | [d1, d2] => { results := [.lit (.bool false)], args := [d1, d2] }
  | _ => none }
def FnExactProductOfWrongFalsely : Prop := fnExactProductOfRow.holds Try.pinned (OpenSpec.ofChange fnExactProductOfWrong)

/-- 'laws.FnExactRestrictTo': WHATEVER THE INPUT: true; the input reads as it did. -/
def fnExactRestrictToSpec : ChangeSpec := { name := "fnExactRestrictTo", fn := fun _ => fun
  | [d1, d2] => { results := [.lit (.bool true)], args := [d1, d2] }
  | _ => none }
def fnExactRestrictToRow : OpenClaim := { program := "ytkehfndcphbpaaa", sum := "3aa86b9f5cf9415adb30853741ac54bd4116b8773faf729974bff8a2c5259677", func := "loop.example/g01102/laws.FnExactRestrictTo", spec := "fnExactRestrictTo", unfollowed := true, recurses := true, plainKeys := false, apart := false }
def FnExactRestrictToSaid : Prop := fnExactRestrictToRow.holds Try.pinned (OpenSpec.ofChange fnExactRestrictToSpec)

/-- ITS FALSE NEIGHBOUR: 'it returns false'. Refute it at one input. -/
def fnExactRestrictToWrong : ChangeSpec := { name := "fnExactRestrictTo", fn := fun _ => fun
  | [d1, d2] => { results := [.lit (.bool false)], args := [d1, d2] }
  | _ => none }
def FnExactRestrictToWrongFalsely : Prop := fnExactRestrictToRow.holds Try.pinned (OpenSpec.ofChange fnExactRestrictToWrong)

/-- 'laws.FnExactRenumberStates': WHATEVER THE INPUT: true; the input reads as it did. -/
def fnExactRenumberStatesSpec : ChangeSpec := { name := "fnExactRenumberStates", fn := fun _ => fun
  | [d1, d2] => { results := [.lit (.bool true)], args := [d1, d2] }
  | _ => none }
def fnExactRenumberStatesRow : OpenClaim := { program := "ytkehfndcphbpaaa", sum := "3aa86b9f5cf9415adb30853741ac54bd4116b8773faf729974bff8a2c5259677", func := "loop.example/g01102/laws.FnExactRenumberStates", spec := "fnExactRenumberStates", unfollowed := true, recurses := true, plainKeys := false, apart := false }
def FnExactRenumberStatesSaid : Prop := fnExactRenumberStatesRow.holds Try.pinned (OpenSpec.ofChange fnExactRenumberStatesSpec)

/-- ITS FALSE NEIGHBOUR: 'it returns false'. Refute it at one input. -/
def fnExactRenumberStatesWrong : ChangeSpec := { name := "fnExactRenumberStates", fn := fun _ => fun
  | [d1, d2] => { results := [.lit (.bool false)], args := [d1, d2] }
  | _ => none }
def FnExactRenumberStatesWrongFalsely : Prop := fnExactRenumberStatesRow.holds Try.pinned (OpenSpec.ofChange fnExactRenumberStatesWrong)

/-- 'laws.FnExactRenumberingOf': WHATEVER THE INPUT: true; the input reads as it did. -/
def fnExactRenumberingOfSpec : ChangeSpec := { name := "fnExactRenumberingOf", fn := fun _ => fun
  | [d1, d2] => { results := [.lit (.bool true)], args := [d1, d2] }
  | _ => none }
def fnExactRenumberingOfRow : OpenClaim := { program := "ytkehfndcphbpaaa", sum := "3aa86b9f5cf9415adb30853741ac54bd4116b8773faf729974bff8a2c5259677", func := "loop.example/g01102/laws.FnExactRenumberingOf", spec := "fnExactRenumberingOf", recurses := true, plainKeys := false, apart := false }
def FnExactRenumberingOfSaid : Prop := fnExactRenumberingOfRow.holds Try.pinned (OpenSpec.ofChange fnExactRenumberingOfSpec)

/-- ITS FALSE NEIGHBOUR: 'it returns false'. Refute it at one input. -/
def fnExactRenumberingOfWrong : ChangeSpec := { name := "fnExactRenumberingOf", fn := fun _ => fun
  | [d1, d2] => { results := [.lit (.bool false)], args := [d1, d2] }
  | _ => none }
def FnExactRenumberingOfWrongFalsely : Prop := fnExactRenumberingOfRow.holds Try.pinned (OpenSpec.ofChange fnExactRenumberingOfWrong)

/-- 'laws.FnExactMonoidOf': WHATEVER THE INPUT: true; the input reads as it did. -/
def fnExactMonoidOfSpec : ChangeSpec := { name := "fnExactMonoidOf", fn := fun _ => fun
  | [d] => { results := [.lit (.bool true)], args := [d] }
  | _ => none }
def fnExactMonoidOfRow : OpenClaim := { program := "ytkehfndcphbpaaa", sum := "3aa86b9f5cf9415adb30853741ac54bd4116b8773faf729974bff8a2c5259677", func := "loop.example/g01102/laws.FnExactMonoidOf", spec := "fnExactMonoidOf", unfollowed := true, recurses := true, plainKeys := false, apart := false }
def FnExactMonoidOfSaid : Prop := fnExactMonoidOfRow.holds Try.pinned (OpenSpec.ofChange fnExactMonoidOfSpec)

/-- ITS FALSE NEIGHBOUR: 'it returns false'. Refute it at one input. -/
def fnExactMonoidOfWrong : ChangeSpec := { name := "fnExactMonoidOf", fn := fun _ => fun
  | [d] => { results := [.lit (.bool false)], args := [d] }
  | _ => none }
def FnExactMonoidOfWrongFalsely : Prop := fnExactMonoidOfRow.holds Try.pinned (OpenSpec.ofChange fnExactMonoidOfWrong)

/-- 'laws.FnExactWordFor': WHATEVER THE INPUT: true; the input reads as it did. -/
def fnExactWordForSpec : ChangeSpec := { name := "fnExactWordFor", fn := fun _ => fun
  | [d1, d2] => { results := [.lit (.bool true)], args := [d1, d2] }
  | _ => none }
def fnExactWordForRow : OpenClaim := { program := "ytkehfndcphbpaaa", sum := "3aa86b9f5cf9415adb30853741ac54bd4116b8773faf729974bff8a2c5259677", func := "loop.example/g01102/laws.FnExactWordFor", spec := "fnExactWordFor", unfollowed := true, recurses := true, plainKeys := false, apart := false }
def FnExactWordForSaid : Prop := fnExactWordForRow.holds Try.pinned (OpenSpec.ofChange fnExactWordForSpec)

/-- ITS FALSE NEIGHBOUR: 'it returns false'. Refute it at one input. -/
def fnExactWordForWrong : ChangeSpec := { name := "fnExactWordFor", fn := fun _ => fun
  | [d1, d2] => { results := [.lit (.bool false)], args := [d1, d2] }
  | _ => none }
def FnExactWordForWrongFalsely : Prop := fnExactWordForRow.holds Try.pinned (OpenSpec.ofChange fnExactWordForWrong)

/-- 'laws.FnActions': WHATEVER THE INPUT: true; the input reads as it did. -/
def fnActionsSpec : ChangeSpec := { name := "fnActions", fn := fun _ => fun
  | [d1, d2] => { results := [.lit (.bool true)], args := [d1, d2] }
  | _ => none }
def fnActionsRow : OpenClaim := { program := "ytkehfndcphbpaaa", sum := "3aa86b9f5cf9415adb30853741ac54bd4116b8773faf729974bff8a2c5259677", func := "loop.example/g01102/laws.FnActions", spec := "fnActions", plainKeys := false, apart := false }
def FnActionsSaid : Prop := fnActionsRow.holds Try.pinned (OpenSpec.ofChange fnActionsSpec)

/-- ITS FALSE NEIGHBOUR: 'it returns false'. Refute it at one input. -/
def fnActionsWrong : ChangeSpec := { name := "fnActions", fn := fun _ => fun
  | [d1, d2] => { results := [.lit (.bool false)], args := [d1, d2] }
  | _ => none }
def FnActionsWrongFalsely : Prop := fnActionsRow.holds Try.pinned (OpenSpec.ofChange fnActionsWrong)

/-- 'laws.FnConnection': WHATEVER THE INPUT: true; the input reads as it did. -/
def fnConnectionSpec : ChangeSpec := { name := "fnConnection", fn := fun _ => fun
  | [d1, d2] => { results := [.lit (.bool true)], args := [d1, d2] }
  | _ => none }
def fnConnectionRow : OpenClaim := { program := "ytkehfndcphbpaaa", sum := "3aa86b9f5cf9415adb30853741ac54bd4116b8773faf729974bff8a2c5259677", func := "loop.example/g01102/laws.FnConnection", spec := "fnConnection", plainKeys := false, apart := false }
def FnConnectionSaid : Prop := fnConnectionRow.holds Try.pinned (OpenSpec.ofChange fnConnectionSpec)

/-- ITS FALSE NEIGHBOUR: 'it returns false'. Refute it at one input. -/
def fnConnectionWrong : ChangeSpec := { name := "fnConnection", fn := fun _ => fun
  | [d1, d2] => { results := [.lit (.bool false)], args := [d1, d2] }
  | _ => none }
def FnConnectionWrongFalsely : Prop := fnConnectionRow.holds Try.pinned (OpenSpec.ofChange fnConnectionWrong)

/- THE SECOND FORM. 'bulk': how many values and letters a reading holds, each counted each time it is reached (what is shared counts as often as it is met; a slice's spare places count too). A statement '..UptoSaid' is the law's where the arguments, and the package variables that the reading takes, are together of bulk at most 1048576: NARROWER than '..Said'. Prove '..Said' where nothing that the law and all that it calls make is longer than what came in: it says more and counts as full. Else prove '..UptoSaid'. A law counts once. -/
mutual
def uptoBulk {H : Type} : DataW H → Nat
  | .lit (.string bytes) => bytes.length + 1
  | .lit _ => 1
  | .nil => 1
  | .ptr d => uptoBulk d + 1
  | .slice elems spare => uptoBulkAll elems + uptoBulkAll spare + 1
  | .agg parts => uptoBulkAll parts + 1
  | .iface _ d => uptoBulk d + 1
  | .map entries => uptoBulkEntries entries + 1
  | .held _ => 1
def uptoBulkAll {H : Type} : List (DataW H) → Nat
  | [] => 0
  | d :: r => uptoBulk d + uptoBulkAll r
def uptoBulkEntries {H : Type} : List (Lit × DataW H) → Nat
  | [] => 0
  | x :: r => uptoBulkEntry x + uptoBulkEntries r
def uptoBulkEntry {H : Type} : Lit × DataW H → Nat
  | (.string bytes, d) => bytes.length + uptoBulk d + 1
  | (_, d) => uptoBulk d + 1
 end
def uptoSmall : (H : Type) → List (DataW H) → Bool := fun _ ds => decide (uptoBulkAll ds ≤ 1048576)
def OpenSpec.upto (s : _root_.Go.ChangeSpec) : _root_.Go.OpenSpec := { _root_.Go.OpenSpec.ofChange s with cond := some uptoSmall }

/-- 'laws.FnExactSinkOf', WHERE WHAT IT READS IS OF BULK AT MOST 1048576: true; the input reads as it did. -/
def fnExactSinkOfUptoRow : OpenClaim := { program := "ytkehfndcphbpaaa", sum := "3aa86b9f5cf9415adb30853741ac54bd4116b8773faf729974bff8a2c5259677", func := "loop.example/g01102/laws.FnExactSinkOf", spec := "fnExactSinkOf", plainKeys := false, apart := false, narrowed := true }
def FnExactSinkOfUptoSaid : Prop := fnExactSinkOfUptoRow.holds Try.pinned (OpenSpec.upto fnExactSinkOfSpec)

/-- 'laws.FnExactPeriodOf', WHERE WHAT IT READS IS OF BULK AT MOST 1048576: true; the input reads as it did. -/
def fnExactPeriodOfUptoRow : OpenClaim := { program := "ytkehfndcphbpaaa", sum := "3aa86b9f5cf9415adb30853741ac54bd4116b8773faf729974bff8a2c5259677", func := "loop.example/g01102/laws.FnExactPeriodOf", spec := "fnExactPeriodOf", plainKeys := false, apart := false, narrowed := true }
def FnExactPeriodOfUptoSaid : Prop := fnExactPeriodOfUptoRow.holds Try.pinned (OpenSpec.upto fnExactPeriodOfSpec)

/-- 'laws.FnExactLeastCongruence', WHERE WHAT IT READS IS OF BULK AT MOST 1048576: true; the input reads as it did. -/
def fnExactLeastCongruenceUptoRow : OpenClaim := { program := "ytkehfndcphbpaaa", sum := "3aa86b9f5cf9415adb30853741ac54bd4116b8773faf729974bff8a2c5259677", func := "loop.example/g01102/laws.FnExactLeastCongruence", spec := "fnExactLeastCongruence", recurses := true, plainKeys := false, apart := false, narrowed := true }
def FnExactLeastCongruenceUptoSaid : Prop := fnExactLeastCongruenceUptoRow.holds Try.pinned (OpenSpec.upto fnExactLeastCongruenceSpec)

/-- 'laws.FnExactQuotientOf', WHERE WHAT IT READS IS OF BULK AT MOST 1048576: true; the input reads as it did. -/
def fnExactQuotientOfUptoRow : OpenClaim := { program := "ytkehfndcphbpaaa", sum := "3aa86b9f5cf9415adb30853741ac54bd4116b8773faf729974bff8a2c5259677", func := "loop.example/g01102/laws.FnExactQuotientOf", spec := "fnExactQuotientOf", unfollowed := true, recurses := true, plainKeys := false, apart := false, narrowed := true }
def FnExactQuotientOfUptoSaid : Prop := fnExactQuotientOfUptoRow.holds Try.pinned (OpenSpec.upto fnExactQuotientOfSpec)

/-- 'laws.FnExactProductOf', WHERE WHAT IT READS IS OF BULK AT MOST 1048576: true; the input reads as it did. -/
def fnExactProductOfUptoRow : OpenClaim := { program := "ytkehfndcphbpaaa", sum := "3aa86b9f5cf9415adb30853741ac54bd4116b8773faf729974bff8a2c5259677", func := "loop.example/g01102/laws.FnExactProductOf", spec := "fnExactProductOf", unfollowed := true, recurses := true, plainKeys := false, apart := false, narrowed := true }
def FnExactProductOfUptoSaid : Prop := fnExactProductOfUptoRow.holds Try.pinned (OpenSpec.upto fnExactProductOfSpec)

/-- 'laws.FnExactRestrictTo', WHERE WHAT IT READS IS OF BULK AT MOST 1048576: true; the input reads as it did. -/
def fnExactRestrictToUptoRow : OpenClaim := { program := "ytkehfndcphbpaaa", sum := "3aa86b9f5cf9415adb30853741ac54bd4116b8773faf729974bff8a2c5259677", func := "loop.example/g01102/laws.FnExactRestrictTo", spec := "fnExactRestrictTo", unfollowed := true, recurses := true, plainKeys := false, apart := false, narrowed := true }
def FnExactRestrictToUptoSaid : Prop := fnExactRestrictToUptoRow.holds Try.pinned (OpenSpec.upto fnExactRestrictToSpec)

/-- 'laws.FnExactRenumberStates', WHERE WHAT IT READS IS OF BULK AT MOST 1048576: true; the input reads as it did. -/
def fnExactRenumberStatesUptoRow : OpenClaim := { program := "ytkehfndcphbpaaa", sum := "3aa86b9f5cf9415adb30853741ac54bd4116b8773faf729974bff8a2c5259677", func := "loop.example/g01102/laws.FnExactRenumberStates", spec := "fnExactRenumberStates", unfollowed := true, recurses := true, plainKeys := false, apart := false, narrowed := true }
def FnExactRenumberStatesUptoSaid : Prop := fnExactRenumberStatesUptoRow.holds Try.pinned (OpenSpec.upto fnExactRenumberStatesSpec)

/-- 'laws.FnExactRenumberingOf', WHERE WHAT IT READS IS OF BULK AT MOST 1048576: true; the input reads as it did. -/
def fnExactRenumberingOfUptoRow : OpenClaim := { program := "ytkehfndcphbpaaa", sum := "3aa86b9f5cf9415adb30853741ac54bd4116b8773faf729974bff8a2c5259677", func := "loop.example/g01102/laws.FnExactRenumberingOf", spec := "fnExactRenumberingOf", recurses := true, plainKeys := false, apart := false, narrowed := true }
def FnExactRenumberingOfUptoSaid : Prop := fnExactRenumberingOfUptoRow.holds Try.pinned (OpenSpec.upto fnExactRenumberingOfSpec)

/-- 'laws.FnExactMonoidOf', WHERE WHAT IT READS IS OF BULK AT MOST 1048576: true; the input reads as it did. -/
def fnExactMonoidOfUptoRow : OpenClaim := { program := "ytkehfndcphbpaaa", sum := "3aa86b9f5cf9415adb30853741ac54bd4116b8773faf729974bff8a2c5259677", func := "loop.example/g01102/laws.FnExactMonoidOf", spec := "fnExactMonoidOf", unfollowed := true, recurses := true, plainKeys := false, apart := false, narrowed := true }
def FnExactMonoidOfUptoSaid : Prop := fnExactMonoidOfUptoRow.holds Try.pinned (OpenSpec.upto fnExactMonoidOfSpec)

/-- 'laws.FnExactWordFor', WHERE WHAT IT READS IS OF BULK AT MOST 1048576: true; the input reads as it did. -/
def fnExactWordForUptoRow : OpenClaim := { program := "ytkehfndcphbpaaa", sum := "3aa86b9f5cf9415adb30853741ac54bd4116b8773faf729974bff8a2c5259677", func := "loop.example/g01102/laws.FnExactWordFor", spec := "fnExactWordFor", unfollowed := true, recurses := true, plainKeys := false, apart := false, narrowed := true }
def FnExactWordForUptoSaid : Prop := fnExactWordForUptoRow.holds Try.pinned (OpenSpec.upto fnExactWordForSpec)

/-- 'laws.FnActions', WHERE WHAT IT READS IS OF BULK AT MOST 1048576: true; the input reads as it did. -/
def fnActionsUptoRow : OpenClaim := { program := "ytkehfndcphbpaaa", sum := "3aa86b9f5cf9415adb30853741ac54bd4116b8773faf729974bff8a2c5259677", func := "loop.example/g01102/laws.FnActions", spec := "fnActions", plainKeys := false, apart := false, narrowed := true }
def FnActionsUptoSaid : Prop := fnActionsUptoRow.holds Try.pinned (OpenSpec.upto fnActionsSpec)

/-- 'laws.FnConnection', WHERE WHAT IT READS IS OF BULK AT MOST 1048576: true; the input reads as it did. -/
def fnConnectionUptoRow : OpenClaim := { program := "ytkehfndcphbpaaa", sum := "3aa86b9f5cf9415adb30853741ac54bd4116b8773faf729974bff8a2c5259677", func := "loop.example/g01102/laws.FnConnection", spec := "fnConnection", plainKeys := false, apart := false, narrowed := true }
def FnConnectionUptoSaid : Prop := fnConnectionUptoRow.holds Try.pinned (OpenSpec.upto fnConnectionSpec)

end Rows
end Go.Proofs.Ytkehfndcphbpaaa
