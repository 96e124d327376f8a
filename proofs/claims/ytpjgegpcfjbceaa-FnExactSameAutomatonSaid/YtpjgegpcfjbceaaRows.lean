/-
  No cell of these rows narrows 'for every input' (looked for: loops, veiled, ifaces, maps, wideKeys, modest, calm, conditions, laid).
  DERIVED. THE GIVEN ROWS OF THIS SEAT. 9 by the template 'for every input the law returns true; each argument reads behind the call as it read before'; 0 by the template 'total and deterministic' (their statements: YtpjgegpcfjbceaaTotals.lean).
  GIVEN WITH THE SEED: the statements are not yours to turn. If you find one false, say at which input.
  Laid BY PROGRAM, IN A SANDBOX (cutbox-rows.mjs): the forced cells as the released guide's own fill.sh prints them over the translation 3c737e46f6196503… (all of the seat's roots in one cut). By AI agents, Wed Nov 11 2026. No macro, syntax, notation, axiom, sorry.
-/
import Derived.Test.YtpjgegpcfjbceaaChecked
import GoSem.Claim
import GoSem.ClaimJoined
import GoSem.ClaimMapViews
import Derived.JoinedTies
import Derived.KernelRfl
namespace Go.Proofs.Ytpjgegpcfjbceaa
/- THE CELL 'sum', in the pinned program and in every row, IS THE sha256 OF THE DUMP (.gsa) THAT YtpjgegpcfjbceaaProg.lean LOADS. Nothing in Lean hashes anything: it is a label: what it is worth is what the hold of that sum in a sandbox is worth. -/
noncomputable def Try.pinned : Pinned := { name := "ytpjgegpcfjbceaa", sum := "3c737e46f61965035ced4a7d8e2542ff9f315da2dc5e933c44b2de9d50e0679e", checked := Try.checked }
namespace Rows
def none {H : Type} : Left H := { results := [], args := [] }

/-- 'laws.FnActions': WHATEVER THE INPUT: true; the input reads as it did. -/
def fnActionsSpec : ChangeSpec := { name := "fnActions", fn := fun _ => fun
  | [d1, d2] => { results := [.lit (.bool true)], args := [d1, d2] }
  | _ => none }
def fnActionsRow : OpenClaim := { program := "ytpjgegpcfjbceaa", sum := "3c737e46f61965035ced4a7d8e2542ff9f315da2dc5e933c44b2de9d50e0679e", func := "loop.example/g01102/laws.FnActions", spec := "fnActions", plainKeys := false, apart := false }
def FnActionsSaid : Prop := fnActionsRow.holds Try.pinned (OpenSpec.ofChange fnActionsSpec)

/-- ITS FALSE NEIGHBOUR: 'it returns false'. Refute it at one input. -/
def fnActionsWrong : ChangeSpec := { name := "fnActions", fn := fun _ => fun
  | [d1, d2] => { results := [.lit (.bool false)], args := [d1, d2] }
  | _ => none }
def FnActionsWrongFalsely : Prop := fnActionsRow.holds Try.pinned (OpenSpec.ofChange fnActionsWrong)

/-- 'laws.FnMonoid': WHATEVER THE INPUT: true; the input reads as it did. -/
def fnMonoidSpec : ChangeSpec := { name := "fnMonoid", fn := fun _ => fun
  | [d1, d2] => { results := [.lit (.bool true)], args := [d1, d2] }
  | _ => none }
def fnMonoidRow : OpenClaim := { program := "ytpjgegpcfjbceaa", sum := "3c737e46f61965035ced4a7d8e2542ff9f315da2dc5e933c44b2de9d50e0679e", func := "loop.example/g01102/laws.FnMonoid", spec := "fnMonoid", unfollowed := true, recurses := true, plainKeys := false, apart := false }
def FnMonoidSaid : Prop := fnMonoidRow.holds Try.pinned (OpenSpec.ofChange fnMonoidSpec)

/-- ITS FALSE NEIGHBOUR: 'it returns false'. Refute it at one input. -/
def fnMonoidWrong : ChangeSpec := { name := "fnMonoid", fn := fun _ => fun
  | [d1, d2] => { results := [.lit (.bool false)], args := [d1, d2] }
  | _ => none }
def FnMonoidWrongFalsely : Prop := fnMonoidRow.holds Try.pinned (OpenSpec.ofChange fnMonoidWrong)

/-- 'laws.FnConnection': WHATEVER THE INPUT: true; the input reads as it did. -/
def fnConnectionSpec : ChangeSpec := { name := "fnConnection", fn := fun _ => fun
  | [d1, d2] => { results := [.lit (.bool true)], args := [d1, d2] }
  | _ => none }
def fnConnectionRow : OpenClaim := { program := "ytpjgegpcfjbceaa", sum := "3c737e46f61965035ced4a7d8e2542ff9f315da2dc5e933c44b2de9d50e0679e", func := "loop.example/g01102/laws.FnConnection", spec := "fnConnection", plainKeys := false, apart := false }
def FnConnectionSaid : Prop := fnConnectionRow.holds Try.pinned (OpenSpec.ofChange fnConnectionSpec)

/-- ITS FALSE NEIGHBOUR: 'it returns false'. Refute it at one input. -/
def fnConnectionWrong : ChangeSpec := { name := "fnConnection", fn := fun _ => fun
  | [d1, d2] => { results := [.lit (.bool false)], args := [d1, d2] }
  | _ => none }
def FnConnectionWrongFalsely : Prop := fnConnectionRow.holds Try.pinned (OpenSpec.ofChange fnConnectionWrong)

/-- 'laws.FnExactCodeName': WHATEVER THE INPUT: true; the input reads as it did. -/
def fnExactCodeNameSpec : ChangeSpec := { name := "fnExactCodeName", fn := fun _ => fun
  | [d] => { results := [.lit (.bool true)], args := [d] }
  | _ => none }
def fnExactCodeNameRow : OpenClaim := { program := "ytpjgegpcfjbceaa", sum := "3c737e46f61965035ced4a7d8e2542ff9f315da2dc5e933c44b2de9d50e0679e", func := "loop.example/g01102/laws.FnExactCodeName", spec := "fnExactCodeName", plainKeys := false, apart := false }
def FnExactCodeNameSaid : Prop := fnExactCodeNameRow.holds Try.pinned (OpenSpec.ofChange fnExactCodeNameSpec)

/-- ITS FALSE NEIGHBOUR: 'it returns false'. Refute it at one input. -/
def fnExactCodeNameWrong : ChangeSpec := { name := "fnExactCodeName", fn := fun _ => fun
  | [d] => { results := [.lit (.bool false)], args := [d] }
  | _ => none }
def FnExactCodeNameWrongFalsely : Prop := fnExactCodeNameRow.holds Try.pinned (OpenSpec.ofChange fnExactCodeNameWrong)

/-- 'laws.FnExactValidAutomaton': WHATEVER THE INPUT: true; the input reads as it did. -/
def fnExactValidAutomatonSpec : ChangeSpec := { name := "fnExactValidAutomaton", fn := fun _ => fun
  | [d] => { results := [.lit (.bool true)], args := [d] }
  | _ => none }
def fnExactValidAutomatonRow : OpenClaim := { program := "ytpjgegpcfjbceaa", sum := "3c737e46f61965035ced4a7d8e2542ff9f315da2dc5e933c44b2de9d50e0679e", func := "loop.example/g01102/laws.FnExactValidAutomaton", spec := "fnExactValidAutomaton", plainKeys := false, apart := false }
def FnExactValidAutomatonSaid : Prop := fnExactValidAutomatonRow.holds Try.pinned (OpenSpec.ofChange fnExactValidAutomatonSpec)

/-- ITS FALSE NEIGHBOUR: 'it returns false'. Refute it at one input. -/
def fnExactValidAutomatonWrong : ChangeSpec := { name := "fnExactValidAutomaton", fn := fun _ => fun
  | [d] => { results := [.lit (.bool false)], args := [d] }
  | _ => none }
def FnExactValidAutomatonWrongFalsely : Prop := fnExactValidAutomatonRow.holds Try.pinned (OpenSpec.ofChange fnExactValidAutomatonWrong)

/-- 'laws.FnExactSameAutomaton': WHATEVER THE INPUT: true; the input reads as it did. -/
def fnExactSameAutomatonSpec : ChangeSpec := { name := "fnExactSameAutomaton", fn := fun _ => fun
  | [d1, d2] => { results := [.lit (.bool true)], args := [d1, d2] }
  | _ => none }
def fnExactSameAutomatonRow : OpenClaim := { program := "ytpjgegpcfjbceaa", sum := "3c737e46f61965035ced4a7d8e2542ff9f315da2dc5e933c44b2de9d50e0679e", func := "loop.example/g01102/laws.FnExactSameAutomaton", spec := "fnExactSameAutomaton", unfollowed := true, recurses := true, plainKeys := false, apart := false }
def FnExactSameAutomatonSaid : Prop := fnExactSameAutomatonRow.holds Try.pinned (OpenSpec.ofChange fnExactSameAutomatonSpec)

/-- ITS FALSE NEIGHBOUR: 'it returns false'. Refute it at one input. -/
def fnExactSameAutomatonWrong : ChangeSpec := { name := "fnExactSameAutomaton", fn := fun _ => fun
  | [d1, d2] => { results := [.lit (.bool false)], args := [d1, d2] }
  | _ => none }
def FnExactSameAutomatonWrongFalsely : Prop := fnExactSameAutomatonRow.holds Try.pinned (OpenSpec.ofChange fnExactSameAutomatonWrong)

/-- 'laws.FnExactValidWord': WHATEVER THE INPUT: true; the input reads as it did. -/
def fnExactValidWordSpec : ChangeSpec := { name := "fnExactValidWord", fn := fun _ => fun
  | [d1, d2] => { results := [.lit (.bool true)], args := [d1, d2] }
  | _ => none }
def fnExactValidWordRow : OpenClaim := { program := "ytpjgegpcfjbceaa", sum := "3c737e46f61965035ced4a7d8e2542ff9f315da2dc5e933c44b2de9d50e0679e", func := "loop.example/g01102/laws.FnExactValidWord", spec := "fnExactValidWord", plainKeys := false, apart := false }
def FnExactValidWordSaid : Prop := fnExactValidWordRow.holds Try.pinned (OpenSpec.ofChange fnExactValidWordSpec)

/-- ITS FALSE NEIGHBOUR: 'it returns false'. Refute it at one input. -/
def fnExactValidWordWrong : ChangeSpec := { name := "fnExactValidWord", fn := fun _ => fun
  | [d1, d2] => { results := [.lit (.bool false)], args := [d1, d2] }
  | _ => none }
def FnExactValidWordWrongFalsely : Prop := fnExactValidWordRow.holds Try.pinned (OpenSpec.ofChange fnExactValidWordWrong)

/-- 'laws.FnExactWordText': WHATEVER THE INPUT: true; the input reads as it did. -/
def fnExactWordTextSpec : ChangeSpec := { name := "fnExactWordText", fn := fun _ => fun
  | [d] => { results := [.lit (.bool true)], args := [d] }
  | _ => none }
def fnExactWordTextRow : OpenClaim := { program := "ytpjgegpcfjbceaa", sum := "3c737e46f61965035ced4a7d8e2542ff9f315da2dc5e933c44b2de9d50e0679e", func := "loop.example/g01102/laws.FnExactWordText", spec := "fnExactWordText", plainKeys := false, apart := false }
def FnExactWordTextSaid : Prop := fnExactWordTextRow.holds Try.pinned (OpenSpec.ofChange fnExactWordTextSpec)

/-- ITS FALSE NEIGHBOUR: 'it returns false'. Refute it at one input. -/
def fnExactWordTextWrong : ChangeSpec := { name := "fnExactWordText", fn := fun _ => fun
  | [d] => { results := [.lit (.bool false)], args := [d] }
  | _ => none }
def FnExactWordTextWrongFalsely : Prop := fnExactWordTextRow.holds Try.pinned (OpenSpec.ofChange fnExactWordTextWrong)

/-- 'laws.FnExactReadWord': WHATEVER THE INPUT: true; the input reads as it did. -/
def fnExactReadWordSpec : ChangeSpec := { name := "fnExactReadWord", fn := fun _ => fun
  | [d] => { results := [.lit (.bool true)], args := [d] }
  | _ => none }
def fnExactReadWordRow : OpenClaim := { program := "ytpjgegpcfjbceaa", sum := "3c737e46f61965035ced4a7d8e2542ff9f315da2dc5e933c44b2de9d50e0679e", func := "loop.example/g01102/laws.FnExactReadWord", spec := "fnExactReadWord", plainKeys := false, apart := false }
def FnExactReadWordSaid : Prop := fnExactReadWordRow.holds Try.pinned (OpenSpec.ofChange fnExactReadWordSpec)

/-- ITS FALSE NEIGHBOUR: 'it returns false'. Refute it at one input. -/
def fnExactReadWordWrong : ChangeSpec := { name := "fnExactReadWord", fn := fun _ => fun
  | [d] => { results := [.lit (.bool false)], args := [d] }
  | _ => none }
def FnExactReadWordWrongFalsely : Prop := fnExactReadWordRow.holds Try.pinned (OpenSpec.ofChange fnExactReadWordWrong)

/- THE SECOND FORM. 'bulk': how many values and letters a reading holds, each counted each time it is reached (what is shared counts as often as it is met; a slice's spare places count too). A statement '..UptoSaid' is the law's where the arguments, and the package variables that the reading takes, are together of bulk at most 1048576: NARROWER than '..Said'. Prove '..Said' where nothing that the law and all that it calls make is longer than what came in: it says more and counts as full. Else prove '..UptoSaid'. A law counts once. -/
mutual
def uptoBulk {H : Type} : DataW H → Nat
  | .lit (.string bytes) => bytes.length + 1
  | .lit _ => 1
  | .nil => 1
  | .ptr d => uptoBulk d + 1
  | .slice elems spare => uptoBulkAll elems + uptoBulkAll spare + 1
  | .agg parts => uptoBulkAll parts + 1
  | .iface _ d => uptoBulk d + 1
  | .map entries => uptoBulkEntries entries + 1
  | .held _ => 1
def uptoBulkAll {H : Type} : List (DataW H) → Nat
  | [] => 0
  | d :: r => uptoBulk d + uptoBulkAll r
def uptoBulkEntries {H : Type} : List (Lit × DataW H) → Nat
  | [] => 0
  | x :: r => uptoBulkEntry x + uptoBulkEntries r
def uptoBulkEntry {H : Type} : Lit × DataW H → Nat
  | (.string bytes, d) => bytes.length + uptoBulk d + 1
  | (_, d) => uptoBulk d + 1
 end
def uptoSmall : (H : Type) → List (DataW H) → Bool := fun _ ds => decide (uptoBulkAll ds ≤ 1048576)
def OpenSpec.upto (s : _root_.Go.ChangeSpec) : _root_.Go.OpenSpec := { _root_.Go.OpenSpec.ofChange s with cond := some uptoSmall }

/-- 'laws.FnActions', WHERE WHAT IT READS IS OF BULK AT MOST 1048576: true; the input reads as it did. -/
def fnActionsUptoRow : OpenClaim := { program := "ytpjgegpcfjbceaa", sum := "3c737e46f61965035ced4a7d8e2542ff9f315da2dc5e933c44b2de9d50e0679e", func := "loop.example/g01102/laws.FnActions", spec := "fnActions", plainKeys := false, apart := false, narrowed := true }
def FnActionsUptoSaid : Prop := fnActionsUptoRow.holds Try.pinned (OpenSpec.upto fnActionsSpec)

/-- 'laws.FnMonoid', WHERE WHAT IT READS IS OF BULK AT MOST 1048576: true; the input reads as it did. -/
def fnMonoidUptoRow : OpenClaim := { program := "ytpjgegpcfjbceaa", sum := "3c737e46f61965035ced4a7d8e2542ff9f315da2dc5e933c44b2de9d50e0679e", func := "loop.example/g01102/laws.FnMonoid", spec := "fnMonoid", unfollowed := true, recurses := true, plainKeys := false, apart := false, narrowed := true }
def FnMonoidUptoSaid : Prop := fnMonoidUptoRow.holds Try.pinned (OpenSpec.upto fnMonoidSpec)

/-- 'laws.FnConnection', WHERE WHAT IT READS IS OF BULK AT MOST 1048576: true; the input reads as it did. -/
def fnConnectionUptoRow : OpenClaim := { program := "ytpjgegpcfjbceaa", sum := "3c737e46f61965035ced4a7d8e2542ff9f315da2dc5e933c44b2de9d50e0679e", func := "loop.example/g01102/laws.FnConnection", spec := "fnConnection", plainKeys := false, apart := false, narrowed := true }
def FnConnectionUptoSaid : Prop := fnConnectionUptoRow.holds Try.pinned (OpenSpec.upto fnConnectionSpec)

/-- 'laws.FnExactCodeName', WHERE WHAT IT READS IS OF BULK AT MOST 1048576: true; the input reads as it did. -/
def fnExactCodeNameUptoRow : OpenClaim := { program := "ytpjgegpcfjbceaa", sum := "3c737e46f61965035ced4a7d8e2542ff9f315da2dc5e933c44b2de9d50e0679e", func := "loop.example/g01102/laws.FnExactCodeName", spec := "fnExactCodeName", plainKeys := false, apart := false, narrowed := true }
def FnExactCodeNameUptoSaid : Prop := fnExactCodeNameUptoRow.holds Try.pinned (OpenSpec.upto fnExactCodeNameSpec)

/-- 'laws.FnExactValidAutomaton', WHERE WHAT IT READS IS OF BULK AT MOST 1048576: true; the input reads as it did. -/
def fnExactValidAutomatonUptoRow : OpenClaim := { program := "ytpjgegpcfjbceaa", sum := "3c737e46f61965035ced4a7d8e2542ff9f315da2dc5e933c44b2de9d50e0679e", func := "loop.example/g01102/laws.FnExactValidAutomaton", spec := "fnExactValidAutomaton", plainKeys := false, apart := false, narrowed := true }
def FnExactValidAutomatonUptoSaid : Prop := fnExactValidAutomatonUptoRow.holds Try.pinned (OpenSpec.upto fnExactValidAutomatonSpec)

/-- 'laws.FnExactSameAutomaton', WHERE WHAT IT READS IS OF BULK AT MOST 1048576: true; the input reads as it did. -/
def fnExactSameAutomatonUptoRow : OpenClaim := { program := "ytpjgegpcfjbceaa", sum := "3c737e46f61965035ced4a7d8e2542ff9f315da2dc5e933c44b2de9d50e0679e", func := "loop.example/g01102/laws.FnExactSameAutomaton", spec := "fnExactSameAutomaton", unfollowed := true, recurses := true, plainKeys := false, apart := false, narrowed := true }
def FnExactSameAutomatonUptoSaid : Prop := fnExactSameAutomatonUptoRow.holds Try.pinned (OpenSpec.upto fnExactSameAutomatonSpec)

/-- 'laws.FnExactValidWord', WHERE WHAT IT READS IS OF BULK AT MOST 1048576: true; the input reads as it did. -/
def fnExactValidWordUptoRow : OpenClaim := { program := "ytpjgegpcfjbceaa", sum := "3c737e46f61965035ced4a7d8e2542ff9f315da2dc5e933c44b2de9d50e0679e", func := "loop.example/g01102/laws.FnExactValidWord", spec := "fnExactValidWord", plainKeys := false, apart := false, narrowed := true }
def FnExactValidWordUptoSaid : Prop := fnExactValidWordUptoRow.holds Try.pinned (OpenSpec.upto fnExactValidWordSpec)

/-- 'laws.FnExactWordText', WHERE WHAT IT READS IS OF BULK AT MOST 1048576: true; the input reads as it did. -/
def fnExactWordTextUptoRow : OpenClaim := { program := "ytpjgegpcfjbceaa", sum := "3c737e46f61965035ced4a7d8e2542ff9f315da2dc5e933c44b2de9d50e0679e", func := "loop.example/g01102/laws.FnExactWordText", spec := "fnExactWordText", plainKeys := false, apart := false, narrowed := true }
def FnExactWordTextUptoSaid : Prop := fnExactWordTextUptoRow.holds Try.pinned (OpenSpec.upto fnExactWordTextSpec)

/-- 'laws.FnExactReadWord', WHERE WHAT IT READS IS OF BULK AT MOST 1048576: true; the input reads as it did. -/
def fnExactReadWordUptoRow : OpenClaim := { program := "ytpjgegpcfjbceaa", sum := "3c737e46f61965035ced4a7d8e2542ff9f315da2dc5e933c44b2de9d50e0679e", func := "loop.example/g01102/laws.FnExactReadWord", spec := "fnExactReadWord", plainKeys := false, apart := false, narrowed := true }
def FnExactReadWordUptoSaid : Prop := fnExactReadWordUptoRow.holds Try.pinned (OpenSpec.upto fnExactReadWordSpec)

end Rows
end Go.Proofs.Ytpjgegpcfjbceaa
