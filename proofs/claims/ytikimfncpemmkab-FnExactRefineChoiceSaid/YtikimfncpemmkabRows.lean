/-
  No cell of these rows narrows 'for every input' (looked for: loops, veiled, ifaces, maps, wideKeys, modest, calm, conditions, laid).
  DERIVED. THE GIVEN ROWS OF THIS SEAT. 10 by the template 'for every input the law returns true; each argument reads behind the call as it read before'; 0 by the template 'total and deterministic' (their statements: YtikimfncpemmkabTotals.lean).
  GIVEN WITH THE SEED: the statements are not yours to turn. If you find one false, say at which input.
  Laid BY PROGRAM, IN A SANDBOX (cutbox-rows.mjs): the forced cells as the released guide's own fill.sh prints them over the translation 7cd7f7cef5cc4e5b… (all of the seat's roots in one cut). By AI agents, Wed Nov 11 2026. No macro, syntax, notation, axiom, sorry.
-/
import Derived.Test.YtikimfncpemmkabChecked
import GoSem.Claim
import GoSem.ClaimJoined
import GoSem.ClaimMapViews
import Derived.JoinedTies
import Derived.KernelRfl
namespace Go.Proofs.Ytikimfncpemmkab
/- THE CELL 'sum', in the pinned program and in every row, IS THE sha256 OF THE DUMP (.gsa) THAT YtikimfncpemmkabProg.lean LOADS. Nothing in Lean hashes anything: it is a label: what it is worth is what the hold of that sum in a sandbox is worth. -/
noncomputable def Try.pinned : Pinned := { name := "ytikimfncpemmkab", sum := "7cd7f7cef5cc4e5be653336586f2a526880a2ab604874652224de465a41012dc", checked := Try.checked }
namespace Rows
def none {H : Type} : Left H := { results := [], args := [] }

/-- 'laws.FnExactRefineChoice': WHATEVER THE INPUT: true; the input reads as it did. -/
def fnExactRefineChoiceSpec : ChangeSpec := { name := "fnExactRefineChoice", fn := fun _ => fun
  | [d1, d2] => { results := [.lit (.bool true)], args := [d1, d2] }
  | _ => none }
def fnExactRefineChoiceRow : OpenClaim := { program := "ytikimfncpemmkab", sum := "7cd7f7cef5cc4e5be653336586f2a526880a2ab604874652224de465a41012dc", func := "loop.example/g01102/laws.FnExactRefineChoice", spec := "fnExactRefineChoice", unfollowed := true, recurses := true, plainKeys := false, apart := false }
def FnExactRefineChoiceSaid : Prop := fnExactRefineChoiceRow.holds Try.pinned (OpenSpec.ofChange fnExactRefineChoiceSpec)

/-- ITS FALSE NEIGHBOUR: 'it returns false'. Refute it at one input. -/
def fnExactRefineChoiceWrong : ChangeSpec := { name := "fnExactRefineChoice", fn := fun _ => fun
  | [d1, d2] => { results := [.lit (.bool false)], args := [d1, d2] }
  | _ => none }
def FnExactRefineChoiceWrongFalsely : Prop := fnExactRefineChoiceRow.holds Try.pinned (OpenSpec.ofChange fnExactRefineChoiceWrong)

/-- 'laws.FnExactDirects': WHATEVER THE INPUT: true; the input reads as it did. -/
def fnExactDirectsSpec : ChangeSpec := { name := "fnExactDirects", fn := fun _ => fun
  | [d1, d2, d3] => { results := [.lit (.bool true)], args := [d1, d2, d3] }
  | _ => none }
def fnExactDirectsRow : OpenClaim := { program := "ytikimfncpemmkab", sum := "7cd7f7cef5cc4e5be653336586f2a526880a2ab604874652224de465a41012dc", func := "loop.example/g01102/laws.FnExactDirects", spec := "fnExactDirects", unfollowed := true, recurses := true, plainKeys := false, apart := false }
def FnExactDirectsSaid : Prop := fnExactDirectsRow.holds Try.pinned (OpenSpec.ofChange fnExactDirectsSpec)

/-- ITS FALSE NEIGHBOUR: 'it returns false'. Refute it at one input. -/
def fnExactDirectsWrong : ChangeSpec := { name := "fnExactDirects", fn := fun _ => fun
  | [d1, d2, d3] => { results := [.lit (.bool false)], args := [d1, d2, d3] }
  | _ => none }
def FnExactDirectsWrongFalsely : Prop := fnExactDirectsRow.holds Try.pinned (OpenSpec.ofChange fnExactDirectsWrong)

/-- 'laws.FnExactCountResets': WHATEVER THE INPUT: true; the input reads as it did. -/
def fnExactCountResetsSpec : ChangeSpec := { name := "fnExactCountResets", fn := fun _ => fun
  | [d1, d2] => { results := [.lit (.bool true)], args := [d1, d2] }
  | _ => none }
def fnExactCountResetsRow : OpenClaim := { program := "ytikimfncpemmkab", sum := "7cd7f7cef5cc4e5be653336586f2a526880a2ab604874652224de465a41012dc", func := "loop.example/g01102/laws.FnExactCountResets", spec := "fnExactCountResets", unfollowed := true, recurses := true, plainKeys := false, apart := false }
def FnExactCountResetsSaid : Prop := fnExactCountResetsRow.holds Try.pinned (OpenSpec.ofChange fnExactCountResetsSpec)

/-- ITS FALSE NEIGHBOUR: 'it returns false'. Refute it at one input. -/
def fnExactCountResetsWrong : ChangeSpec := { name := "fnExactCountResets", fn := fun _ => fun
  | [d1, d2] => { results := [.lit (.bool false)], args := [d1, d2] }
  | _ => none }
def FnExactCountResetsWrongFalsely : Prop := fnExactCountResetsRow.holds Try.pinned (OpenSpec.ofChange fnExactCountResetsWrong)

/-- 'laws.FnExactCountByRank': WHATEVER THE INPUT: true; the input reads as it did. -/
def fnExactCountByRankSpec : ChangeSpec := { name := "fnExactCountByRank", fn := fun _ => fun
  | [d1, d2] => { results := [.lit (.bool true)], args := [d1, d2] }
  | _ => none }
def fnExactCountByRankRow : OpenClaim := { program := "ytikimfncpemmkab", sum := "7cd7f7cef5cc4e5be653336586f2a526880a2ab604874652224de465a41012dc", func := "loop.example/g01102/laws.FnExactCountByRank", spec := "fnExactCountByRank", unfollowed := true, recurses := true, plainKeys := false, apart := false }
def FnExactCountByRankSaid : Prop := fnExactCountByRankRow.holds Try.pinned (OpenSpec.ofChange fnExactCountByRankSpec)

/-- ITS FALSE NEIGHBOUR: 'it returns false'. Refute it at one input. -/
def fnExactCountByRankWrong : ChangeSpec := { name := "fnExactCountByRank", fn := fun _ => fun
  | [d1, d2] => { results := [.lit (.bool false)], args := [d1, d2] }
  | _ => none }
def FnExactCountByRankWrongFalsely : Prop := fnExactCountByRankRow.holds Try.pinned (OpenSpec.ofChange fnExactCountByRankWrong)

/-- 'laws.FnExactPairTable': WHATEVER THE INPUT: true; the input reads as it did. -/
def fnExactPairTableSpec : ChangeSpec := { name := "fnExactPairTable", fn := fun _ => fun
  | [d] => { results := [.lit (.bool true)], args := [d] }
  | _ => none }
def fnExactPairTableRow : OpenClaim := { program := "ytikimfncpemmkab", sum := "7cd7f7cef5cc4e5be653336586f2a526880a2ab604874652224de465a41012dc", func := "loop.example/g01102/laws.FnExactPairTable", spec := "fnExactPairTable", unfollowed := true, recurses := true, plainKeys := false, apart := false }
def FnExactPairTableSaid : Prop := fnExactPairTableRow.holds Try.pinned (OpenSpec.ofChange fnExactPairTableSpec)

/-- ITS FALSE NEIGHBOUR: 'it returns false'. Refute it at one input. -/
def fnExactPairTableWrong : ChangeSpec := { name := "fnExactPairTable", fn := fun _ => fun
  | [d] => { results := [.lit (.bool false)], args := [d] }
  | _ => none }
def FnExactPairTableWrongFalsely : Prop := fnExactPairTableRow.holds Try.pinned (OpenSpec.ofChange fnExactPairTableWrong)

/-- 'laws.FnActions': WHATEVER THE INPUT: true; the input reads as it did. -/
def fnActionsSpec : ChangeSpec := { name := "fnActions", fn := fun _ => fun
  | [d1, d2] => { results := [.lit (.bool true)], args := [d1, d2] }
  | _ => none }
def fnActionsRow : OpenClaim := { program := "ytikimfncpemmkab", sum := "7cd7f7cef5cc4e5be653336586f2a526880a2ab604874652224de465a41012dc", func := "loop.example/g01102/laws.FnActions", spec := "fnActions", unfollowed := true, recurses := true, plainKeys := false, apart := false }
def FnActionsSaid : Prop := fnActionsRow.holds Try.pinned (OpenSpec.ofChange fnActionsSpec)

/-- ITS FALSE NEIGHBOUR: 'it returns false'. Refute it at one input. -/
def fnActionsWrong : ChangeSpec := { name := "fnActions", fn := fun _ => fun
  | [d1, d2] => { results := [.lit (.bool false)], args := [d1, d2] }
  | _ => none }
def FnActionsWrongFalsely : Prop := fnActionsRow.holds Try.pinned (OpenSpec.ofChange fnActionsWrong)

/-- 'laws.FnExactCarefulWord': WHATEVER THE INPUT: true; the input reads as it did. -/
def fnExactCarefulWordSpec : ChangeSpec := { name := "fnExactCarefulWord", fn := fun _ => fun
  | [d] => { results := [.lit (.bool true)], args := [d] }
  | _ => none }
def fnExactCarefulWordRow : OpenClaim := { program := "ytikimfncpemmkab", sum := "7cd7f7cef5cc4e5be653336586f2a526880a2ab604874652224de465a41012dc", func := "loop.example/g01102/laws.FnExactCarefulWord", spec := "fnExactCarefulWord", unfollowed := true, recurses := true, plainKeys := false, apart := false }
def FnExactCarefulWordSaid : Prop := fnExactCarefulWordRow.holds Try.pinned (OpenSpec.ofChange fnExactCarefulWordSpec)

/-- ITS FALSE NEIGHBOUR: 'it returns false'. Refute it at one input. -/
def fnExactCarefulWordWrong : ChangeSpec := { name := "fnExactCarefulWord", fn := fun _ => fun
  | [d] => { results := [.lit (.bool false)], args := [d] }
  | _ => none }
def FnExactCarefulWordWrongFalsely : Prop := fnExactCarefulWordRow.holds Try.pinned (OpenSpec.ofChange fnExactCarefulWordWrong)

/-- 'laws.FnExactDirectingWord': WHATEVER THE INPUT: true; the input reads as it did. -/
def fnExactDirectingWordSpec : ChangeSpec := { name := "fnExactDirectingWord", fn := fun _ => fun
  | [d1, d2] => { results := [.lit (.bool true)], args := [d1, d2] }
  | _ => none }
def fnExactDirectingWordRow : OpenClaim := { program := "ytikimfncpemmkab", sum := "7cd7f7cef5cc4e5be653336586f2a526880a2ab604874652224de465a41012dc", func := "loop.example/g01102/laws.FnExactDirectingWord", spec := "fnExactDirectingWord", unfollowed := true, recurses := true, plainKeys := false, apart := false }
def FnExactDirectingWordSaid : Prop := fnExactDirectingWordRow.holds Try.pinned (OpenSpec.ofChange fnExactDirectingWordSpec)

/-- ITS FALSE NEIGHBOUR: 'it returns false'. Refute it at one input. -/
def fnExactDirectingWordWrong : ChangeSpec := { name := "fnExactDirectingWord", fn := fun _ => fun
  | [d1, d2] => { results := [.lit (.bool false)], args := [d1, d2] }
  | _ => none }
def FnExactDirectingWordWrongFalsely : Prop := fnExactDirectingWordRow.holds Try.pinned (OpenSpec.ofChange fnExactDirectingWordWrong)

/-- 'laws.FnFiner': WHATEVER THE INPUT: true; the input reads as it did. -/
def fnFinerSpec : ChangeSpec := { name := "fnFiner", fn := fun _ => fun
  | [d1, d2] => { results := [.lit (.bool true)], args := [d1, d2] }
  | _ => none }
def fnFinerRow : OpenClaim := { program := "ytikimfncpemmkab", sum := "7cd7f7cef5cc4e5be653336586f2a526880a2ab604874652224de465a41012dc", func := "loop.example/g01102/laws.FnFiner", spec := "fnFiner", unfollowed := true, recurses := true, plainKeys := false, apart := false }
def FnFinerSaid : Prop := fnFinerRow.holds Try.pinned (OpenSpec.ofChange fnFinerSpec)

/-- ITS FALSE NEIGHBOUR: 'it returns false'. Refute it at one input. -/
def fnFinerWrong : ChangeSpec := { name := "fnFiner", fn := fun _ => fun
  | [d1, d2] => { results := [.lit (.bool false)], args := [d1, d2] }
  | _ => none }
def FnFinerWrongFalsely : Prop := fnFinerRow.holds Try.pinned (OpenSpec.ofChange fnFinerWrong)

/-- 'laws.FnDirects': WHATEVER THE INPUT: true; the input reads as it did. -/
def fnDirectsSpec : ChangeSpec := { name := "fnDirects", fn := fun _ => fun
  | [d1, d2] => { results := [.lit (.bool true)], args := [d1, d2] }
  | _ => none }
def fnDirectsRow : OpenClaim := { program := "ytikimfncpemmkab", sum := "7cd7f7cef5cc4e5be653336586f2a526880a2ab604874652224de465a41012dc", func := "loop.example/g01102/laws.FnDirects", spec := "fnDirects", unfollowed := true, recurses := true, plainKeys := false, apart := false }
def FnDirectsSaid : Prop := fnDirectsRow.holds Try.pinned (OpenSpec.ofChange fnDirectsSpec)

/-- ITS FALSE NEIGHBOUR: 'it returns false'. Refute it at one input. -/
def fnDirectsWrong : ChangeSpec := { name := "fnDirects", fn := fun _ => fun
  | [d1, d2] => { results := [.lit (.bool false)], args := [d1, d2] }
  | _ => none }
def FnDirectsWrongFalsely : Prop := fnDirectsRow.holds Try.pinned (OpenSpec.ofChange fnDirectsWrong)

/- THE SECOND FORM. 'bulk': how many values and letters a reading holds, each counted each time it is reached (what is shared counts as often as it is met; a slice's spare places count too). A statement '..UptoSaid' is the law's where the arguments, and the package variables that the reading takes, are together of bulk at most 1048576: NARROWER than '..Said'. Prove '..Said' where nothing that the law and all that it calls make is longer than what came in: it says more and counts as full. Else prove '..UptoSaid'. A law counts once. -/
mutual
def uptoBulk {H : Type} : DataW H → Nat
  | .lit (.string bytes) => bytes.length + 1
  | .lit _ => 1
  | .nil => 1
  | .ptr d => uptoBulk d + 1
  | .slice elems spare => uptoBulkAll elems + uptoBulkAll spare + 1
  | .agg parts => uptoBulkAll parts + 1
  | .iface _ d => uptoBulk d + 1
  | .map entries => uptoBulkEntries entries + 1
  | .held _ => 1
def uptoBulkAll {H : Type} : List (DataW H) → Nat
  | [] => 0
  | d :: r => uptoBulk d + uptoBulkAll r
def uptoBulkEntries {H : Type} : List (Lit × DataW H) → Nat
  | [] => 0
  | x :: r => uptoBulkEntry x + uptoBulkEntries r
def uptoBulkEntry {H : Type} : Lit × DataW H → Nat
  | (.string bytes, d) => bytes.length + uptoBulk d + 1
  | (_, d) => uptoBulk d + 1
 end
def uptoSmall : (H : Type) → List (DataW H) → Bool := fun _ ds => decide (uptoBulkAll ds ≤ 1048576)
def OpenSpec.upto (s : _root_.Go.ChangeSpec) : _root_.Go.OpenSpec := { _root_.Go.OpenSpec.ofChange s with cond := some uptoSmall }

/-- 'laws.FnExactRefineChoice', WHERE WHAT IT READS IS OF BULK AT MOST 1048576: true; the input reads as it did. -/
def fnExactRefineChoiceUptoRow : OpenClaim := { program := "ytikimfncpemmkab", sum := "7cd7f7cef5cc4e5be653336586f2a526880a2ab604874652224de465a41012dc", func := "loop.example/g01102/laws.FnExactRefineChoice", spec := "fnExactRefineChoice", unfollowed := true, recurses := true, plainKeys := false, apart := false, narrowed := true }
def FnExactRefineChoiceUptoSaid : Prop := fnExactRefineChoiceUptoRow.holds Try.pinned (OpenSpec.upto fnExactRefineChoiceSpec)

/-- 'laws.FnExactDirects', WHERE WHAT IT READS IS OF BULK AT MOST 1048576: true; the input reads as it did. -/
def fnExactDirectsUptoRow : OpenClaim := { program := "ytikimfncpemmkab", sum := "7cd7f7cef5cc4e5be653336586f2a526880a2ab604874652224de465a41012dc", func := "loop.example/g01102/laws.FnExactDirects", spec := "fnExactDirects", unfollowed := true, recurses := true, plainKeys := false, apart := false, narrowed := true }
def FnExactDirectsUptoSaid : Prop := fnExactDirectsUptoRow.holds Try.pinned (OpenSpec.upto fnExactDirectsSpec)

/-- 'laws.FnExactCountResets', WHERE WHAT IT READS IS OF BULK AT MOST 1048576: true; the input reads as it did. -/
def fnExactCountResetsUptoRow : OpenClaim := { program := "ytikimfncpemmkab", sum := "7cd7f7cef5cc4e5be653336586f2a526880a2ab604874652224de465a41012dc", func := "loop.example/g01102/laws.FnExactCountResets", spec := "fnExactCountResets", unfollowed := true, recurses := true, plainKeys := false, apart := false, narrowed := true }
def FnExactCountResetsUptoSaid : Prop := fnExactCountResetsUptoRow.holds Try.pinned (OpenSpec.upto fnExactCountResetsSpec)

/-- 'laws.FnExactCountByRank', WHERE WHAT IT READS IS OF BULK AT MOST 1048576: true; the input reads as it did. -/
def fnExactCountByRankUptoRow : OpenClaim := { program := "ytikimfncpemmkab", sum := "7cd7f7cef5cc4e5be653336586f2a526880a2ab604874652224de465a41012dc", func := "loop.example/g01102/laws.FnExactCountByRank", spec := "fnExactCountByRank", unfollowed := true, recurses := true, plainKeys := false, apart := false, narrowed := true }
def FnExactCountByRankUptoSaid : Prop := fnExactCountByRankUptoRow.holds Try.pinned (OpenSpec.upto fnExactCountByRankSpec)

/-- 'laws.FnExactPairTable', WHERE WHAT IT READS IS OF BULK AT MOST 1048576: true; the input reads as it did. -/
def fnExactPairTableUptoRow : OpenClaim := { program := "ytikimfncpemmkab", sum := "7cd7f7cef5cc4e5be653336586f2a526880a2ab604874652224de465a41012dc", func := "loop.example/g01102/laws.FnExactPairTable", spec := "fnExactPairTable", unfollowed := true, recurses := true, plainKeys := false, apart := false, narrowed := true }
def FnExactPairTableUptoSaid : Prop := fnExactPairTableUptoRow.holds Try.pinned (OpenSpec.upto fnExactPairTableSpec)

/-- 'laws.FnActions', WHERE WHAT IT READS IS OF BULK AT MOST 1048576: true; the input reads as it did. -/
def fnActionsUptoRow : OpenClaim := { program := "ytikimfncpemmkab", sum := "7cd7f7cef5cc4e5be653336586f2a526880a2ab604874652224de465a41012dc", func := "loop.example/g01102/laws.FnActions", spec := "fnActions", unfollowed := true, recurses := true, plainKeys := false, apart := false, narrowed := true }
def FnActionsUptoSaid : Prop := fnActionsUptoRow.holds Try.pinned (OpenSpec.upto fnActionsSpec)

/-- 'laws.FnExactCarefulWord', WHERE WHAT IT READS IS OF BULK AT MOST 1048576: true; the input reads as it did. -/
def fnExactCarefulWordUptoRow : OpenClaim := { program := "ytikimfncpemmkab", sum := "7cd7f7cef5cc4e5be653336586f2a526880a2ab604874652224de465a41012dc", func := "loop.example/g01102/laws.FnExactCarefulWord", spec := "fnExactCarefulWord", unfollowed := true, recurses := true, plainKeys := false, apart := false, narrowed := true }
def FnExactCarefulWordUptoSaid : Prop := fnExactCarefulWordUptoRow.holds Try.pinned (OpenSpec.upto fnExactCarefulWordSpec)

/-- 'laws.FnExactDirectingWord', WHERE WHAT IT READS IS OF BULK AT MOST 1048576: true; the input reads as it did. -/
def fnExactDirectingWordUptoRow : OpenClaim := { program := "ytikimfncpemmkab", sum := "7cd7f7cef5cc4e5be653336586f2a526880a2ab604874652224de465a41012dc", func := "loop.example/g01102/laws.FnExactDirectingWord", spec := "fnExactDirectingWord", unfollowed := true, recurses := true, plainKeys := false, apart := false, narrowed := true }
def FnExactDirectingWordUptoSaid : Prop := fnExactDirectingWordUptoRow.holds Try.pinned (OpenSpec.upto fnExactDirectingWordSpec)

/-- 'laws.FnFiner', WHERE WHAT IT READS IS OF BULK AT MOST 1048576: true; the input reads as it did. -/
def fnFinerUptoRow : OpenClaim := { program := "ytikimfncpemmkab", sum := "7cd7f7cef5cc4e5be653336586f2a526880a2ab604874652224de465a41012dc", func := "loop.example/g01102/laws.FnFiner", spec := "fnFiner", unfollowed := true, recurses := true, plainKeys := false, apart := false, narrowed := true }
def FnFinerUptoSaid : Prop := fnFinerUptoRow.holds Try.pinned (OpenSpec.upto fnFinerSpec)

/-- 'laws.FnDirects', WHERE WHAT IT READS IS OF BULK AT MOST 1048576: true; the input reads as it did. -/
def fnDirectsUptoRow : OpenClaim := { program := "ytikimfncpemmkab", sum := "7cd7f7cef5cc4e5be653336586f2a526880a2ab604874652224de465a41012dc", func := "loop.example/g01102/laws.FnDirects", spec := "fnDirects", unfollowed := true, recurses := true, plainKeys := false, apart := false, narrowed := true }
def FnDirectsUptoSaid : Prop := fnDirectsUptoRow.holds Try.pinned (OpenSpec.upto fnDirectsSpec)

end Rows
end Go.Proofs.Ytikimfncpemmkab
