/-
  DERIVED. GIVEN WITH THE SEED: THE CARDS: each row of YtkfajimhooidcaaDoorRows.lean that lists a variable, with what it lists TIED to the program's text (the seventh form; the later family's looks); each row that meets fmt, with fmt's text TOLD by the authors' own Lean function (tested against real Go, not proved from fmt's source: count such statements apart). THE CARD IS WHAT COUNTS. Prove the row's statement (the work); the ties are given (YtkfajimhooidcaaDoorTie.lean); close each card by the builder's one call (the guide's Derived/Test/ToyasCard.lean, 'card_holds'). Laid BY PROGRAM, IN A SANDBOX (cutbox-door.mjs). By AI agents, Wed Nov 11 2026. No macro, syntax, notation, axiom, sorry.
-/
import Derived.Test.YtkfajimhooidcaaDoorRows
import GoSem.ClaimSeven
namespace Go.Proofs.YtkfajimhooidcaaDoor
namespace Rows

/-- THE TIED CARD OF 'laws.FnExactValidDeed'. -/
def fnExactValidDeedCard : Claim7 := { stood := { row := fnExactValidDeedRow, standIns := [], harness := (true, "656b05e9204473b001aa9ce427be793a732beb659709cd1e8a1e3883ca5d331e"), looks := true }, kinds := [], alts := [], laidByText := true, laidKinds := [.data], laidTests := true, laidLooks := .later }
def FnExactValidDeedCardSaid : Prop := Claim7.holds Tryd.pinned (.plain (OpenSpec.ofChange fnExactValidDeedSpec)) fnExactValidDeedCard

/-- THE TIED CARD OF 'laws.FnExactDeedText'. -/
def fnExactDeedTextCard : Claim7 := { stood := { row := fnExactDeedTextRow, standIns := [], harness := (true, "656b05e9204473b001aa9ce427be793a732beb659709cd1e8a1e3883ca5d331e"), looks := true }, kinds := [], alts := [], laidByText := true, laidKinds := [.data, .data, .data, .data], laidTests := true, laidLooks := .later }
def FnExactDeedTextCardSaid : Prop := Claim7.holds Tryd.pinned (.plain (OpenSpec.ofChange fnExactDeedTextSpec)) fnExactDeedTextCard

/-- THE TIED CARD OF 'laws.FnExactReadDeed'. -/
def fnExactReadDeedCard : Claim7 := { stood := { row := fnExactReadDeedRow, standIns := [], harness := (true, "656b05e9204473b001aa9ce427be793a732beb659709cd1e8a1e3883ca5d331e"), looks := true }, kinds := [], alts := [], laidByText := true, laidKinds := [.data, .data, .data, .sentinel, .sentinel, .data], laidTests := true, laidLooks := .later }
def FnExactReadDeedCardSaid : Prop := Claim7.holds Tryd.pinned (.plain (OpenSpec.ofChange fnExactReadDeedSpec)) fnExactReadDeedCard

/-- THE TIED CARD OF 'laws.FnExactChoiceText'. -/
def fnExactChoiceTextCard : Claim7 := { stood := { row := fnExactChoiceTextRow, standIns := [], harness := (true, "656b05e9204473b001aa9ce427be793a732beb659709cd1e8a1e3883ca5d331e"), looks := true }, kinds := [], alts := [], laidByText := true, laidKinds := [.data, .data, .data], laidTests := true, laidLooks := .later }
def FnExactChoiceTextCardSaid : Prop := Claim7.holds Tryd.pinned (.plain (OpenSpec.ofChange fnExactChoiceTextSpec)) fnExactChoiceTextCard

/-- THE SECOND FORM's CARD OF 'laws.FnExactValidDeed'. -/
def fnExactValidDeedUptoCard : Claim7 := { stood := { row := fnExactValidDeedUptoRow, standIns := [], harness := (true, "656b05e9204473b001aa9ce427be793a732beb659709cd1e8a1e3883ca5d331e"), looks := true }, kinds := [], alts := [], laidByText := true, laidKinds := [.data], laidTests := true, laidLooks := .later }
def FnExactValidDeedUptoCardSaid : Prop := Claim7.holds Tryd.pinned (.plain (OpenSpec.upto fnExactValidDeedSpec)) fnExactValidDeedUptoCard

/-- THE SECOND FORM's CARD OF 'laws.FnExactDeedText'. -/
def fnExactDeedTextUptoCard : Claim7 := { stood := { row := fnExactDeedTextUptoRow, standIns := [], harness := (true, "656b05e9204473b001aa9ce427be793a732beb659709cd1e8a1e3883ca5d331e"), looks := true }, kinds := [], alts := [], laidByText := true, laidKinds := [.data, .data, .data, .data], laidTests := true, laidLooks := .later }
def FnExactDeedTextUptoCardSaid : Prop := Claim7.holds Tryd.pinned (.plain (OpenSpec.upto fnExactDeedTextSpec)) fnExactDeedTextUptoCard

/-- THE SECOND FORM's CARD OF 'laws.FnExactReadDeed'. -/
def fnExactReadDeedUptoCard : Claim7 := { stood := { row := fnExactReadDeedUptoRow, standIns := [], harness := (true, "656b05e9204473b001aa9ce427be793a732beb659709cd1e8a1e3883ca5d331e"), looks := true }, kinds := [], alts := [], laidByText := true, laidKinds := [.data, .data, .data, .sentinel, .sentinel, .data], laidTests := true, laidLooks := .later }
def FnExactReadDeedUptoCardSaid : Prop := Claim7.holds Tryd.pinned (.plain (OpenSpec.upto fnExactReadDeedSpec)) fnExactReadDeedUptoCard

/-- THE SECOND FORM's CARD OF 'laws.FnExactChoiceText'. -/
def fnExactChoiceTextUptoCard : Claim7 := { stood := { row := fnExactChoiceTextUptoRow, standIns := [], harness := (true, "656b05e9204473b001aa9ce427be793a732beb659709cd1e8a1e3883ca5d331e"), looks := true }, kinds := [], alts := [], laidByText := true, laidKinds := [.data, .data, .data], laidTests := true, laidLooks := .later }
def FnExactChoiceTextUptoCardSaid : Prop := Claim7.holds Tryd.pinned (.plain (OpenSpec.upto fnExactChoiceTextSpec)) fnExactChoiceTextUptoCard
end Rows
end Go.Proofs.YtkfajimhooidcaaDoor
