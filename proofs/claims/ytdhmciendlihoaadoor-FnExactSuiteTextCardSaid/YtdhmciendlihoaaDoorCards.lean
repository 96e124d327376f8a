/-
  DERIVED. GIVEN WITH THE SEED: THE CARDS: each row of YtdhmciendlihoaaDoorRows.lean that lists a variable, with what it lists TIED to the program's text (the seventh form; the later family's looks); each row that meets fmt, with fmt's text TOLD by the authors' own Lean function (tested against real Go, not proved from fmt's source: count such statements apart). THE CARD IS WHAT COUNTS. Prove the row's statement (the work); the ties are given (YtdhmciendlihoaaDoorTie.lean); close each card by the builder's one call (the guide's Derived/Test/ToyasCard.lean, 'card_holds'). Laid BY PROGRAM, IN A SANDBOX (cutbox-door.mjs). By AI agents, Wed Nov 11 2026. No macro, syntax, notation, axiom, sorry.
-/
import Derived.Test.YtdhmciendlihoaaDoorRows
import GoSem.ClaimSeven
namespace Go.Proofs.YtdhmciendlihoaaDoor
namespace Rows

/-- THE TIED CARD OF 'laws.FnExactValidSuite'. -/
def fnExactValidSuiteCard : Claim7 := { stood := { row := fnExactValidSuiteRow, standIns := [], harness := (true, "4797629fd71e10cee9766991af1fa98dcde2a8c70eceeab09caaf304f4089e6e"), looks := true }, kinds := [], alts := [], laidByText := true, laidKinds := [.handle], laidTests := true, laidLooks := .later }
def FnExactValidSuiteCardSaid : Prop := Claim7.holds Tryd.pinned (.plain (OpenSpec.ofChange fnExactValidSuiteSpec)) fnExactValidSuiteCard

/-- THE TIED CARD OF 'laws.FnExactSuiteText'. -/
def fnExactSuiteTextCard : Claim7 := { stood := { row := fnExactSuiteTextRow, standIns := [], harness := (true, "4797629fd71e10cee9766991af1fa98dcde2a8c70eceeab09caaf304f4089e6e"), looks := true }, kinds := [], alts := [], laidByText := true, laidKinds := [.handle], laidTests := true, laidLooks := .later }
def FnExactSuiteTextCardSaid : Prop := Claim7.holds Tryd.pinned (.plain (OpenSpec.ofChange fnExactSuiteTextSpec)) fnExactSuiteTextCard

/-- THE TIED CARD OF 'laws.FnExactSuiteCost'. -/
def fnExactSuiteCostCard : Claim7 := { stood := { row := fnExactSuiteCostRow, standIns := [], harness := (true, "4797629fd71e10cee9766991af1fa98dcde2a8c70eceeab09caaf304f4089e6e"), looks := true }, kinds := [], alts := [], laidByText := true, laidKinds := [.handle], laidTests := true, laidLooks := .later }
def FnExactSuiteCostCardSaid : Prop := Claim7.holds Tryd.pinned (.plain (OpenSpec.ofChange fnExactSuiteCostSpec)) fnExactSuiteCostCard

/-- THE TIED CARD OF 'laws.FnExactFirstFailing'. -/
def fnExactFirstFailingCard : Claim7 := { stood := { row := fnExactFirstFailingRow, standIns := [], harness := (true, "4797629fd71e10cee9766991af1fa98dcde2a8c70eceeab09caaf304f4089e6e"), looks := true }, kinds := [], alts := [], laidByText := true, laidKinds := [.handle], laidTests := true, laidLooks := .later }
def FnExactFirstFailingCardSaid : Prop := Claim7.holds Tryd.pinned (.plain (OpenSpec.ofChange fnExactFirstFailingSpec)) fnExactFirstFailingCard

/-- THE TIED CARD OF 'laws.FnExactPasses'. -/
def fnExactPassesCard : Claim7 := { stood := { row := fnExactPassesRow, standIns := [], harness := (true, "4797629fd71e10cee9766991af1fa98dcde2a8c70eceeab09caaf304f4089e6e"), looks := true }, kinds := [], alts := [], laidByText := true, laidKinds := [.handle], laidTests := true, laidLooks := .later }
def FnExactPassesCardSaid : Prop := Claim7.holds Tryd.pinned (.plain (OpenSpec.ofChange fnExactPassesSpec)) fnExactPassesCard

/-- THE TIED CARD OF 'laws.FnExactMaximalWords'. -/
def fnExactMaximalWordsCard : Claim7 := { stood := { row := fnExactMaximalWordsRow, standIns := [], harness := (true, "4797629fd71e10cee9766991af1fa98dcde2a8c70eceeab09caaf304f4089e6e"), looks := true }, kinds := [], alts := [], laidByText := true, laidKinds := [.handle], laidTests := true, laidLooks := .later }
def FnExactMaximalWordsCardSaid : Prop := Claim7.holds Tryd.pinned (.plain (OpenSpec.ofChange fnExactMaximalWordsSpec)) fnExactMaximalWordsCard

/-- THE SECOND FORM's CARD OF 'laws.FnExactValidSuite'. -/
def fnExactValidSuiteUptoCard : Claim7 := { stood := { row := fnExactValidSuiteUptoRow, standIns := [], harness := (true, "4797629fd71e10cee9766991af1fa98dcde2a8c70eceeab09caaf304f4089e6e"), looks := true }, kinds := [], alts := [], laidByText := true, laidKinds := [.handle], laidTests := true, laidLooks := .later }
def FnExactValidSuiteUptoCardSaid : Prop := Claim7.holds Tryd.pinned (.plain (OpenSpec.upto fnExactValidSuiteSpec)) fnExactValidSuiteUptoCard

/-- THE SECOND FORM's CARD OF 'laws.FnExactSuiteText'. -/
def fnExactSuiteTextUptoCard : Claim7 := { stood := { row := fnExactSuiteTextUptoRow, standIns := [], harness := (true, "4797629fd71e10cee9766991af1fa98dcde2a8c70eceeab09caaf304f4089e6e"), looks := true }, kinds := [], alts := [], laidByText := true, laidKinds := [.handle], laidTests := true, laidLooks := .later }
def FnExactSuiteTextUptoCardSaid : Prop := Claim7.holds Tryd.pinned (.plain (OpenSpec.upto fnExactSuiteTextSpec)) fnExactSuiteTextUptoCard

/-- THE SECOND FORM's CARD OF 'laws.FnExactSuiteCost'. -/
def fnExactSuiteCostUptoCard : Claim7 := { stood := { row := fnExactSuiteCostUptoRow, standIns := [], harness := (true, "4797629fd71e10cee9766991af1fa98dcde2a8c70eceeab09caaf304f4089e6e"), looks := true }, kinds := [], alts := [], laidByText := true, laidKinds := [.handle], laidTests := true, laidLooks := .later }
def FnExactSuiteCostUptoCardSaid : Prop := Claim7.holds Tryd.pinned (.plain (OpenSpec.upto fnExactSuiteCostSpec)) fnExactSuiteCostUptoCard

/-- THE SECOND FORM's CARD OF 'laws.FnExactFirstFailing'. -/
def fnExactFirstFailingUptoCard : Claim7 := { stood := { row := fnExactFirstFailingUptoRow, standIns := [], harness := (true, "4797629fd71e10cee9766991af1fa98dcde2a8c70eceeab09caaf304f4089e6e"), looks := true }, kinds := [], alts := [], laidByText := true, laidKinds := [.handle], laidTests := true, laidLooks := .later }
def FnExactFirstFailingUptoCardSaid : Prop := Claim7.holds Tryd.pinned (.plain (OpenSpec.upto fnExactFirstFailingSpec)) fnExactFirstFailingUptoCard

/-- THE SECOND FORM's CARD OF 'laws.FnExactPasses'. -/
def fnExactPassesUptoCard : Claim7 := { stood := { row := fnExactPassesUptoRow, standIns := [], harness := (true, "4797629fd71e10cee9766991af1fa98dcde2a8c70eceeab09caaf304f4089e6e"), looks := true }, kinds := [], alts := [], laidByText := true, laidKinds := [.handle], laidTests := true, laidLooks := .later }
def FnExactPassesUptoCardSaid : Prop := Claim7.holds Tryd.pinned (.plain (OpenSpec.upto fnExactPassesSpec)) fnExactPassesUptoCard

/-- THE SECOND FORM's CARD OF 'laws.FnExactMaximalWords'. -/
def fnExactMaximalWordsUptoCard : Claim7 := { stood := { row := fnExactMaximalWordsUptoRow, standIns := [], harness := (true, "4797629fd71e10cee9766991af1fa98dcde2a8c70eceeab09caaf304f4089e6e"), looks := true }, kinds := [], alts := [], laidByText := true, laidKinds := [.handle], laidTests := true, laidLooks := .later }
def FnExactMaximalWordsUptoCardSaid : Prop := Claim7.holds Tryd.pinned (.plain (OpenSpec.upto fnExactMaximalWordsSpec)) fnExactMaximalWordsUptoCard
end Rows
end Go.Proofs.YtdhmciendlihoaaDoor
