/-
  DERIVED. GIVEN WITH THE SEED: THE CARDS: each row of YtogbglbmkkbhcaaDoorRows.lean that lists a variable, with what it lists TIED to the program's text (the seventh form; the later family's looks); each row that meets fmt, with fmt's text TOLD by the authors' own Lean function (tested against real Go, not proved from fmt's source: count such statements apart). THE CARD IS WHAT COUNTS. Prove the row's statement (the work); the ties are given (YtogbglbmkkbhcaaDoorTie.lean); close each card by the builder's one call (the guide's Derived/Test/ToyasCard.lean, 'card_holds'). Laid BY PROGRAM, IN A SANDBOX (cutbox-door.mjs). By AI agents, Wed Nov 11 2026. No macro, syntax, notation, axiom, sorry.
-/
import Derived.Test.YtogbglbmkkbhcaaDoorRows
import GoSem.ClaimSeven
namespace Go.Proofs.YtogbglbmkkbhcaaDoor
namespace Rows

/-- THE TIED CARD OF 'laws.FnExactAutomatonText'. -/
def fnExactAutomatonTextCard : Claim7 := { stood := { row := fnExactAutomatonTextRow, standIns := [], harness := (true, "850eba53aec5ad875865b06fc9e3d2dc7da54d61ac10510fb3604615c10213e9"), looks := false }, kinds := [], alts := [], laidByText := true, laidKinds := [.data, .data, .data], laidTests := true, laidLooks := .later }
def FnExactAutomatonTextCardSaid : Prop := Claim7.holds Tryd.pinned (.plain (OpenSpec.ofChange fnExactAutomatonTextSpec)) fnExactAutomatonTextCard

/-- THE TIED CARD OF 'laws.FnExactPartialText'. -/
def fnExactPartialTextCard : Claim7 := { stood := { row := fnExactPartialTextRow, standIns := [], harness := (true, "850eba53aec5ad875865b06fc9e3d2dc7da54d61ac10510fb3604615c10213e9"), looks := false }, kinds := [], alts := [], laidByText := true, laidKinds := [.data, .data, .data], laidTests := true, laidLooks := .later }
def FnExactPartialTextCardSaid : Prop := Claim7.holds Tryd.pinned (.plain (OpenSpec.ofChange fnExactPartialTextSpec)) fnExactPartialTextCard

/-- THE TIED CARD OF 'laws.FnExactChoiceText'. -/
def fnExactChoiceTextCard : Claim7 := { stood := { row := fnExactChoiceTextRow, standIns := [], harness := (true, "850eba53aec5ad875865b06fc9e3d2dc7da54d61ac10510fb3604615c10213e9"), looks := false }, kinds := [], alts := [], laidByText := true, laidKinds := [.data, .data, .data], laidTests := true, laidLooks := .later }
def FnExactChoiceTextCardSaid : Prop := Claim7.holds Tryd.pinned (.plain (OpenSpec.ofChange fnExactChoiceTextSpec)) fnExactChoiceTextCard

/-- THE TIED CARD OF 'laws.FnExactRoadsText'. -/
def fnExactRoadsTextCard : Claim7 := { stood := { row := fnExactRoadsTextRow, standIns := [], harness := (true, "850eba53aec5ad875865b06fc9e3d2dc7da54d61ac10510fb3604615c10213e9"), looks := false }, kinds := [], alts := [], laidByText := true, laidKinds := [.data, .data, .data], laidTests := true, laidLooks := .later }
def FnExactRoadsTextCardSaid : Prop := Claim7.holds Tryd.pinned (.plain (OpenSpec.ofChange fnExactRoadsTextSpec)) fnExactRoadsTextCard

/-- THE TIED CARD OF 'laws.FnExactMachineText'. -/
def fnExactMachineTextCard : Claim7 := { stood := { row := fnExactMachineTextRow, standIns := [], harness := (true, "850eba53aec5ad875865b06fc9e3d2dc7da54d61ac10510fb3604615c10213e9"), looks := false }, kinds := [], alts := [], laidByText := true, laidKinds := [.data, .data, .data], laidTests := true, laidLooks := .later }
def FnExactMachineTextCardSaid : Prop := Claim7.holds Tryd.pinned (.plain (OpenSpec.ofChange fnExactMachineTextSpec)) fnExactMachineTextCard

/-- THE SECOND FORM's CARD OF 'laws.FnExactAutomatonText'. -/
def fnExactAutomatonTextUptoCard : Claim7 := { stood := { row := fnExactAutomatonTextUptoRow, standIns := [], harness := (true, "850eba53aec5ad875865b06fc9e3d2dc7da54d61ac10510fb3604615c10213e9"), looks := false }, kinds := [], alts := [], laidByText := true, laidKinds := [.data, .data, .data], laidTests := true, laidLooks := .later }
def FnExactAutomatonTextUptoCardSaid : Prop := Claim7.holds Tryd.pinned (.plain (OpenSpec.upto fnExactAutomatonTextSpec)) fnExactAutomatonTextUptoCard

/-- THE SECOND FORM's CARD OF 'laws.FnExactPartialText'. -/
def fnExactPartialTextUptoCard : Claim7 := { stood := { row := fnExactPartialTextUptoRow, standIns := [], harness := (true, "850eba53aec5ad875865b06fc9e3d2dc7da54d61ac10510fb3604615c10213e9"), looks := false }, kinds := [], alts := [], laidByText := true, laidKinds := [.data, .data, .data], laidTests := true, laidLooks := .later }
def FnExactPartialTextUptoCardSaid : Prop := Claim7.holds Tryd.pinned (.plain (OpenSpec.upto fnExactPartialTextSpec)) fnExactPartialTextUptoCard

/-- THE SECOND FORM's CARD OF 'laws.FnExactChoiceText'. -/
def fnExactChoiceTextUptoCard : Claim7 := { stood := { row := fnExactChoiceTextUptoRow, standIns := [], harness := (true, "850eba53aec5ad875865b06fc9e3d2dc7da54d61ac10510fb3604615c10213e9"), looks := false }, kinds := [], alts := [], laidByText := true, laidKinds := [.data, .data, .data], laidTests := true, laidLooks := .later }
def FnExactChoiceTextUptoCardSaid : Prop := Claim7.holds Tryd.pinned (.plain (OpenSpec.upto fnExactChoiceTextSpec)) fnExactChoiceTextUptoCard

/-- THE SECOND FORM's CARD OF 'laws.FnExactRoadsText'. -/
def fnExactRoadsTextUptoCard : Claim7 := { stood := { row := fnExactRoadsTextUptoRow, standIns := [], harness := (true, "850eba53aec5ad875865b06fc9e3d2dc7da54d61ac10510fb3604615c10213e9"), looks := false }, kinds := [], alts := [], laidByText := true, laidKinds := [.data, .data, .data], laidTests := true, laidLooks := .later }
def FnExactRoadsTextUptoCardSaid : Prop := Claim7.holds Tryd.pinned (.plain (OpenSpec.upto fnExactRoadsTextSpec)) fnExactRoadsTextUptoCard

/-- THE SECOND FORM's CARD OF 'laws.FnExactMachineText'. -/
def fnExactMachineTextUptoCard : Claim7 := { stood := { row := fnExactMachineTextUptoRow, standIns := [], harness := (true, "850eba53aec5ad875865b06fc9e3d2dc7da54d61ac10510fb3604615c10213e9"), looks := false }, kinds := [], alts := [], laidByText := true, laidKinds := [.data, .data, .data], laidTests := true, laidLooks := .later }
def FnExactMachineTextUptoCardSaid : Prop := Claim7.holds Tryd.pinned (.plain (OpenSpec.upto fnExactMachineTextSpec)) fnExactMachineTextUptoCard
end Rows
end Go.Proofs.YtogbglbmkkbhcaaDoor
