/-
  DERIVED. GIVEN WITH THE SEED: THE CARDS: each row of YtejmmpgclgdbbabDoorRows.lean that lists a variable, with what it lists TIED to the program's text (the seventh form; the later family's looks); each row that meets fmt, with fmt's text TOLD by the authors' own Lean function (tested against real Go, not proved from fmt's source: count such statements apart). THE CARD IS WHAT COUNTS. Prove the row's statement (the work); the ties are given (YtejmmpgclgdbbabDoorTie.lean); close each card by the builder's one call (the guide's Derived/Test/ToyasCard.lean, 'card_holds'). Laid BY PROGRAM, IN A SANDBOX (cutbox-door.mjs). By AI agents, Wed Nov 11 2026. No macro, syntax, notation, axiom, sorry.
-/
import Derived.Test.YtejmmpgclgdbbabDoorRows
import GoSem.ClaimSeven
namespace Go.Proofs.YtejmmpgclgdbbabDoor
namespace Rows

/-- THE TIED CARD OF 'rotalaw06.WordOne'. -/
def wordOneCard : Claim7 := { stood := { row := wordOneRow, standIns := [], harness := (true, "ed5222cb6dc96387ca9a2a65ce34dc5dccbefce5f5141ada9c776f1195faa741"), looks := false }, kinds := [], alts := [], laidByText := true, laidKinds := [.data, .data], laidTests := true, laidLooks := .later }
def WordOneCardSaid : Prop := Claim7.holds Tryd.pinned (.plain (OpenSpec.ofChange wordOneSpec)) wordOneCard

/-- THE TIED CARD OF 'rotalaw06.WordCosts'. -/
def wordCostsCard : Claim7 := { stood := { row := wordCostsRow, standIns := [], harness := (true, "ed5222cb6dc96387ca9a2a65ce34dc5dccbefce5f5141ada9c776f1195faa741"), looks := false }, kinds := [], alts := [], laidByText := true, laidKinds := [.data, .data, .data], laidTests := true, laidLooks := .later }
def WordCostsCardSaid : Prop := Claim7.holds Tryd.pinned (.plain (OpenSpec.ofChange wordCostsSpec)) wordCostsCard

/-- THE TIED CARD OF 'rotalaw06.WordNames'. -/
def wordNamesCard : Claim7 := { stood := { row := wordNamesRow, standIns := [], harness := (true, "ed5222cb6dc96387ca9a2a65ce34dc5dccbefce5f5141ada9c776f1195faa741"), looks := false }, kinds := [], alts := [], laidByText := true, laidKinds := [.data, .data, .data], laidTests := true, laidLooks := .later }
def WordNamesCardSaid : Prop := Claim7.holds Tryd.pinned (.plain (OpenSpec.ofChange wordNamesSpec)) wordNamesCard

/-- THE TIED CARD OF 'rotalaw06.WordFields'. -/
def wordFieldsCard : Claim7 := { stood := { row := wordFieldsRow, standIns := [], harness := (true, "ed5222cb6dc96387ca9a2a65ce34dc5dccbefce5f5141ada9c776f1195faa741"), looks := false }, kinds := [], alts := [], laidByText := true, laidKinds := [.data, .data], laidTests := true, laidLooks := .later }
def WordFieldsCardSaid : Prop := Claim7.holds Tryd.pinned (.plain (OpenSpec.ofChange wordFieldsSpec)) wordFieldsCard

/-- THE SECOND FORM's CARD OF 'rotalaw06.WordOne'. -/
def wordOneUptoCard : Claim7 := { stood := { row := wordOneUptoRow, standIns := [], harness := (true, "ed5222cb6dc96387ca9a2a65ce34dc5dccbefce5f5141ada9c776f1195faa741"), looks := false }, kinds := [], alts := [], laidByText := true, laidKinds := [.data, .data], laidTests := true, laidLooks := .later }
def WordOneUptoCardSaid : Prop := Claim7.holds Tryd.pinned (.plain (OpenSpec.upto wordOneSpec)) wordOneUptoCard

/-- THE SECOND FORM's CARD OF 'rotalaw06.WordCosts'. -/
def wordCostsUptoCard : Claim7 := { stood := { row := wordCostsUptoRow, standIns := [], harness := (true, "ed5222cb6dc96387ca9a2a65ce34dc5dccbefce5f5141ada9c776f1195faa741"), looks := false }, kinds := [], alts := [], laidByText := true, laidKinds := [.data, .data, .data], laidTests := true, laidLooks := .later }
def WordCostsUptoCardSaid : Prop := Claim7.holds Tryd.pinned (.plain (OpenSpec.upto wordCostsSpec)) wordCostsUptoCard

/-- THE SECOND FORM's CARD OF 'rotalaw06.WordNames'. -/
def wordNamesUptoCard : Claim7 := { stood := { row := wordNamesUptoRow, standIns := [], harness := (true, "ed5222cb6dc96387ca9a2a65ce34dc5dccbefce5f5141ada9c776f1195faa741"), looks := false }, kinds := [], alts := [], laidByText := true, laidKinds := [.data, .data, .data], laidTests := true, laidLooks := .later }
def WordNamesUptoCardSaid : Prop := Claim7.holds Tryd.pinned (.plain (OpenSpec.upto wordNamesSpec)) wordNamesUptoCard

/-- THE SECOND FORM's CARD OF 'rotalaw06.WordFields'. -/
def wordFieldsUptoCard : Claim7 := { stood := { row := wordFieldsUptoRow, standIns := [], harness := (true, "ed5222cb6dc96387ca9a2a65ce34dc5dccbefce5f5141ada9c776f1195faa741"), looks := false }, kinds := [], alts := [], laidByText := true, laidKinds := [.data, .data], laidTests := true, laidLooks := .later }
def WordFieldsUptoCardSaid : Prop := Claim7.holds Tryd.pinned (.plain (OpenSpec.upto wordFieldsSpec)) wordFieldsUptoCard
end Rows
end Go.Proofs.YtejmmpgclgdbbabDoor
