/-
  DERIVED. GIVEN WITH THE SEED: THE CARDS: each row of YtollfepggicehabDoorRows.lean that lists a variable, with what it lists TIED to the program's text (the seventh form; the later family's looks); each row that meets fmt, with fmt's text TOLD by the authors' own Lean function (tested against real Go, not proved from fmt's source: count such statements apart). THE CARD IS WHAT COUNTS. Prove the row's statement (the work); the ties are given (YtollfepggicehabDoorTie.lean); close each card by the builder's one call (the guide's Derived/Test/ToyasCard.lean, 'card_holds'). Laid BY PROGRAM, IN A SANDBOX (cutbox-door.mjs). By AI agents, Wed Nov 11 2026. No macro, syntax, notation, axiom, sorry.
-/
import Derived.Test.YtollfepggicehabDoorRows
import GoSem.ClaimSeven
namespace Go.Proofs.YtollfepggicehabDoor
namespace Rows

/-- THE TIED CARD OF 'rotalaw08.ProperDeep'. -/
def properDeepCard : Claim7 := { stood := { row := properDeepRow, standIns := [], harness := (true, "e9b4908ed6a5525daf3a5118516c06c49a4817772a6a850b8412479242bd64bf"), looks := false }, kinds := [], alts := [], laidByText := true, laidKinds := [.data, .data], laidTests := true, laidLooks := .later }
def ProperDeepCardSaid : Prop := Claim7.holds Tryd.pinned (.plain (OpenSpec.ofChange properDeepSpec)) properDeepCard

/-- THE TIED CARD OF 'rotalaw08.ProperTurned'. -/
def properTurnedCard : Claim7 := { stood := { row := properTurnedRow, standIns := [], harness := (true, "e9b4908ed6a5525daf3a5118516c06c49a4817772a6a850b8412479242bd64bf"), looks := false }, kinds := [], alts := [], laidByText := true, laidKinds := [.data, .data], laidTests := true, laidLooks := .later }
def ProperTurnedCardSaid : Prop := Claim7.holds Tryd.pinned (.plain (OpenSpec.ofChange properTurnedSpec)) properTurnedCard

/-- THE TIED CARD OF 'rotalaw08.ProperOwn'. -/
def properOwnCard : Claim7 := { stood := { row := properOwnRow, standIns := [], harness := (true, "e9b4908ed6a5525daf3a5118516c06c49a4817772a6a850b8412479242bd64bf"), looks := false }, kinds := [], alts := [], laidByText := true, laidKinds := [.data, .data], laidTests := true, laidLooks := .later }
def ProperOwnCardSaid : Prop := Claim7.holds Tryd.pinned (.plain (OpenSpec.ofChange properOwnSpec)) properOwnCard

/-- THE SECOND FORM's CARD OF 'rotalaw08.ProperDeep'. -/
def properDeepUptoCard : Claim7 := { stood := { row := properDeepUptoRow, standIns := [], harness := (true, "e9b4908ed6a5525daf3a5118516c06c49a4817772a6a850b8412479242bd64bf"), looks := false }, kinds := [], alts := [], laidByText := true, laidKinds := [.data, .data], laidTests := true, laidLooks := .later }
def ProperDeepUptoCardSaid : Prop := Claim7.holds Tryd.pinned (.plain (OpenSpec.upto properDeepSpec)) properDeepUptoCard

/-- THE SECOND FORM's CARD OF 'rotalaw08.ProperTurned'. -/
def properTurnedUptoCard : Claim7 := { stood := { row := properTurnedUptoRow, standIns := [], harness := (true, "e9b4908ed6a5525daf3a5118516c06c49a4817772a6a850b8412479242bd64bf"), looks := false }, kinds := [], alts := [], laidByText := true, laidKinds := [.data, .data], laidTests := true, laidLooks := .later }
def ProperTurnedUptoCardSaid : Prop := Claim7.holds Tryd.pinned (.plain (OpenSpec.upto properTurnedSpec)) properTurnedUptoCard

/-- THE SECOND FORM's CARD OF 'rotalaw08.ProperOwn'. -/
def properOwnUptoCard : Claim7 := { stood := { row := properOwnUptoRow, standIns := [], harness := (true, "e9b4908ed6a5525daf3a5118516c06c49a4817772a6a850b8412479242bd64bf"), looks := false }, kinds := [], alts := [], laidByText := true, laidKinds := [.data, .data], laidTests := true, laidLooks := .later }
def ProperOwnUptoCardSaid : Prop := Claim7.holds Tryd.pinned (.plain (OpenSpec.upto properOwnSpec)) properOwnUptoCard
end Rows
end Go.Proofs.YtollfepggicehabDoor
