/-
  DERIVED. GIVEN WITH THE SEED: THE CARDS: each row of YtollfepggicehaaDoorRows.lean that lists a variable, with what it lists TIED to the program's text (the seventh form; the later family's looks); each row that meets fmt, with fmt's text TOLD by the authors' own Lean function (tested against real Go, not proved from fmt's source: count such statements apart). THE CARD IS WHAT COUNTS. Prove the row's statement (the work); the ties are given (YtollfepggicehaaDoorTie.lean); close each card by the builder's one call (the guide's Derived/Test/ToyasCard.lean, 'card_holds'). Laid BY PROGRAM, IN A SANDBOX (cutbox-door.mjs). By AI agents, Wed Nov 11 2026. No macro, syntax, notation, axiom, sorry.
-/
import Derived.Test.YtollfepggicehaaDoorRows
import GoSem.ClaimSeven
namespace Go.Proofs.YtollfepggicehaaDoor
namespace Rows

/-- THE TIED CARD OF 'rotalaw08.ProperChecks'. -/
def properChecksCard : Claim7 := { stood := { row := properChecksRow, standIns := [], harness := (true, "c5d2f6d93062614aa3dc76770f0782494fba101fe884c2d88a76257702d5f1c2"), looks := false }, kinds := [], alts := [], laidByText := true, laidKinds := [.data, .data], laidTests := true, laidLooks := .later }
def ProperChecksCardSaid : Prop := Claim7.holds Tryd.pinned (.plain (OpenSpec.ofChange properChecksSpec)) properChecksCard

/-- THE TIED CARD OF 'rotalaw08.ProperWords'. -/
def properWordsCard : Claim7 := { stood := { row := properWordsRow, standIns := [], harness := (true, "c5d2f6d93062614aa3dc76770f0782494fba101fe884c2d88a76257702d5f1c2"), looks := false }, kinds := [], alts := [], laidByText := true, laidKinds := [.data, .data], laidTests := true, laidLooks := .later }
def ProperWordsCardSaid : Prop := Claim7.holds Tryd.pinned (.plain (OpenSpec.ofChange properWordsSpec)) properWordsCard

/-- THE TIED CARD OF 'rotalaw08.ProperReaches'. -/
def properReachesCard : Claim7 := { stood := { row := properReachesRow, standIns := [], harness := (true, "c5d2f6d93062614aa3dc76770f0782494fba101fe884c2d88a76257702d5f1c2"), looks := false }, kinds := [], alts := [], laidByText := true, laidKinds := [.data, .data], laidTests := true, laidLooks := .later }
def ProperReachesCardSaid : Prop := Claim7.holds Tryd.pinned (.plain (OpenSpec.ofChange properReachesSpec)) properReachesCard

/-- THE TIED CARD OF 'rotalaw08.ProperCalls'. -/
def properCallsCard : Claim7 := { stood := { row := properCallsRow, standIns := [], harness := (true, "c5d2f6d93062614aa3dc76770f0782494fba101fe884c2d88a76257702d5f1c2"), looks := false }, kinds := [], alts := [], laidByText := true, laidKinds := [.data, .data], laidTests := true, laidLooks := .later }
def ProperCallsCardSaid : Prop := Claim7.holds Tryd.pinned (.plain (OpenSpec.ofChange properCallsSpec)) properCallsCard

/-- THE TIED CARD OF 'rotalaw08.ProperStays'. -/
def properStaysCard : Claim7 := { stood := { row := properStaysRow, standIns := [], harness := (true, "c5d2f6d93062614aa3dc76770f0782494fba101fe884c2d88a76257702d5f1c2"), looks := false }, kinds := [], alts := [], laidByText := true, laidKinds := [.data, .data], laidTests := true, laidLooks := .later }
def ProperStaysCardSaid : Prop := Claim7.holds Tryd.pinned (.plain (OpenSpec.ofChange properStaysSpec)) properStaysCard

/-- THE TIED CARD OF 'rotalaw08.ProperClosed'. -/
def properClosedCard : Claim7 := { stood := { row := properClosedRow, standIns := [], harness := (true, "c5d2f6d93062614aa3dc76770f0782494fba101fe884c2d88a76257702d5f1c2"), looks := false }, kinds := [], alts := [], laidByText := true, laidKinds := [.data, .data], laidTests := true, laidLooks := .later }
def ProperClosedCardSaid : Prop := Claim7.holds Tryd.pinned (.plain (OpenSpec.ofChange properClosedSpec)) properClosedCard

/-- THE SECOND FORM's CARD OF 'rotalaw08.ProperChecks'. -/
def properChecksUptoCard : Claim7 := { stood := { row := properChecksUptoRow, standIns := [], harness := (true, "c5d2f6d93062614aa3dc76770f0782494fba101fe884c2d88a76257702d5f1c2"), looks := false }, kinds := [], alts := [], laidByText := true, laidKinds := [.data, .data], laidTests := true, laidLooks := .later }
def ProperChecksUptoCardSaid : Prop := Claim7.holds Tryd.pinned (.plain (OpenSpec.upto properChecksSpec)) properChecksUptoCard

/-- THE SECOND FORM's CARD OF 'rotalaw08.ProperWords'. -/
def properWordsUptoCard : Claim7 := { stood := { row := properWordsUptoRow, standIns := [], harness := (true, "c5d2f6d93062614aa3dc76770f0782494fba101fe884c2d88a76257702d5f1c2"), looks := false }, kinds := [], alts := [], laidByText := true, laidKinds := [.data, .data], laidTests := true, laidLooks := .later }
def ProperWordsUptoCardSaid : Prop := Claim7.holds Tryd.pinned (.plain (OpenSpec.upto properWordsSpec)) properWordsUptoCard

/-- THE SECOND FORM's CARD OF 'rotalaw08.ProperReaches'. -/
def properReachesUptoCard : Claim7 := { stood := { row := properReachesUptoRow, standIns := [], harness := (true, "c5d2f6d93062614aa3dc76770f0782494fba101fe884c2d88a76257702d5f1c2"), looks := false }, kinds := [], alts := [], laidByText := true, laidKinds := [.data, .data], laidTests := true, laidLooks := .later }
def ProperReachesUptoCardSaid : Prop := Claim7.holds Tryd.pinned (.plain (OpenSpec.upto properReachesSpec)) properReachesUptoCard

/-- THE SECOND FORM's CARD OF 'rotalaw08.ProperCalls'. -/
def properCallsUptoCard : Claim7 := { stood := { row := properCallsUptoRow, standIns := [], harness := (true, "c5d2f6d93062614aa3dc76770f0782494fba101fe884c2d88a76257702d5f1c2"), looks := false }, kinds := [], alts := [], laidByText := true, laidKinds := [.data, .data], laidTests := true, laidLooks := .later }
def ProperCallsUptoCardSaid : Prop := Claim7.holds Tryd.pinned (.plain (OpenSpec.upto properCallsSpec)) properCallsUptoCard

/-- THE SECOND FORM's CARD OF 'rotalaw08.ProperStays'. -/
def properStaysUptoCard : Claim7 := { stood := { row := properStaysUptoRow, standIns := [], harness := (true, "c5d2f6d93062614aa3dc76770f0782494fba101fe884c2d88a76257702d5f1c2"), looks := false }, kinds := [], alts := [], laidByText := true, laidKinds := [.data, .data], laidTests := true, laidLooks := .later }
def ProperStaysUptoCardSaid : Prop := Claim7.holds Tryd.pinned (.plain (OpenSpec.upto properStaysSpec)) properStaysUptoCard

/-- THE SECOND FORM's CARD OF 'rotalaw08.ProperClosed'. -/
def properClosedUptoCard : Claim7 := { stood := { row := properClosedUptoRow, standIns := [], harness := (true, "c5d2f6d93062614aa3dc76770f0782494fba101fe884c2d88a76257702d5f1c2"), looks := false }, kinds := [], alts := [], laidByText := true, laidKinds := [.data, .data], laidTests := true, laidLooks := .later }
def ProperClosedUptoCardSaid : Prop := Claim7.holds Tryd.pinned (.plain (OpenSpec.upto properClosedSpec)) properClosedUptoCard
end Rows
end Go.Proofs.YtollfepggicehaaDoor
