/-
  DERIVED. GIVEN WITH THE SEED: THE CARDS: each row of YtcdlhfodeckleabDoorRows.lean that lists a variable, with what it lists TIED to the program's text (the seventh form; the later family's looks); each row that meets fmt, with fmt's text TOLD by the authors' own Lean function (tested against real Go, not proved from fmt's source: count such statements apart). THE CARD IS WHAT COUNTS. Prove the row's statement (the work); the ties are given (YtcdlhfodeckleabDoorTie.lean); close each card by the builder's one call (the guide's Derived/Test/ToyasCard.lean, 'card_holds'). Laid BY PROGRAM, IN A SANDBOX (cutbox-door.mjs). By AI agents, Wed Nov 11 2026. No macro, syntax, notation, axiom, sorry.
-/
import Derived.Test.YtcdlhfodeckleabDoorRows
import GoSem.ClaimSeven
namespace Go.Proofs.YtcdlhfodeckleabDoor
namespace Rows

/-- THE TIED CARD OF 'rotalaw09.StepWrites'. -/
def stepWritesCard : Claim7 := { stood := { row := stepWritesRow, standIns := [], harness := (true, "289390a0b97bcbacc4d9387a941dae245921cc366456b00c14303688d6def040"), looks := false }, kinds := [], alts := [], laidByText := true, laidKinds := [.data, .data], laidTests := true, laidLooks := .later }
def StepWritesCardSaid : Prop := Claim7.holds Tryd.pinned (.plain (OpenSpec.ofChange stepWritesSpec)) stepWritesCard

/-- THE TIED CARD OF 'rotalaw09.StepOwn'. -/
def stepOwnCard : Claim7 := { stood := { row := stepOwnRow, standIns := [], harness := (true, "289390a0b97bcbacc4d9387a941dae245921cc366456b00c14303688d6def040"), looks := false }, kinds := [], alts := [], laidByText := true, laidKinds := [.data, .data], laidTests := true, laidLooks := .later }
def StepOwnCardSaid : Prop := Claim7.holds Tryd.pinned (.plain (OpenSpec.ofChange stepOwnSpec)) stepOwnCard

/-- THE SECOND FORM's CARD OF 'rotalaw09.StepWrites'. -/
def stepWritesUptoCard : Claim7 := { stood := { row := stepWritesUptoRow, standIns := [], harness := (true, "289390a0b97bcbacc4d9387a941dae245921cc366456b00c14303688d6def040"), looks := false }, kinds := [], alts := [], laidByText := true, laidKinds := [.data, .data], laidTests := true, laidLooks := .later }
def StepWritesUptoCardSaid : Prop := Claim7.holds Tryd.pinned (.plain (OpenSpec.upto stepWritesSpec)) stepWritesUptoCard

/-- THE SECOND FORM's CARD OF 'rotalaw09.StepOwn'. -/
def stepOwnUptoCard : Claim7 := { stood := { row := stepOwnUptoRow, standIns := [], harness := (true, "289390a0b97bcbacc4d9387a941dae245921cc366456b00c14303688d6def040"), looks := false }, kinds := [], alts := [], laidByText := true, laidKinds := [.data, .data], laidTests := true, laidLooks := .later }
def StepOwnUptoCardSaid : Prop := Claim7.holds Tryd.pinned (.plain (OpenSpec.upto stepOwnSpec)) stepOwnUptoCard
end Rows
end Go.Proofs.YtcdlhfodeckleabDoor
