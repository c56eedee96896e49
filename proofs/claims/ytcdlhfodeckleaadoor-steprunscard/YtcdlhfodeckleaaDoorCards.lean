/-
  DERIVED. GIVEN WITH THE SEED: THE CARDS: each row of YtcdlhfodeckleaaDoorRows.lean that lists a variable, with what it lists TIED to the program's text (the seventh form; the later family's looks); each row that meets fmt, with fmt's text TOLD by the authors' own Lean function (tested against real Go, not proved from fmt's source: count such statements apart). THE CARD IS WHAT COUNTS. Prove the row's statement (the work); the ties are given (YtcdlhfodeckleaaDoorTie.lean); close each card by the builder's one call (the guide's Derived/Test/ToyasCard.lean, 'card_holds'). Laid BY PROGRAM, IN A SANDBOX (cutbox-door.mjs). By AI agents, Wed Nov 11 2026. No macro, syntax, notation, axiom, sorry.
-/
import Derived.Test.YtcdlhfodeckleaaDoorRows
import GoSem.ClaimSeven
namespace Go.Proofs.YtcdlhfodeckleaaDoor
namespace Rows

/-- THE TIED CARD OF 'rotalaw09.StepBegins'. -/
def stepBeginsCard : Claim7 := { stood := { row := stepBeginsRow, standIns := [], harness := (true, "ff2ecd988c3cc7bb3837da481302e1f55778733fb841f6244efad57ebdf59af5"), looks := false }, kinds := [], alts := [], laidByText := true, laidKinds := [.data, .data], laidTests := true, laidLooks := .later }
def StepBeginsCardSaid : Prop := Claim7.holds Tryd.pinned (.plain (OpenSpec.ofChange stepBeginsSpec)) stepBeginsCard

/-- THE TIED CARD OF 'rotalaw09.StepCosts'. -/
def stepCostsCard : Claim7 := { stood := { row := stepCostsRow, standIns := [], harness := (true, "ff2ecd988c3cc7bb3837da481302e1f55778733fb841f6244efad57ebdf59af5"), looks := false }, kinds := [], alts := [], laidByText := true, laidKinds := [.data, .data], laidTests := true, laidLooks := .later }
def StepCostsCardSaid : Prop := Claim7.holds Tryd.pinned (.plain (OpenSpec.ofChange stepCostsSpec)) stepCostsCard

/-- THE TIED CARD OF 'rotalaw09.StepDoes'. -/
def stepDoesCard : Claim7 := { stood := { row := stepDoesRow, standIns := [], harness := (true, "ff2ecd988c3cc7bb3837da481302e1f55778733fb841f6244efad57ebdf59af5"), looks := false }, kinds := [], alts := [], laidByText := true, laidKinds := [.data, .data], laidTests := true, laidLooks := .later }
def StepDoesCardSaid : Prop := Claim7.holds Tryd.pinned (.plain (OpenSpec.ofChange stepDoesSpec)) stepDoesCard

/-- THE TIED CARD OF 'rotalaw09.StepAnswers'. -/
def stepAnswersCard : Claim7 := { stood := { row := stepAnswersRow, standIns := [], harness := (true, "ff2ecd988c3cc7bb3837da481302e1f55778733fb841f6244efad57ebdf59af5"), looks := false }, kinds := [], alts := [], laidByText := true, laidKinds := [.data, .data], laidTests := true, laidLooks := .later }
def StepAnswersCardSaid : Prop := Claim7.holds Tryd.pinned (.plain (OpenSpec.ofChange stepAnswersSpec)) stepAnswersCard

/-- THE TIED CARD OF 'rotalaw09.StepRuns'. -/
def stepRunsCard : Claim7 := { stood := { row := stepRunsRow, standIns := [], harness := (true, "ff2ecd988c3cc7bb3837da481302e1f55778733fb841f6244efad57ebdf59af5"), looks := false }, kinds := [], alts := [], laidByText := true, laidKinds := [.data, .data], laidTests := true, laidLooks := .later }
def StepRunsCardSaid : Prop := Claim7.holds Tryd.pinned (.plain (OpenSpec.ofChange stepRunsSpec)) stepRunsCard

/-- THE TIED CARD OF 'rotalaw09.StepSafe'. -/
def stepSafeCard : Claim7 := { stood := { row := stepSafeRow, standIns := [], harness := (true, "ff2ecd988c3cc7bb3837da481302e1f55778733fb841f6244efad57ebdf59af5"), looks := false }, kinds := [], alts := [], laidByText := true, laidKinds := [.data, .data], laidTests := true, laidLooks := .later }
def StepSafeCardSaid : Prop := Claim7.holds Tryd.pinned (.plain (OpenSpec.ofChange stepSafeSpec)) stepSafeCard

/-- THE SECOND FORM's CARD OF 'rotalaw09.StepBegins'. -/
def stepBeginsUptoCard : Claim7 := { stood := { row := stepBeginsUptoRow, standIns := [], harness := (true, "ff2ecd988c3cc7bb3837da481302e1f55778733fb841f6244efad57ebdf59af5"), looks := false }, kinds := [], alts := [], laidByText := true, laidKinds := [.data, .data], laidTests := true, laidLooks := .later }
def StepBeginsUptoCardSaid : Prop := Claim7.holds Tryd.pinned (.plain (OpenSpec.upto stepBeginsSpec)) stepBeginsUptoCard

/-- THE SECOND FORM's CARD OF 'rotalaw09.StepCosts'. -/
def stepCostsUptoCard : Claim7 := { stood := { row := stepCostsUptoRow, standIns := [], harness := (true, "ff2ecd988c3cc7bb3837da481302e1f55778733fb841f6244efad57ebdf59af5"), looks := false }, kinds := [], alts := [], laidByText := true, laidKinds := [.data, .data], laidTests := true, laidLooks := .later }
def StepCostsUptoCardSaid : Prop := Claim7.holds Tryd.pinned (.plain (OpenSpec.upto stepCostsSpec)) stepCostsUptoCard

/-- THE SECOND FORM's CARD OF 'rotalaw09.StepDoes'. -/
def stepDoesUptoCard : Claim7 := { stood := { row := stepDoesUptoRow, standIns := [], harness := (true, "ff2ecd988c3cc7bb3837da481302e1f55778733fb841f6244efad57ebdf59af5"), looks := false }, kinds := [], alts := [], laidByText := true, laidKinds := [.data, .data], laidTests := true, laidLooks := .later }
def StepDoesUptoCardSaid : Prop := Claim7.holds Tryd.pinned (.plain (OpenSpec.upto stepDoesSpec)) stepDoesUptoCard

/-- THE SECOND FORM's CARD OF 'rotalaw09.StepAnswers'. -/
def stepAnswersUptoCard : Claim7 := { stood := { row := stepAnswersUptoRow, standIns := [], harness := (true, "ff2ecd988c3cc7bb3837da481302e1f55778733fb841f6244efad57ebdf59af5"), looks := false }, kinds := [], alts := [], laidByText := true, laidKinds := [.data, .data], laidTests := true, laidLooks := .later }
def StepAnswersUptoCardSaid : Prop := Claim7.holds Tryd.pinned (.plain (OpenSpec.upto stepAnswersSpec)) stepAnswersUptoCard

/-- THE SECOND FORM's CARD OF 'rotalaw09.StepRuns'. -/
def stepRunsUptoCard : Claim7 := { stood := { row := stepRunsUptoRow, standIns := [], harness := (true, "ff2ecd988c3cc7bb3837da481302e1f55778733fb841f6244efad57ebdf59af5"), looks := false }, kinds := [], alts := [], laidByText := true, laidKinds := [.data, .data], laidTests := true, laidLooks := .later }
def StepRunsUptoCardSaid : Prop := Claim7.holds Tryd.pinned (.plain (OpenSpec.upto stepRunsSpec)) stepRunsUptoCard

/-- THE SECOND FORM's CARD OF 'rotalaw09.StepSafe'. -/
def stepSafeUptoCard : Claim7 := { stood := { row := stepSafeUptoRow, standIns := [], harness := (true, "ff2ecd988c3cc7bb3837da481302e1f55778733fb841f6244efad57ebdf59af5"), looks := false }, kinds := [], alts := [], laidByText := true, laidKinds := [.data, .data], laidTests := true, laidLooks := .later }
def StepSafeUptoCardSaid : Prop := Claim7.holds Tryd.pinned (.plain (OpenSpec.upto stepSafeSpec)) stepSafeUptoCard
end Rows
end Go.Proofs.YtcdlhfodeckleaaDoor
