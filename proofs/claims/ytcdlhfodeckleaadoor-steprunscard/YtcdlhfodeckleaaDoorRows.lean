/-
  NARROWER THAN 'FOR EVERY INPUT', by the rows' own cells (each row's printed sentence says how): StepBegins: laid · StepCosts: laid · StepDoes: laid · StepAnswers: laid · StepRuns: laid · StepSafe: laid.
  DERIVED. THE GIVEN ROWS OF THIS SEAT. 6 by the template 'for every input the law returns true; each argument reads behind the call as it read before'; 0 by the template 'total and deterministic' (their statements: YtcdlhfodeckleaaDoorTotals.lean).
  GIVEN WITH THE SEED: the statements are not yours to turn. If you find one false, say at which input.
  Laid BY PROGRAM, IN A SANDBOX (cutbox-rows.mjs): the forced cells as the released guide's own fill.sh prints them over the translation 81ad3d21ae6dc250… (all of the seat's roots in one cut). By AI agents, Wed Nov 11 2026. No macro, syntax, notation, axiom, sorry.
-/
import Derived.Test.YtcdlhfodeckleaaDoorChecked
import GoSem.Claim
import GoSem.ClaimJoined
import GoSem.ClaimMapViews
import Derived.JoinedTies
import Derived.KernelRfl
namespace Go.Proofs.YtcdlhfodeckleaaDoor
/- THE CELL 'sum', in the pinned program and in every row, IS THE sha256 OF THE DUMP (.gsa) THAT YtcdlhfodeckleaaDoorProg.lean LOADS. Nothing in Lean hashes anything: it is a label: what it is worth is what the hold of that sum in a sandbox is worth. -/
noncomputable def Tryd.pinned : Pinned := { name := "ytcdlhfodeckleaadoor", sum := "81ad3d21ae6dc25093ecb8efc8213125187e0eae8b242cb838d45b44a717e789", checked := Tryd.checked }
namespace Rows
def none {H : Type} : Left H := { results := [], args := [] }

/- WHAT THE LISTED PACKAGE-LEVEL VARIABLES READ AS WHEN THE CALL BEGINS. Each datum BY PROGRAM (the guide's laid-datum.mjs) off the statement by which the dump's own 'gosem.cut.vars' lays the variable. In a bare row this is a premise. The card (YtcdlhfodeckleaaDoorCards.lean) ties it to the program's text. -/
def laid_rota_word_forms {H : Type} : DataW H := .agg [.agg [.lit (.int .i64 0), .lit (.int .i64 0), .lit (.int .i64 0), .lit (.int .i64 0), .lit (.int .i64 0)], .agg [.lit (.int .i64 15), .lit (.int .i64 0), .lit (.int .i64 0), .lit (.int .i64 0), .lit (.int .i64 0)], .agg [.lit (.int .i64 15), .lit (.int .i64 15), .lit (.int .i64 0), .lit (.int .i64 0), .lit (.int .i64 0)], .agg [.lit (.int .i64 15), .lit (.int .i64 15), .lit (.int .i64 15), .lit (.int .i64 0), .lit (.int .i64 0)], .agg [.lit (.int .i64 0), .lit (.int .i64 0), .lit (.int .i64 0), .lit (.int .i64 0), .lit (.int .i64 65535)], .agg [.lit (.int .i64 15), .lit (.int .i64 0), .lit (.int .i64 0), .lit (.int .i64 0), .lit (.int .i64 65535)], .agg [.lit (.int .i64 15), .lit (.int .i64 0), .lit (.int .i64 0), .lit (.int .i64 (-32768)), .lit (.int .i64 32767)]]
def laid_rota_word_numbers {H : Type} : DataW H := .agg [.lit (.int .u16 0), .lit (.int .u16 8), .lit (.int .u16 2062), .lit (.int .u16 2189), .lit (.int .u16 2314), .lit (.int .u16 2827), .lit (.int .u16 2827), .lit (.int .u16 2843), .lit (.int .u16 2883), .lit (.int .u16 2883), .lit (.int .u16 2827), .lit (.int .u16 2827), .lit (.int .u16 2827), .lit (.int .u16 2827), .lit (.int .u16 2827), .lit (.int .u16 2827), .lit (.int .u16 2827), .lit (.int .u16 12), .lit (.int .u16 141), .lit (.int .u16 141), .lit (.int .u16 20), .lit (.int .u16 16), .lit (.int .u16 3109), .lit (.int .u16 8), .lit (.int .u16 8), .lit (.int .u16 2057), .lit (.int .u16 2057), .lit (.int .u16 137), .lit (.int .u16 2338), .lit (.int .u16 402), .lit (.int .u16 6675), .lit (.int .u16 145), .lit (.int .u16 2314), .lit (.int .u16 2314), .lit (.int .u16 17445), .lit (.int .u16 145), .lit (.int .u16 145), .lit (.int .u16 145), .lit (.int .u16 145), .lit (.int .u16 402), .lit (.int .u16 145), .lit (.int .u16 145), .lit (.int .u16 410), .lit (.int .u16 145), .lit (.int .u16 153), .lit (.int .u16 145), .lit (.int .u16 145), .lit (.int .u16 2322), .lit (.int .u16 402), .lit (.int .u16 2971), .lit (.int .u16 2843), .lit (.int .u16 6162), .lit (.int .u16 145), .lit (.int .u16 8595), .lit (.int .u16 6675), .lit (.int .u16 2843), .lit (.int .u16 2843), .lit (.int .u16 2322), .lit (.int .u16 12)]

/-- 'rotalaw09.StepBegins': WHATEVER THE INPUT: true; the input reads as it did. -/
def stepBeginsSpec : ChangeSpec := { name := "stepBegins", fn := fun _ => fun
  | [d1, d2, d3] => { results := [.lit (.bool true)], args := [d1, d2, d3] }
  | _ => none }
def stepBeginsRow : OpenClaim := { program := "ytcdlhfodeckleaadoor", sum := "81ad3d21ae6dc25093ecb8efc8213125187e0eae8b242cb838d45b44a717e789", func := "rota/rotalaw09.StepBegins", spec := "stepBegins", named := ["rota/word.numbers", "rota/word.forms"], apart := false, laid := [("rota/word.forms", laid_rota_word_forms), ("rota/word.numbers", laid_rota_word_numbers)] }
def StepBeginsSaid : Prop := stepBeginsRow.holds Tryd.pinned (OpenSpec.ofChange stepBeginsSpec)

/-- ITS FALSE NEIGHBOUR: 'it returns false'. Refute it at one input. -/
def stepBeginsWrong : ChangeSpec := { name := "stepBegins", fn := fun _ => fun
  | [d1, d2, d3] => { results := [.lit (.bool false)], args := [d1, d2, d3] }
  | _ => none }
def StepBeginsWrongFalsely : Prop := stepBeginsRow.holds Tryd.pinned (OpenSpec.ofChange stepBeginsWrong)

/-- 'rotalaw09.StepCosts': WHATEVER THE INPUT: true; the input reads as it did. -/
def stepCostsSpec : ChangeSpec := { name := "stepCosts", fn := fun _ => fun
  | [d1, d2] => { results := [.lit (.bool true)], args := [d1, d2] }
  | _ => none }
def stepCostsRow : OpenClaim := { program := "ytcdlhfodeckleaadoor", sum := "81ad3d21ae6dc25093ecb8efc8213125187e0eae8b242cb838d45b44a717e789", func := "rota/rotalaw09.StepCosts", spec := "stepCosts", named := ["rota/word.numbers", "rota/word.forms"], apart := false, laid := [("rota/word.forms", laid_rota_word_forms), ("rota/word.numbers", laid_rota_word_numbers)] }
def StepCostsSaid : Prop := stepCostsRow.holds Tryd.pinned (OpenSpec.ofChange stepCostsSpec)

/-- ITS FALSE NEIGHBOUR: 'it returns false'. Refute it at one input. -/
def stepCostsWrong : ChangeSpec := { name := "stepCosts", fn := fun _ => fun
  | [d1, d2] => { results := [.lit (.bool false)], args := [d1, d2] }
  | _ => none }
def StepCostsWrongFalsely : Prop := stepCostsRow.holds Tryd.pinned (OpenSpec.ofChange stepCostsWrong)

/-- 'rotalaw09.StepDoes': WHATEVER THE INPUT: true; the input reads as it did. -/
def stepDoesSpec : ChangeSpec := { name := "stepDoes", fn := fun _ => fun
  | [d1, d2, d3] => { results := [.lit (.bool true)], args := [d1, d2, d3] }
  | _ => none }
def stepDoesRow : OpenClaim := { program := "ytcdlhfodeckleaadoor", sum := "81ad3d21ae6dc25093ecb8efc8213125187e0eae8b242cb838d45b44a717e789", func := "rota/rotalaw09.StepDoes", spec := "stepDoes", named := ["rota/word.numbers", "rota/word.forms"], apart := false, laid := [("rota/word.forms", laid_rota_word_forms), ("rota/word.numbers", laid_rota_word_numbers)] }
def StepDoesSaid : Prop := stepDoesRow.holds Tryd.pinned (OpenSpec.ofChange stepDoesSpec)

/-- ITS FALSE NEIGHBOUR: 'it returns false'. Refute it at one input. -/
def stepDoesWrong : ChangeSpec := { name := "stepDoes", fn := fun _ => fun
  | [d1, d2, d3] => { results := [.lit (.bool false)], args := [d1, d2, d3] }
  | _ => none }
def StepDoesWrongFalsely : Prop := stepDoesRow.holds Tryd.pinned (OpenSpec.ofChange stepDoesWrong)

/-- 'rotalaw09.StepAnswers': WHATEVER THE INPUT: true; the input reads as it did. -/
def stepAnswersSpec : ChangeSpec := { name := "stepAnswers", fn := fun _ => fun
  | [d1, d2] => { results := [.lit (.bool true)], args := [d1, d2] }
  | _ => none }
def stepAnswersRow : OpenClaim := { program := "ytcdlhfodeckleaadoor", sum := "81ad3d21ae6dc25093ecb8efc8213125187e0eae8b242cb838d45b44a717e789", func := "rota/rotalaw09.StepAnswers", spec := "stepAnswers", named := ["rota/word.numbers", "rota/word.forms"], apart := false, laid := [("rota/word.forms", laid_rota_word_forms), ("rota/word.numbers", laid_rota_word_numbers)] }
def StepAnswersSaid : Prop := stepAnswersRow.holds Tryd.pinned (OpenSpec.ofChange stepAnswersSpec)

/-- ITS FALSE NEIGHBOUR: 'it returns false'. Refute it at one input. -/
def stepAnswersWrong : ChangeSpec := { name := "stepAnswers", fn := fun _ => fun
  | [d1, d2] => { results := [.lit (.bool false)], args := [d1, d2] }
  | _ => none }
def StepAnswersWrongFalsely : Prop := stepAnswersRow.holds Tryd.pinned (OpenSpec.ofChange stepAnswersWrong)

/-- 'rotalaw09.StepRuns': WHATEVER THE INPUT: true; the input reads as it did. -/
def stepRunsSpec : ChangeSpec := { name := "stepRuns", fn := fun _ => fun
  | [d1, d2, d3] => { results := [.lit (.bool true)], args := [d1, d2, d3] }
  | _ => none }
def stepRunsRow : OpenClaim := { program := "ytcdlhfodeckleaadoor", sum := "81ad3d21ae6dc25093ecb8efc8213125187e0eae8b242cb838d45b44a717e789", func := "rota/rotalaw09.StepRuns", spec := "stepRuns", named := ["rota/word.numbers", "rota/word.forms"], apart := false, laid := [("rota/word.forms", laid_rota_word_forms), ("rota/word.numbers", laid_rota_word_numbers)] }
def StepRunsSaid : Prop := stepRunsRow.holds Tryd.pinned (OpenSpec.ofChange stepRunsSpec)

/-- ITS FALSE NEIGHBOUR: 'it returns false'. Refute it at one input. -/
def stepRunsWrong : ChangeSpec := { name := "stepRuns", fn := fun _ => fun
  | [d1, d2, d3] => { results := [.lit (.bool false)], args := [d1, d2, d3] }
  | _ => none }
def StepRunsWrongFalsely : Prop := stepRunsRow.holds Tryd.pinned (OpenSpec.ofChange stepRunsWrong)

/-- 'rotalaw09.StepSafe': WHATEVER THE INPUT: true; the input reads as it did. -/
def stepSafeSpec : ChangeSpec := { name := "stepSafe", fn := fun _ => fun
  | [d1, d2, d3] => { results := [.lit (.bool true)], args := [d1, d2, d3] }
  | _ => none }
def stepSafeRow : OpenClaim := { program := "ytcdlhfodeckleaadoor", sum := "81ad3d21ae6dc25093ecb8efc8213125187e0eae8b242cb838d45b44a717e789", func := "rota/rotalaw09.StepSafe", spec := "stepSafe", named := ["rota/word.numbers", "rota/word.forms"], apart := false, laid := [("rota/word.forms", laid_rota_word_forms), ("rota/word.numbers", laid_rota_word_numbers)] }
def StepSafeSaid : Prop := stepSafeRow.holds Tryd.pinned (OpenSpec.ofChange stepSafeSpec)

/-- ITS FALSE NEIGHBOUR: 'it returns false'. Refute it at one input. -/
def stepSafeWrong : ChangeSpec := { name := "stepSafe", fn := fun _ => fun
  | [d1, d2, d3] => { results := [.lit (.bool false)], args := [d1, d2, d3] }
  | _ => none }
def StepSafeWrongFalsely : Prop := stepSafeRow.holds Tryd.pinned (OpenSpec.ofChange stepSafeWrong)

/- THE SECOND FORM. 'bulk': how many values and letters a reading holds, each counted each time it is reached (what is shared counts as often as it is met; a slice's spare places count too). A statement '..UptoSaid' is the law's where the arguments, and the package variables that the reading takes, are together of bulk at most 1048576: NARROWER than '..Said'. Prove '..Said' where nothing that the law and all that it calls make is longer than what came in: it says more and counts as full. Else prove '..UptoSaid'. A law counts once. -/
mutual
def uptoBulk {H : Type} : DataW H → Nat
  | .lit (.string bytes) => bytes.length + 1
  | .lit _ => 1
  | .nil => 1
  | .ptr d => uptoBulk d + 1
  | .slice elems spare => uptoBulkAll elems + uptoBulkAll spare + 1
  | .agg parts => uptoBulkAll parts + 1
  | .iface _ d => uptoBulk d + 1
  | .map entries => uptoBulkEntries entries + 1
  | .held _ => 1
def uptoBulkAll {H : Type} : List (DataW H) → Nat
  | [] => 0
  | d :: r => uptoBulk d + uptoBulkAll r
def uptoBulkEntries {H : Type} : List (Lit × DataW H) → Nat
  | [] => 0
  | x :: r => uptoBulkEntry x + uptoBulkEntries r
def uptoBulkEntry {H : Type} : Lit × DataW H → Nat
  | (.string bytes, d) => bytes.length + uptoBulk d + 1
  | (_, d) => uptoBulk d + 1
 end
def uptoSmall : (H : Type) → List (DataW H) → Bool := fun _ ds => decide (uptoBulkAll ds ≤ 1048576)
def OpenSpec.upto (s : _root_.Go.ChangeSpec) : _root_.Go.OpenSpec := { _root_.Go.OpenSpec.ofChange s with cond := some uptoSmall }

/-- 'rotalaw09.StepBegins', WHERE WHAT IT READS IS OF BULK AT MOST 1048576: true; the input reads as it did. -/
def stepBeginsUptoRow : OpenClaim := { program := "ytcdlhfodeckleaadoor", sum := "81ad3d21ae6dc25093ecb8efc8213125187e0eae8b242cb838d45b44a717e789", func := "rota/rotalaw09.StepBegins", spec := "stepBegins", named := ["rota/word.numbers", "rota/word.forms"], apart := false, laid := [("rota/word.forms", laid_rota_word_forms), ("rota/word.numbers", laid_rota_word_numbers)], narrowed := true }
def StepBeginsUptoSaid : Prop := stepBeginsUptoRow.holds Tryd.pinned (OpenSpec.upto stepBeginsSpec)

/-- 'rotalaw09.StepCosts', WHERE WHAT IT READS IS OF BULK AT MOST 1048576: true; the input reads as it did. -/
def stepCostsUptoRow : OpenClaim := { program := "ytcdlhfodeckleaadoor", sum := "81ad3d21ae6dc25093ecb8efc8213125187e0eae8b242cb838d45b44a717e789", func := "rota/rotalaw09.StepCosts", spec := "stepCosts", named := ["rota/word.numbers", "rota/word.forms"], apart := false, laid := [("rota/word.forms", laid_rota_word_forms), ("rota/word.numbers", laid_rota_word_numbers)], narrowed := true }
def StepCostsUptoSaid : Prop := stepCostsUptoRow.holds Tryd.pinned (OpenSpec.upto stepCostsSpec)

/-- 'rotalaw09.StepDoes', WHERE WHAT IT READS IS OF BULK AT MOST 1048576: true; the input reads as it did. -/
def stepDoesUptoRow : OpenClaim := { program := "ytcdlhfodeckleaadoor", sum := "81ad3d21ae6dc25093ecb8efc8213125187e0eae8b242cb838d45b44a717e789", func := "rota/rotalaw09.StepDoes", spec := "stepDoes", named := ["rota/word.numbers", "rota/word.forms"], apart := false, laid := [("rota/word.forms", laid_rota_word_forms), ("rota/word.numbers", laid_rota_word_numbers)], narrowed := true }
def StepDoesUptoSaid : Prop := stepDoesUptoRow.holds Tryd.pinned (OpenSpec.upto stepDoesSpec)

/-- 'rotalaw09.StepAnswers', WHERE WHAT IT READS IS OF BULK AT MOST 1048576: true; the input reads as it did. -/
def stepAnswersUptoRow : OpenClaim := { program := "ytcdlhfodeckleaadoor", sum := "81ad3d21ae6dc25093ecb8efc8213125187e0eae8b242cb838d45b44a717e789", func := "rota/rotalaw09.StepAnswers", spec := "stepAnswers", named := ["rota/word.numbers", "rota/word.forms"], apart := false, laid := [("rota/word.forms", laid_rota_word_forms), ("rota/word.numbers", laid_rota_word_numbers)], narrowed := true }
def StepAnswersUptoSaid : Prop := stepAnswersUptoRow.holds Tryd.pinned (OpenSpec.upto stepAnswersSpec)

/-- 'rotalaw09.StepRuns', WHERE WHAT IT READS IS OF BULK AT MOST 1048576: true; the input reads as it did. -/
def stepRunsUptoRow : OpenClaim := { program := "ytcdlhfodeckleaadoor", sum := "81ad3d21ae6dc25093ecb8efc8213125187e0eae8b242cb838d45b44a717e789", func := "rota/rotalaw09.StepRuns", spec := "stepRuns", named := ["rota/word.numbers", "rota/word.forms"], apart := false, laid := [("rota/word.forms", laid_rota_word_forms), ("rota/word.numbers", laid_rota_word_numbers)], narrowed := true }
def StepRunsUptoSaid : Prop := stepRunsUptoRow.holds Tryd.pinned (OpenSpec.upto stepRunsSpec)

/-- 'rotalaw09.StepSafe', WHERE WHAT IT READS IS OF BULK AT MOST 1048576: true; the input reads as it did. -/
def stepSafeUptoRow : OpenClaim := { program := "ytcdlhfodeckleaadoor", sum := "81ad3d21ae6dc25093ecb8efc8213125187e0eae8b242cb838d45b44a717e789", func := "rota/rotalaw09.StepSafe", spec := "stepSafe", named := ["rota/word.numbers", "rota/word.forms"], apart := false, laid := [("rota/word.forms", laid_rota_word_forms), ("rota/word.numbers", laid_rota_word_numbers)], narrowed := true }
def StepSafeUptoSaid : Prop := stepSafeUptoRow.holds Tryd.pinned (OpenSpec.upto stepSafeSpec)

end Rows
end Go.Proofs.YtcdlhfodeckleaaDoor
