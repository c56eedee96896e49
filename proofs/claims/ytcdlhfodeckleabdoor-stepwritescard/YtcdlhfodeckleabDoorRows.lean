/-
  NARROWER THAN 'FOR EVERY INPUT', by the rows' own cells (each row's printed sentence says how): StepWrites: laid · StepOwn: laid.
  DERIVED. THE GIVEN ROWS OF THIS SEAT. 2 by the template 'for every input the law returns true; each argument reads behind the call as it read before'; 0 by the template 'total and deterministic' (their statements: YtcdlhfodeckleabDoorTotals.lean).
  GIVEN WITH THE SEED: the statements are not yours to turn. If you find one false, say at which input.
  Laid BY PROGRAM, IN A SANDBOX (cutbox-rows.mjs): the forced cells as the released guide's own fill.sh prints them over the translation 434a9a1222d97378… (all of the seat's roots in one cut). By AI agents, Wed Nov 11 2026. No macro, syntax, notation, axiom, sorry.
-/
import Derived.Test.YtcdlhfodeckleabDoorChecked
import GoSem.Claim
import GoSem.ClaimJoined
import GoSem.ClaimMapViews
import Derived.JoinedTies
import Derived.KernelRfl
namespace Go.Proofs.YtcdlhfodeckleabDoor
/- THE CELL 'sum', in the pinned program and in every row, IS THE sha256 OF THE DUMP (.gsa) THAT YtcdlhfodeckleabDoorProg.lean LOADS. Nothing in Lean hashes anything: it is a label: what it is worth is what the hold of that sum in a sandbox is worth. -/
noncomputable def Tryd.pinned : Pinned := { name := "ytcdlhfodeckleabdoor", sum := "434a9a1222d97378d2564e1af29b49e0c062c07261b7519b5c6d37d427708733", checked := Tryd.checked }
namespace Rows
def none {H : Type} : Left H := { results := [], args := [] }

/- WHAT THE LISTED PACKAGE-LEVEL VARIABLES READ AS WHEN THE CALL BEGINS. Each datum BY PROGRAM (the guide's laid-datum.mjs) off the statement by which the dump's own 'gosem.cut.vars' lays the variable. In a bare row this is a premise. The card (YtcdlhfodeckleabDoorCards.lean) ties it to the program's text. -/
def laid_rota_word_forms {H : Type} : DataW H := .agg [.agg [.lit (.int .i64 0), .lit (.int .i64 0), .lit (.int .i64 0), .lit (.int .i64 0), .lit (.int .i64 0)], .agg [.lit (.int .i64 15), .lit (.int .i64 0), .lit (.int .i64 0), .lit (.int .i64 0), .lit (.int .i64 0)], .agg [.lit (.int .i64 15), .lit (.int .i64 15), .lit (.int .i64 0), .lit (.int .i64 0), .lit (.int .i64 0)], .agg [.lit (.int .i64 15), .lit (.int .i64 15), .lit (.int .i64 15), .lit (.int .i64 0), .lit (.int .i64 0)], .agg [.lit (.int .i64 0), .lit (.int .i64 0), .lit (.int .i64 0), .lit (.int .i64 0), .lit (.int .i64 65535)], .agg [.lit (.int .i64 15), .lit (.int .i64 0), .lit (.int .i64 0), .lit (.int .i64 0), .lit (.int .i64 65535)], .agg [.lit (.int .i64 15), .lit (.int .i64 0), .lit (.int .i64 0), .lit (.int .i64 (-32768)), .lit (.int .i64 32767)]]
def laid_rota_word_numbers {H : Type} : DataW H := .agg [.lit (.int .u16 0), .lit (.int .u16 8), .lit (.int .u16 2062), .lit (.int .u16 2189), .lit (.int .u16 2314), .lit (.int .u16 2827), .lit (.int .u16 2827), .lit (.int .u16 2843), .lit (.int .u16 2883), .lit (.int .u16 2883), .lit (.int .u16 2827), .lit (.int .u16 2827), .lit (.int .u16 2827), .lit (.int .u16 2827), .lit (.int .u16 2827), .lit (.int .u16 2827), .lit (.int .u16 2827), .lit (.int .u16 12), .lit (.int .u16 141), .lit (.int .u16 141), .lit (.int .u16 20), .lit (.int .u16 16), .lit (.int .u16 3109), .lit (.int .u16 8), .lit (.int .u16 8), .lit (.int .u16 2057), .lit (.int .u16 2057), .lit (.int .u16 137), .lit (.int .u16 2338), .lit (.int .u16 402), .lit (.int .u16 6675), .lit (.int .u16 145), .lit (.int .u16 2314), .lit (.int .u16 2314), .lit (.int .u16 17445), .lit (.int .u16 145), .lit (.int .u16 145), .lit (.int .u16 145), .lit (.int .u16 145), .lit (.int .u16 402), .lit (.int .u16 145), .lit (.int .u16 145), .lit (.int .u16 410), .lit (.int .u16 145), .lit (.int .u16 153), .lit (.int .u16 145), .lit (.int .u16 145), .lit (.int .u16 2322), .lit (.int .u16 402), .lit (.int .u16 2971), .lit (.int .u16 2843), .lit (.int .u16 6162), .lit (.int .u16 145), .lit (.int .u16 8595), .lit (.int .u16 6675), .lit (.int .u16 2843), .lit (.int .u16 2843), .lit (.int .u16 2322), .lit (.int .u16 12)]

/-- 'rotalaw09.StepWrites': WHATEVER THE INPUT: true; the input reads as it did. -/
def stepWritesSpec : ChangeSpec := { name := "stepWrites", fn := fun _ => fun
  | [d1, d2, d3] => { results := [.lit (.bool true)], args := [d1, d2, d3] }
  | _ => none }
def stepWritesRow : OpenClaim := { program := "ytcdlhfodeckleabdoor", sum := "434a9a1222d97378d2564e1af29b49e0c062c07261b7519b5c6d37d427708733", func := "rota/rotalaw09.StepWrites", spec := "stepWrites", named := ["rota/word.numbers", "rota/word.forms"], apart := false, laid := [("rota/word.forms", laid_rota_word_forms), ("rota/word.numbers", laid_rota_word_numbers)] }
def StepWritesSaid : Prop := stepWritesRow.holds Tryd.pinned (OpenSpec.ofChange stepWritesSpec)

/-- ITS FALSE NEIGHBOUR: 'it returns false'. Refute it at one input. -/
def stepWritesWrong : ChangeSpec := { name := "stepWrites", fn := fun _ => fun
  | [d1, d2, d3] => { results := [.lit (.bool false)], args := [d1, d2, d3] }
  | _ => none }
def StepWritesWrongFalsely : Prop := stepWritesRow.holds Tryd.pinned (OpenSpec.ofChange stepWritesWrong)

/-- 'rotalaw09.StepOwn': WHATEVER THE INPUT: true; the input reads as it did. -/
def stepOwnSpec : ChangeSpec := { name := "stepOwn", fn := fun _ => fun
  | [d1, d2, d3] => { results := [.lit (.bool true)], args := [d1, d2, d3] }
  | _ => none }
def stepOwnRow : OpenClaim := { program := "ytcdlhfodeckleabdoor", sum := "434a9a1222d97378d2564e1af29b49e0c062c07261b7519b5c6d37d427708733", func := "rota/rotalaw09.StepOwn", spec := "stepOwn", named := ["rota/word.numbers", "rota/word.forms"], apart := false, laid := [("rota/word.forms", laid_rota_word_forms), ("rota/word.numbers", laid_rota_word_numbers)] }
def StepOwnSaid : Prop := stepOwnRow.holds Tryd.pinned (OpenSpec.ofChange stepOwnSpec)

/-- ITS FALSE NEIGHBOUR: 'it returns false'. Refute it at one input. -/
def stepOwnWrong : ChangeSpec := { name := "stepOwn", fn := fun _ => fun
  | [d1, d2, d3] => { results := [.lit (.bool false)], args := [d1, d2, d3] }
  | _ => none }
def StepOwnWrongFalsely : Prop := stepOwnRow.holds Tryd.pinned (OpenSpec.ofChange stepOwnWrong)

/- THE SECOND FORM. 'bulk': how many values and letters a reading holds, each counted each time it is reached (what is shared counts as often as it is met; a slice's spare places count too). A statement '..UptoSaid' is the law's where the arguments, and the package variables that the reading takes, are together of bulk at most 1048576: NARROWER than '..Said'. Prove '..Said' where nothing that the law and all that it calls make is longer than what came in: it says more and counts as full. Else prove '..UptoSaid'. A law counts once. -/
mutual
def uptoBulk {H : Type} : DataW H → Nat
  | .lit (.string bytes) => bytes.length + 1
  | .lit _ => 1
  | .nil => 1
  | .ptr d => uptoBulk d + 1
  | .slice elems spare => uptoBulkAll elems + uptoBulkAll spare + 1
  | .agg parts => uptoBulkAll parts + 1
  | .iface _ d => uptoBulk d + 1
  | .map entries => uptoBulkEntries entries + 1
  | .held _ => 1
def uptoBulkAll {H : Type} : List (DataW H) → Nat
  | [] => 0
  | d :: r => uptoBulk d + uptoBulkAll r
def uptoBulkEntries {H : Type} : List (Lit × DataW H) → Nat
  | [] => 0
  | x :: r => uptoBulkEntry x + uptoBulkEntries r
def uptoBulkEntry {H : Type} : Lit × DataW H → Nat
  | (.string bytes, d) => bytes.length + uptoBulk d + 1
  | (_, d) => uptoBulk d + 1
 end
def uptoSmall : (H : Type) → List (DataW H) → Bool := fun _ ds => decide (uptoBulkAll ds ≤ 1048576)
def OpenSpec.upto (s : _root_.Go.ChangeSpec) : _root_.Go.OpenSpec := { _root_.Go.OpenSpec.ofChange s with cond := some uptoSmall }

/-- 'rotalaw09.StepWrites', WHERE WHAT IT READS IS OF BULK AT MOST 1048576: true; the input reads as it did. -/
def stepWritesUptoRow : OpenClaim := { program := "ytcdlhfodeckleabdoor", sum := "434a9a1222d97378d2564e1af29b49e0c062c07261b7519b5c6d37d427708733", func := "rota/rotalaw09.StepWrites", spec := "stepWrites", named := ["rota/word.numbers", "rota/word.forms"], apart := false, laid := [("rota/word.forms", laid_rota_word_forms), ("rota/word.numbers", laid_rota_word_numbers)], narrowed := true }
def StepWritesUptoSaid : Prop := stepWritesUptoRow.holds Tryd.pinned (OpenSpec.upto stepWritesSpec)

/-- 'rotalaw09.StepOwn', WHERE WHAT IT READS IS OF BULK AT MOST 1048576: true; the input reads as it did. -/
def stepOwnUptoRow : OpenClaim := { program := "ytcdlhfodeckleabdoor", sum := "434a9a1222d97378d2564e1af29b49e0c062c07261b7519b5c6d37d427708733", func := "rota/rotalaw09.StepOwn", spec := "stepOwn", named := ["rota/word.numbers", "rota/word.forms"], apart := false, laid := [("rota/word.forms", laid_rota_word_forms), ("rota/word.numbers", laid_rota_word_numbers)], narrowed := true }
def StepOwnUptoSaid : Prop := stepOwnUptoRow.holds Tryd.pinned (OpenSpec.upto stepOwnSpec)

end Rows
end Go.Proofs.YtcdlhfodeckleabDoor
