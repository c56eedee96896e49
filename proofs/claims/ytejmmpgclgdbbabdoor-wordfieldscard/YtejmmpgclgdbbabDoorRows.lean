/-
  NARROWER THAN 'FOR EVERY INPUT', by the rows' own cells (each row's printed sentence says how): WordOne: laid · WordCosts: laid · WordNames: laid · WordFields: laid.
  DERIVED. THE GIVEN ROWS OF THIS SEAT. 4 by the template 'for every input the law returns true; each argument reads behind the call as it read before'; 0 by the template 'total and deterministic' (their statements: YtejmmpgclgdbbabDoorTotals.lean).
  GIVEN WITH THE SEED: the statements are not yours to turn. If you find one false, say at which input.
  Laid BY PROGRAM, IN A SANDBOX (cutbox-rows.mjs): the forced cells as the released guide's own fill.sh prints them over the translation a9391aeab930e827… (all of the seat's roots in one cut). By AI agents, Wed Nov 11 2026. No macro, syntax, notation, axiom, sorry.
-/
import Derived.Test.YtejmmpgclgdbbabDoorChecked
import GoSem.Claim
import GoSem.ClaimJoined
import GoSem.ClaimMapViews
import Derived.JoinedTies
import Derived.KernelRfl
namespace Go.Proofs.YtejmmpgclgdbbabDoor
/- THE CELL 'sum', in the pinned program and in every row, IS THE sha256 OF THE DUMP (.gsa) THAT YtejmmpgclgdbbabDoorProg.lean LOADS. Nothing in Lean hashes anything: it is a label: what it is worth is what the hold of that sum in a sandbox is worth. -/
noncomputable def Tryd.pinned : Pinned := { name := "ytejmmpgclgdbbabdoor", sum := "a9391aeab930e827c87370928fce66fe4633ac946fa483012f4e8c1f2638afce", checked := Tryd.checked }
namespace Rows
def none {H : Type} : Left H := { results := [], args := [] }

/- WHAT THE LISTED PACKAGE-LEVEL VARIABLES READ AS WHEN THE CALL BEGINS. Each datum BY PROGRAM (the guide's laid-datum.mjs) off the statement by which the dump's own 'gosem.cut.vars' lays the variable. In a bare row this is a premise. The card (YtejmmpgclgdbbabDoorCards.lean) ties it to the program's text. -/
def laid_rota_word_forms {H : Type} : DataW H := .agg [.agg [.lit (.int .i64 0), .lit (.int .i64 0), .lit (.int .i64 0), .lit (.int .i64 0), .lit (.int .i64 0)], .agg [.lit (.int .i64 15), .lit (.int .i64 0), .lit (.int .i64 0), .lit (.int .i64 0), .lit (.int .i64 0)], .agg [.lit (.int .i64 15), .lit (.int .i64 15), .lit (.int .i64 0), .lit (.int .i64 0), .lit (.int .i64 0)], .agg [.lit (.int .i64 15), .lit (.int .i64 15), .lit (.int .i64 15), .lit (.int .i64 0), .lit (.int .i64 0)], .agg [.lit (.int .i64 0), .lit (.int .i64 0), .lit (.int .i64 0), .lit (.int .i64 0), .lit (.int .i64 65535)], .agg [.lit (.int .i64 15), .lit (.int .i64 0), .lit (.int .i64 0), .lit (.int .i64 0), .lit (.int .i64 65535)], .agg [.lit (.int .i64 15), .lit (.int .i64 0), .lit (.int .i64 0), .lit (.int .i64 (-32768)), .lit (.int .i64 32767)]]
def laid_rota_word_numbers {H : Type} : DataW H := .agg [.lit (.int .u16 0), .lit (.int .u16 8), .lit (.int .u16 2062), .lit (.int .u16 2189), .lit (.int .u16 2314), .lit (.int .u16 2827), .lit (.int .u16 2827), .lit (.int .u16 2843), .lit (.int .u16 2883), .lit (.int .u16 2883), .lit (.int .u16 2827), .lit (.int .u16 2827), .lit (.int .u16 2827), .lit (.int .u16 2827), .lit (.int .u16 2827), .lit (.int .u16 2827), .lit (.int .u16 2827), .lit (.int .u16 12), .lit (.int .u16 141), .lit (.int .u16 141), .lit (.int .u16 20), .lit (.int .u16 16), .lit (.int .u16 3109), .lit (.int .u16 8), .lit (.int .u16 8), .lit (.int .u16 2057), .lit (.int .u16 2057), .lit (.int .u16 137), .lit (.int .u16 2338), .lit (.int .u16 402), .lit (.int .u16 6675), .lit (.int .u16 145), .lit (.int .u16 2314), .lit (.int .u16 2314), .lit (.int .u16 17445), .lit (.int .u16 145), .lit (.int .u16 145), .lit (.int .u16 145), .lit (.int .u16 145), .lit (.int .u16 402), .lit (.int .u16 145), .lit (.int .u16 145), .lit (.int .u16 410), .lit (.int .u16 145), .lit (.int .u16 153), .lit (.int .u16 145), .lit (.int .u16 145), .lit (.int .u16 2322), .lit (.int .u16 402), .lit (.int .u16 2971), .lit (.int .u16 2843), .lit (.int .u16 6162), .lit (.int .u16 145), .lit (.int .u16 8595), .lit (.int .u16 6675), .lit (.int .u16 2843), .lit (.int .u16 2843), .lit (.int .u16 2322), .lit (.int .u16 12)]
def laid_rota_word_names {H : Type} : DataW H := .agg [.lit (.string []), .lit (.string [110, 111, 112]), .lit (.string [115, 101, 116]), .lit (.string [104, 105, 103, 104]), .lit (.string [109, 111, 118, 101]), .lit (.string [97, 100, 100]), .lit (.string [115, 117, 98]), .lit (.string [109, 117, 108]), .lit (.string [100, 105, 118]), .lit (.string [114, 101, 109]), .lit (.string [97, 110, 100]), .lit (.string [111, 114]), .lit (.string [120, 111, 114]), .lit (.string [115, 104, 108]), .lit (.string [115, 104, 114]), .lit (.string [108, 101, 115, 115]), .lit (.string [101, 113, 117, 97, 108]), .lit (.string [106, 117, 109, 112]), .lit (.string [122, 101, 114, 111]), .lit (.string [115, 111, 109, 101]), .lit (.string [99, 97, 108, 108]), .lit (.string [114, 101, 116]), .lit (.string [115, 112, 97, 119, 110]), .lit (.string [121, 105, 101, 108, 100]), .lit (.string [101, 120, 105, 116]), .lit (.string [115, 101, 108, 102]), .lit (.string [110, 111, 119]), .lit (.string [115, 108, 101, 101, 112]), .lit (.string [109, 97, 107, 101]), .lit (.string [115, 101, 110, 100]), .lit (.string [114, 101, 99, 118]), .lit (.string [99, 108, 111, 115, 101]), .lit (.string [108, 101, 110]), .lit (.string [99, 97, 112]), .lit (.string [115, 101, 108, 101, 99, 116]), .lit (.string [108, 111, 99, 107]), .lit (.string [117, 110, 108, 111, 99, 107]), .lit (.string [114, 108, 111, 99, 107]), .lit (.string [114, 117, 110, 108, 111, 99, 107]), .lit (.string [119, 97, 100, 100]), .lit (.string [119, 100, 111, 110, 101]), .lit (.string [119, 119, 97, 105, 116]), .lit (.string [99, 119, 97, 105, 116]), .lit (.string [115, 105, 103, 110, 97, 108]), .lit (.string [98, 114, 111, 97, 100, 99, 97, 115, 116]), .lit (.string [97, 99, 113, 117, 105, 114, 101]), .lit (.string [114, 101, 108, 101, 97, 115, 101]), .lit (.string [108, 111, 97, 100]), .lit (.string [115, 116, 111, 114, 101]), .lit (.string [115, 119, 97, 112]), .lit (.string [102, 101, 116, 99, 104]), .lit (.string [105, 110, 112, 117, 116]), .lit (.string [111, 117, 116, 112, 117, 116]), .lit (.string [112, 117, 116]), .lit (.string [103, 101, 116]), .lit (.string [97, 102, 116, 101, 114]), .lit (.string [101, 118, 101, 114, 121]), .lit (.string [115, 116, 111, 112]), .lit (.string [116, 114, 97, 112])]

/-- 'rotalaw06.WordOne': WHATEVER THE INPUT: true; the input reads as it did. -/
def wordOneSpec : ChangeSpec := { name := "wordOne", fn := fun _ => fun
  | [d] => { results := [.lit (.bool true)], args := [d] }
  | _ => none }
def wordOneRow : OpenClaim := { program := "ytejmmpgclgdbbabdoor", sum := "a9391aeab930e827c87370928fce66fe4633ac946fa483012f4e8c1f2638afce", func := "rota/rotalaw06.WordOne", spec := "wordOne", named := ["rota/word.numbers", "rota/word.forms"], apart := false, laid := [("rota/word.forms", laid_rota_word_forms), ("rota/word.numbers", laid_rota_word_numbers)] }
def WordOneSaid : Prop := wordOneRow.holds Tryd.pinned (OpenSpec.ofChange wordOneSpec)

/-- ITS FALSE NEIGHBOUR: 'it returns false'. Refute it at one input. -/
def wordOneWrong : ChangeSpec := { name := "wordOne", fn := fun _ => fun
  | [d] => { results := [.lit (.bool false)], args := [d] }
  | _ => none }
def WordOneWrongFalsely : Prop := wordOneRow.holds Tryd.pinned (OpenSpec.ofChange wordOneWrong)

/-- 'rotalaw06.WordCosts': WHATEVER THE INPUT: true; the input reads as it did. -/
def wordCostsSpec : ChangeSpec := { name := "wordCosts", fn := fun _ => fun
  | [d] => { results := [.lit (.bool true)], args := [d] }
  | _ => none }
def wordCostsRow : OpenClaim := { program := "ytejmmpgclgdbbabdoor", sum := "a9391aeab930e827c87370928fce66fe4633ac946fa483012f4e8c1f2638afce", func := "rota/rotalaw06.WordCosts", spec := "wordCosts", named := ["rota/word.numbers", "rota/word.names", "rota/word.forms"], apart := false, laid := [("rota/word.forms", laid_rota_word_forms), ("rota/word.numbers", laid_rota_word_numbers), ("rota/word.names", laid_rota_word_names)] }
def WordCostsSaid : Prop := wordCostsRow.holds Tryd.pinned (OpenSpec.ofChange wordCostsSpec)

/-- ITS FALSE NEIGHBOUR: 'it returns false'. Refute it at one input. -/
def wordCostsWrong : ChangeSpec := { name := "wordCosts", fn := fun _ => fun
  | [d] => { results := [.lit (.bool false)], args := [d] }
  | _ => none }
def WordCostsWrongFalsely : Prop := wordCostsRow.holds Tryd.pinned (OpenSpec.ofChange wordCostsWrong)

/-- 'rotalaw06.WordNames': WHATEVER THE INPUT: true; the input reads as it did. -/
def wordNamesSpec : ChangeSpec := { name := "wordNames", fn := fun _ => fun
  | [d1, d2] => { results := [.lit (.bool true)], args := [d1, d2] }
  | _ => none }
def wordNamesRow : OpenClaim := { program := "ytejmmpgclgdbbabdoor", sum := "a9391aeab930e827c87370928fce66fe4633ac946fa483012f4e8c1f2638afce", func := "rota/rotalaw06.WordNames", spec := "wordNames", named := ["rota/word.names", "rota/word.numbers", "rota/word.forms"], apart := false, laid := [("rota/word.forms", laid_rota_word_forms), ("rota/word.numbers", laid_rota_word_numbers), ("rota/word.names", laid_rota_word_names)] }
def WordNamesSaid : Prop := wordNamesRow.holds Tryd.pinned (OpenSpec.ofChange wordNamesSpec)

/-- ITS FALSE NEIGHBOUR: 'it returns false'. Refute it at one input. -/
def wordNamesWrong : ChangeSpec := { name := "wordNames", fn := fun _ => fun
  | [d1, d2] => { results := [.lit (.bool false)], args := [d1, d2] }
  | _ => none }
def WordNamesWrongFalsely : Prop := wordNamesRow.holds Tryd.pinned (OpenSpec.ofChange wordNamesWrong)

/-- 'rotalaw06.WordFields': WHATEVER THE INPUT: true; the input reads as it did. -/
def wordFieldsSpec : ChangeSpec := { name := "wordFields", fn := fun _ => fun
  | [d1, d2] => { results := [.lit (.bool true)], args := [d1, d2] }
  | _ => none }
def wordFieldsRow : OpenClaim := { program := "ytejmmpgclgdbbabdoor", sum := "a9391aeab930e827c87370928fce66fe4633ac946fa483012f4e8c1f2638afce", func := "rota/rotalaw06.WordFields", spec := "wordFields", named := ["rota/word.numbers", "rota/word.forms"], apart := false, laid := [("rota/word.forms", laid_rota_word_forms), ("rota/word.numbers", laid_rota_word_numbers)] }
def WordFieldsSaid : Prop := wordFieldsRow.holds Tryd.pinned (OpenSpec.ofChange wordFieldsSpec)

/-- ITS FALSE NEIGHBOUR: 'it returns false'. Refute it at one input. -/
def wordFieldsWrong : ChangeSpec := { name := "wordFields", fn := fun _ => fun
  | [d1, d2] => { results := [.lit (.bool false)], args := [d1, d2] }
  | _ => none }
def WordFieldsWrongFalsely : Prop := wordFieldsRow.holds Tryd.pinned (OpenSpec.ofChange wordFieldsWrong)

/- THE SECOND FORM. 'bulk': how many values and letters a reading holds, each counted each time it is reached (what is shared counts as often as it is met; a slice's spare places count too). A statement '..UptoSaid' is the law's where the arguments, and the package variables that the reading takes, are together of bulk at most 1048576: NARROWER than '..Said'. Prove '..Said' where nothing that the law and all that it calls make is longer than what came in: it says more and counts as full. Else prove '..UptoSaid'. A law counts once. -/
mutual
def uptoBulk {H : Type} : DataW H → Nat
  | .lit (.string bytes) => bytes.length + 1
  | .lit _ => 1
  | .nil => 1
  | .ptr d => uptoBulk d + 1
  | .slice elems spare => uptoBulkAll elems + uptoBulkAll spare + 1
  | .agg parts => uptoBulkAll parts + 1
  | .iface _ d => uptoBulk d + 1
  | .map entries => uptoBulkEntries entries + 1
  | .held _ => 1
def uptoBulkAll {H : Type} : List (DataW H) → Nat
  | [] => 0
  | d :: r => uptoBulk d + uptoBulkAll r
def uptoBulkEntries {H : Type} : List (Lit × DataW H) → Nat
  | [] => 0
  | x :: r => uptoBulkEntry x + uptoBulkEntries r
def uptoBulkEntry {H : Type} : Lit × DataW H → Nat
  | (.string bytes, d) => bytes.length + uptoBulk d + 1
  | (_, d) => uptoBulk d + 1
 end
def uptoSmall : (H : Type) → List (DataW H) → Bool := fun _ ds => decide (uptoBulkAll ds ≤ 1048576)
def OpenSpec.upto (s : _root_.Go.ChangeSpec) : _root_.Go.OpenSpec := { _root_.Go.OpenSpec.ofChange s with cond := some uptoSmall }

/-- 'rotalaw06.WordOne', WHERE WHAT IT READS IS OF BULK AT MOST 1048576: true; the input reads as it did. -/
def wordOneUptoRow : OpenClaim := { program := "ytejmmpgclgdbbabdoor", sum := "a9391aeab930e827c87370928fce66fe4633ac946fa483012f4e8c1f2638afce", func := "rota/rotalaw06.WordOne", spec := "wordOne", named := ["rota/word.numbers", "rota/word.forms"], apart := false, laid := [("rota/word.forms", laid_rota_word_forms), ("rota/word.numbers", laid_rota_word_numbers)], narrowed := true }
def WordOneUptoSaid : Prop := wordOneUptoRow.holds Tryd.pinned (OpenSpec.upto wordOneSpec)

/-- 'rotalaw06.WordCosts', WHERE WHAT IT READS IS OF BULK AT MOST 1048576: true; the input reads as it did. -/
def wordCostsUptoRow : OpenClaim := { program := "ytejmmpgclgdbbabdoor", sum := "a9391aeab930e827c87370928fce66fe4633ac946fa483012f4e8c1f2638afce", func := "rota/rotalaw06.WordCosts", spec := "wordCosts", named := ["rota/word.numbers", "rota/word.names", "rota/word.forms"], apart := false, laid := [("rota/word.forms", laid_rota_word_forms), ("rota/word.numbers", laid_rota_word_numbers), ("rota/word.names", laid_rota_word_names)], narrowed := true }
def WordCostsUptoSaid : Prop := wordCostsUptoRow.holds Tryd.pinned (OpenSpec.upto wordCostsSpec)

/-- 'rotalaw06.WordNames', WHERE WHAT IT READS IS OF BULK AT MOST 1048576: true; the input reads as it did. -/
def wordNamesUptoRow : OpenClaim := { program := "ytejmmpgclgdbbabdoor", sum := "a9391aeab930e827c87370928fce66fe4633ac946fa483012f4e8c1f2638afce", func := "rota/rotalaw06.WordNames", spec := "wordNames", named := ["rota/word.names", "rota/word.numbers", "rota/word.forms"], apart := false, laid := [("rota/word.forms", laid_rota_word_forms), ("rota/word.numbers", laid_rota_word_numbers), ("rota/word.names", laid_rota_word_names)], narrowed := true }
def WordNamesUptoSaid : Prop := wordNamesUptoRow.holds Tryd.pinned (OpenSpec.upto wordNamesSpec)

/-- 'rotalaw06.WordFields', WHERE WHAT IT READS IS OF BULK AT MOST 1048576: true; the input reads as it did. -/
def wordFieldsUptoRow : OpenClaim := { program := "ytejmmpgclgdbbabdoor", sum := "a9391aeab930e827c87370928fce66fe4633ac946fa483012f4e8c1f2638afce", func := "rota/rotalaw06.WordFields", spec := "wordFields", named := ["rota/word.numbers", "rota/word.forms"], apart := false, laid := [("rota/word.forms", laid_rota_word_forms), ("rota/word.numbers", laid_rota_word_numbers)], narrowed := true }
def WordFieldsUptoSaid : Prop := wordFieldsUptoRow.holds Tryd.pinned (OpenSpec.upto wordFieldsSpec)

end Rows
end Go.Proofs.YtejmmpgclgdbbabDoor
