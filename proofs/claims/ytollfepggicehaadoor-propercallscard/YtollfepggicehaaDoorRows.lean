/-
  NARROWER THAN 'FOR EVERY INPUT', by the rows' own cells (each row's printed sentence says how): ProperChecks: laid · ProperWords: laid · ProperReaches: laid · ProperCalls: laid · ProperStays: laid · ProperClosed: laid.
  DERIVED. THE GIVEN ROWS OF THIS SEAT. 6 by the template 'for every input the law returns true; each argument reads behind the call as it read before'; 0 by the template 'total and deterministic' (their statements: YtollfepggicehaaDoorTotals.lean).
  GIVEN WITH THE SEED: the statements are not yours to turn. If you find one false, say at which input.
  Laid BY PROGRAM, IN A SANDBOX (cutbox-rows.mjs): the forced cells as the released guide's own fill.sh prints them over the translation c94087082d265973… (all of the seat's roots in one cut). By AI agents, Wed Nov 11 2026. No macro, syntax, notation, axiom, sorry.
-/
import Derived.Test.YtollfepggicehaaDoorChecked
import GoSem.Claim
import GoSem.ClaimJoined
import GoSem.ClaimMapViews
import Derived.JoinedTies
import Derived.KernelRfl
namespace Go.Proofs.YtollfepggicehaaDoor
/- THE CELL 'sum', in the pinned program and in every row, IS THE sha256 OF THE DUMP (.gsa) THAT YtollfepggicehaaDoorProg.lean LOADS. Nothing in Lean hashes anything: it is a label: what it is worth is what the hold of that sum in a sandbox is worth. -/
noncomputable def Tryd.pinned : Pinned := { name := "ytollfepggicehaadoor", sum := "c94087082d2659732aa219d48d68c247e38ef7f0772a88e5b8fc7065950e5d71", checked := Tryd.checked }
namespace Rows
def none {H : Type} : Left H := { results := [], args := [] }

/- WHAT THE LISTED PACKAGE-LEVEL VARIABLES READ AS WHEN THE CALL BEGINS. Each datum BY PROGRAM (the guide's laid-datum.mjs) off the statement by which the dump's own 'gosem.cut.vars' lays the variable. In a bare row this is a premise. The card (YtollfepggicehaaDoorCards.lean) ties it to the program's text. -/
def laid_rota_word_forms {H : Type} : DataW H := .agg [.agg [.lit (.int .i64 0), .lit (.int .i64 0), .lit (.int .i64 0), .lit (.int .i64 0), .lit (.int .i64 0)], .agg [.lit (.int .i64 15), .lit (.int .i64 0), .lit (.int .i64 0), .lit (.int .i64 0), .lit (.int .i64 0)], .agg [.lit (.int .i64 15), .lit (.int .i64 15), .lit (.int .i64 0), .lit (.int .i64 0), .lit (.int .i64 0)], .agg [.lit (.int .i64 15), .lit (.int .i64 15), .lit (.int .i64 15), .lit (.int .i64 0), .lit (.int .i64 0)], .agg [.lit (.int .i64 0), .lit (.int .i64 0), .lit (.int .i64 0), .lit (.int .i64 0), .lit (.int .i64 65535)], .agg [.lit (.int .i64 15), .lit (.int .i64 0), .lit (.int .i64 0), .lit (.int .i64 0), .lit (.int .i64 65535)], .agg [.lit (.int .i64 15), .lit (.int .i64 0), .lit (.int .i64 0), .lit (.int .i64 (-32768)), .lit (.int .i64 32767)]]
def laid_rota_word_numbers {H : Type} : DataW H := .agg [.lit (.int .u16 0), .lit (.int .u16 8), .lit (.int .u16 2062), .lit (.int .u16 2189), .lit (.int .u16 2314), .lit (.int .u16 2827), .lit (.int .u16 2827), .lit (.int .u16 2843), .lit (.int .u16 2883), .lit (.int .u16 2883), .lit (.int .u16 2827), .lit (.int .u16 2827), .lit (.int .u16 2827), .lit (.int .u16 2827), .lit (.int .u16 2827), .lit (.int .u16 2827), .lit (.int .u16 2827), .lit (.int .u16 12), .lit (.int .u16 141), .lit (.int .u16 141), .lit (.int .u16 20), .lit (.int .u16 16), .lit (.int .u16 3109), .lit (.int .u16 8), .lit (.int .u16 8), .lit (.int .u16 2057), .lit (.int .u16 2057), .lit (.int .u16 137), .lit (.int .u16 2338), .lit (.int .u16 402), .lit (.int .u16 6675), .lit (.int .u16 145), .lit (.int .u16 2314), .lit (.int .u16 2314), .lit (.int .u16 17445), .lit (.int .u16 145), .lit (.int .u16 145), .lit (.int .u16 145), .lit (.int .u16 145), .lit (.int .u16 402), .lit (.int .u16 145), .lit (.int .u16 145), .lit (.int .u16 410), .lit (.int .u16 145), .lit (.int .u16 153), .lit (.int .u16 145), .lit (.int .u16 145), .lit (.int .u16 2322), .lit (.int .u16 402), .lit (.int .u16 2971), .lit (.int .u16 2843), .lit (.int .u16 6162), .lit (.int .u16 145), .lit (.int .u16 8595), .lit (.int .u16 6675), .lit (.int .u16 2843), .lit (.int .u16 2843), .lit (.int .u16 2322), .lit (.int .u16 12)]

/-- 'rotalaw08.ProperChecks': WHATEVER THE INPUT: true; the input reads as it did. -/
def properChecksSpec : ChangeSpec := { name := "properChecks", fn := fun _ => fun
  | [d] => { results := [.lit (.bool true)], args := [d] }
  | _ => none }
def properChecksRow : OpenClaim := { program := "ytollfepggicehaadoor", sum := "c94087082d2659732aa219d48d68c247e38ef7f0772a88e5b8fc7065950e5d71", func := "rota/rotalaw08.ProperChecks", spec := "properChecks", unfollowed := true, recurses := true, named := ["rota/word.numbers", "rota/word.forms"], apart := false, laid := [("rota/word.forms", laid_rota_word_forms), ("rota/word.numbers", laid_rota_word_numbers)] }
def ProperChecksSaid : Prop := properChecksRow.holds Tryd.pinned (OpenSpec.ofChange properChecksSpec)

/-- ITS FALSE NEIGHBOUR: 'it returns false'. Refute it at one input. -/
def properChecksWrong : ChangeSpec := { name := "properChecks", fn := fun _ => fun
  | [d] => { results := [.lit (.bool false)], args := [d] }
  | _ => none }
def ProperChecksWrongFalsely : Prop := properChecksRow.holds Tryd.pinned (OpenSpec.ofChange properChecksWrong)

/-- 'rotalaw08.ProperWords': WHATEVER THE INPUT: true; the input reads as it did. -/
def properWordsSpec : ChangeSpec := { name := "properWords", fn := fun _ => fun
  | [d1, d2] => { results := [.lit (.bool true)], args := [d1, d2] }
  | _ => none }
def properWordsRow : OpenClaim := { program := "ytollfepggicehaadoor", sum := "c94087082d2659732aa219d48d68c247e38ef7f0772a88e5b8fc7065950e5d71", func := "rota/rotalaw08.ProperWords", spec := "properWords", unfollowed := true, recurses := true, named := ["rota/word.numbers", "rota/word.forms"], apart := false, laid := [("rota/word.forms", laid_rota_word_forms), ("rota/word.numbers", laid_rota_word_numbers)] }
def ProperWordsSaid : Prop := properWordsRow.holds Tryd.pinned (OpenSpec.ofChange properWordsSpec)

/-- ITS FALSE NEIGHBOUR: 'it returns false'. Refute it at one input. -/
def properWordsWrong : ChangeSpec := { name := "properWords", fn := fun _ => fun
  | [d1, d2] => { results := [.lit (.bool false)], args := [d1, d2] }
  | _ => none }
def ProperWordsWrongFalsely : Prop := properWordsRow.holds Tryd.pinned (OpenSpec.ofChange properWordsWrong)

/-- 'rotalaw08.ProperReaches': WHATEVER THE INPUT: true; the input reads as it did. -/
def properReachesSpec : ChangeSpec := { name := "properReaches", fn := fun _ => fun
  | [d1, d2] => { results := [.lit (.bool true)], args := [d1, d2] }
  | _ => none }
def properReachesRow : OpenClaim := { program := "ytollfepggicehaadoor", sum := "c94087082d2659732aa219d48d68c247e38ef7f0772a88e5b8fc7065950e5d71", func := "rota/rotalaw08.ProperReaches", spec := "properReaches", unfollowed := true, recurses := true, named := ["rota/word.numbers", "rota/word.forms"], apart := false, laid := [("rota/word.forms", laid_rota_word_forms), ("rota/word.numbers", laid_rota_word_numbers)] }
def ProperReachesSaid : Prop := properReachesRow.holds Tryd.pinned (OpenSpec.ofChange properReachesSpec)

/-- ITS FALSE NEIGHBOUR: 'it returns false'. Refute it at one input. -/
def properReachesWrong : ChangeSpec := { name := "properReaches", fn := fun _ => fun
  | [d1, d2] => { results := [.lit (.bool false)], args := [d1, d2] }
  | _ => none }
def ProperReachesWrongFalsely : Prop := properReachesRow.holds Tryd.pinned (OpenSpec.ofChange properReachesWrong)

/-- 'rotalaw08.ProperCalls': WHATEVER THE INPUT: true; the input reads as it did. -/
def properCallsSpec : ChangeSpec := { name := "properCalls", fn := fun _ => fun
  | [d1, d2, d3] => { results := [.lit (.bool true)], args := [d1, d2, d3] }
  | _ => none }
def properCallsRow : OpenClaim := { program := "ytollfepggicehaadoor", sum := "c94087082d2659732aa219d48d68c247e38ef7f0772a88e5b8fc7065950e5d71", func := "rota/rotalaw08.ProperCalls", spec := "properCalls", unfollowed := true, recurses := true, named := ["rota/word.numbers", "rota/word.forms"], apart := false, laid := [("rota/word.forms", laid_rota_word_forms), ("rota/word.numbers", laid_rota_word_numbers)] }
def ProperCallsSaid : Prop := properCallsRow.holds Tryd.pinned (OpenSpec.ofChange properCallsSpec)

/-- ITS FALSE NEIGHBOUR: 'it returns false'. Refute it at one input. -/
def properCallsWrong : ChangeSpec := { name := "properCalls", fn := fun _ => fun
  | [d1, d2, d3] => { results := [.lit (.bool false)], args := [d1, d2, d3] }
  | _ => none }
def ProperCallsWrongFalsely : Prop := properCallsRow.holds Tryd.pinned (OpenSpec.ofChange properCallsWrong)

/-- 'rotalaw08.ProperStays': WHATEVER THE INPUT: true; the input reads as it did. -/
def properStaysSpec : ChangeSpec := { name := "properStays", fn := fun _ => fun
  | [d1, d2, d3] => { results := [.lit (.bool true)], args := [d1, d2, d3] }
  | _ => none }
def properStaysRow : OpenClaim := { program := "ytollfepggicehaadoor", sum := "c94087082d2659732aa219d48d68c247e38ef7f0772a88e5b8fc7065950e5d71", func := "rota/rotalaw08.ProperStays", spec := "properStays", unfollowed := true, recurses := true, named := ["rota/word.numbers", "rota/word.forms"], apart := false, laid := [("rota/word.forms", laid_rota_word_forms), ("rota/word.numbers", laid_rota_word_numbers)] }
def ProperStaysSaid : Prop := properStaysRow.holds Tryd.pinned (OpenSpec.ofChange properStaysSpec)

/-- ITS FALSE NEIGHBOUR: 'it returns false'. Refute it at one input. -/
def properStaysWrong : ChangeSpec := { name := "properStays", fn := fun _ => fun
  | [d1, d2, d3] => { results := [.lit (.bool false)], args := [d1, d2, d3] }
  | _ => none }
def ProperStaysWrongFalsely : Prop := properStaysRow.holds Tryd.pinned (OpenSpec.ofChange properStaysWrong)

/-- 'rotalaw08.ProperClosed': WHATEVER THE INPUT: true; the input reads as it did. -/
def properClosedSpec : ChangeSpec := { name := "properClosed", fn := fun _ => fun
  | [d1, d2] => { results := [.lit (.bool true)], args := [d1, d2] }
  | _ => none }
def properClosedRow : OpenClaim := { program := "ytollfepggicehaadoor", sum := "c94087082d2659732aa219d48d68c247e38ef7f0772a88e5b8fc7065950e5d71", func := "rota/rotalaw08.ProperClosed", spec := "properClosed", unfollowed := true, recurses := true, named := ["rota/word.numbers", "rota/word.forms"], apart := false, laid := [("rota/word.forms", laid_rota_word_forms), ("rota/word.numbers", laid_rota_word_numbers)] }
def ProperClosedSaid : Prop := properClosedRow.holds Tryd.pinned (OpenSpec.ofChange properClosedSpec)

/-- ITS FALSE NEIGHBOUR: 'it returns false'. Refute it at one input. -/
def properClosedWrong : ChangeSpec := { name := "properClosed", fn := fun _ => fun
  | [d1, d2] => { results := [.lit (.bool false)], args := [d1, d2] }
  | _ => none }
def ProperClosedWrongFalsely : Prop := properClosedRow.holds Tryd.pinned (OpenSpec.ofChange properClosedWrong)

/- THE SECOND FORM. 'bulk': how many values and letters a reading holds, each counted each time it is reached (what is shared counts as often as it is met; a slice's spare places count too). A statement '..UptoSaid' is the law's where the arguments, and the package variables that the reading takes, are together of bulk at most 1048576: NARROWER than '..Said'. Prove '..Said' where nothing that the law and all that it calls make is longer than what came in: it says more and counts as full. Else prove '..UptoSaid'. A law counts once. -/
mutual
def uptoBulk {H : Type} : DataW H → Nat
  | .lit (.string bytes) => bytes.length + 1
  | .lit _ => 1
  | .nil => 1
  | .ptr d => uptoBulk d + 1
  | .slice elems spare => uptoBulkAll elems + uptoBulkAll spare + 1
  | .agg parts => uptoBulkAll parts + 1
  | .iface _ d => uptoBulk d + 1
  | .map entries => uptoBulkEntries entries + 1
  | .held _ => 1
def uptoBulkAll {H : Type} : List (DataW H) → Nat
  | [] => 0
  | d :: r => uptoBulk d + uptoBulkAll r
def uptoBulkEntries {H : Type} : List (Lit × DataW H) → Nat
  | [] => 0
  | x :: r => uptoBulkEntry x + uptoBulkEntries r
def uptoBulkEntry {H : Type} : Lit × DataW H → Nat
  | (.string bytes, d) => bytes.length + uptoBulk d + 1
  | (_, d) => uptoBulk d + 1
 end
def uptoSmall : (H : Type) → List (DataW H) → Bool := fun _ ds => decide (uptoBulkAll ds ≤ 1048576)
def OpenSpec.upto (s : _root_.Go.ChangeSpec) : _root_.Go.OpenSpec := { _root_.Go.OpenSpec.ofChange s with cond := some uptoSmall }

/-- 'rotalaw08.ProperChecks', WHERE WHAT IT READS IS OF BULK AT MOST 1048576: true; the input reads as it did. -/
def properChecksUptoRow : OpenClaim := { program := "ytollfepggicehaadoor", sum := "c94087082d2659732aa219d48d68c247e38ef7f0772a88e5b8fc7065950e5d71", func := "rota/rotalaw08.ProperChecks", spec := "properChecks", unfollowed := true, recurses := true, named := ["rota/word.numbers", "rota/word.forms"], apart := false, laid := [("rota/word.forms", laid_rota_word_forms), ("rota/word.numbers", laid_rota_word_numbers)], narrowed := true }
def ProperChecksUptoSaid : Prop := properChecksUptoRow.holds Tryd.pinned (OpenSpec.upto properChecksSpec)

/-- 'rotalaw08.ProperWords', WHERE WHAT IT READS IS OF BULK AT MOST 1048576: true; the input reads as it did. -/
def properWordsUptoRow : OpenClaim := { program := "ytollfepggicehaadoor", sum := "c94087082d2659732aa219d48d68c247e38ef7f0772a88e5b8fc7065950e5d71", func := "rota/rotalaw08.ProperWords", spec := "properWords", unfollowed := true, recurses := true, named := ["rota/word.numbers", "rota/word.forms"], apart := false, laid := [("rota/word.forms", laid_rota_word_forms), ("rota/word.numbers", laid_rota_word_numbers)], narrowed := true }
def ProperWordsUptoSaid : Prop := properWordsUptoRow.holds Tryd.pinned (OpenSpec.upto properWordsSpec)

/-- 'rotalaw08.ProperReaches', WHERE WHAT IT READS IS OF BULK AT MOST 1048576: true; the input reads as it did. -/
def properReachesUptoRow : OpenClaim := { program := "ytollfepggicehaadoor", sum := "c94087082d2659732aa219d48d68c247e38ef7f0772a88e5b8fc7065950e5d71", func := "rota/rotalaw08.ProperReaches", spec := "properReaches", unfollowed := true, recurses := true, named := ["rota/word.numbers", "rota/word.forms"], apart := false, laid := [("rota/word.forms", laid_rota_word_forms), ("rota/word.numbers", laid_rota_word_numbers)], narrowed := true }
def ProperReachesUptoSaid : Prop := properReachesUptoRow.holds Tryd.pinned (OpenSpec.upto properReachesSpec)

/-- 'rotalaw08.ProperCalls', WHERE WHAT IT READS IS OF BULK AT MOST 1048576: true; the input reads as it did. -/
def properCallsUptoRow : OpenClaim := { program := "ytollfepggicehaadoor", sum := "c94087082d2659732aa219d48d68c247e38ef7f0772a88e5b8fc7065950e5d71", func := "rota/rotalaw08.ProperCalls", spec := "properCalls", unfollowed := true, recurses := true, named := ["rota/word.numbers", "rota/word.forms"], apart := false, laid := [("rota/word.forms", laid_rota_word_forms), ("rota/word.numbers", laid_rota_word_numbers)], narrowed := true }
def ProperCallsUptoSaid : Prop := properCallsUptoRow.holds Tryd.pinned (OpenSpec.upto properCallsSpec)

/-- 'rotalaw08.ProperStays', WHERE WHAT IT READS IS OF BULK AT MOST 1048576: true; the input reads as it did. -/
def properStaysUptoRow : OpenClaim := { program := "ytollfepggicehaadoor", sum := "c94087082d2659732aa219d48d68c247e38ef7f0772a88e5b8fc7065950e5d71", func := "rota/rotalaw08.ProperStays", spec := "properStays", unfollowed := true, recurses := true, named := ["rota/word.numbers", "rota/word.forms"], apart := false, laid := [("rota/word.forms", laid_rota_word_forms), ("rota/word.numbers", laid_rota_word_numbers)], narrowed := true }
def ProperStaysUptoSaid : Prop := properStaysUptoRow.holds Tryd.pinned (OpenSpec.upto properStaysSpec)

/-- 'rotalaw08.ProperClosed', WHERE WHAT IT READS IS OF BULK AT MOST 1048576: true; the input reads as it did. -/
def properClosedUptoRow : OpenClaim := { program := "ytollfepggicehaadoor", sum := "c94087082d2659732aa219d48d68c247e38ef7f0772a88e5b8fc7065950e5d71", func := "rota/rotalaw08.ProperClosed", spec := "properClosed", unfollowed := true, recurses := true, named := ["rota/word.numbers", "rota/word.forms"], apart := false, laid := [("rota/word.forms", laid_rota_word_forms), ("rota/word.numbers", laid_rota_word_numbers)], narrowed := true }
def ProperClosedUptoSaid : Prop := properClosedUptoRow.holds Tryd.pinned (OpenSpec.upto properClosedSpec)

end Rows
end Go.Proofs.YtollfepggicehaaDoor
