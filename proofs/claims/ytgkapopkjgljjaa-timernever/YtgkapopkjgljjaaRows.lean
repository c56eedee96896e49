/-
  No cell of these rows narrows 'for every input' (looked for: loops, veiled, ifaces, maps, wideKeys, modest, calm, conditions, laid).
  DERIVED. THE GIVEN ROWS OF THIS SEAT. 6 by the template 'for every input the law returns true; each argument reads behind the call as it read before'; 0 by the template 'total and deterministic' (their statements: YtgkapopkjgljjaaTotals.lean).
  GIVEN WITH THE SEED: the statements are not yours to turn. If you find one false, say at which input.
  Laid BY PROGRAM, IN A SANDBOX (cutbox-rows.mjs): the forced cells as the released guide's own fill.sh prints them over the translation a2c6bf55d1470a32… (all of the seat's roots in one cut). By AI agents, Wed Nov 11 2026. No macro, syntax, notation, axiom, sorry.
-/
import Derived.Test.YtgkapopkjgljjaaChecked
import GoSem.Claim
import GoSem.ClaimJoined
import GoSem.ClaimMapViews
import Derived.JoinedTies
import Derived.KernelRfl
namespace Go.Proofs.Ytgkapopkjgljjaa
/- THE CELL 'sum', in the pinned program and in every row, IS THE sha256 OF THE DUMP (.gsa) THAT YtgkapopkjgljjaaProg.lean LOADS. Nothing in Lean hashes anything: it is a label: what it is worth is what the hold of that sum in a sandbox is worth. -/
noncomputable def Try.pinned : Pinned := { name := "ytgkapopkjgljjaa", sum := "a2c6bf55d1470a322582ec74231f35cf59d9e86ec947d39666ff205c511c6245", checked := Try.checked }
namespace Rows
def none {H : Type} : Left H := { results := [], args := [] }

/-- 'rotalaw14.TimerPlays': WHATEVER THE INPUT: true; the input reads as it did. -/
def timerPlaysSpec : ChangeSpec := { name := "timerPlays", fn := fun _ => fun
  | [d] => { results := [.lit (.bool true)], args := [d] }
  | _ => none }
def timerPlaysRow : OpenClaim := { program := "ytgkapopkjgljjaa", sum := "a2c6bf55d1470a322582ec74231f35cf59d9e86ec947d39666ff205c511c6245", func := "rota/rotalaw14.TimerPlays", spec := "timerPlays", unfollowed := true, recurses := true, plainKeys := false, apart := false }
def TimerPlaysSaid : Prop := timerPlaysRow.holds Try.pinned (OpenSpec.ofChange timerPlaysSpec)

/-- ITS FALSE NEIGHBOUR: 'it returns false'. Refute it at one input. -/
def timerPlaysWrong : ChangeSpec := { name := "timerPlays", fn := fun _ => fun
  | [d] => { results := [.lit (.bool false)], args := [d] }
  | _ => none }
def TimerPlaysWrongFalsely : Prop := timerPlaysRow.holds Try.pinned (OpenSpec.ofChange timerPlaysWrong)

/-- 'rotalaw14.TimerLoads': WHATEVER THE INPUT: true; the input reads as it did. -/
def timerLoadsSpec : ChangeSpec := { name := "timerLoads", fn := fun _ => fun
  | [d1, d2, d3] => { results := [.lit (.bool true)], args := [d1, d2, d3] }
  | _ => none }
def timerLoadsRow : OpenClaim := { program := "ytgkapopkjgljjaa", sum := "a2c6bf55d1470a322582ec74231f35cf59d9e86ec947d39666ff205c511c6245", func := "rota/rotalaw14.TimerLoads", spec := "timerLoads", unfollowed := true, recurses := true, plainKeys := false, apart := false }
def TimerLoadsSaid : Prop := timerLoadsRow.holds Try.pinned (OpenSpec.ofChange timerLoadsSpec)

/-- ITS FALSE NEIGHBOUR: 'it returns false'. Refute it at one input. -/
def timerLoadsWrong : ChangeSpec := { name := "timerLoads", fn := fun _ => fun
  | [d1, d2, d3] => { results := [.lit (.bool false)], args := [d1, d2, d3] }
  | _ => none }
def TimerLoadsWrongFalsely : Prop := timerLoadsRow.holds Try.pinned (OpenSpec.ofChange timerLoadsWrong)

/-- 'rotalaw14.TimerNever': WHATEVER THE INPUT: true; the input reads as it did. -/
def timerNeverSpec : ChangeSpec := { name := "timerNever", fn := fun _ => fun
  | [d1, d2] => { results := [.lit (.bool true)], args := [d1, d2] }
  | _ => none }
def timerNeverRow : OpenClaim := { program := "ytgkapopkjgljjaa", sum := "a2c6bf55d1470a322582ec74231f35cf59d9e86ec947d39666ff205c511c6245", func := "rota/rotalaw14.TimerNever", spec := "timerNever", unfollowed := true, recurses := true, plainKeys := false, apart := false }
def TimerNeverSaid : Prop := timerNeverRow.holds Try.pinned (OpenSpec.ofChange timerNeverSpec)

/-- ITS FALSE NEIGHBOUR: 'it returns false'. Refute it at one input. -/
def timerNeverWrong : ChangeSpec := { name := "timerNever", fn := fun _ => fun
  | [d1, d2] => { results := [.lit (.bool false)], args := [d1, d2] }
  | _ => none }
def TimerNeverWrongFalsely : Prop := timerNeverRow.holds Try.pinned (OpenSpec.ofChange timerNeverWrong)

/-- 'rotalaw14.TimerOnce': WHATEVER THE INPUT: true; the input reads as it did. -/
def timerOnceSpec : ChangeSpec := { name := "timerOnce", fn := fun _ => fun
  | [d1, d2] => { results := [.lit (.bool true)], args := [d1, d2] }
  | _ => none }
def timerOnceRow : OpenClaim := { program := "ytgkapopkjgljjaa", sum := "a2c6bf55d1470a322582ec74231f35cf59d9e86ec947d39666ff205c511c6245", func := "rota/rotalaw14.TimerOnce", spec := "timerOnce", plainKeys := false, apart := false }
def TimerOnceSaid : Prop := timerOnceRow.holds Try.pinned (OpenSpec.ofChange timerOnceSpec)

/-- ITS FALSE NEIGHBOUR: 'it returns false'. Refute it at one input. -/
def timerOnceWrong : ChangeSpec := { name := "timerOnce", fn := fun _ => fun
  | [d1, d2] => { results := [.lit (.bool false)], args := [d1, d2] }
  | _ => none }
def TimerOnceWrongFalsely : Prop := timerOnceRow.holds Try.pinned (OpenSpec.ofChange timerOnceWrong)

/-- 'rotalaw14.TimerParts': WHATEVER THE INPUT: true; the input reads as it did. -/
def timerPartsSpec : ChangeSpec := { name := "timerParts", fn := fun _ => fun
  | [d1, d2, d3] => { results := [.lit (.bool true)], args := [d1, d2, d3] }
  | _ => none }
def timerPartsRow : OpenClaim := { program := "ytgkapopkjgljjaa", sum := "a2c6bf55d1470a322582ec74231f35cf59d9e86ec947d39666ff205c511c6245", func := "rota/rotalaw14.TimerParts", spec := "timerParts", plainKeys := false, apart := false }
def TimerPartsSaid : Prop := timerPartsRow.holds Try.pinned (OpenSpec.ofChange timerPartsSpec)

/-- ITS FALSE NEIGHBOUR: 'it returns false'. Refute it at one input. -/
def timerPartsWrong : ChangeSpec := { name := "timerParts", fn := fun _ => fun
  | [d1, d2, d3] => { results := [.lit (.bool false)], args := [d1, d2, d3] }
  | _ => none }
def TimerPartsWrongFalsely : Prop := timerPartsRow.holds Try.pinned (OpenSpec.ofChange timerPartsWrong)

/-- 'rotalaw14.TimerTicks': WHATEVER THE INPUT: true; the input reads as it did. -/
def timerTicksSpec : ChangeSpec := { name := "timerTicks", fn := fun _ => fun
  | [d] => { results := [.lit (.bool true)], args := [d] }
  | _ => none }
def timerTicksRow : OpenClaim := { program := "ytgkapopkjgljjaa", sum := "a2c6bf55d1470a322582ec74231f35cf59d9e86ec947d39666ff205c511c6245", func := "rota/rotalaw14.TimerTicks", spec := "timerTicks", plainKeys := false, apart := false }
def TimerTicksSaid : Prop := timerTicksRow.holds Try.pinned (OpenSpec.ofChange timerTicksSpec)

/-- ITS FALSE NEIGHBOUR: 'it returns false'. Refute it at one input. -/
def timerTicksWrong : ChangeSpec := { name := "timerTicks", fn := fun _ => fun
  | [d] => { results := [.lit (.bool false)], args := [d] }
  | _ => none }
def TimerTicksWrongFalsely : Prop := timerTicksRow.holds Try.pinned (OpenSpec.ofChange timerTicksWrong)

/- THE SECOND FORM. 'bulk': how many values and letters a reading holds, each counted each time it is reached (what is shared counts as often as it is met; a slice's spare places count too). A statement '..UptoSaid' is the law's where the arguments, and the package variables that the reading takes, are together of bulk at most 1048576: NARROWER than '..Said'. Prove '..Said' where nothing that the law and all that it calls make is longer than what came in: it says more and counts as full. Else prove '..UptoSaid'. A law counts once. -/
mutual
def uptoBulk {H : Type} : DataW H → Nat
  | .lit (.string bytes) => bytes.length + 1
  | .lit _ => 1
  | .nil => 1
  | .ptr d => uptoBulk d + 1
  | .slice elems spare => uptoBulkAll elems + uptoBulkAll spare + 1
  | .agg parts => uptoBulkAll parts + 1
  | .iface _ d => uptoBulk d + 1
  | .map entries => uptoBulkEntries entries + 1
  | .held _ => 1
def uptoBulkAll {H : Type} : List (DataW H) → Nat
  | [] => 0
  | d :: r => uptoBulk d + uptoBulkAll r
def uptoBulkEntries {H : Type} : List (Lit × DataW H) → Nat
  | [] => 0
  | x :: r => uptoBulkEntry x + uptoBulkEntries r
def uptoBulkEntry {H : Type} : Lit × DataW H → Nat
  | (.string bytes, d) => bytes.length + uptoBulk d + 1
  | (_, d) => uptoBulk d + 1
 end
def uptoSmall : (H : Type) → List (DataW H) → Bool := fun _ ds => decide (uptoBulkAll ds ≤ 1048576)
def OpenSpec.upto (s : _root_.Go.ChangeSpec) : _root_.Go.OpenSpec := { _root_.Go.OpenSpec.ofChange s with cond := some uptoSmall }

/-- 'rotalaw14.TimerPlays', WHERE WHAT IT READS IS OF BULK AT MOST 1048576: true; the input reads as it did. -/
def timerPlaysUptoRow : OpenClaim := { program := "ytgkapopkjgljjaa", sum := "a2c6bf55d1470a322582ec74231f35cf59d9e86ec947d39666ff205c511c6245", func := "rota/rotalaw14.TimerPlays", spec := "timerPlays", unfollowed := true, recurses := true, plainKeys := false, apart := false, narrowed := true }
def TimerPlaysUptoSaid : Prop := timerPlaysUptoRow.holds Try.pinned (OpenSpec.upto timerPlaysSpec)

/-- 'rotalaw14.TimerLoads', WHERE WHAT IT READS IS OF BULK AT MOST 1048576: true; the input reads as it did. -/
def timerLoadsUptoRow : OpenClaim := { program := "ytgkapopkjgljjaa", sum := "a2c6bf55d1470a322582ec74231f35cf59d9e86ec947d39666ff205c511c6245", func := "rota/rotalaw14.TimerLoads", spec := "timerLoads", unfollowed := true, recurses := true, plainKeys := false, apart := false, narrowed := true }
def TimerLoadsUptoSaid : Prop := timerLoadsUptoRow.holds Try.pinned (OpenSpec.upto timerLoadsSpec)

/-- 'rotalaw14.TimerNever', WHERE WHAT IT READS IS OF BULK AT MOST 1048576: true; the input reads as it did. -/
def timerNeverUptoRow : OpenClaim := { program := "ytgkapopkjgljjaa", sum := "a2c6bf55d1470a322582ec74231f35cf59d9e86ec947d39666ff205c511c6245", func := "rota/rotalaw14.TimerNever", spec := "timerNever", unfollowed := true, recurses := true, plainKeys := false, apart := false, narrowed := true }
def TimerNeverUptoSaid : Prop := timerNeverUptoRow.holds Try.pinned (OpenSpec.upto timerNeverSpec)

/-- 'rotalaw14.TimerOnce', WHERE WHAT IT READS IS OF BULK AT MOST 1048576: true; the input reads as it did. -/
def timerOnceUptoRow : OpenClaim := { program := "ytgkapopkjgljjaa", sum := "a2c6bf55d1470a322582ec74231f35cf59d9e86ec947d39666ff205c511c6245", func := "rota/rotalaw14.TimerOnce", spec := "timerOnce", plainKeys := false, apart := false, narrowed := true }
def TimerOnceUptoSaid : Prop := timerOnceUptoRow.holds Try.pinned (OpenSpec.upto timerOnceSpec)

/-- 'rotalaw14.TimerParts', WHERE WHAT IT READS IS OF BULK AT MOST 1048576: true; the input reads as it did. -/
def timerPartsUptoRow : OpenClaim := { program := "ytgkapopkjgljjaa", sum := "a2c6bf55d1470a322582ec74231f35cf59d9e86ec947d39666ff205c511c6245", func := "rota/rotalaw14.TimerParts", spec := "timerParts", plainKeys := false, apart := false, narrowed := true }
def TimerPartsUptoSaid : Prop := timerPartsUptoRow.holds Try.pinned (OpenSpec.upto timerPartsSpec)

/-- 'rotalaw14.TimerTicks', WHERE WHAT IT READS IS OF BULK AT MOST 1048576: true; the input reads as it did. -/
def timerTicksUptoRow : OpenClaim := { program := "ytgkapopkjgljjaa", sum := "a2c6bf55d1470a322582ec74231f35cf59d9e86ec947d39666ff205c511c6245", func := "rota/rotalaw14.TimerTicks", spec := "timerTicks", plainKeys := false, apart := false, narrowed := true }
def TimerTicksUptoSaid : Prop := timerTicksUptoRow.holds Try.pinned (OpenSpec.upto timerTicksSpec)

end Rows
end Go.Proofs.Ytgkapopkjgljjaa
