/-
  No cell of these rows narrows 'for every input' (looked for: loops, veiled, ifaces, maps, wideKeys, modest, calm, conditions, laid).
  DERIVED. THE GIVEN ROWS OF THIS SEAT. 4 by the template 'for every input the law returns true; each argument reads behind the call as it read before'; 0 by the template 'total and deterministic' (their statements: YtikipkjanojgaabTotals.lean).
  GIVEN WITH THE SEED: the statements are not yours to turn. If you find one false, say at which input.
  Laid BY PROGRAM, IN A SANDBOX (cutbox-rows.mjs): the forced cells as the released guide's own fill.sh prints them over the translation abd3eeb3ef3d9d83… (all of the seat's roots in one cut). By AI agents, Wed Nov 11 2026. No macro, syntax, notation, axiom, sorry.
-/
import Derived.Test.YtikipkjanojgaabChecked
import GoSem.Claim
import GoSem.ClaimJoined
import GoSem.ClaimMapViews
import Derived.JoinedTies
import Derived.KernelRfl
namespace Go.Proofs.Ytikipkjanojgaab
/- THE CELL 'sum', in the pinned program and in every row, IS THE sha256 OF THE DUMP (.gsa) THAT YtikipkjanojgaabProg.lean LOADS. Nothing in Lean hashes anything: it is a label: what it is worth is what the hold of that sum in a sandbox is worth. -/
noncomputable def Try.pinned : Pinned := { name := "ytikipkjanojgaab", sum := "abd3eeb3ef3d9d8335d34156c48fd4cf6be92936d117ec9d32b3071d9c36aa76", checked := Try.checked }
namespace Rows
def none {H : Type} : Left H := { results := [], args := [] }

/-- 'rotalaw01.TickAdds': WHATEVER THE INPUT: true; the input reads as it did. -/
def tickAddsSpec : ChangeSpec := { name := "tickAdds", fn := fun _ => fun
  | [d1, d2, d3] => { results := [.lit (.bool true)], args := [d1, d2, d3] }
  | _ => none }
def tickAddsRow : OpenClaim := { program := "ytikipkjanojgaab", sum := "abd3eeb3ef3d9d8335d34156c48fd4cf6be92936d117ec9d32b3071d9c36aa76", func := "rota/rotalaw01.TickAdds", spec := "tickAdds", apart := false }
def TickAddsSaid : Prop := tickAddsRow.holds Try.pinned (OpenSpec.ofChange tickAddsSpec)

/-- ITS FALSE NEIGHBOUR: 'it returns false'. Refute it at one input. -/
def tickAddsWrong : ChangeSpec := { name := "tickAdds", fn := fun _ => fun
  | [d1, d2, d3] => { results := [.lit (.bool false)], args := [d1, d2, d3] }
  | _ => none }
def TickAddsWrongFalsely : Prop := tickAddsRow.holds Try.pinned (OpenSpec.ofChange tickAddsWrong)

/-- 'rotalaw01.TickFinds': WHATEVER THE INPUT: true; the input reads as it did. -/
def tickFindsSpec : ChangeSpec := { name := "tickFinds", fn := fun _ => fun
  | [d1, d2] => { results := [.lit (.bool true)], args := [d1, d2] }
  | _ => none }
def tickFindsRow : OpenClaim := { program := "ytikipkjanojgaab", sum := "abd3eeb3ef3d9d8335d34156c48fd4cf6be92936d117ec9d32b3071d9c36aa76", func := "rota/rotalaw01.TickFinds", spec := "tickFinds", apart := false }
def TickFindsSaid : Prop := tickFindsRow.holds Try.pinned (OpenSpec.ofChange tickFindsSpec)

/-- ITS FALSE NEIGHBOUR: 'it returns false'. Refute it at one input. -/
def tickFindsWrong : ChangeSpec := { name := "tickFinds", fn := fun _ => fun
  | [d1, d2] => { results := [.lit (.bool false)], args := [d1, d2] }
  | _ => none }
def TickFindsWrongFalsely : Prop := tickFindsRow.holds Try.pinned (OpenSpec.ofChange tickFindsWrong)

/-- 'rotalaw01.TickLefts': WHATEVER THE INPUT: true; the input reads as it did. -/
def tickLeftsSpec : ChangeSpec := { name := "tickLefts", fn := fun _ => fun
  | [d] => { results := [.lit (.bool true)], args := [d] }
  | _ => none }
def tickLeftsRow : OpenClaim := { program := "ytikipkjanojgaab", sum := "abd3eeb3ef3d9d8335d34156c48fd4cf6be92936d117ec9d32b3071d9c36aa76", func := "rota/rotalaw01.TickLefts", spec := "tickLefts", apart := false }
def TickLeftsSaid : Prop := tickLeftsRow.holds Try.pinned (OpenSpec.ofChange tickLeftsSpec)

/-- ITS FALSE NEIGHBOUR: 'it returns false'. Refute it at one input. -/
def tickLeftsWrong : ChangeSpec := { name := "tickLefts", fn := fun _ => fun
  | [d] => { results := [.lit (.bool false)], args := [d] }
  | _ => none }
def TickLeftsWrongFalsely : Prop := tickLeftsRow.holds Try.pinned (OpenSpec.ofChange tickLeftsWrong)

/-- 'rotalaw01.TickTurns': WHATEVER THE INPUT: true; the input reads as it did. -/
def tickTurnsSpec : ChangeSpec := { name := "tickTurns", fn := fun _ => fun
  | [d] => { results := [.lit (.bool true)], args := [d] }
  | _ => none }
def tickTurnsRow : OpenClaim := { program := "ytikipkjanojgaab", sum := "abd3eeb3ef3d9d8335d34156c48fd4cf6be92936d117ec9d32b3071d9c36aa76", func := "rota/rotalaw01.TickTurns", spec := "tickTurns", apart := false }
def TickTurnsSaid : Prop := tickTurnsRow.holds Try.pinned (OpenSpec.ofChange tickTurnsSpec)

/-- ITS FALSE NEIGHBOUR: 'it returns false'. Refute it at one input. -/
def tickTurnsWrong : ChangeSpec := { name := "tickTurns", fn := fun _ => fun
  | [d] => { results := [.lit (.bool false)], args := [d] }
  | _ => none }
def TickTurnsWrongFalsely : Prop := tickTurnsRow.holds Try.pinned (OpenSpec.ofChange tickTurnsWrong)

/- THE SECOND FORM. 'bulk': how many values and letters a reading holds, each counted each time it is reached (what is shared counts as often as it is met; a slice's spare places count too). A statement '..UptoSaid' is the law's where the arguments, and the package variables that the reading takes, are together of bulk at most 1048576: NARROWER than '..Said'. Prove '..Said' where nothing that the law and all that it calls make is longer than what came in: it says more and counts as full. Else prove '..UptoSaid'. A law counts once. -/
mutual
def uptoBulk {H : Type} : DataW H → Nat
  | .lit (.string bytes) => bytes.length + 1
  | .lit _ => 1
  | .nil => 1
  | .ptr d => uptoBulk d + 1
  | .slice elems spare => uptoBulkAll elems + uptoBulkAll spare + 1
  | .agg parts => uptoBulkAll parts + 1
  | .iface _ d => uptoBulk d + 1
  | .map entries => uptoBulkEntries entries + 1
  | .held _ => 1
def uptoBulkAll {H : Type} : List (DataW H) → Nat
  | [] => 0
  | d :: r => uptoBulk d + uptoBulkAll r
def uptoBulkEntries {H : Type} : List (Lit × DataW H) → Nat
  | [] => 0
  | x :: r => uptoBulkEntry x + uptoBulkEntries r
def uptoBulkEntry {H : Type} : Lit × DataW H → Nat
  | (.string bytes, d) => bytes.length + uptoBulk d + 1
  | (_, d) => uptoBulk d + 1
 end
def uptoSmall : (H : Type) → List (DataW H) → Bool := fun _ ds => decide (uptoBulkAll ds ≤ 1048576)
def OpenSpec.upto (s : _root_.Go.ChangeSpec) : _root_.Go.OpenSpec := { _root_.Go.OpenSpec.ofChange s with cond := some uptoSmall }

/-- 'rotalaw01.TickAdds', WHERE WHAT IT READS IS OF BULK AT MOST 1048576: true; the input reads as it did. -/
def tickAddsUptoRow : OpenClaim := { program := "ytikipkjanojgaab", sum := "abd3eeb3ef3d9d8335d34156c48fd4cf6be92936d117ec9d32b3071d9c36aa76", func := "rota/rotalaw01.TickAdds", spec := "tickAdds", apart := false, narrowed := true }
def TickAddsUptoSaid : Prop := tickAddsUptoRow.holds Try.pinned (OpenSpec.upto tickAddsSpec)

/-- 'rotalaw01.TickFinds', WHERE WHAT IT READS IS OF BULK AT MOST 1048576: true; the input reads as it did. -/
def tickFindsUptoRow : OpenClaim := { program := "ytikipkjanojgaab", sum := "abd3eeb3ef3d9d8335d34156c48fd4cf6be92936d117ec9d32b3071d9c36aa76", func := "rota/rotalaw01.TickFinds", spec := "tickFinds", apart := false, narrowed := true }
def TickFindsUptoSaid : Prop := tickFindsUptoRow.holds Try.pinned (OpenSpec.upto tickFindsSpec)

/-- 'rotalaw01.TickLefts', WHERE WHAT IT READS IS OF BULK AT MOST 1048576: true; the input reads as it did. -/
def tickLeftsUptoRow : OpenClaim := { program := "ytikipkjanojgaab", sum := "abd3eeb3ef3d9d8335d34156c48fd4cf6be92936d117ec9d32b3071d9c36aa76", func := "rota/rotalaw01.TickLefts", spec := "tickLefts", apart := false, narrowed := true }
def TickLeftsUptoSaid : Prop := tickLeftsUptoRow.holds Try.pinned (OpenSpec.upto tickLeftsSpec)

/-- 'rotalaw01.TickTurns', WHERE WHAT IT READS IS OF BULK AT MOST 1048576: true; the input reads as it did. -/
def tickTurnsUptoRow : OpenClaim := { program := "ytikipkjanojgaab", sum := "abd3eeb3ef3d9d8335d34156c48fd4cf6be92936d117ec9d32b3071d9c36aa76", func := "rota/rotalaw01.TickTurns", spec := "tickTurns", apart := false, narrowed := true }
def TickTurnsUptoSaid : Prop := tickTurnsUptoRow.holds Try.pinned (OpenSpec.upto tickTurnsSpec)

end Rows
end Go.Proofs.Ytikipkjanojgaab
