/-
  No cell of these rows narrows 'for every input' (looked for: loops, veiled, ifaces, maps, wideKeys, modest, calm, conditions, laid).
  DERIVED. THE GIVEN ROWS OF THIS SEAT. 6 by the template 'for every input the law returns true; each argument reads behind the call as it read before'; 0 by the template 'total and deterministic' (their statements: YtalmiphddgmfbaaTotals.lean).
  GIVEN WITH THE SEED: the statements are not yours to turn. If you find one false, say at which input.
  Laid BY PROGRAM, IN A SANDBOX (cutbox-rows.mjs): the forced cells as the released guide's own fill.sh prints them over the translation bc9d5683241c9de6… (all of the seat's roots in one cut). By AI agents, Wed Nov 11 2026. No macro, syntax, notation, axiom, sorry.
-/
import Derived.Test.YtalmiphddgmfbaaChecked
import GoSem.Claim
import GoSem.ClaimJoined
import GoSem.ClaimMapViews
import Derived.JoinedTies
import Derived.KernelRfl
namespace Go.Proofs.Ytalmiphddgmfbaa
/- THE CELL 'sum', in the pinned program and in every row, IS THE sha256 OF THE DUMP (.gsa) THAT YtalmiphddgmfbaaProg.lean LOADS. Nothing in Lean hashes anything: it is a label: what it is worth is what the hold of that sum in a sandbox is worth. -/
noncomputable def Try.pinned : Pinned := { name := "ytalmiphddgmfbaa", sum := "bc9d5683241c9de625d7dddd856fa69e4b867813c90ba35c9ab9559e8588596a", checked := Try.checked }
namespace Rows
def none {H : Type} : Left H := { results := [], args := [] }

/-- 'rotalaw12.ChooseOrders': WHATEVER THE INPUT: true; the input reads as it did. -/
def chooseOrdersSpec : ChangeSpec := { name := "chooseOrders", fn := fun _ => fun
  | [d1, d2] => { results := [.lit (.bool true)], args := [d1, d2] }
  | _ => none }
def chooseOrdersRow : OpenClaim := { program := "ytalmiphddgmfbaa", sum := "bc9d5683241c9de625d7dddd856fa69e4b867813c90ba35c9ab9559e8588596a", func := "rota/rotalaw12.ChooseOrders", spec := "chooseOrders", unfollowed := true, recurses := true, plainKeys := false, apart := false }
def ChooseOrdersSaid : Prop := chooseOrdersRow.holds Try.pinned (OpenSpec.ofChange chooseOrdersSpec)

/-- ITS FALSE NEIGHBOUR: 'it returns false'. Refute it at one input. -/
def chooseOrdersWrong : ChangeSpec := { name := "chooseOrders", fn := fun _ => fun
  | [d1, d2] => { results := [.lit (.bool false)], args := [d1, d2] }
  | _ => none }
def ChooseOrdersWrongFalsely : Prop := chooseOrdersRow.holds Try.pinned (OpenSpec.ofChange chooseOrdersWrong)

/-- 'rotalaw12.ChooseDraws': WHATEVER THE INPUT: true; the input reads as it did. -/
def chooseDrawsSpec : ChangeSpec := { name := "chooseDraws", fn := fun _ => fun
  | [d] => { results := [.lit (.bool true)], args := [d] }
  | _ => none }
def chooseDrawsRow : OpenClaim := { program := "ytalmiphddgmfbaa", sum := "bc9d5683241c9de625d7dddd856fa69e4b867813c90ba35c9ab9559e8588596a", func := "rota/rotalaw12.ChooseDraws", spec := "chooseDraws", unfollowed := true, recurses := true, plainKeys := false, apart := false }
def ChooseDrawsSaid : Prop := chooseDrawsRow.holds Try.pinned (OpenSpec.ofChange chooseDrawsSpec)

/-- ITS FALSE NEIGHBOUR: 'it returns false'. Refute it at one input. -/
def chooseDrawsWrong : ChangeSpec := { name := "chooseDraws", fn := fun _ => fun
  | [d] => { results := [.lit (.bool false)], args := [d] }
  | _ => none }
def ChooseDrawsWrongFalsely : Prop := chooseDrawsRow.holds Try.pinned (OpenSpec.ofChange chooseDrawsWrong)

/-- 'rotalaw12.ChooseBack': WHATEVER THE INPUT: true; the input reads as it did. -/
def chooseBackSpec : ChangeSpec := { name := "chooseBack", fn := fun _ => fun
  | [d1, d2] => { results := [.lit (.bool true)], args := [d1, d2] }
  | _ => none }
def chooseBackRow : OpenClaim := { program := "ytalmiphddgmfbaa", sum := "bc9d5683241c9de625d7dddd856fa69e4b867813c90ba35c9ab9559e8588596a", func := "rota/rotalaw12.ChooseBack", spec := "chooseBack", unfollowed := true, recurses := true, plainKeys := false, apart := false }
def ChooseBackSaid : Prop := chooseBackRow.holds Try.pinned (OpenSpec.ofChange chooseBackSpec)

/-- ITS FALSE NEIGHBOUR: 'it returns false'. Refute it at one input. -/
def chooseBackWrong : ChangeSpec := { name := "chooseBack", fn := fun _ => fun
  | [d1, d2] => { results := [.lit (.bool false)], args := [d1, d2] }
  | _ => none }
def ChooseBackWrongFalsely : Prop := chooseBackRow.holds Try.pinned (OpenSpec.ofChange chooseBackWrong)

/-- 'rotalaw12.ChooseOther': WHATEVER THE INPUT: true; the input reads as it did. -/
def chooseOtherSpec : ChangeSpec := { name := "chooseOther", fn := fun _ => fun
  | [d1, d2] => { results := [.lit (.bool true)], args := [d1, d2] }
  | _ => none }
def chooseOtherRow : OpenClaim := { program := "ytalmiphddgmfbaa", sum := "bc9d5683241c9de625d7dddd856fa69e4b867813c90ba35c9ab9559e8588596a", func := "rota/rotalaw12.ChooseOther", spec := "chooseOther", unfollowed := true, recurses := true, plainKeys := false, apart := false }
def ChooseOtherSaid : Prop := chooseOtherRow.holds Try.pinned (OpenSpec.ofChange chooseOtherSpec)

/-- ITS FALSE NEIGHBOUR: 'it returns false'. Refute it at one input. -/
def chooseOtherWrong : ChangeSpec := { name := "chooseOther", fn := fun _ => fun
  | [d1, d2] => { results := [.lit (.bool false)], args := [d1, d2] }
  | _ => none }
def ChooseOtherWrongFalsely : Prop := chooseOtherRow.holds Try.pinned (OpenSpec.ofChange chooseOtherWrong)

/-- 'rotalaw12.ChooseSelects': WHATEVER THE INPUT: true; the input reads as it did. -/
def chooseSelectsSpec : ChangeSpec := { name := "chooseSelects", fn := fun _ => fun
  | [d1, d2] => { results := [.lit (.bool true)], args := [d1, d2] }
  | _ => none }
def chooseSelectsRow : OpenClaim := { program := "ytalmiphddgmfbaa", sum := "bc9d5683241c9de625d7dddd856fa69e4b867813c90ba35c9ab9559e8588596a", func := "rota/rotalaw12.ChooseSelects", spec := "chooseSelects", unfollowed := true, recurses := true, plainKeys := false, apart := false }
def ChooseSelectsSaid : Prop := chooseSelectsRow.holds Try.pinned (OpenSpec.ofChange chooseSelectsSpec)

/-- ITS FALSE NEIGHBOUR: 'it returns false'. Refute it at one input. -/
def chooseSelectsWrong : ChangeSpec := { name := "chooseSelects", fn := fun _ => fun
  | [d1, d2] => { results := [.lit (.bool false)], args := [d1, d2] }
  | _ => none }
def ChooseSelectsWrongFalsely : Prop := chooseSelectsRow.holds Try.pinned (OpenSpec.ofChange chooseSelectsWrong)

/-- 'rotalaw12.ChooseWakes': WHATEVER THE INPUT: true; the input reads as it did. -/
def chooseWakesSpec : ChangeSpec := { name := "chooseWakes", fn := fun _ => fun
  | [d1, d2, d3] => { results := [.lit (.bool true)], args := [d1, d2, d3] }
  | _ => none }
def chooseWakesRow : OpenClaim := { program := "ytalmiphddgmfbaa", sum := "bc9d5683241c9de625d7dddd856fa69e4b867813c90ba35c9ab9559e8588596a", func := "rota/rotalaw12.ChooseWakes", spec := "chooseWakes", unfollowed := true, recurses := true, plainKeys := false, apart := false }
def ChooseWakesSaid : Prop := chooseWakesRow.holds Try.pinned (OpenSpec.ofChange chooseWakesSpec)

/-- ITS FALSE NEIGHBOUR: 'it returns false'. Refute it at one input. -/
def chooseWakesWrong : ChangeSpec := { name := "chooseWakes", fn := fun _ => fun
  | [d1, d2, d3] => { results := [.lit (.bool false)], args := [d1, d2, d3] }
  | _ => none }
def ChooseWakesWrongFalsely : Prop := chooseWakesRow.holds Try.pinned (OpenSpec.ofChange chooseWakesWrong)

/- THE SECOND FORM. 'bulk': how many values and letters a reading holds, each counted each time it is reached (what is shared counts as often as it is met; a slice's spare places count too). A statement '..UptoSaid' is the law's where the arguments, and the package variables that the reading takes, are together of bulk at most 1048576: NARROWER than '..Said'. Prove '..Said' where nothing that the law and all that it calls make is longer than what came in: it says more and counts as full. Else prove '..UptoSaid'. A law counts once. -/
mutual
def uptoBulk {H : Type} : DataW H → Nat
  | .lit (.string bytes) => bytes.length + 1
  | .lit _ => 1
  | .nil => 1
  | .ptr d => uptoBulk d + 1
  | .slice elems spare => uptoBulkAll elems + uptoBulkAll spare + 1
  | .agg parts => uptoBulkAll parts + 1
  | .iface _ d => uptoBulk d + 1
  | .map entries => uptoBulkEntries entries + 1
  | .held _ => 1
def uptoBulkAll {H : Type} : List (DataW H) → Nat
  | [] => 0
  | d :: r => uptoBulk d + uptoBulkAll r
def uptoBulkEntries {H : Type} : List (Lit × DataW H) → Nat
  | [] => 0
  | x :: r => uptoBulkEntry x + uptoBulkEntries r
def uptoBulkEntry {H : Type} : Lit × DataW H → Nat
  | (.string bytes, d) => bytes.length + uptoBulk d + 1
  | (_, d) => uptoBulk d + 1
 end
def uptoSmall : (H : Type) → List (DataW H) → Bool := fun _ ds => decide (uptoBulkAll ds ≤ 1048576)
def OpenSpec.upto (s : _root_.Go.ChangeSpec) : _root_.Go.OpenSpec := { _root_.Go.OpenSpec.ofChange s with cond := some uptoSmall }

/-- 'rotalaw12.ChooseOrders', WHERE WHAT IT READS IS OF BULK AT MOST 1048576: true; the input reads as it did. -/
def chooseOrdersUptoRow : OpenClaim := { program := "ytalmiphddgmfbaa", sum := "bc9d5683241c9de625d7dddd856fa69e4b867813c90ba35c9ab9559e8588596a", func := "rota/rotalaw12.ChooseOrders", spec := "chooseOrders", unfollowed := true, recurses := true, plainKeys := false, apart := false, narrowed := true }
def ChooseOrdersUptoSaid : Prop := chooseOrdersUptoRow.holds Try.pinned (OpenSpec.upto chooseOrdersSpec)

/-- 'rotalaw12.ChooseDraws', WHERE WHAT IT READS IS OF BULK AT MOST 1048576: true; the input reads as it did. -/
def chooseDrawsUptoRow : OpenClaim := { program := "ytalmiphddgmfbaa", sum := "bc9d5683241c9de625d7dddd856fa69e4b867813c90ba35c9ab9559e8588596a", func := "rota/rotalaw12.ChooseDraws", spec := "chooseDraws", unfollowed := true, recurses := true, plainKeys := false, apart := false, narrowed := true }
def ChooseDrawsUptoSaid : Prop := chooseDrawsUptoRow.holds Try.pinned (OpenSpec.upto chooseDrawsSpec)

/-- 'rotalaw12.ChooseBack', WHERE WHAT IT READS IS OF BULK AT MOST 1048576: true; the input reads as it did. -/
def chooseBackUptoRow : OpenClaim := { program := "ytalmiphddgmfbaa", sum := "bc9d5683241c9de625d7dddd856fa69e4b867813c90ba35c9ab9559e8588596a", func := "rota/rotalaw12.ChooseBack", spec := "chooseBack", unfollowed := true, recurses := true, plainKeys := false, apart := false, narrowed := true }
def ChooseBackUptoSaid : Prop := chooseBackUptoRow.holds Try.pinned (OpenSpec.upto chooseBackSpec)

/-- 'rotalaw12.ChooseOther', WHERE WHAT IT READS IS OF BULK AT MOST 1048576: true; the input reads as it did. -/
def chooseOtherUptoRow : OpenClaim := { program := "ytalmiphddgmfbaa", sum := "bc9d5683241c9de625d7dddd856fa69e4b867813c90ba35c9ab9559e8588596a", func := "rota/rotalaw12.ChooseOther", spec := "chooseOther", unfollowed := true, recurses := true, plainKeys := false, apart := false, narrowed := true }
def ChooseOtherUptoSaid : Prop := chooseOtherUptoRow.holds Try.pinned (OpenSpec.upto chooseOtherSpec)

/-- 'rotalaw12.ChooseSelects', WHERE WHAT IT READS IS OF BULK AT MOST 1048576: true; the input reads as it did. -/
def chooseSelectsUptoRow : OpenClaim := { program := "ytalmiphddgmfbaa", sum := "bc9d5683241c9de625d7dddd856fa69e4b867813c90ba35c9ab9559e8588596a", func := "rota/rotalaw12.ChooseSelects", spec := "chooseSelects", unfollowed := true, recurses := true, plainKeys := false, apart := false, narrowed := true }
def ChooseSelectsUptoSaid : Prop := chooseSelectsUptoRow.holds Try.pinned (OpenSpec.upto chooseSelectsSpec)

/-- 'rotalaw12.ChooseWakes', WHERE WHAT IT READS IS OF BULK AT MOST 1048576: true; the input reads as it did. -/
def chooseWakesUptoRow : OpenClaim := { program := "ytalmiphddgmfbaa", sum := "bc9d5683241c9de625d7dddd856fa69e4b867813c90ba35c9ab9559e8588596a", func := "rota/rotalaw12.ChooseWakes", spec := "chooseWakes", unfollowed := true, recurses := true, plainKeys := false, apart := false, narrowed := true }
def ChooseWakesUptoSaid : Prop := chooseWakesUptoRow.holds Try.pinned (OpenSpec.upto chooseWakesSpec)

end Rows
end Go.Proofs.Ytalmiphddgmfbaa
