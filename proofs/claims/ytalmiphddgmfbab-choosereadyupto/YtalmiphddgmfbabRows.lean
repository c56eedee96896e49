/-
  No cell of these rows narrows 'for every input' (looked for: loops, veiled, ifaces, maps, wideKeys, modest, calm, conditions, laid).
  DERIVED. THE GIVEN ROWS OF THIS SEAT. 4 by the template 'for every input the law returns true; each argument reads behind the call as it read before'; 0 by the template 'total and deterministic' (their statements: YtalmiphddgmfbabTotals.lean).
  GIVEN WITH THE SEED: the statements are not yours to turn. If you find one false, say at which input.
  Laid BY PROGRAM, IN A SANDBOX (cutbox-rows.mjs): the forced cells as the released guide's own fill.sh prints them over the translation 47d2d4b819bcd9f5… (all of the seat's roots in one cut). By AI agents, Wed Nov 11 2026. No macro, syntax, notation, axiom, sorry.
-/
import Derived.Test.YtalmiphddgmfbabChecked
import GoSem.Claim
import GoSem.ClaimJoined
import GoSem.ClaimMapViews
import Derived.JoinedTies
import Derived.KernelRfl
namespace Go.Proofs.Ytalmiphddgmfbab
/- THE CELL 'sum', in the pinned program and in every row, IS THE sha256 OF THE DUMP (.gsa) THAT YtalmiphddgmfbabProg.lean LOADS. Nothing in Lean hashes anything: it is a label: what it is worth is what the hold of that sum in a sandbox is worth. -/
noncomputable def Try.pinned : Pinned := { name := "ytalmiphddgmfbab", sum := "47d2d4b819bcd9f5f6ec6c2b93137ed913ed43043019faae91ce793abdcf7e0a", checked := Try.checked }
namespace Rows
def none {H : Type} : Left H := { results := [], args := [] }

/-- 'rotalaw12.ChooseReady': WHATEVER THE INPUT: true; the input reads as it did. -/
def chooseReadySpec : ChangeSpec := { name := "chooseReady", fn := fun _ => fun
  | [d1, d2] => { results := [.lit (.bool true)], args := [d1, d2] }
  | _ => none }
def chooseReadyRow : OpenClaim := { program := "ytalmiphddgmfbab", sum := "47d2d4b819bcd9f5f6ec6c2b93137ed913ed43043019faae91ce793abdcf7e0a", func := "rota/rotalaw12.ChooseReady", spec := "chooseReady", unfollowed := true, recurses := true, plainKeys := false, apart := false }
def ChooseReadySaid : Prop := chooseReadyRow.holds Try.pinned (OpenSpec.ofChange chooseReadySpec)

/-- ITS FALSE NEIGHBOUR: 'it returns false'. Refute it at one input. -/
def chooseReadyWrong : ChangeSpec := { name := "chooseReady", fn := fun _ => fun
  | [d1, d2] => { results := [.lit (.bool false)], args := [d1, d2] }
  | _ => none }
def ChooseReadyWrongFalsely : Prop := chooseReadyRow.holds Try.pinned (OpenSpec.ofChange chooseReadyWrong)

/-- 'rotalaw12.ChooseFair': WHATEVER THE INPUT: true; the input reads as it did. -/
def chooseFairSpec : ChangeSpec := { name := "chooseFair", fn := fun _ => fun
  | [d1, d2, d3] => { results := [.lit (.bool true)], args := [d1, d2, d3] }
  | _ => none }
def chooseFairRow : OpenClaim := { program := "ytalmiphddgmfbab", sum := "47d2d4b819bcd9f5f6ec6c2b93137ed913ed43043019faae91ce793abdcf7e0a", func := "rota/rotalaw12.ChooseFair", spec := "chooseFair", unfollowed := true, recurses := true, plainKeys := false, apart := false }
def ChooseFairSaid : Prop := chooseFairRow.holds Try.pinned (OpenSpec.ofChange chooseFairSpec)

/-- ITS FALSE NEIGHBOUR: 'it returns false'. Refute it at one input. -/
def chooseFairWrong : ChangeSpec := { name := "chooseFair", fn := fun _ => fun
  | [d1, d2, d3] => { results := [.lit (.bool false)], args := [d1, d2, d3] }
  | _ => none }
def ChooseFairWrongFalsely : Prop := chooseFairRow.holds Try.pinned (OpenSpec.ofChange chooseFairWrong)

/-- 'rotalaw12.ChooseNobody': WHATEVER THE INPUT: true; the input reads as it did. -/
def chooseNobodySpec : ChangeSpec := { name := "chooseNobody", fn := fun _ => fun
  | [d] => { results := [.lit (.bool true)], args := [d] }
  | _ => none }
def chooseNobodyRow : OpenClaim := { program := "ytalmiphddgmfbab", sum := "47d2d4b819bcd9f5f6ec6c2b93137ed913ed43043019faae91ce793abdcf7e0a", func := "rota/rotalaw12.ChooseNobody", spec := "chooseNobody", unfollowed := true, recurses := true, plainKeys := false, apart := false }
def ChooseNobodySaid : Prop := chooseNobodyRow.holds Try.pinned (OpenSpec.ofChange chooseNobodySpec)

/-- ITS FALSE NEIGHBOUR: 'it returns false'. Refute it at one input. -/
def chooseNobodyWrong : ChangeSpec := { name := "chooseNobody", fn := fun _ => fun
  | [d] => { results := [.lit (.bool false)], args := [d] }
  | _ => none }
def ChooseNobodyWrongFalsely : Prop := chooseNobodyRow.holds Try.pinned (OpenSpec.ofChange chooseNobodyWrong)

/-- 'rotalaw12.ChooseOwn': WHATEVER THE INPUT: true; the input reads as it did. -/
def chooseOwnSpec : ChangeSpec := { name := "chooseOwn", fn := fun _ => fun
  | [d1, d2] => { results := [.lit (.bool true)], args := [d1, d2] }
  | _ => none }
def chooseOwnRow : OpenClaim := { program := "ytalmiphddgmfbab", sum := "47d2d4b819bcd9f5f6ec6c2b93137ed913ed43043019faae91ce793abdcf7e0a", func := "rota/rotalaw12.ChooseOwn", spec := "chooseOwn", unfollowed := true, recurses := true, plainKeys := false, apart := false }
def ChooseOwnSaid : Prop := chooseOwnRow.holds Try.pinned (OpenSpec.ofChange chooseOwnSpec)

/-- ITS FALSE NEIGHBOUR: 'it returns false'. Refute it at one input. -/
def chooseOwnWrong : ChangeSpec := { name := "chooseOwn", fn := fun _ => fun
  | [d1, d2] => { results := [.lit (.bool false)], args := [d1, d2] }
  | _ => none }
def ChooseOwnWrongFalsely : Prop := chooseOwnRow.holds Try.pinned (OpenSpec.ofChange chooseOwnWrong)

/- THE SECOND FORM. 'bulk': how many values and letters a reading holds, each counted each time it is reached (what is shared counts as often as it is met; a slice's spare places count too). A statement '..UptoSaid' is the law's where the arguments, and the package variables that the reading takes, are together of bulk at most 1048576: NARROWER than '..Said'. Prove '..Said' where nothing that the law and all that it calls make is longer than what came in: it says more and counts as full. Else prove '..UptoSaid'. A law counts once. -/
mutual
def uptoBulk {H : Type} : DataW H → Nat
  | .lit (.string bytes) => bytes.length + 1
  | .lit _ => 1
  | .nil => 1
  | .ptr d => uptoBulk d + 1
  | .slice elems spare => uptoBulkAll elems + uptoBulkAll spare + 1
  | .agg parts => uptoBulkAll parts + 1
  | .iface _ d => uptoBulk d + 1
  | .map entries => uptoBulkEntries entries + 1
  | .held _ => 1
def uptoBulkAll {H : Type} : List (DataW H) → Nat
  | [] => 0
  | d :: r => uptoBulk d + uptoBulkAll r
def uptoBulkEntries {H : Type} : List (Lit × DataW H) → Nat
  | [] => 0
  | x :: r => uptoBulkEntry x + uptoBulkEntries r
def uptoBulkEntry {H : Type} : Lit × DataW H → Nat
  | (.string bytes, d) => bytes.length + uptoBulk d + 1
  | (_, d) => uptoBulk d + 1
 end
def uptoSmall : (H : Type) → List (DataW H) → Bool := fun _ ds => decide (uptoBulkAll ds ≤ 1048576)
def OpenSpec.upto (s : _root_.Go.ChangeSpec) : _root_.Go.OpenSpec := { _root_.Go.OpenSpec.ofChange s with cond := some uptoSmall }

/-- 'rotalaw12.ChooseReady', WHERE WHAT IT READS IS OF BULK AT MOST 1048576: true; the input reads as it did. -/
def chooseReadyUptoRow : OpenClaim := { program := "ytalmiphddgmfbab", sum := "47d2d4b819bcd9f5f6ec6c2b93137ed913ed43043019faae91ce793abdcf7e0a", func := "rota/rotalaw12.ChooseReady", spec := "chooseReady", unfollowed := true, recurses := true, plainKeys := false, apart := false, narrowed := true }
def ChooseReadyUptoSaid : Prop := chooseReadyUptoRow.holds Try.pinned (OpenSpec.upto chooseReadySpec)

/-- 'rotalaw12.ChooseFair', WHERE WHAT IT READS IS OF BULK AT MOST 1048576: true; the input reads as it did. -/
def chooseFairUptoRow : OpenClaim := { program := "ytalmiphddgmfbab", sum := "47d2d4b819bcd9f5f6ec6c2b93137ed913ed43043019faae91ce793abdcf7e0a", func := "rota/rotalaw12.ChooseFair", spec := "chooseFair", unfollowed := true, recurses := true, plainKeys := false, apart := false, narrowed := true }
def ChooseFairUptoSaid : Prop := chooseFairUptoRow.holds Try.pinned (OpenSpec.upto chooseFairSpec)

/-- 'rotalaw12.ChooseNobody', WHERE WHAT IT READS IS OF BULK AT MOST 1048576: true; the input reads as it did. -/
def chooseNobodyUptoRow : OpenClaim := { program := "ytalmiphddgmfbab", sum := "47d2d4b819bcd9f5f6ec6c2b93137ed913ed43043019faae91ce793abdcf7e0a", func := "rota/rotalaw12.ChooseNobody", spec := "chooseNobody", unfollowed := true, recurses := true, plainKeys := false, apart := false, narrowed := true }
def ChooseNobodyUptoSaid : Prop := chooseNobodyUptoRow.holds Try.pinned (OpenSpec.upto chooseNobodySpec)

/-- 'rotalaw12.ChooseOwn', WHERE WHAT IT READS IS OF BULK AT MOST 1048576: true; the input reads as it did. -/
def chooseOwnUptoRow : OpenClaim := { program := "ytalmiphddgmfbab", sum := "47d2d4b819bcd9f5f6ec6c2b93137ed913ed43043019faae91ce793abdcf7e0a", func := "rota/rotalaw12.ChooseOwn", spec := "chooseOwn", unfollowed := true, recurses := true, plainKeys := false, apart := false, narrowed := true }
def ChooseOwnUptoSaid : Prop := chooseOwnUptoRow.holds Try.pinned (OpenSpec.upto chooseOwnSpec)

end Rows
end Go.Proofs.Ytalmiphddgmfbab
