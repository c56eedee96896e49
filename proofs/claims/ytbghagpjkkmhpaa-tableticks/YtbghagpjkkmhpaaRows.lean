/-
  No cell of these rows narrows 'for every input' (looked for: loops, veiled, ifaces, maps, wideKeys, modest, calm, conditions, laid).
  DERIVED. THE GIVEN ROWS OF THIS SEAT. 6 by the template 'for every input the law returns true; each argument reads behind the call as it read before'; 0 by the template 'total and deterministic' (their statements: YtbghagpjkkmhpaaTotals.lean).
  GIVEN WITH THE SEED: the statements are not yours to turn. If you find one false, say at which input.
  Laid BY PROGRAM, IN A SANDBOX (cutbox-rows.mjs): the forced cells as the released guide's own fill.sh prints them over the translation baaa44fa8c789545… (all of the seat's roots in one cut). By AI agents, Wed Nov 11 2026. No macro, syntax, notation, axiom, sorry.
-/
import Derived.Test.YtbghagpjkkmhpaaChecked
import GoSem.Claim
import GoSem.ClaimJoined
import GoSem.ClaimMapViews
import Derived.JoinedTies
import Derived.KernelRfl
namespace Go.Proofs.Ytbghagpjkkmhpaa
/- THE CELL 'sum', in the pinned program and in every row, IS THE sha256 OF THE DUMP (.gsa) THAT YtbghagpjkkmhpaaProg.lean LOADS. Nothing in Lean hashes anything: it is a label: what it is worth is what the hold of that sum in a sandbox is worth. -/
noncomputable def Try.pinned : Pinned := { name := "ytbghagpjkkmhpaa", sum := "baaa44fa8c78954561b0071295453e147c975d99bb237903c36f43b9d85b6bdc", checked := Try.checked }
namespace Rows
def none {H : Type} : Left H := { results := [], args := [] }

/-- 'rotalaw16.TableChecks': WHATEVER THE INPUT: true; the input reads as it did. -/
def tableChecksSpec : ChangeSpec := { name := "tableChecks", fn := fun _ => fun
  | [d1, d2] => { results := [.lit (.bool true)], args := [d1, d2] }
  | _ => none }
def tableChecksRow : OpenClaim := { program := "ytbghagpjkkmhpaa", sum := "baaa44fa8c78954561b0071295453e147c975d99bb237903c36f43b9d85b6bdc", func := "rota/rotalaw16.TableChecks", spec := "tableChecks", apart := false }
def TableChecksSaid : Prop := tableChecksRow.holds Try.pinned (OpenSpec.ofChange tableChecksSpec)

/-- ITS FALSE NEIGHBOUR: 'it returns false'. Refute it at one input. -/
def tableChecksWrong : ChangeSpec := { name := "tableChecks", fn := fun _ => fun
  | [d1, d2] => { results := [.lit (.bool false)], args := [d1, d2] }
  | _ => none }
def TableChecksWrongFalsely : Prop := tableChecksRow.holds Try.pinned (OpenSpec.ofChange tableChecksWrong)

/-- 'rotalaw16.TableOwners': WHATEVER THE INPUT: true; the input reads as it did. -/
def tableOwnersSpec : ChangeSpec := { name := "tableOwners", fn := fun _ => fun
  | [d1, d2] => { results := [.lit (.bool true)], args := [d1, d2] }
  | _ => none }
def tableOwnersRow : OpenClaim := { program := "ytbghagpjkkmhpaa", sum := "baaa44fa8c78954561b0071295453e147c975d99bb237903c36f43b9d85b6bdc", func := "rota/rotalaw16.TableOwners", spec := "tableOwners", apart := false }
def TableOwnersSaid : Prop := tableOwnersRow.holds Try.pinned (OpenSpec.ofChange tableOwnersSpec)

/-- ITS FALSE NEIGHBOUR: 'it returns false'. Refute it at one input. -/
def tableOwnersWrong : ChangeSpec := { name := "tableOwners", fn := fun _ => fun
  | [d1, d2] => { results := [.lit (.bool false)], args := [d1, d2] }
  | _ => none }
def TableOwnersWrongFalsely : Prop := tableOwnersRow.holds Try.pinned (OpenSpec.ofChange tableOwnersWrong)

/-- 'rotalaw16.TableDomains': WHATEVER THE INPUT: true; the input reads as it did. -/
def tableDomainsSpec : ChangeSpec := { name := "tableDomains", fn := fun _ => fun
  | [d1, d2] => { results := [.lit (.bool true)], args := [d1, d2] }
  | _ => none }
def tableDomainsRow : OpenClaim := { program := "ytbghagpjkkmhpaa", sum := "baaa44fa8c78954561b0071295453e147c975d99bb237903c36f43b9d85b6bdc", func := "rota/rotalaw16.TableDomains", spec := "tableDomains", unfollowed := true, recurses := true, apart := false }
def TableDomainsSaid : Prop := tableDomainsRow.holds Try.pinned (OpenSpec.ofChange tableDomainsSpec)

/-- ITS FALSE NEIGHBOUR: 'it returns false'. Refute it at one input. -/
def tableDomainsWrong : ChangeSpec := { name := "tableDomains", fn := fun _ => fun
  | [d1, d2] => { results := [.lit (.bool false)], args := [d1, d2] }
  | _ => none }
def TableDomainsWrongFalsely : Prop := tableDomainsRow.holds Try.pinned (OpenSpec.ofChange tableDomainsWrong)

/-- 'rotalaw16.TableTicks': WHATEVER THE INPUT: true; the input reads as it did. -/
def tableTicksSpec : ChangeSpec := { name := "tableTicks", fn := fun _ => fun
  | [d1, d2, d3] => { results := [.lit (.bool true)], args := [d1, d2, d3] }
  | _ => none }
def tableTicksRow : OpenClaim := { program := "ytbghagpjkkmhpaa", sum := "baaa44fa8c78954561b0071295453e147c975d99bb237903c36f43b9d85b6bdc", func := "rota/rotalaw16.TableTicks", spec := "tableTicks", unfollowed := true, recurses := true, apart := false }
def TableTicksSaid : Prop := tableTicksRow.holds Try.pinned (OpenSpec.ofChange tableTicksSpec)

/-- ITS FALSE NEIGHBOUR: 'it returns false'. Refute it at one input. -/
def tableTicksWrong : ChangeSpec := { name := "tableTicks", fn := fun _ => fun
  | [d1, d2, d3] => { results := [.lit (.bool false)], args := [d1, d2, d3] }
  | _ => none }
def TableTicksWrongFalsely : Prop := tableTicksRow.holds Try.pinned (OpenSpec.ofChange tableTicksWrong)

/-- 'rotalaw16.TableWaits': WHATEVER THE INPUT: true; the input reads as it did. -/
def tableWaitsSpec : ChangeSpec := { name := "tableWaits", fn := fun _ => fun
  | [d1, d2, d3] => { results := [.lit (.bool true)], args := [d1, d2, d3] }
  | _ => none }
def tableWaitsRow : OpenClaim := { program := "ytbghagpjkkmhpaa", sum := "baaa44fa8c78954561b0071295453e147c975d99bb237903c36f43b9d85b6bdc", func := "rota/rotalaw16.TableWaits", spec := "tableWaits", unfollowed := true, recurses := true, apart := false }
def TableWaitsSaid : Prop := tableWaitsRow.holds Try.pinned (OpenSpec.ofChange tableWaitsSpec)

/-- ITS FALSE NEIGHBOUR: 'it returns false'. Refute it at one input. -/
def tableWaitsWrong : ChangeSpec := { name := "tableWaits", fn := fun _ => fun
  | [d1, d2, d3] => { results := [.lit (.bool false)], args := [d1, d2, d3] }
  | _ => none }
def TableWaitsWrongFalsely : Prop := tableWaitsRow.holds Try.pinned (OpenSpec.ofChange tableWaitsWrong)

/-- 'rotalaw16.TableOne': WHATEVER THE INPUT: true; the input reads as it did. -/
def tableOneSpec : ChangeSpec := { name := "tableOne", fn := fun _ => fun
  | [d1, d2] => { results := [.lit (.bool true)], args := [d1, d2] }
  | _ => none }
def tableOneRow : OpenClaim := { program := "ytbghagpjkkmhpaa", sum := "baaa44fa8c78954561b0071295453e147c975d99bb237903c36f43b9d85b6bdc", func := "rota/rotalaw16.TableOne", spec := "tableOne", unfollowed := true, recurses := true, apart := false }
def TableOneSaid : Prop := tableOneRow.holds Try.pinned (OpenSpec.ofChange tableOneSpec)

/-- ITS FALSE NEIGHBOUR: 'it returns false'. Refute it at one input. -/
def tableOneWrong : ChangeSpec := { name := "tableOne", fn := fun _ => fun
  | [d1, d2] => { results := [.lit (.bool false)], args := [d1, d2] }
  | _ => none }
def TableOneWrongFalsely : Prop := tableOneRow.holds Try.pinned (OpenSpec.ofChange tableOneWrong)

/- THE SECOND FORM. 'bulk': how many values and letters a reading holds, each counted each time it is reached (what is shared counts as often as it is met; a slice's spare places count too). A statement '..UptoSaid' is the law's where the arguments, and the package variables that the reading takes, are together of bulk at most 1048576: NARROWER than '..Said'. Prove '..Said' where nothing that the law and all that it calls make is longer than what came in: it says more and counts as full. Else prove '..UptoSaid'. A law counts once. -/
mutual
def uptoBulk {H : Type} : DataW H → Nat
  | .lit (.string bytes) => bytes.length + 1
  | .lit _ => 1
  | .nil => 1
  | .ptr d => uptoBulk d + 1
  | .slice elems spare => uptoBulkAll elems + uptoBulkAll spare + 1
  | .agg parts => uptoBulkAll parts + 1
  | .iface _ d => uptoBulk d + 1
  | .map entries => uptoBulkEntries entries + 1
  | .held _ => 1
def uptoBulkAll {H : Type} : List (DataW H) → Nat
  | [] => 0
  | d :: r => uptoBulk d + uptoBulkAll r
def uptoBulkEntries {H : Type} : List (Lit × DataW H) → Nat
  | [] => 0
  | x :: r => uptoBulkEntry x + uptoBulkEntries r
def uptoBulkEntry {H : Type} : Lit × DataW H → Nat
  | (.string bytes, d) => bytes.length + uptoBulk d + 1
  | (_, d) => uptoBulk d + 1
 end
def uptoSmall : (H : Type) → List (DataW H) → Bool := fun _ ds => decide (uptoBulkAll ds ≤ 1048576)
def OpenSpec.upto (s : _root_.Go.ChangeSpec) : _root_.Go.OpenSpec := { _root_.Go.OpenSpec.ofChange s with cond := some uptoSmall }

/-- 'rotalaw16.TableChecks', WHERE WHAT IT READS IS OF BULK AT MOST 1048576: true; the input reads as it did. -/
def tableChecksUptoRow : OpenClaim := { program := "ytbghagpjkkmhpaa", sum := "baaa44fa8c78954561b0071295453e147c975d99bb237903c36f43b9d85b6bdc", func := "rota/rotalaw16.TableChecks", spec := "tableChecks", apart := false, narrowed := true }
def TableChecksUptoSaid : Prop := tableChecksUptoRow.holds Try.pinned (OpenSpec.upto tableChecksSpec)

/-- 'rotalaw16.TableOwners', WHERE WHAT IT READS IS OF BULK AT MOST 1048576: true; the input reads as it did. -/
def tableOwnersUptoRow : OpenClaim := { program := "ytbghagpjkkmhpaa", sum := "baaa44fa8c78954561b0071295453e147c975d99bb237903c36f43b9d85b6bdc", func := "rota/rotalaw16.TableOwners", spec := "tableOwners", apart := false, narrowed := true }
def TableOwnersUptoSaid : Prop := tableOwnersUptoRow.holds Try.pinned (OpenSpec.upto tableOwnersSpec)

/-- 'rotalaw16.TableDomains', WHERE WHAT IT READS IS OF BULK AT MOST 1048576: true; the input reads as it did. -/
def tableDomainsUptoRow : OpenClaim := { program := "ytbghagpjkkmhpaa", sum := "baaa44fa8c78954561b0071295453e147c975d99bb237903c36f43b9d85b6bdc", func := "rota/rotalaw16.TableDomains", spec := "tableDomains", unfollowed := true, recurses := true, apart := false, narrowed := true }
def TableDomainsUptoSaid : Prop := tableDomainsUptoRow.holds Try.pinned (OpenSpec.upto tableDomainsSpec)

/-- 'rotalaw16.TableTicks', WHERE WHAT IT READS IS OF BULK AT MOST 1048576: true; the input reads as it did. -/
def tableTicksUptoRow : OpenClaim := { program := "ytbghagpjkkmhpaa", sum := "baaa44fa8c78954561b0071295453e147c975d99bb237903c36f43b9d85b6bdc", func := "rota/rotalaw16.TableTicks", spec := "tableTicks", unfollowed := true, recurses := true, apart := false, narrowed := true }
def TableTicksUptoSaid : Prop := tableTicksUptoRow.holds Try.pinned (OpenSpec.upto tableTicksSpec)

/-- 'rotalaw16.TableWaits', WHERE WHAT IT READS IS OF BULK AT MOST 1048576: true; the input reads as it did. -/
def tableWaitsUptoRow : OpenClaim := { program := "ytbghagpjkkmhpaa", sum := "baaa44fa8c78954561b0071295453e147c975d99bb237903c36f43b9d85b6bdc", func := "rota/rotalaw16.TableWaits", spec := "tableWaits", unfollowed := true, recurses := true, apart := false, narrowed := true }
def TableWaitsUptoSaid : Prop := tableWaitsUptoRow.holds Try.pinned (OpenSpec.upto tableWaitsSpec)

/-- 'rotalaw16.TableOne', WHERE WHAT IT READS IS OF BULK AT MOST 1048576: true; the input reads as it did. -/
def tableOneUptoRow : OpenClaim := { program := "ytbghagpjkkmhpaa", sum := "baaa44fa8c78954561b0071295453e147c975d99bb237903c36f43b9d85b6bdc", func := "rota/rotalaw16.TableOne", spec := "tableOne", unfollowed := true, recurses := true, apart := false, narrowed := true }
def TableOneUptoSaid : Prop := tableOneUptoRow.holds Try.pinned (OpenSpec.upto tableOneSpec)

end Rows
end Go.Proofs.Ytbghagpjkkmhpaa
