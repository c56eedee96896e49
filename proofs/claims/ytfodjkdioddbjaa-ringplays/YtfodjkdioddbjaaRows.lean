/-
  No cell of these rows narrows 'for every input' (looked for: loops, veiled, ifaces, maps, wideKeys, modest, calm, conditions, laid).
  DERIVED. THE GIVEN ROWS OF THIS SEAT. 6 by the template 'for every input the law returns true; each argument reads behind the call as it read before'; 0 by the template 'total and deterministic' (their statements: YtfodjkdioddbjaaTotals.lean).
  GIVEN WITH THE SEED: the statements are not yours to turn. If you find one false, say at which input.
  Laid BY PROGRAM, IN A SANDBOX (cutbox-rows.mjs): the forced cells as the released guide's own fill.sh prints them over the translation 06c996d7b90a4a4d… (all of the seat's roots in one cut). By AI agents, Wed Nov 11 2026. No macro, syntax, notation, axiom, sorry.
-/
import Derived.Test.YtfodjkdioddbjaaChecked
import GoSem.Claim
import GoSem.ClaimJoined
import GoSem.ClaimMapViews
import Derived.JoinedTies
import Derived.KernelRfl
namespace Go.Proofs.Ytfodjkdioddbjaa
/- THE CELL 'sum', in the pinned program and in every row, IS THE sha256 OF THE DUMP (.gsa) THAT YtfodjkdioddbjaaProg.lean LOADS. Nothing in Lean hashes anything: it is a label: what it is worth is what the hold of that sum in a sandbox is worth. -/
noncomputable def Try.pinned : Pinned := { name := "ytfodjkdioddbjaa", sum := "06c996d7b90a4a4d5ddc930d76ec6c2081a2169c284ae7359a75faee881ff562", checked := Try.checked }
namespace Rows
def none {H : Type} : Left H := { results := [], args := [] }

/-- 'rotalaw02.RingPlays': WHATEVER THE INPUT: true; the input reads as it did. -/
def ringPlaysSpec : ChangeSpec := { name := "ringPlays", fn := fun _ => fun
  | [d] => { results := [.lit (.bool true)], args := [d] }
  | _ => none }
def ringPlaysRow : OpenClaim := { program := "ytfodjkdioddbjaa", sum := "06c996d7b90a4a4d5ddc930d76ec6c2081a2169c284ae7359a75faee881ff562", func := "rota/rotalaw02.RingPlays", spec := "ringPlays", apart := false }
def RingPlaysSaid : Prop := ringPlaysRow.holds Try.pinned (OpenSpec.ofChange ringPlaysSpec)

/-- ITS FALSE NEIGHBOUR: 'it returns false'. Refute it at one input. -/
def ringPlaysWrong : ChangeSpec := { name := "ringPlays", fn := fun _ => fun
  | [d] => { results := [.lit (.bool false)], args := [d] }
  | _ => none }
def RingPlaysWrongFalsely : Prop := ringPlaysRow.holds Try.pinned (OpenSpec.ofChange ringPlaysWrong)

/-- 'rotalaw02.RingLoads': WHATEVER THE INPUT: true; the input reads as it did. -/
def ringLoadsSpec : ChangeSpec := { name := "ringLoads", fn := fun _ => fun
  | [d1, d2] => { results := [.lit (.bool true)], args := [d1, d2] }
  | _ => none }
def ringLoadsRow : OpenClaim := { program := "ytfodjkdioddbjaa", sum := "06c996d7b90a4a4d5ddc930d76ec6c2081a2169c284ae7359a75faee881ff562", func := "rota/rotalaw02.RingLoads", spec := "ringLoads", apart := false }
def RingLoadsSaid : Prop := ringLoadsRow.holds Try.pinned (OpenSpec.ofChange ringLoadsSpec)

/-- ITS FALSE NEIGHBOUR: 'it returns false'. Refute it at one input. -/
def ringLoadsWrong : ChangeSpec := { name := "ringLoads", fn := fun _ => fun
  | [d1, d2] => { results := [.lit (.bool false)], args := [d1, d2] }
  | _ => none }
def RingLoadsWrongFalsely : Prop := ringLoadsRow.holds Try.pinned (OpenSpec.ofChange ringLoadsWrong)

/-- 'rotalaw02.RingKeeps': WHATEVER THE INPUT: true; the input reads as it did. -/
def ringKeepsSpec : ChangeSpec := { name := "ringKeeps", fn := fun _ => fun
  | [d] => { results := [.lit (.bool true)], args := [d] }
  | _ => none }
def ringKeepsRow : OpenClaim := { program := "ytfodjkdioddbjaa", sum := "06c996d7b90a4a4d5ddc930d76ec6c2081a2169c284ae7359a75faee881ff562", func := "rota/rotalaw02.RingKeeps", spec := "ringKeeps", apart := false }
def RingKeepsSaid : Prop := ringKeepsRow.holds Try.pinned (OpenSpec.ofChange ringKeepsSpec)

/-- ITS FALSE NEIGHBOUR: 'it returns false'. Refute it at one input. -/
def ringKeepsWrong : ChangeSpec := { name := "ringKeeps", fn := fun _ => fun
  | [d] => { results := [.lit (.bool false)], args := [d] }
  | _ => none }
def RingKeepsWrongFalsely : Prop := ringKeepsRow.holds Try.pinned (OpenSpec.ofChange ringKeepsWrong)

/-- 'rotalaw02.RingRises': WHATEVER THE INPUT: true; the input reads as it did. -/
def ringRisesSpec : ChangeSpec := { name := "ringRises", fn := fun _ => fun
  | [d] => { results := [.lit (.bool true)], args := [d] }
  | _ => none }
def ringRisesRow : OpenClaim := { program := "ytfodjkdioddbjaa", sum := "06c996d7b90a4a4d5ddc930d76ec6c2081a2169c284ae7359a75faee881ff562", func := "rota/rotalaw02.RingRises", spec := "ringRises", apart := false }
def RingRisesSaid : Prop := ringRisesRow.holds Try.pinned (OpenSpec.ofChange ringRisesSpec)

/-- ITS FALSE NEIGHBOUR: 'it returns false'. Refute it at one input. -/
def ringRisesWrong : ChangeSpec := { name := "ringRises", fn := fun _ => fun
  | [d] => { results := [.lit (.bool false)], args := [d] }
  | _ => none }
def RingRisesWrongFalsely : Prop := ringRisesRow.holds Try.pinned (OpenSpec.ofChange ringRisesWrong)

/-- 'rotalaw02.RingOldest': WHATEVER THE INPUT: true; the input reads as it did. -/
def ringOldestSpec : ChangeSpec := { name := "ringOldest", fn := fun _ => fun
  | [d] => { results := [.lit (.bool true)], args := [d] }
  | _ => none }
def ringOldestRow : OpenClaim := { program := "ytfodjkdioddbjaa", sum := "06c996d7b90a4a4d5ddc930d76ec6c2081a2169c284ae7359a75faee881ff562", func := "rota/rotalaw02.RingOldest", spec := "ringOldest", apart := false }
def RingOldestSaid : Prop := ringOldestRow.holds Try.pinned (OpenSpec.ofChange ringOldestSpec)

/-- ITS FALSE NEIGHBOUR: 'it returns false'. Refute it at one input. -/
def ringOldestWrong : ChangeSpec := { name := "ringOldest", fn := fun _ => fun
  | [d] => { results := [.lit (.bool false)], args := [d] }
  | _ => none }
def RingOldestWrongFalsely : Prop := ringOldestRow.holds Try.pinned (OpenSpec.ofChange ringOldestWrong)

/-- 'rotalaw02.RingHalves': WHATEVER THE INPUT: true; the input reads as it did. -/
def ringHalvesSpec : ChangeSpec := { name := "ringHalves", fn := fun _ => fun
  | [d] => { results := [.lit (.bool true)], args := [d] }
  | _ => none }
def ringHalvesRow : OpenClaim := { program := "ytfodjkdioddbjaa", sum := "06c996d7b90a4a4d5ddc930d76ec6c2081a2169c284ae7359a75faee881ff562", func := "rota/rotalaw02.RingHalves", spec := "ringHalves", apart := false }
def RingHalvesSaid : Prop := ringHalvesRow.holds Try.pinned (OpenSpec.ofChange ringHalvesSpec)

/-- ITS FALSE NEIGHBOUR: 'it returns false'. Refute it at one input. -/
def ringHalvesWrong : ChangeSpec := { name := "ringHalves", fn := fun _ => fun
  | [d] => { results := [.lit (.bool false)], args := [d] }
  | _ => none }
def RingHalvesWrongFalsely : Prop := ringHalvesRow.holds Try.pinned (OpenSpec.ofChange ringHalvesWrong)

/- THE SECOND FORM. 'bulk': how many values and letters a reading holds, each counted each time it is reached (what is shared counts as often as it is met; a slice's spare places count too). A statement '..UptoSaid' is the law's where the arguments, and the package variables that the reading takes, are together of bulk at most 1048576: NARROWER than '..Said'. Prove '..Said' where nothing that the law and all that it calls make is longer than what came in: it says more and counts as full. Else prove '..UptoSaid'. A law counts once. -/
mutual
def uptoBulk {H : Type} : DataW H → Nat
  | .lit (.string bytes) => bytes.length + 1
  | .lit _ => 1
  | .nil => 1
  | .ptr d => uptoBulk d + 1
  | .slice elems spare => uptoBulkAll elems + uptoBulkAll spare + 1
  | .agg parts => uptoBulkAll parts + 1
  | .iface _ d => uptoBulk d + 1
  | .map entries => uptoBulkEntries entries + 1
  | .held _ => 1
def uptoBulkAll {H : Type} : List (DataW H) → Nat
  | [] => 0
  | d :: r => uptoBulk d + uptoBulkAll r
def uptoBulkEntries {H : Type} : List (Lit × DataW H) → Nat
  | [] => 0
  | x :: r => uptoBulkEntry x + uptoBulkEntries r
def uptoBulkEntry {H : Type} : Lit × DataW H → Nat
  | (.string bytes, d) => bytes.length + uptoBulk d + 1
  | (_, d) => uptoBulk d + 1
 end
def uptoSmall : (H : Type) → List (DataW H) → Bool := fun _ ds => decide (uptoBulkAll ds ≤ 1048576)
def OpenSpec.upto (s : _root_.Go.ChangeSpec) : _root_.Go.OpenSpec := { _root_.Go.OpenSpec.ofChange s with cond := some uptoSmall }

/-- 'rotalaw02.RingPlays', WHERE WHAT IT READS IS OF BULK AT MOST 1048576: true; the input reads as it did. -/
def ringPlaysUptoRow : OpenClaim := { program := "ytfodjkdioddbjaa", sum := "06c996d7b90a4a4d5ddc930d76ec6c2081a2169c284ae7359a75faee881ff562", func := "rota/rotalaw02.RingPlays", spec := "ringPlays", apart := false, narrowed := true }
def RingPlaysUptoSaid : Prop := ringPlaysUptoRow.holds Try.pinned (OpenSpec.upto ringPlaysSpec)

/-- 'rotalaw02.RingLoads', WHERE WHAT IT READS IS OF BULK AT MOST 1048576: true; the input reads as it did. -/
def ringLoadsUptoRow : OpenClaim := { program := "ytfodjkdioddbjaa", sum := "06c996d7b90a4a4d5ddc930d76ec6c2081a2169c284ae7359a75faee881ff562", func := "rota/rotalaw02.RingLoads", spec := "ringLoads", apart := false, narrowed := true }
def RingLoadsUptoSaid : Prop := ringLoadsUptoRow.holds Try.pinned (OpenSpec.upto ringLoadsSpec)

/-- 'rotalaw02.RingKeeps', WHERE WHAT IT READS IS OF BULK AT MOST 1048576: true; the input reads as it did. -/
def ringKeepsUptoRow : OpenClaim := { program := "ytfodjkdioddbjaa", sum := "06c996d7b90a4a4d5ddc930d76ec6c2081a2169c284ae7359a75faee881ff562", func := "rota/rotalaw02.RingKeeps", spec := "ringKeeps", apart := false, narrowed := true }
def RingKeepsUptoSaid : Prop := ringKeepsUptoRow.holds Try.pinned (OpenSpec.upto ringKeepsSpec)

/-- 'rotalaw02.RingRises', WHERE WHAT IT READS IS OF BULK AT MOST 1048576: true; the input reads as it did. -/
def ringRisesUptoRow : OpenClaim := { program := "ytfodjkdioddbjaa", sum := "06c996d7b90a4a4d5ddc930d76ec6c2081a2169c284ae7359a75faee881ff562", func := "rota/rotalaw02.RingRises", spec := "ringRises", apart := false, narrowed := true }
def RingRisesUptoSaid : Prop := ringRisesUptoRow.holds Try.pinned (OpenSpec.upto ringRisesSpec)

/-- 'rotalaw02.RingOldest', WHERE WHAT IT READS IS OF BULK AT MOST 1048576: true; the input reads as it did. -/
def ringOldestUptoRow : OpenClaim := { program := "ytfodjkdioddbjaa", sum := "06c996d7b90a4a4d5ddc930d76ec6c2081a2169c284ae7359a75faee881ff562", func := "rota/rotalaw02.RingOldest", spec := "ringOldest", apart := false, narrowed := true }
def RingOldestUptoSaid : Prop := ringOldestUptoRow.holds Try.pinned (OpenSpec.upto ringOldestSpec)

/-- 'rotalaw02.RingHalves', WHERE WHAT IT READS IS OF BULK AT MOST 1048576: true; the input reads as it did. -/
def ringHalvesUptoRow : OpenClaim := { program := "ytfodjkdioddbjaa", sum := "06c996d7b90a4a4d5ddc930d76ec6c2081a2169c284ae7359a75faee881ff562", func := "rota/rotalaw02.RingHalves", spec := "ringHalves", apart := false, narrowed := true }
def RingHalvesUptoSaid : Prop := ringHalvesUptoRow.holds Try.pinned (OpenSpec.upto ringHalvesSpec)

end Rows
end Go.Proofs.Ytfodjkdioddbjaa
