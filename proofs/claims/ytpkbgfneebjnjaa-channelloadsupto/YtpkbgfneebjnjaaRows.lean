/-
  No cell of these rows narrows 'for every input' (looked for: loops, veiled, ifaces, maps, wideKeys, modest, calm, conditions, laid).
  DERIVED. THE GIVEN ROWS OF THIS SEAT. 6 by the template 'for every input the law returns true; each argument reads behind the call as it read before'; 0 by the template 'total and deterministic' (their statements: YtpkbgfneebjnjaaTotals.lean).
  GIVEN WITH THE SEED: the statements are not yours to turn. If you find one false, say at which input.
  Laid BY PROGRAM, IN A SANDBOX (cutbox-rows.mjs): the forced cells as the released guide's own fill.sh prints them over the translation 3cb67973e747dc74… (all of the seat's roots in one cut). By AI agents, Wed Nov 11 2026. No macro, syntax, notation, axiom, sorry.
-/
import Derived.Test.YtpkbgfneebjnjaaChecked
import GoSem.Claim
import GoSem.ClaimJoined
import GoSem.ClaimMapViews
import Derived.JoinedTies
import Derived.KernelRfl
namespace Go.Proofs.Ytpkbgfneebjnjaa
/- THE CELL 'sum', in the pinned program and in every row, IS THE sha256 OF THE DUMP (.gsa) THAT YtpkbgfneebjnjaaProg.lean LOADS. Nothing in Lean hashes anything: it is a label: what it is worth is what the hold of that sum in a sandbox is worth. -/
noncomputable def Try.pinned : Pinned := { name := "ytpkbgfneebjnjaa", sum := "3cb67973e747dc7481a8332c4fbd77e3284db1b1c5701437f3b3c8ce6d0a8b7a", checked := Try.checked }
namespace Rows
def none {H : Type} : Left H := { results := [], args := [] }

/-- 'rotalaw11.ChannelPlays': WHATEVER THE INPUT: true; the input reads as it did. -/
def channelPlaysSpec : ChangeSpec := { name := "channelPlays", fn := fun _ => fun
  | [d] => { results := [.lit (.bool true)], args := [d] }
  | _ => none }
def channelPlaysRow : OpenClaim := { program := "ytpkbgfneebjnjaa", sum := "3cb67973e747dc7481a8332c4fbd77e3284db1b1c5701437f3b3c8ce6d0a8b7a", func := "rota/rotalaw11.ChannelPlays", spec := "channelPlays", unfollowed := true, recurses := true, plainKeys := false, apart := false }
def ChannelPlaysSaid : Prop := channelPlaysRow.holds Try.pinned (OpenSpec.ofChange channelPlaysSpec)

/-- ITS FALSE NEIGHBOUR: 'it returns false'. Refute it at one input. -/
def channelPlaysWrong : ChangeSpec := { name := "channelPlays", fn := fun _ => fun
  | [d] => { results := [.lit (.bool false)], args := [d] }
  | _ => none }
def ChannelPlaysWrongFalsely : Prop := channelPlaysRow.holds Try.pinned (OpenSpec.ofChange channelPlaysWrong)

/-- 'rotalaw11.ChannelLoads': WHATEVER THE INPUT: true; the input reads as it did. -/
def channelLoadsSpec : ChangeSpec := { name := "channelLoads", fn := fun _ => fun
  | [d1, d2] => { results := [.lit (.bool true)], args := [d1, d2] }
  | _ => none }
def channelLoadsRow : OpenClaim := { program := "ytpkbgfneebjnjaa", sum := "3cb67973e747dc7481a8332c4fbd77e3284db1b1c5701437f3b3c8ce6d0a8b7a", func := "rota/rotalaw11.ChannelLoads", spec := "channelLoads", unfollowed := true, recurses := true, plainKeys := false, apart := false }
def ChannelLoadsSaid : Prop := channelLoadsRow.holds Try.pinned (OpenSpec.ofChange channelLoadsSpec)

/-- ITS FALSE NEIGHBOUR: 'it returns false'. Refute it at one input. -/
def channelLoadsWrong : ChangeSpec := { name := "channelLoads", fn := fun _ => fun
  | [d1, d2] => { results := [.lit (.bool false)], args := [d1, d2] }
  | _ => none }
def ChannelLoadsWrongFalsely : Prop := channelLoadsRow.holds Try.pinned (OpenSpec.ofChange channelLoadsWrong)

/-- 'rotalaw11.ChannelOrders': WHATEVER THE INPUT: true; the input reads as it did. -/
def channelOrdersSpec : ChangeSpec := { name := "channelOrders", fn := fun _ => fun
  | [d1, d2, d3] => { results := [.lit (.bool true)], args := [d1, d2, d3] }
  | _ => none }
def channelOrdersRow : OpenClaim := { program := "ytpkbgfneebjnjaa", sum := "3cb67973e747dc7481a8332c4fbd77e3284db1b1c5701437f3b3c8ce6d0a8b7a", func := "rota/rotalaw11.ChannelOrders", spec := "channelOrders", unfollowed := true, recurses := true, plainKeys := false, apart := false }
def ChannelOrdersSaid : Prop := channelOrdersRow.holds Try.pinned (OpenSpec.ofChange channelOrdersSpec)

/-- ITS FALSE NEIGHBOUR: 'it returns false'. Refute it at one input. -/
def channelOrdersWrong : ChangeSpec := { name := "channelOrders", fn := fun _ => fun
  | [d1, d2, d3] => { results := [.lit (.bool false)], args := [d1, d2, d3] }
  | _ => none }
def ChannelOrdersWrongFalsely : Prop := channelOrdersRow.holds Try.pinned (OpenSpec.ofChange channelOrdersWrong)

/-- 'rotalaw11.ChannelSettled': WHATEVER THE INPUT: true; the input reads as it did. -/
def channelSettledSpec : ChangeSpec := { name := "channelSettled", fn := fun _ => fun
  | [d] => { results := [.lit (.bool true)], args := [d] }
  | _ => none }
def channelSettledRow : OpenClaim := { program := "ytpkbgfneebjnjaa", sum := "3cb67973e747dc7481a8332c4fbd77e3284db1b1c5701437f3b3c8ce6d0a8b7a", func := "rota/rotalaw11.ChannelSettled", spec := "channelSettled", unfollowed := true, recurses := true, plainKeys := false, apart := false }
def ChannelSettledSaid : Prop := channelSettledRow.holds Try.pinned (OpenSpec.ofChange channelSettledSpec)

/-- ITS FALSE NEIGHBOUR: 'it returns false'. Refute it at one input. -/
def channelSettledWrong : ChangeSpec := { name := "channelSettled", fn := fun _ => fun
  | [d] => { results := [.lit (.bool false)], args := [d] }
  | _ => none }
def ChannelSettledWrongFalsely : Prop := channelSettledRow.holds Try.pinned (OpenSpec.ofChange channelSettledWrong)

/-- 'rotalaw11.ChannelWakes': WHATEVER THE INPUT: true; the input reads as it did. -/
def channelWakesSpec : ChangeSpec := { name := "channelWakes", fn := fun _ => fun
  | [d1, d2] => { results := [.lit (.bool true)], args := [d1, d2] }
  | _ => none }
def channelWakesRow : OpenClaim := { program := "ytpkbgfneebjnjaa", sum := "3cb67973e747dc7481a8332c4fbd77e3284db1b1c5701437f3b3c8ce6d0a8b7a", func := "rota/rotalaw11.ChannelWakes", spec := "channelWakes", unfollowed := true, recurses := true, plainKeys := false, apart := false }
def ChannelWakesSaid : Prop := channelWakesRow.holds Try.pinned (OpenSpec.ofChange channelWakesSpec)

/-- ITS FALSE NEIGHBOUR: 'it returns false'. Refute it at one input. -/
def channelWakesWrong : ChangeSpec := { name := "channelWakes", fn := fun _ => fun
  | [d1, d2] => { results := [.lit (.bool false)], args := [d1, d2] }
  | _ => none }
def ChannelWakesWrongFalsely : Prop := channelWakesRow.holds Try.pinned (OpenSpec.ofChange channelWakesWrong)

/-- 'rotalaw11.ChannelApart': WHATEVER THE INPUT: true; the input reads as it did. -/
def channelApartSpec : ChangeSpec := { name := "channelApart", fn := fun _ => fun
  | [d1, d2] => { results := [.lit (.bool true)], args := [d1, d2] }
  | _ => none }
def channelApartRow : OpenClaim := { program := "ytpkbgfneebjnjaa", sum := "3cb67973e747dc7481a8332c4fbd77e3284db1b1c5701437f3b3c8ce6d0a8b7a", func := "rota/rotalaw11.ChannelApart", spec := "channelApart", unfollowed := true, recurses := true, plainKeys := false, apart := false }
def ChannelApartSaid : Prop := channelApartRow.holds Try.pinned (OpenSpec.ofChange channelApartSpec)

/-- ITS FALSE NEIGHBOUR: 'it returns false'. Refute it at one input. -/
def channelApartWrong : ChangeSpec := { name := "channelApart", fn := fun _ => fun
  | [d1, d2] => { results := [.lit (.bool false)], args := [d1, d2] }
  | _ => none }
def ChannelApartWrongFalsely : Prop := channelApartRow.holds Try.pinned (OpenSpec.ofChange channelApartWrong)

/- THE SECOND FORM. 'bulk': how many values and letters a reading holds, each counted each time it is reached (what is shared counts as often as it is met; a slice's spare places count too). A statement '..UptoSaid' is the law's where the arguments, and the package variables that the reading takes, are together of bulk at most 1048576: NARROWER than '..Said'. Prove '..Said' where nothing that the law and all that it calls make is longer than what came in: it says more and counts as full. Else prove '..UptoSaid'. A law counts once. -/
mutual
def uptoBulk {H : Type} : DataW H → Nat
  | .lit (.string bytes) => bytes.length + 1
  | .lit _ => 1
  | .nil => 1
  | .ptr d => uptoBulk d + 1
  | .slice elems spare => uptoBulkAll elems + uptoBulkAll spare + 1
  | .agg parts => uptoBulkAll parts + 1
  | .iface _ d => uptoBulk d + 1
  | .map entries => uptoBulkEntries entries + 1
  | .held _ => 1
def uptoBulkAll {H : Type} : List (DataW H) → Nat
  | [] => 0
  | d :: r => uptoBulk d + uptoBulkAll r
def uptoBulkEntries {H : Type} : List (Lit × DataW H) → Nat
  | [] => 0
  | x :: r => uptoBulkEntry x + uptoBulkEntries r
def uptoBulkEntry {H : Type} : Lit × DataW H → Nat
  | (.string bytes, d) => bytes.length + uptoBulk d + 1
  | (_, d) => uptoBulk d + 1
 end
def uptoSmall : (H : Type) → List (DataW H) → Bool := fun _ ds => decide (uptoBulkAll ds ≤ 1048576)
def OpenSpec.upto (s : _root_.Go.ChangeSpec) : _root_.Go.OpenSpec := { _root_.Go.OpenSpec.ofChange s with cond := some uptoSmall }

/-- 'rotalaw11.ChannelPlays', WHERE WHAT IT READS IS OF BULK AT MOST 1048576: true; the input reads as it did. -/
def channelPlaysUptoRow : OpenClaim := { program := "ytpkbgfneebjnjaa", sum := "3cb67973e747dc7481a8332c4fbd77e3284db1b1c5701437f3b3c8ce6d0a8b7a", func := "rota/rotalaw11.ChannelPlays", spec := "channelPlays", unfollowed := true, recurses := true, plainKeys := false, apart := false, narrowed := true }
def ChannelPlaysUptoSaid : Prop := channelPlaysUptoRow.holds Try.pinned (OpenSpec.upto channelPlaysSpec)

/-- 'rotalaw11.ChannelLoads', WHERE WHAT IT READS IS OF BULK AT MOST 1048576: true; the input reads as it did. -/
def channelLoadsUptoRow : OpenClaim := { program := "ytpkbgfneebjnjaa", sum := "3cb67973e747dc7481a8332c4fbd77e3284db1b1c5701437f3b3c8ce6d0a8b7a", func := "rota/rotalaw11.ChannelLoads", spec := "channelLoads", unfollowed := true, recurses := true, plainKeys := false, apart := false, narrowed := true }
def ChannelLoadsUptoSaid : Prop := channelLoadsUptoRow.holds Try.pinned (OpenSpec.upto channelLoadsSpec)

/-- 'rotalaw11.ChannelOrders', WHERE WHAT IT READS IS OF BULK AT MOST 1048576: true; the input reads as it did. -/
def channelOrdersUptoRow : OpenClaim := { program := "ytpkbgfneebjnjaa", sum := "3cb67973e747dc7481a8332c4fbd77e3284db1b1c5701437f3b3c8ce6d0a8b7a", func := "rota/rotalaw11.ChannelOrders", spec := "channelOrders", unfollowed := true, recurses := true, plainKeys := false, apart := false, narrowed := true }
def ChannelOrdersUptoSaid : Prop := channelOrdersUptoRow.holds Try.pinned (OpenSpec.upto channelOrdersSpec)

/-- 'rotalaw11.ChannelSettled', WHERE WHAT IT READS IS OF BULK AT MOST 1048576: true; the input reads as it did. -/
def channelSettledUptoRow : OpenClaim := { program := "ytpkbgfneebjnjaa", sum := "3cb67973e747dc7481a8332c4fbd77e3284db1b1c5701437f3b3c8ce6d0a8b7a", func := "rota/rotalaw11.ChannelSettled", spec := "channelSettled", unfollowed := true, recurses := true, plainKeys := false, apart := false, narrowed := true }
def ChannelSettledUptoSaid : Prop := channelSettledUptoRow.holds Try.pinned (OpenSpec.upto channelSettledSpec)

/-- 'rotalaw11.ChannelWakes', WHERE WHAT IT READS IS OF BULK AT MOST 1048576: true; the input reads as it did. -/
def channelWakesUptoRow : OpenClaim := { program := "ytpkbgfneebjnjaa", sum := "3cb67973e747dc7481a8332c4fbd77e3284db1b1c5701437f3b3c8ce6d0a8b7a", func := "rota/rotalaw11.ChannelWakes", spec := "channelWakes", unfollowed := true, recurses := true, plainKeys := false, apart := false, narrowed := true }
def ChannelWakesUptoSaid : Prop := channelWakesUptoRow.holds Try.pinned (OpenSpec.upto channelWakesSpec)

/-- 'rotalaw11.ChannelApart', WHERE WHAT IT READS IS OF BULK AT MOST 1048576: true; the input reads as it did. -/
def channelApartUptoRow : OpenClaim := { program := "ytpkbgfneebjnjaa", sum := "3cb67973e747dc7481a8332c4fbd77e3284db1b1c5701437f3b3c8ce6d0a8b7a", func := "rota/rotalaw11.ChannelApart", spec := "channelApart", unfollowed := true, recurses := true, plainKeys := false, apart := false, narrowed := true }
def ChannelApartUptoSaid : Prop := channelApartUptoRow.holds Try.pinned (OpenSpec.upto channelApartSpec)

end Rows
end Go.Proofs.Ytpkbgfneebjnjaa
