/-
  How long what Reach and Calls tell is. No conditions.
-/
import Derived.Test.YtollfepggicehabDoorPpNamed
namespace Go.Proofs.YtollfepggicehabDoor.Lt
open Go.RowKit Wd

theorem rcN_len2 {cs : List Int} {fs : List (Int × Int)} {ts : List Tb} {rch : Nat → List Int} (hr : Rcs cs fs rch) (f : Int) : (rcN cs fs ts rch f).length ≤ 4096 := by
  unfold rcN
  split
  · rename_i q
    have := (ask_may q).1.nc
    have := (hr f.toNat).len
    omega
  · simp
theorem clN_len2 {cs : List Int} {fs : List (Int × Int)} {ts : List Tb} {rch : Nat → List Int} {sp : Bool} {cls : Nat → List Int} (hc : Cls cs fs rch sp cls) (f : Int) : (rcN cs fs ts cls f).length ≤ 4096 := by
  unfold rcN
  split
  · rename_i q
    have := (ask_may q).1.nf
    have := (hc f.toNat).len
    omega
  · simp
end Go.Proofs.YtollfepggicehabDoor.Lt
