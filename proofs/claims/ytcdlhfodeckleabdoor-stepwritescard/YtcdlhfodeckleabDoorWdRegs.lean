/-
  What the program's registers answers, for each number that its table holds. Condition: registers are 0 to 15.
-/
import Derived.Test.YtcdlhfodeckleabDoorWdLists
namespace Go.Proofs.YtcdlhfodeckleabDoor.Wd
open Go.RowKit

/-- the bits of the registers that a text of fields names -/
def useV (t : ByteArray) (a b c : Int) : Int :=
  if t = { data := #[] } then 0 else
  if t = { data := #[42] } then 65535 else
  if t = { data := #[97] } then (bits .or .u16 0 (IntKind.u16.wrap (2 ^ a.toNat))) else
  if t = { data := #[98] } then (bits .or .u16 0 (IntKind.u16.wrap (2 ^ b.toNat))) else
  if t = { data := #[99] } then (bits .or .u16 0 (IntKind.u16.wrap (2 ^ c.toNat))) else
  if t = { data := #[97, 98] } then (bits .or .u16 (bits .or .u16 0 (IntKind.u16.wrap (2 ^ a.toNat))) (IntKind.u16.wrap (2 ^ b.toNat))) else
  if t = { data := #[98, 99] } then (bits .or .u16 (bits .or .u16 0 (IntKind.u16.wrap (2 ^ b.toNat))) (IntKind.u16.wrap (2 ^ c.toNat))) else
  if t = { data := #[97, 98, 99] } then (bits .or .u16 (bits .or .u16 (bits .or .u16 0 (IntKind.u16.wrap (2 ^ a.toNat))) (IntKind.u16.wrap (2 ^ b.toNat))) (IntKind.u16.wrap (2 ^ c.toNat))) else
  0
theorem useV_n (a b c : Int) : useV { data := #[] } a b c = 0 := by
  unfold useV
  simp
theorem useV_all (a b c : Int) : useV { data := #[42] } a b c = 65535 := by
  unfold useV
  simp
theorem useV_a (a b c : Int) : useV { data := #[97] } a b c = (bits .or .u16 0 (IntKind.u16.wrap (2 ^ a.toNat))) := by
  unfold useV
  simp
theorem useV_b (a b c : Int) : useV { data := #[98] } a b c = (bits .or .u16 0 (IntKind.u16.wrap (2 ^ b.toNat))) := by
  unfold useV
  simp
theorem useV_c (a b c : Int) : useV { data := #[99] } a b c = (bits .or .u16 0 (IntKind.u16.wrap (2 ^ c.toNat))) := by
  unfold useV
  simp
theorem useV_ab (a b c : Int) : useV { data := #[97, 98] } a b c = (bits .or .u16 (bits .or .u16 0 (IntKind.u16.wrap (2 ^ a.toNat))) (IntKind.u16.wrap (2 ^ b.toNat))) := by
  unfold useV
  simp
theorem useV_bc (a b c : Int) : useV { data := #[98, 99] } a b c = (bits .or .u16 (bits .or .u16 0 (IntKind.u16.wrap (2 ^ b.toNat))) (IntKind.u16.wrap (2 ^ c.toNat))) := by
  unfold useV
  simp
theorem useV_abc (a b c : Int) : useV { data := #[97, 98, 99] } a b c = (bits .or .u16 (bits .or .u16 (bits .or .u16 0 (IntKind.u16.wrap (2 ^ a.toNat))) (IntKind.u16.wrap (2 ^ b.toNat))) (IntKind.u16.wrap (2 ^ c.toNat))) := by
  unfold useV
  simp
end Go.Proofs.YtcdlhfodeckleabDoor.Wd
