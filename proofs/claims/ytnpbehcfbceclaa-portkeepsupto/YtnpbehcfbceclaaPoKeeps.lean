/-
  The statement PortKeeps, walked: it returns true. Condition: the list is there, and has no more than 1048576 elements.
-/
import Derived.Test.YtnpbehcfbceclaaPoKeepQ
import Derived.Test.YtnpbehcfbceclaaPoKeepS
namespace Go.Proofs.Ytnpbehcfbceclaa.Lt
open Go.RowKit Wd

theorem keeps_walk {P : Nat → Prop} (w : World) (q : Bool) (c : Int) (ao : Option Addr) (n ca : Nat) (xs : List Ac) (hx : Ls eC P w (.slice ao n ca) xs) (hn : n ≤ 1048576) :
    Calls Try.prog 7 #[.agg #[.bool q, .int .i64 c], .slice ao n ca] w fun e w' => e = .returned (.bool true) ∧ Gr w w' := by
  cases q
  · exact keeps1_walk w c ao n ca xs hx hn
  · exact keepq_walk w c ao n ca xs hx hn
end Go.Proofs.Ytnpbehcfbceclaa.Lt
