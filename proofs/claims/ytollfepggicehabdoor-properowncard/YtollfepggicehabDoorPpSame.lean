/-
  What the law's sameInts answers of lists that read the same. No conditions.
-/
import Derived.Test.YtollfepggicehabDoorPpSort
namespace Go.Proofs.YtollfepggicehabDoor.Lt
open Go.RowKit Wd

set_option maxRecDepth 20000 in
theorem same_any (P Q : Nat → Prop) (w : World) (ao bo : Option Addr) (n m ca cb : Nat) (xs : List Int) (h : Ls eI P w (.slice ao n ca) xs) (k : Ls eI Q w (.slice bo m cb) xs) (hn : n ≤ 4096) :
    Calls Tryd.prog 16 #[.slice ao n ca, .slice bo m cb] w fun e w' => e = .returned (.bool true) ∧ Gr w w' := by
  have hm : m = n := by rw [h.len.1, k.len.1]
  subst hm
  have HL := hid h.len.1
  have HA := hid h
  have HB := hid k
  clear h k
  go_enter Tryd.func16, Tryd.ntmps16
  go_wp2_with fail
  go_loopg [5] m (fun q i wq => ∃ j : Nat, j + q = m ∧ i = .int .i64 ((j : Nat) : Int) ∧ Gr w wq)
  case atStart => exact ⟨0, by omega, rfl, Gr.refl w⟩
  case round =>
    obtain ⟨j, hjm, rfl, hG⟩ := hrel
    have HG := hid hG
    clear hG
    by_cases hj : j < m
    · obtain ⟨x, hx⟩ : ∃ x, xs[j]? = some x := ⟨_, List.getElem?_eq_getElem (by rw [← HL.out]; exact hj)⟩
      obtain ⟨g, o, cap', hv, _, hgl, _, hcs⟩ := HA.out.get eI_len hx
      injection hv with hv1 hv2 hv3
      subst hv1
      obtain ⟨g', o', cap'', hv', _, hgl', _, hcs'⟩ := HB.out.get eI_len hx
      injection hv' with hw1 hw2 hw3
      subst hw1
      have c0 := (HG.out.cell hgl).trans (hcs 0 _ rfl)
      rw [Nat.mul_one, Nat.add_zero] at c0
      have d0 := (HG.out.cell hgl').trans (hcs' 0 _ rfl)
      rw [Nat.mul_one, Nat.add_zero] at d0
      have lg : g < wr.heap.size := Nat.lt_of_lt_of_le hgl HG.out.size
      have lg' : g' < wr.heap.size := Nat.lt_of_lt_of_le hgl' HG.out.size
      have j0 : (0 : Int) ≤ (j : Int) := by omega
      have j1 : (j : Int) < (m : Int) := by omega
      clear hcs hv2 hv3 hx hcs' hw2 hw3 hgl hgl'
      go_wp2_with fail
      go_region
      all_goals go_wp2_with fail
      all_goals go_roundg (gk - 1)
      all_goals first | omega | exact ⟨j + 1, by omega, by simp, by first | exact HG.out | exact Ch.drew HG.out | exact Ch.drewN HG.out _⟩
    · have jn : ¬ (j : Int) < (m : Int) := by omega
      go_wp2
      go_ret
      exact ⟨rfl, HG.out⟩
end Go.Proofs.YtollfepggicehabDoor.Lt
