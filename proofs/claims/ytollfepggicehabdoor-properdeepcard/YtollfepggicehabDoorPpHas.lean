/-
  What the law's has answers of a number that is in a list. No conditions.
-/
import Derived.Test.YtollfepggicehabDoorPpSort
namespace Go.Proofs.YtollfepggicehabDoor.Lt
open Go.RowKit Wd

set_option maxRecDepth 20000 in
theorem has_any (P : Nat → Prop) (w : World) (ao : Option Addr) (n ca : Nat) (xs : List Int) (h : Ls eI P w (.slice ao n ca) xs) (hn : n ≤ 4096) (x : Int) (hx : x ∈ xs) :
    Calls Tryd.prog 11 #[.slice ao n ca, .int .i64 x] w fun e w' => e = .returned (.bool true) ∧ Gr w w' := by
  have HL := hid h.len.1
  have HA := hid h
  have HX := hid hx
  clear h hx
  go_enter Tryd.func11, Tryd.ntmps11
  go_wp2_with fail
  go_loopg [5] n (fun q i wq => ∃ j : Nat, j + q = n ∧ i = .int .i64 ((j : Nat) : Int) ∧ (∀ l, l < j → xs[l]? ≠ some x) ∧ Gr w wq)
  case atStart => exact ⟨0, by omega, rfl, fun l q => by omega, Gr.refl w⟩
  case round =>
    obtain ⟨j, hjm, rfl, hN, hG⟩ := hrel
    have HG := hid hG
    have HN := hid hN
    clear hG hN
    by_cases hj : j < n
    · obtain ⟨y, hy⟩ : ∃ y, xs[j]? = some y := ⟨_, List.getElem?_eq_getElem (by rw [← HL.out]; exact hj)⟩
      obtain ⟨g, o, cap', hv, _, hgl, _, hcs⟩ := HA.out.get eI_len hy
      injection hv with hv1 hv2 hv3
      subst hv1
      have c0 := (HG.out.cell hgl).trans (hcs 0 _ rfl)
      rw [Nat.mul_one, Nat.add_zero] at c0
      have lg : g < wr.heap.size := Nat.lt_of_lt_of_le hgl HG.out.size
      have j0 : (0 : Int) ≤ (j : Int) := by omega
      have j1 : (j : Int) < (n : Int) := by omega
      by_cases e : y = x
      · subst e
        clear hcs hv2 hv3 hy hgl
        go_wp2
        go_ret
        exact ⟨rfl, HG.out⟩
      · have e' : (y == x) = false := by simpa using e
        have HN' := hid (show ∀ l, l < j + 1 → xs[l]? ≠ some x from fun l q => by
          by_cases z : l = j
          · subst z; rw [hy]; intro k; injection k with k; exact e k
          · exact HN.out l (by omega))
        clear hcs hv2 hv3 hy hgl
        go_wp2
        go_roundg (gk - 1)
        case measure => omega
        case rel => exact ⟨j + 1, by omega, by simp, HN'.out, HG.out⟩
    · exfalso
      obtain ⟨l, hl⟩ := List.mem_iff_getElem?.1 HX.out
      exact HN.out l (by have := (List.getElem?_eq_some_iff.1 hl).1; have := HL.out; omega) hl
end Go.Proofs.YtollfepggicehabDoor.Lt
