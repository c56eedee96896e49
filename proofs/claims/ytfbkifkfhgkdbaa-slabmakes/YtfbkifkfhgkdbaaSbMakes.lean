/-
  What SlabMakes of the statements answers: true, at any numbers. No conditions.
-/
import Derived.Test.YtfbkifkfhgkdbaaSbNew2
namespace Go.Proofs.Ytfbkifkfhgkdbaa.Sb
open Go.RowKit
open Classical
attribute [local go_sem ↓] Go.wp_at_zero Go.wp_at_succ

set_option maxHeartbeats 2000000 in
theorem makes_bad (l p : Int) (w : World) (h : ¬ Sized l p) : Calls Try.prog 3 #[.int .i64 l, .int .i64 p] w fun e w' => e = .returned (.bool true) ∧ Ch NoB w w' := by
  have H := hid h
  clear h
  go_enter Try.func3, Try.ntmps3
  go_wp2_with fail
  refine (new_bad l p _ H.out).mono ?_
  rintro e w1 ⟨rfl, g1⟩
  have HG1 := hid g1
  clear g1
  go_wp2_with fail
  refine (rnew_bad l p _ H.out).mono ?_
  rintro e w2 ⟨rfl, g2⟩
  have HG2 := hid (HG1.out.trans' g2)
  clear g2
  go_wp2
  go_ret
  exact ⟨rfl, HG2.out.alloc _⟩

set_option maxHeartbeats 2000000 in
theorem makes_good (l : Int) (n : Nat) (w : World) (h : Sized l n) : Calls Try.prog 3 #[.int .i64 l, .int .i64 (n : Int)] w fun e w' => e = .returned (.bool true) ∧ Ch NoB w w' := by
  have hn : n ≤ 64 := by have := h.2.2; omega
  have H := hid h
  clear h
  go_enter Try.func3, Try.ntmps3
  go_wp2_with fail
  refine (new_good l n _ H.out).mono ?_
  rintro e w1 ⟨b, rfl, hb, s1, g1⟩
  have HS1 := hid s1
  have HG1 := hid g1
  clear g1 s1 hb
  go_wp2_with fail
  refine (rnew_good l n _ H.out).mono ?_
  rintro e w2 ⟨vc, rfl, o2, g2⟩
  obtain ⟨ca, cc, rfl⟩ := o2.form
  rw [List.length_replicate] at o2 ⊢
  have HS2 := hid (HS1.out.ch g2)
  have HO2 := hid o2
  have HG2 := hid (HG1.out.trans' g2)
  clear g2 o2
  go_wp2_with fail
  refine (is_eq _ b _ l _ _ _ _ _ (newSl n) _ (HS2.out.ch ((Ch.refl NoB _).alloc _)) (St.nils HO2.out |>.rd.ch ((Ch.refl NoB _).alloc _) (fun _ _ _ => noB _)) (newSl_fits (by omega))).mono ?_
  rintro e w3 ⟨rfl, g3⟩
  have HG3 := hid ((HG2.out.alloc _).trans' g3)
  clear g3
  go_wp2
  go_ret
  exact ⟨rfl, HG3.out⟩

theorem makes_law (l p : Int) (w : World) : Calls Try.prog 3 #[.int .i64 l, .int .i64 p] w fun e w' => e = .returned (.bool true) ∧ Ch NoB w w' := by
  by_cases h : Sized l p
  · obtain ⟨n, rfl⟩ : ∃ n : Nat, p = (n : Int) := ⟨p.toNat, by have := h.2.1; omega⟩
    exact makes_good l n w h
  · exact makes_bad l p w h
end Go.Proofs.Ytfbkifkfhgkdbaa.Sb
