/-
  What CellsMake of the statements answers: true, at any number. No conditions.
-/
import Derived.Test.YtpmhmikefkgbdaaClAny
namespace Go.Proofs.Ytpmhmikefkgbdaa.Lt
open Go.RowKit Wd
attribute [local go_sem ↓] Go.wp_at_zero Go.wp_at_succ

set_option maxHeartbeats 2000000 in
theorem make_bad (n : Int) (w : World) (h : ¬ (0 ≤ n ∧ n ≤ 256)) : Calls Try.prog 3 #[.int .i64 n] w fun e w' => e = .returned (.bool true) ∧ Gr w w' := by
  have HN := hid (fun (W : World) => new_bad n W h)
  have HR := hid (fun (W : World) => rnew_bad n W h)
  have HA := hid (fun (W : World) => awake_any W)
  clear h
  go_enter Try.func3, Try.ntmps3
  go_wp2_with (first
    | (go_at_call 9; refine (HN.out _).mono ?_; rintro e w1 ⟨rfl, g1⟩; have G1 := hid g1; clear g1)
    | (go_at_call 10; refine (HR.out _).mono ?_; rintro e w2 ⟨rfl, g2⟩; have G2 := hid (Gr.trans G1.out g2); clear g2)
    | (go_at_call 14; refine (HA.out _).mono ?_; rintro e w3 ⟨rfl, g3⟩; have G3 := hid (Gr.trans G2.out g3); clear g3))
  go_ret
  exact ⟨rfl, G3.out⟩
set_option maxHeartbeats 2000000 in
theorem make_good (n : Nat) (w : World) (h : n ≤ 256) : Calls Try.prog 3 #[.int .i64 (n : Int)] w fun e w' => e = .returned (.bool true) ∧ Gr w w' := by
  have HN := hid (fun (W : World) => new_good n W h)
  have HR := hid (fun (W : World) => rnew_good n W h)
  have HA := hid (fun (W : World) => awake_any W)
  have HL := hid (fun (W : World) (b : Nat) (v : Value) (p : CAt w.heap.size W b v (List.replicate n 0)) => len_any _ W b v _ p)
  have HV := hid (fun (W : World) (b : Nat) (v : Value) (p : CAt w.heap.size W b v (List.replicate n 0)) => values_any _ W b v _ p (by rw [List.length_replicate]; omega))
  have HS := hid (fun (P Q : Nat → Prop) (va vb : Value) (W : World) (p : Ls eI P W va (List.replicate n 0)) (q : Ls eI Q W vb (List.replicate n 0)) => rsame_eq P Q va vb _ W p q (by rw [List.length_replicate]; omega))
  rw [List.length_replicate] at HL
  generalize hxs : List.replicate n (0 : Int) = xs at *
  have HX := hid hxs
  clear h hxs
  go_enter Try.func3, Try.ntmps3
  go_wp2_with (first
    | (go_at_call 9; refine (HN.out _).mono ?_; rintro e w1 ⟨b, v, rfl, hb, c1, g1⟩; have C1 := hid (show CAt w.heap.size w1 b v xs from HX.out ▸ c1); have G1 := hid g1; clear hb c1 g1)
    | (go_at_call 10; refine (HR.out _).mono ?_; rintro e w2 ⟨ao, cap, rfl, o2, g2⟩; have O2 := hid o2; have C2 := hid (C1.out.gr g2); have G2 := hid (Gr.trans G1.out g2); clear g2 o2)
    | (go_at_call 11; refine (HL.out _ b v C2.out).mono ?_; rintro e w3 ⟨rfl, g3⟩; have O3 := hid (O2.out.gr g3); have C3 := hid (C2.out.gr g3); have G3 := hid (Gr.trans G2.out g3); clear g3)
    | (go_at_call 13; refine (HV.out _ b v C3.out).mono ?_; rintro e w4 ⟨v4, rfl, o4, g4⟩; have O4a := hid (O3.out.gr g4); have O4b := hid o4; have G4 := hid (Gr.trans G3.out g4); clear o4 g4)
    | (go_at_call 12; refine (HS.out _ _ _ _ _ O4b.out.lst O4a.out.lst).mono ?_; rintro e w5 ⟨rfl, g5⟩; have G5 := hid (Gr.trans G4.out g5); clear g5)
    | (go_at_call 14; refine (HA.out _).mono ?_; rintro e w6 ⟨rfl, g6⟩; have G6 := hid (Gr.trans G5.out g6); clear g6))
  go_ret
  exact ⟨rfl, G6.out⟩
theorem make_law (n : Int) (w : World) : Calls Try.prog 3 #[.int .i64 n] w fun e w' => e = .returned (.bool true) ∧ Gr w w' := by
  by_cases h : 0 ≤ n ∧ n ≤ 256
  · obtain ⟨k, rfl⟩ : ∃ k : Nat, n = (k : Int) := ⟨n.toNat, by omega⟩
    exact make_good k w (by omega)
  · exact make_bad n w h
end Go.Proofs.Ytpmhmikefkgbdaa.Lt
