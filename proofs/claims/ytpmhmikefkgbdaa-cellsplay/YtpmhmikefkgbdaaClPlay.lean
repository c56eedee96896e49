/-
  What CellsPlay of the statements answers: true, at any number and any calls. Condition: the list of calls lies where it lies.
-/
import Derived.Test.YtpmhmikefkgbdaaClAny
namespace Go.Proofs.Ytpmhmikefkgbdaa.Lt
open Go.RowKit Wd
attribute [local go_sem ↓] Go.wp_at_zero Go.wp_at_succ

set_option maxHeartbeats 4000000 in
set_option maxRecDepth 20000 in
theorem play_law (n : Int) (P : Nat → Prop) (vo : Value) (os : List O4) (w : World) (h : Ls eO P w vo os) (hl : os.length ≤ 17592186044416) : Calls Try.prog 4 #[.int .i64 n, vo] w fun e w' => e = .returned (.bool true) ∧ Gr w w' := by
  obtain ⟨aoo, capo, rfl⟩ := h.form
  obtain ⟨M, hM⟩ : ∃ M, M = os.length := ⟨_, rfl⟩
  obtain ⟨N, hN⟩ : ∃ N, N = fitN n := ⟨_, rfl⟩
  have hN2 := fitN_le n
  rw [← hN] at hN2
  have HF := hid (show ∀ W : World, Calls Try.prog 15 #[.int .i64 n] W fun e w' => e = .returned (.int .i64 (N : Nat)) ∧ w' = W from fun W => by rw [hN]; exact fit_any n W)
  have HN := hid (fun (W : World) => new_good N W hN2)
  have HR := hid (fun (W : World) => rnew_good N W hN2)
  have HA := hid (fun (W : World) => awake_any W)
  have HLN := hid (fun (W : World) (b : Nat) (v : Value) (vs : List Int) (p : CAt w.heap.size W b v vs) (q : vs.length = N) => show Calls Try.prog 11 #[.pointer (some ⟨b, 0, none⟩)] W fun e w' => e = .returned (.int .i64 (N : Nat)) ∧ Gr W w' from q ▸ len_any _ W b v vs p)
  have HV := hid (fun (W : World) (b : Nat) (v : Value) (vs : List Int) (p : CAt w.heap.size W b v vs) (q : vs.length = N) => values_any _ W b v vs p (by omega))
  have HS := hid (fun (P Q : Nat → Prop) (va vb : Value) (vs : List Int) (W : World) (p : Ls eI P W va vs) (q : Ls eI Q W vb vs) (e : vs.length = N) => rsame_eq P Q va vb _ W p q (by omega))
  have HC := hid (show ∀ (W : World) (b : Nat) (v : Value) (vs : List Int) (o : O4) (ao : Option Addr) (cap : Nat), CAt w.heap.size W b v vs → Ls eI (Bes W v) W (.slice ao N cap) vs → vs.length = N → Calls Try.prog 16 #[.pointer (some ⟨b, 0, none⟩), .slice ao N cap, .agg #[.int .i64 o.k, .int .i64 o.c, .int .i64 o.o, .int .i64 o.v]] W fun e w' => ∃ ao cap, e = .returned (.tuple #[.slice ao N cap, (cTold o vs).val, .bool (cOk o vs), .bool true]) ∧ Ls eI (Bes w' v) w' (.slice ao N cap) (cLeft o vs) ∧ CAt w.heap.size w' b v (cLeft o vs) ∧ Ch (Blk v) W w' from fun W b v vs o ao cap p q e => by
    subst e
    exact calls_bes _ W b v vs o ao cap p q (by omega))
  rw [← hM] at h hl ⊢
  have HH := hid h
  have HM := hid hM
  have HNN := hid hN
  clear h hM hN
  go_enter Try.func4, Try.ntmps4
  go_wp2_with (first
    | (go_at_call 15; refine (HF.out _).mono ?_; rintro e w0 ⟨rfl, hw⟩; have hw := hw.symm; subst hw)
    | (go_at_call 9; refine (HN.out _).mono ?_; rintro e w1 ⟨b, v, rfl, hb, c1, g1⟩; have C1 := hid c1; have G1 := hid g1; clear hb c1 g1)
    | (go_at_call 10; refine (HR.out _).mono ?_; rintro e w2 ⟨ao, cap, rfl, o2, g2⟩; have L2 := hid (Ls.bes C1.out o2.lst); have C2 := hid (C1.out.gr g2); have G2 := hid (Gr.trans G1.out g2); clear g2 o2))
  go_loopg [7, 9, 10] M (fun q m9 ok9 i9 wr => ∃ (j : Nat) (ao : Option Addr) (cap : Nat) (vs : List Int), j + q = M ∧ m9 = .slice ao N cap ∧ ok9 = .bool true ∧ i9 = .int .i64 (j : Int) ∧ vs.length = N ∧ CAt w.heap.size wr b v vs ∧ Ls eI (Bes wr v) wr (.slice ao N cap) vs ∧ Gr w wr)
  case atStart => exact ⟨0, ao, cap, _, by omega, rfl, rfl, rfl, List.length_replicate, C2.out, L2.out, G2.out⟩
  case round =>
    obtain ⟨j, ao5, cap5, vs, hjk, rfl, rfl, rfl, hvs, c5, l5, g5⟩ := hrel
    have HVS := hid hvs
    have C5 := hid c5
    have L5 := hid l5
    have G5 := hid g5
    clear hvs c5 l5 g5
    by_cases hj : j < M
    · obtain ⟨o, ho⟩ : ∃ o, os[j]? = some o := ⟨_, List.getElem?_eq_getElem (by rw [← HM.out]; exact hj)⟩
      obtain ⟨g, oo, cap1, e1, -, -, -, d2⟩ := (HH.out.gr G5.out).get eO_len ho
      injection e1 with e1 h1 h2
      subst e1
      have d0 := d2 0 _ rfl
      have d1 := d2 1 _ rfl
      have d3 := d2 2 _ rfl
      have d4 := d2 3 _ rfl
      simp only [Nat.add_zero] at d0
      have j0 : (0 : Int) ≤ (j : Int) := by omega
      have j1 : (j : Int) < (M : Int) := by omega
      clear d2 h1 h2
      have HO := hid ho
      clear ho
      go_wp2_with (first
        | (go_at_call 16; refine (HC.out _ b v vs o ao5 cap5 C5.out L5.out HVS.out).mono ?_; rintro e w6 ⟨ao6, cap6, rfl, l6, c6, g6⟩; have L6 := hid l6; have C6 := hid c6; have G6 := hid (show Gr w w6 from Ch.trans G5.out g6 (fun q e => .inr (C5.out.vo.blk e).1)); have HV6 := hid ((cLeft_len o vs).trans HVS.out); clear l6 c6 g6; generalize (cTold o vs).val = tv; generalize cOk o vs = tk)
        | (go_at_call 11; refine (HLN.out _ b v _ C6.out HV6.out).mono ?_; rintro e w7 ⟨rfl, g7⟩; have L7 := hid (Bes.gr L6.out g7); have C7 := hid (C6.out.gr g7); have G7 := hid (Gr.trans G6.out g7); clear g7)
        | (go_at_call 13; refine (HV.out _ b v _ C7.out HV6.out).mono ?_; rintro e w8 ⟨v8, rfl, o8, g8⟩; have L8 := hid (Bes.gr L7.out g8); have C8 := hid (C7.out.gr g8); have O8 := hid o8; have G8 := hid (Gr.trans G7.out g8); clear o8 g8)
        | (go_at_call 12; refine (HS.out _ _ _ _ _ _ O8.out.lst L8.out HV6.out).mono ?_; rintro e w9 ⟨rfl, g9⟩; have L9 := hid (Bes.gr L8.out g9); have C9 := hid (C8.out.gr g9); have G9 := hid (Gr.trans G8.out g9); clear g9))
      go_roundg (gk - 1)
      case measure => omega
      case rel => exact ⟨j + 1, _, _, _, by omega, rfl, rfl, by simp, HV6.out, C9.out, L9.out, G9.out⟩
    · have jn : ¬ (j : Int) < (M : Int) := by omega
      go_wp2_with (first
        | (go_at_call 13; refine (HV.out _ b v _ C5.out HVS.out).mono ?_; rintro e w8 ⟨v8, rfl, o8, g8⟩; have L8 := hid (Bes.gr L5.out g8); have O8 := hid o8; have G8 := hid (Gr.trans G5.out g8); clear o8 g8)
        | (go_at_call 12; refine (HS.out _ _ _ _ _ _ O8.out.lst L8.out HVS.out).mono ?_; rintro e w9 ⟨rfl, g9⟩; have G9 := hid (Gr.trans G8.out g9); clear g9)
        | (go_at_call 14; refine (HA.out _).mono ?_; rintro e wA ⟨rfl, gA⟩; have GA := hid (Gr.trans G9.out gA); clear gA))
      go_ret
      exact ⟨rfl, GA.out⟩
end Go.Proofs.Ytpmhmikefkgbdaa.Lt
