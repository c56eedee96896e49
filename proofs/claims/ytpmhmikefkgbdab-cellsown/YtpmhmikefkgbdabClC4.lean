/-
  What the statements' 'calls' does with a Add: both sides tell the same, and leave the same. Condition: the cells lie where New left them, and read as the list that is handed in.
-/
import Derived.Test.YtpmhmikefkgbdabClC0
import Derived.Test.YtpmhmikefkgbdabClAdd
import Derived.Test.YtpmhmikefkgbdabClRa
namespace Go.Proofs.Ytpmhmikefkgbdab.Lt
open Go.RowKit Wd
attribute [local go_sem ↓] Go.wp_at_zero Go.wp_at_succ

set_option maxHeartbeats 4000000 in
set_option maxRecDepth 20000 in
theorem calls_add (P : Nat → Prop) (base : Nat) (w : World) (b : Nat) (v : Value) (vs : List Int) (o : O4) (ao : Option Addr) (cap : Nat) (h : CAt base w b v vs) (hm : Ls eI P w (.slice ao vs.length cap) vs) (hP : ∀ q, P q → q < w.heap.size ∧ ¬ Blk v q) (hl : vs.length ≤ 17592186044416) (hk : o.k = 4) :
    Calls Try.prog 16 #[.pointer (some ⟨b, 0, none⟩), .slice ao vs.length cap, .agg #[.int .i64 o.k, .int .i64 o.c, .int .i64 o.o, .int .i64 o.v]] w (CsR P base w b v vs o) := by
  have HA := hid (fun (W : World) (p : CAt base W b v vs) => add_any base W b v vs o hk p)
  have HRF := hid (fun (W : World) (p : Ls eI P W (.slice ao vs.length cap) vs) => (show Calls Try.prog 29 #[.slice ao vs.length cap, .int .i64 o.c, .int .i64 o.v] W (RfR P W vs o) from by
    obtain ⟨k, c, oo, ov⟩ := o
    have hk : k = 4 := hk
    subst hk
    cases hp : isP c vs.length with
    | false => exact radd_no P W ao cap vs p ⟨4, c, oo, ov⟩ hp
    | true =>
      obtain ⟨j, hj, hjl⟩ := isP_of hp
      subst hj
      exact radd_yes P W ao cap vs p hl j oo ov hjl))
  have hok : okK o = true := decide_eq_true (by omega)
  obtain ⟨tc, tk, tb, ta, tx, hT⟩ : ∃ tc tk tb ta tx, told o vs = ⟨tc, tk, tb, ta, tx⟩ := ⟨_, _, _, _, _, rfl⟩
  obtain ⟨te, hTE⟩ : ∃ te, terr o vs = te := ⟨_, rfl⟩
  have HT := hid hT
  have HTE := hid hTE
  have HEND := hid (show ∀ ao cap w', Ls eI (fun q => P q ∨ w.heap.size + 4 ≤ q) w' (.slice ao vs.length cap) (left o vs) → CAt base w' b v (left o vs) → Ch (Blk v) w w' → CsR P base w b v vs o (.returned (.tuple #[.slice ao vs.length cap, .agg #[.int .i64 tc, .int .i64 tk, .int .i64 tb, .int .i64 ta, .bool tx], .bool (te == 0), .bool true])) w' from fun ao cap w' l c g => ⟨ao, cap, by simp only [cTold, cOk, hok, hT, hTE, Ac.val]; rfl, by simp only [cLeft, hok]; exact l.mono (fun q _ hq => hq.imp id (fun z => by omega)), by simp only [cLeft, hok]; exact c, g⟩)
  have HNP := hid (show ∀ q, w.heap.size ≤ q → q < w.heap.size + 4 → ¬ (P q ∨ w.heap.size + 4 ≤ q) from fun q q1 q2 e => by rcases e with e | e; (have := (hP q e).1; omega); omega)
  have HNB := hid (show ∀ q, w.heap.size ≤ q → ¬ Blk v q from fun q q1 e => by have := (h.vo.blk e).2; omega)
  have HPB := hid hP
  have hbl := lt_of_block h.bk
  have V0 := hid (Vc.new w o)
  have KW := hid (show Gr w ((((w.alloc (.cells #[.int .i64 o.k, .int .i64 o.c, .int .i64 o.o, .int .i64 o.v] 35)).alloc (.cells #[.int .i64 0, .int .i64 0, .int .i64 0, .int .i64 0, .bool false] 28)).alloc (.cells #[.int .i64 0, .int .i64 0, .int .i64 0, .int .i64 0, .bool false] 28)).alloc (.cells #[.int .i64 0, .int .i64 0, .int .i64 0, .int .i64 0, .bool false] 28)) from Ch.alloc (Ch.alloc (Ch.alloc (Ch.alloc (Gr.refl w) _) _) _) _)
  have C0 := hid (h.gr KW.out)
  have L0 := hid (hm.gr KW.out)
  have HE := hid (acc_eq tc tk tb ta tx)
  have q1 : (o.k == 1) = false := by rw [hk]; rfl
  have q2 : (o.k == 2) = false := by rw [hk]; rfl
  have q3 : (o.k == 3) = false := by rw [hk]; rfl
  have q4 : (o.k == 4) = true := by rw [hk]; rfl
  clear h hm hP hT hTE hok hk
  go_enter Try.func16, Try.ntmps16
  go_wp2_with (first
    | (go_at_call 11; refine (HA.out _ C0.out).mono ?_; rintro e w1 ⟨rfl, c1, g1⟩; rw [HT.out, HTE.out]; simp only [Ac.val]; have V1 := hid (V0.out.ch g1 (fun q q1 _ => HNB.out q q1)); have C1 := hid c1; have L1 := hid (L0.out.ch g1 (fun q _ hq => (HPB.out q hq).2)); have K1 := hid (Ch.trans (KW.out.any (S := Blk v)) g1 (fun q e => .inl e)); clear c1 g1)
    | (refine st_row rfl 28 (.tmp 10) (.tmp 91) rfl (w.heap.size + 2) _ rfl rfl _ _ V1.out.x acc_size rfl (one5 _ _ _ _ _) ?_; intro w2 b2 k2; have V2 := hid (V1.out.setx k2 b2); have C2 := hid (C1.out.ch k2 (fun e => by have e1 : b = w.heap.size + 2 := e; omega) (fun q hq e => by have e1 : q = w.heap.size + 2 := e; exact HNB.out _ (by omega) (e1 ▸ hq))); have L2 := hid (L1.out.ch k2 (fun q _ hq e => by have e1 : q = w.heap.size + 2 := e; have := (HPB.out q hq).1; omega)); have K2 := hid (Ch.trans K1.out k2 (fun q e => .inr (by have e1 : q = w.heap.size + 2 := e; omega))); have S2 := hid (show w.heap.size + 4 ≤ w2.heap.size from lt_of_block V2.out.y); have aa := V2.out.cells; have aa0 := aa.1; have aa1 := aa.2.1; have aa2 := aa.2.2.1; have aa3 := aa.2.2.2; clear aa b2 k2)
    | (go_at_call 29; refine (HRF.out _ L2.out).mono ?_; rintro e w3 ⟨ao2, cap2, rfl, l3, g3⟩; rw [HT.out, HTE.out]; simp only [Ac.val]; have L3 := hid (l3.mono (fun q _ hq => (show P q ∨ w.heap.size + 4 ≤ q from hq.imp id (fun z => by have := S2.out; omega)))); have V3 := hid (V2.out.ch g3 (fun _ _ _ => noB _)); have C3 := hid (C2.out.gr g3); have K3 := hid (Ch.trans K2.out (g3.any (S := Blk v)) (fun q e => .inl e)); have cc := V3.out.cells; have cc0 := cc.1; have cc1 := cc.2.1; have cc2 := cc.2.2.1; have cc3 := cc.2.2.2; clear cc l3 g3)
    | (refine st_row rfl 28 (.tmp 11) (.tmp 101) rfl (w.heap.size + 3) _ rfl rfl _ _ V3.out.y acc_size rfl (one5 _ _ _ _ _) ?_; intro w4 b4 k4; have V4 := hid (V3.out.sety k4 b4); have C4 := hid (C3.out.ch k4 (fun e => by have e1 : b = w.heap.size + 3 := e; omega) (fun q hq e => by have e1 : q = w.heap.size + 3 := e; exact HNB.out _ (by omega) (e1 ▸ hq))); have L4 := hid (L3.out.ch k4 (fun q _ hq e => by have e1 : q = w.heap.size + 3 := e; exact HNP.out _ (by omega) (by omega) hq)); have K4 := hid (Ch.trans K3.out k4 (fun q e => .inr (by have e1 : q = w.heap.size + 3 := e; omega))); clear b4 k4))
  have hS0 : Ch (Blk v) w w4.drew ∧ Vc w.heap.size o #[.int .i64 tc, .int .i64 tk, .int .i64 tb, .int .i64 ta, .bool tx] #[.int .i64 tc, .int .i64 tk, .int .i64 tb, .int .i64 ta, .bool tx] w4.drew := ⟨K4.out.drew, V4.out.drew⟩
  have HE2 := HE.out
  refine wp_region_held_drew (S := (fun W => Ch (Blk v) w W ∧ Vc w.heap.size o #[.int .i64 tc, .int .i64 tk, .int .i64 tb, .int .i64 ta, .bool tx] #[.int .i64 tc, .int .i64 tk, .int .i64 tb, .int .i64 ta, .bool tx] W)) (by kernel_rfl) (by exact hS0) (fun _ => ?_)
  refine takeS_on (i := 0) 103 (v := ?v51) rfl rfl (by kernel_rfl) (by kernel_rfl) (by kernel_rfl) (fun _ _ _ h => h) (by kernel_rfl) ?hy51 (by exact hS0) ?_
  case hy51 => (intro w' hSw; go_simp; try (with_reducible rfl))
  simp only [Act.put, List.setIfInBounds_toArray, List.set_cons_zero, List.set_cons_succ]
  refine takeS_on (i := 1) 104 (v := ?v52) rfl rfl (by kernel_rfl) (by kernel_rfl) (by kernel_rfl) (fun _ _ _ h => h) (by kernel_rfl) ?hy52 (by exact hS0) ?_
  case hy52 => (intro w' hSw; refine Eq.trans (exec_row 28 (.tmp 10) rfl _ rfl _ _ _ _ hSw.2.x Try.underlying28 rfl acc_size) ?_; with_reducible rfl)
  simp only [Act.put, List.setIfInBounds_toArray, List.set_cons_zero, List.set_cons_succ]
  refine takeS_on (i := 2) 105 (v := ?v53) rfl rfl (by kernel_rfl) (by kernel_rfl) (by kernel_rfl) (fun _ _ _ h => h) (by kernel_rfl) ?hy53 (by exact hS0) ?_
  case hy53 => (intro w' hSw; go_simp; try (with_reducible rfl))
  simp only [Act.put, List.setIfInBounds_toArray, List.set_cons_zero, List.set_cons_succ]
  refine takeS_on (i := 3) 106 (v := ?v54) rfl rfl (by kernel_rfl) (by kernel_rfl) (by kernel_rfl) (fun _ _ _ h => h) (by kernel_rfl) ?hy54 (by exact hS0) ?_
  case hy54 => (intro w' hSw; go_simp; try (with_reducible rfl))
  simp only [Act.put, List.setIfInBounds_toArray, List.set_cons_zero, List.set_cons_succ]
  refine takeS_on (i := 4) 107 (v := ?v55) rfl rfl (by kernel_rfl) (by kernel_rfl) (by kernel_rfl) (fun _ _ _ h => h) (by kernel_rfl) ?hy55 (by exact hS0) ?_
  case hy55 => (intro w' hSw; refine Eq.trans (exec_row 28 (.tmp 10) rfl _ rfl _ _ _ _ hSw.2.x Try.underlying28 rfl acc_size) ?_; with_reducible rfl)
  simp only [Act.put, List.setIfInBounds_toArray, List.set_cons_zero, List.set_cons_succ]
  refine takeS_on (i := 5) 108 (v := ?v56) rfl rfl (by kernel_rfl) (by kernel_rfl) (by kernel_rfl) (fun _ _ _ h => h) (by kernel_rfl) ?hy56 (by exact hS0) ?_
  case hy56 => (intro w' hSw; refine Eq.trans (exec_row 28 (.tmp 11) rfl _ rfl _ _ _ _ hSw.2.y Try.underlying28 rfl acc_size) ?_; with_reducible rfl)
  simp only [Act.put, List.setIfInBounds_toArray, List.set_cons_zero, List.set_cons_succ]
  refine takeS_on (i := 6) 109 (v := .bool true) rfl rfl (by kernel_rfl) (by kernel_rfl) (by kernel_rfl) (fun _ _ _ h => h) (by kernel_rfl) ?hy57 (by exact hS0) ?_
  case hy57 => (intro w' hSw; go_simp; try (with_reducible rfl))
  simp only [Act.put, List.setIfInBounds_toArray, List.set_cons_zero, List.set_cons_succ]
  refine takeS_on (i := 7) 110 (v := .bool true) rfl rfl (by kernel_rfl) (by kernel_rfl) (by kernel_rfl) (fun _ _ _ h => h) (by kernel_rfl) ?hy58 (by exact hS0) ?_
  case hy58 => (intro w' hSw; go_simp; try (with_reducible rfl))
  simp only [Act.put, List.setIfInBounds_toArray, List.set_cons_zero, List.set_cons_succ]
  refine takeS_on (i := 8) 111 (v := ?v59) rfl rfl (by kernel_rfl) (by kernel_rfl) (by kernel_rfl) (fun _ _ _ h => h) (by kernel_rfl) ?hy59 (by exact hS0) ?_
  case hy59 => (intro w' hSw; go_simp; try (with_reducible rfl))
  simp only [Act.put, List.setIfInBounds_toArray, List.set_cons_zero, List.set_cons_succ]
  refine takeS_on (i := 9) 112 (v := ?v60) rfl rfl (by kernel_rfl) (by kernel_rfl) (by kernel_rfl) (fun _ _ _ h => h) (by kernel_rfl) ?hy60 (by exact hS0) ?_
  case hy60 => (intro w' hSw; go_simp; try (with_reducible rfl))
  simp only [Act.put, List.setIfInBounds_toArray, List.set_cons_zero, List.set_cons_succ]
  refine takeS_on (i := 10) 113 (v := ?v61) rfl rfl (by kernel_rfl) (by kernel_rfl) (by kernel_rfl) (fun _ _ _ h => h) (by kernel_rfl) ?hy61 (by exact hS0) ?_
  case hy61 => (intro w' hSw; go_simp; try (with_reducible rfl))
  simp only [Act.put, List.setIfInBounds_toArray, List.set_cons_zero, List.set_cons_succ]
  refine takeS_on (i := 11) 114 (v := ?v62) rfl rfl (by kernel_rfl) (by kernel_rfl) (by kernel_rfl) (fun _ _ _ h => h) (by kernel_rfl) ?hy62 (by exact hS0) ?_
  case hy62 => (intro w' hSw; go_simp; try (with_reducible rfl))
  simp only [Act.put, List.setIfInBounds_toArray, List.set_cons_zero, List.set_cons_succ]
  refine takeS_on (i := 12) 6 (v := ?v63) rfl rfl (by kernel_rfl) (by kernel_rfl) (by kernel_rfl) (fun _ _ _ h => h) (by kernel_rfl) ?hy63 (by exact hS0) ?_
  case hy63 => (intro w' hSw; go_simp; try (with_reducible rfl))
  simp only [Act.put, List.setIfInBounds_toArray, List.set_cons_zero, List.set_cons_succ]
  refine wpAnyH_ready (rs := [13]) (by kernel_rfl) (by simp) (AllReadyH.cons rfl (fun K hK => ?_) AllReadyH.nil)
  rw [if_pos (by kernel_rfl)]
  obtain ⟨old, ht, hsz⟩ := hS0.2.t
  refine wp_store_row 28 (.tmp 7) (.tmp 104) rfl (w.heap.size + 1) #[.int .i64 tc, .int .i64 tk, .int .i64 tb, .int .i64 ta, .bool tx] rfl rfl _ _ ht acc_size hsz (one5 _ _ _ _ _) ?_
  have b3 := setRow_blk (c := #[.int .i64 tc, .int .i64 tk, .int .i64 tb, .int .i64 ta, .bool tx]) ht
  have hS1 := And.intro (Ch.trans hS0.1 (setRow_ch _ (w.heap.size + 1) #[.int .i64 tc, .int .i64 tk, .int .i64 tb, .int .i64 ta, .bool tx]) (fun q e => .inr (by have e1 : q = w.heap.size + 1 := e; omega))) (hS0.2.sett (setRow_ch _ (w.heap.size + 1) #[.int .i64 tc, .int .i64 tk, .int .i64 tb, .int .i64 ta, .bool tx]) b3 rfl)
  have K3 := hid (setRow_ch w4.drew (w.heap.size + 1) #[.int .i64 tc, .int .i64 tk, .int .i64 tb, .int .i64 ta, .bool tx])
  clear ht hsz
  have B3 := hid b3
  clear b3
  refine hK.out _ _ (by exact hS1) (fun _ => ?_)
  clear hK K
  refine takeS_on (i := 14) 8 (v := ?v64) rfl rfl (by kernel_rfl) (by kernel_rfl) (by kernel_rfl) (fun _ _ _ h => h) (by kernel_rfl) ?hy64 (by exact hS1) ?_
  case hy64 => (intro w' hSw; go_simp; try (with_reducible rfl))
  (try simp only [Act.put]); (try simp only [List.setIfInBounds_toArray])
  refine takeS_on (i := 15) 9 (v := ?v65) rfl rfl (by kernel_rfl) (by kernel_rfl) (by kernel_rfl) (fun _ _ _ h => h) (by kernel_rfl) ?hy65 (by exact hS1) ?_
  case hy65 => (intro w' hSw; go_simp; try (with_reducible rfl))
  (try simp only [Act.put]); (try simp only [List.setIfInBounds_toArray])
  refine wpAnyH_done (by kernel_rfl) ?_ _
  go_wp2_with fail
  refine bodyPost_ret (results4 rfl _ _ (w.heap.size + 1) _ rfl (run_loadVar_row _ _ _ _ _ _ _ B3.out Try.underlying28 rfl acc_size)) rfl ?_
  exact HEND.out ao2 cap2 _ (by exact L4.out.drew.ch K3.out (fun q _ hq e => by have e1 : q = w.heap.size + 1 := e; rw [e1] at hq; exact HNP.out _ (by omega) (by omega) hq)) ((show CAt base w4.drew b v (left o vs) from ⟨C4.out.bk, C4.out.vo.drew, C4.out.av⟩).ch K3.out (fun e => by have e1 : b = w.heap.size + 1 := e; omega) (fun q hq e => by have e1 : q = w.heap.size + 1 := e; exact HNB.out _ (by omega) (e1 ▸ hq))) hS1.1

end Go.Proofs.Ytpmhmikefkgbdab.Lt
