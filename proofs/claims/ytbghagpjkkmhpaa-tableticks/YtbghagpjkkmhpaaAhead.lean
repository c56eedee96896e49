/-
  What ahead of the program answers. Conditions: the numbers are uint64, and the window may be one of the frame.
-/
import Derived.Test.YtbghagpjkkmhpaaWindows
import Derived.Deep.DrawnRows
namespace Go.Proofs.Ytbghagpjkkmhpaa.Tk
open Go.RowKit
attribute [local go_sem ↓] Go.wp_at_zero Go.wp_at_succ

theorem ahead_any (t f s l : Int) (ht : U t) (hs : U s) (hl : U l) (hf : U f) (hm : mayE s l f = 0) (w : World) :
    Calls Try.prog 58 #[.int .u64 t, .int .u64 f, .agg #[.int .u64 s, .int .u64 l]] w fun e w' => e = .returned (.int .u64 (bef t f s l)) ∧ Gr w w' := by
  obtain ⟨m1, m2, m3⟩ := may_ok hm
  have ht' := ht
  obtain ⟨t0, t1⟩ := ht
  have hf1 : 1 ≤ f := by have := hs.1; omega
  have f1 := hf.2
  have hd := div_bd t f t0 hf1
  have hq := mod_bd t f hf1
  have hx := div_mul_le t f l t0 hf1 (by omega) (by have := hs.1; omega)
  have hp := pas_bd (t % f) s l (by omega) hs.1 hq.1
  have l0 := hl.1
  have l1 := hl.2
  have H1 : Hid (bef t f s l = t / f * l + pas (t % f) s l) := rfl
  have hb := bef_bd t f s l t0 hs.1 m1 m2
  unfold bef at hb
  have hUq : U (t % f) := ⟨hq.1, by omega⟩
  clear hm
  have r1 : t.tmod f = t % f := Int.tmod_eq_emod_of_nonneg t0
  have r2 : t.tdiv f = t / f := Int.tdiv_eq_ediv_of_nonneg t0
  have r3 : IntKind.u64.wrap (t / f) = t / f := wrapU ⟨hd.1, by omega⟩
  have r4 : IntKind.u64.wrap (t / f * l) = t / f * l := wrapU ⟨hx.1, by omega⟩
  have r5 : IntKind.u64.wrap (t / f * l + pas (t % f) s l) = t / f * l + pas (t % f) s l := wrapU ⟨hb.1, by omega⟩
  go_enter Try.func58, Try.ntmps58
  go_wp2
  go_region_held3 (fun w' => w'.cell? ⟨w.heap.size, 0, none⟩ = some (.int .u64 s) ∧ w'.cell? ⟨w.heap.size, 1, none⟩ = some (.int .u64 l) ∧ w.heap.size < w'.heap.size ∧ Gr w w')
    (first | (refine ⟨by simp, by simp, by simp, ?_⟩; repeat (first | exact Gr.refl _ | refine Gr.drew ?_ | refine Gr.alloc ?_ _ _)) | (refine held g ?_; assumption))
    (first | (go_at_call 63; refine (passed_any (t % f) s l hUq hs hl _).mono ?_; rintro e w1 ⟨rfl, g⟩))
  all_goals go_wp2
  all_goals go_ret
  all_goals exact ⟨ret1 H1.out.symm, Gr.trans (Gr.drew (Gr.alloc (Gr.refl _) _ _)) (by assumption)⟩
end Go.Proofs.Ytbghagpjkkmhpaa.Tk
