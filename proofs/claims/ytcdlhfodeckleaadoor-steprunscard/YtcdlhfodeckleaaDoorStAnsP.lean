/-
  What the program's Answer answers. No conditions.
-/
import Derived.Test.YtcdlhfodeckleaaDoorStReg
namespace Go.Proofs.YtcdlhfodeckleaaDoor.Lt
open Go.RowKit Wd

set_option maxHeartbeats 4000000 in
set_option maxRecDepth 20000 in
theorem pans_0 (P : Nat → Prop) (w : World) (pc : Int) (r : List Int) (hr : r.length = 16) (ao : Option Addr) (n cap : Nat) (ks : List Int) (hk : Ls eI P w (.slice ao n cap) ks) (hn : n ≤ 17592186044416) (o a b c m v k : Int) (ho : ¬ C1 o ∧ ¬ C2 o ∧ o ≠ 53) :
    Calls Tryd.prog 18 #[.agg (cC pc r (.slice ao n cap)), .agg #[.int .i64 o, .int .i64 a, .int .i64 b, .int .i64 c, .int .i64 m], .int .i64 v, .int .i64 k] w (CxR w pc (r) ks) := by
  obtain ⟨r0, r1, r2, r3, r4, r5, r6, r7, r8, r9, r10, r11, r12, r13, r14, r15, rfl⟩ := regs16 hr
  have HA := hid (fun (W : World) (p : Gr w W) => apart_any P W pc [r0, r1, r2, r3, r4, r5, r6, r7, r8, r9, r10, r11, r12, r13, r14, r15] rfl ao n cap ks (hk.gr p) hn)
  rw [cC_is]
  rw [cC_is] at HA
  clear hr hk
  have e22 : (o == 22) = false := by unfold C1 C2 at ho; simp; omega
  have e28 : (o == 28) = false := by unfold C1 C2 at ho; simp; omega
  have e32 : (o == 32) = false := by unfold C1 C2 at ho; simp; omega
  have e33 : (o == 33) = false := by unfold C1 C2 at ho; simp; omega
  have e34 : (o == 34) = false := by unfold C1 C2 at ho; simp; omega
  have e47 : (o == 47) = false := by unfold C1 C2 at ho; simp; omega
  have e49 : (o == 49) = false := by unfold C1 C2 at ho; simp; omega
  have e50 : (o == 50) = false := by unfold C1 C2 at ho; simp; omega
  have e55 : (o == 55) = false := by unfold C1 C2 at ho; simp; omega
  have e56 : (o == 56) = false := by unfold C1 C2 at ho; simp; omega
  have e57 : (o == 57) = false := by unfold C1 C2 at ho; simp; omega
  have e30 : (o == 30) = false := by unfold C1 C2 at ho; simp; omega
  have e51 : (o == 51) = false := by unfold C1 C2 at ho; simp; omega
  have e54 : (o == 54) = false := by unfold C1 C2 at ho; simp; omega
  have e53 : (o == 53) = false := by unfold C1 C2 at ho; simp; omega
  clear ho
  have V0 := hid (Va.new w #[.int .i64 pc, .int .i64 r0, .int .i64 r1, .int .i64 r2, .int .i64 r3, .int .i64 r4, .int .i64 r5, .int .i64 r6, .int .i64 r7, .int .i64 r8, .int .i64 r9, .int .i64 r10, .int .i64 r11, .int .i64 r12, .int .i64 r13, .int .i64 r14, .int .i64 r15, .slice ao n cap] #[.int .i64 o, .int .i64 a, .int .i64 b, .int .i64 c, .int .i64 m] #[.int .i64 0, .int .i64 0, .int .i64 0, .int .i64 0, .int .i64 0, .int .i64 0, .int .i64 0, .int .i64 0, .int .i64 0, .int .i64 0, .int .i64 0, .int .i64 0, .int .i64 0, .int .i64 0, .int .i64 0, .int .i64 0, .int .i64 0, .slice none 0 0])
  go_enter Tryd.func18, Tryd.ntmps18
  go_upto_region 2 with (first | (refine wpList_load_row rfl 30 (.tmp 4) rfl w.heap.size rfl _ _ _ _ V0.out.c Tryd.underlying30 rfl ctx_size ?_) | (go_at_call 28; refine (HA.out _ V0.out.g).mono ?_; rintro e w1 ⟨ao2, n2, cap2, rfl, o1, g1⟩; rw [cC_is]; have V1 := hid (V0.out.gr g1); have O1 := hid (show Ow eI 1 3 (w.heap.size + 3) w1 (.slice ao2 n2 cap2) ks from by simpa using o1); clear o1 g1) | (refine st_row rfl 30 (.tmp 4) (.tmp 10) rfl w.heap.size _ rfl rfl _ _ V1.out.c ctx_size rfl (one18 _ _ _ _ _ _ _ _ _ _ _ _ _ _ _ _ _ _ _ _) ?_; intro w2 b2 k2; have O2 := hid (O1.out.ch k2 (fun q hq e => by have e1 : q = w.heap.size := e; have := (O1.out.blk hq).1; omega)); have V2 := hid (V1.out.only k2 (show w2.heap[w.heap.size]? = some (.cells (cC pc [r0, r1, r2, r3, r4, r5, r6, r7, r8, r9, r10, r11, r12, r13, r14, r15] (.slice ao2 n2 cap2)) 30 (0, 0)) by rw [cC_is]; exact b2)); clear b2 k2))
  have i0 : w2.cell? ⟨w.heap.size + 1, 0, none⟩ = some (.int .i64 o) := (cell_of V2.out.i 0).trans rfl
  have i1 : w2.cell? ⟨w.heap.size + 1, 1, none⟩ = some (.int .i64 a) := (cell_of V2.out.i 1).trans rfl
  have i2 : w2.cell? ⟨w.heap.size + 1, 2, none⟩ = some (.int .i64 b) := (cell_of V2.out.i 2).trans rfl
  have i3 : w2.cell? ⟨w.heap.size + 1, 3, none⟩ = some (.int .i64 c) := (cell_of V2.out.i 3).trans rfl
  have il := lt_of_block V2.out.i
  have HS := hid (show (cC pc ([r0, r1, r2, r3, r4, r5, r6, r7, r8, r9, r10, r11, r12, r13, r14, r15]) (.slice ao2 n2 cap2)).size = 18 from cC_size (by simp))
  go_wp2_with (first | (refine wpList_load_row rfl 30 (.tmp 4) rfl w.heap.size rfl _ _ _ _ V2.out.c Tryd.underlying30 rfl (ctx_size' HS.out) ?_) | (refine st_row rfl 30 (.tmp 8) (.tmp 55) rfl (w.heap.size + 2) _ rfl rfl _ _ V2.out.t (ctx_size' HS.out) HS.out.symm cC_one ?_; intro w9 b9 k9; have R9 := hid b9; have K9 := hid k9; clear b9 k9))
  refine bodyPost_ret (results_cell_row rfl _ _ (w.heap.size + 2) _ _ _ _ rfl R9.out Tryd.underlying30 rfl (ctx_size' HS.out)) rfl ?_
  exact ⟨ao2, n2, cap2, rfl, (O2.out.ch K9.out (fun q hq e => by have e1 : q = w.heap.size + 2 := e; have := (O2.out.blk hq).1; omega)).lower (by omega), Ch.trans V2.out.g K9.out (fun q e => .inr (by have e1 : q = w.heap.size + 2 := e; omega))⟩
set_option maxHeartbeats 4000000 in
set_option maxRecDepth 20000 in
theorem pans_1 (P : Nat → Prop) (w : World) (pc : Int) (r : List Int) (hr : r.length = 16) (ao : Option Addr) (n cap : Nat) (ks : List Int) (hk : Ls eI P w (.slice ao n cap) ks) (hn : n ≤ 17592186044416) (o a b c m v k : Int) (ho : C1 o) :
    Calls Tryd.prog 18 #[.agg (cC pc r (.slice ao n cap)), .agg #[.int .i64 o, .int .i64 a, .int .i64 b, .int .i64 c, .int .i64 m], .int .i64 v, .int .i64 k] w (CxR w pc (r.set (rg a) v) ks) := by
  obtain ⟨r0, r1, r2, r3, r4, r5, r6, r7, r8, r9, r10, r11, r12, r13, r14, r15, rfl⟩ := regs16 hr
  have HA := hid (fun (W : World) (p : Gr w W) => apart_any P W pc [r0, r1, r2, r3, r4, r5, r6, r7, r8, r9, r10, r11, r12, r13, r14, r15] rfl ao n cap ks (hk.gr p) hn)
  rw [cC_is]
  rw [cC_is] at HA
  have HG := hid (fun (W : World) => register_any a W)
  rw [rg_is] at HG
  have hi := rg_lt a
  generalize rg a = i at hi HG ⊢
  have i0 : (0 : Int) ≤ (i : Int) := by omega
  have i1 : (i : Int) < 16 := by omega
  clear hr hk
  unfold C1 at ho
  rcases ho with rfl | rfl | rfl | rfl | rfl | rfl | rfl | rfl | rfl | rfl | rfl
  · have V0 := hid (Va.new w #[.int .i64 pc, .int .i64 r0, .int .i64 r1, .int .i64 r2, .int .i64 r3, .int .i64 r4, .int .i64 r5, .int .i64 r6, .int .i64 r7, .int .i64 r8, .int .i64 r9, .int .i64 r10, .int .i64 r11, .int .i64 r12, .int .i64 r13, .int .i64 r14, .int .i64 r15, .slice ao n cap] #[.int .i64 22, .int .i64 a, .int .i64 b, .int .i64 c, .int .i64 m] #[.int .i64 0, .int .i64 0, .int .i64 0, .int .i64 0, .int .i64 0, .int .i64 0, .int .i64 0, .int .i64 0, .int .i64 0, .int .i64 0, .int .i64 0, .int .i64 0, .int .i64 0, .int .i64 0, .int .i64 0, .int .i64 0, .int .i64 0, .slice none 0 0])
    go_enter Tryd.func18, Tryd.ntmps18
    go_upto_region 2 with (first | (refine wpList_load_row rfl 30 (.tmp 4) rfl w.heap.size rfl _ _ _ _ V0.out.c Tryd.underlying30 rfl ctx_size ?_) | (go_at_call 28; refine (HA.out _ V0.out.g).mono ?_; rintro e w1 ⟨ao2, n2, cap2, rfl, o1, g1⟩; rw [cC_is]; have V1 := hid (V0.out.gr g1); have O1 := hid (show Ow eI 1 3 (w.heap.size + 3) w1 (.slice ao2 n2 cap2) ks from by simpa using o1); clear o1 g1) | (refine st_row rfl 30 (.tmp 4) (.tmp 10) rfl w.heap.size _ rfl rfl _ _ V1.out.c ctx_size rfl (one18 _ _ _ _ _ _ _ _ _ _ _ _ _ _ _ _ _ _ _ _) ?_; intro w2 b2 k2; have O2 := hid (O1.out.ch k2 (fun q hq e => by have e1 : q = w.heap.size := e; have := (O1.out.blk hq).1; omega)); have V2 := hid (V1.out.only k2 (show w2.heap[w.heap.size]? = some (.cells (cC pc [r0, r1, r2, r3, r4, r5, r6, r7, r8, r9, r10, r11, r12, r13, r14, r15] (.slice ao2 n2 cap2)) 30 (0, 0)) by rw [cC_is]; exact b2)); clear b2 k2))
    have i0 : w2.cell? ⟨w.heap.size + 1, 0, none⟩ = some (.int .i64 22) := (cell_of V2.out.i 0).trans rfl
    have i1 : w2.cell? ⟨w.heap.size + 1, 1, none⟩ = some (.int .i64 a) := (cell_of V2.out.i 1).trans rfl
    have i2 : w2.cell? ⟨w.heap.size + 1, 2, none⟩ = some (.int .i64 b) := (cell_of V2.out.i 2).trans rfl
    have i3 : w2.cell? ⟨w.heap.size + 1, 3, none⟩ = some (.int .i64 c) := (cell_of V2.out.i 3).trans rfl
    have il := lt_of_block V2.out.i
    obtain ⟨x0, hx0⟩ : ∃ x, ([r0, r1, r2, r3, r4, r5, r6, r7, r8, r9, r10, r11, r12, r13, r14, r15] : List Int)[i]? = some x := ⟨_, List.getElem?_eq_getElem (by simp; omega)⟩
    have y0 := (cell_of V2.out.c (1 + i)).trans (cC_get hx0)
    have z0 := frozen_of V2.out.c (1 + i)
    have l0 := lt_of_block V2.out.c
    clear hx0
    have K3 := hid (show Ch (Only w.heap.size) w2 (w2.setCell ⟨w.heap.size, 1 + i, none⟩ (.int .i64 v)) from (Ch.refl _ _).own (1 + i) _)
    have V3 := hid (V2.out.only K3.out (show (w2.setCell ⟨w.heap.size, 1 + i, none⟩ (.int .i64 v)).heap[w.heap.size]? = some (.cells (cC pc (([r0, r1, r2, r3, r4, r5, r6, r7, r8, r9, r10, r11, r12, r13, r14, r15] : List Int).set i v) (.slice ao2 n2 cap2)) 30 (0, 0)) by rw [← cC_set (by simp; omega)]; exact setCell_block V2.out.c (1 + i) (.int .i64 v)))
    have O3 := hid (O2.out.ch K3.out (fun q hq e => by have e1 : q = w.heap.size := e; have := (O2.out.blk hq).1; omega))
    clear K3
    have HS := hid (show (cC pc (([r0, r1, r2, r3, r4, r5, r6, r7, r8, r9, r10, r11, r12, r13, r14, r15] : List Int).set i v) (.slice ao2 n2 cap2)).size = 18 from cC_size (by simp))
    go_wp2_with (first | (go_at_call 42; refine (HG.out _).mono ?_; rintro e w7 ⟨rfl, hw⟩; have hw := hw.symm; subst hw) | (refine wpList_load_row rfl 30 (.tmp 4) rfl w.heap.size rfl _ _ _ _ V3.out.c Tryd.underlying30 rfl (ctx_size' HS.out) ?_) | (refine st_row rfl 30 (.tmp 8) (.tmp 55) rfl (w.heap.size + 2) _ rfl rfl _ _ V3.out.t (ctx_size' HS.out) HS.out.symm cC_one ?_; intro w9 b9 k9; have R9 := hid b9; have K9 := hid k9; clear b9 k9))
    refine bodyPost_ret (results_cell_row rfl _ _ (w.heap.size + 2) _ _ _ _ rfl R9.out Tryd.underlying30 rfl (ctx_size' HS.out)) rfl ?_
    exact ⟨ao2, n2, cap2, rfl, (O3.out.ch K9.out (fun q hq e => by have e1 : q = w.heap.size + 2 := e; have := (O3.out.blk hq).1; omega)).lower (by omega), Ch.trans V3.out.g K9.out (fun q e => .inr (by have e1 : q = w.heap.size + 2 := e; omega))⟩
  · have V0 := hid (Va.new w #[.int .i64 pc, .int .i64 r0, .int .i64 r1, .int .i64 r2, .int .i64 r3, .int .i64 r4, .int .i64 r5, .int .i64 r6, .int .i64 r7, .int .i64 r8, .int .i64 r9, .int .i64 r10, .int .i64 r11, .int .i64 r12, .int .i64 r13, .int .i64 r14, .int .i64 r15, .slice ao n cap] #[.int .i64 28, .int .i64 a, .int .i64 b, .int .i64 c, .int .i64 m] #[.int .i64 0, .int .i64 0, .int .i64 0, .int .i64 0, .int .i64 0, .int .i64 0, .int .i64 0, .int .i64 0, .int .i64 0, .int .i64 0, .int .i64 0, .int .i64 0, .int .i64 0, .int .i64 0, .int .i64 0, .int .i64 0, .int .i64 0, .slice none 0 0])
    go_enter Tryd.func18, Tryd.ntmps18
    go_upto_region 2 with (first | (refine wpList_load_row rfl 30 (.tmp 4) rfl w.heap.size rfl _ _ _ _ V0.out.c Tryd.underlying30 rfl ctx_size ?_) | (go_at_call 28; refine (HA.out _ V0.out.g).mono ?_; rintro e w1 ⟨ao2, n2, cap2, rfl, o1, g1⟩; rw [cC_is]; have V1 := hid (V0.out.gr g1); have O1 := hid (show Ow eI 1 3 (w.heap.size + 3) w1 (.slice ao2 n2 cap2) ks from by simpa using o1); clear o1 g1) | (refine st_row rfl 30 (.tmp 4) (.tmp 10) rfl w.heap.size _ rfl rfl _ _ V1.out.c ctx_size rfl (one18 _ _ _ _ _ _ _ _ _ _ _ _ _ _ _ _ _ _ _ _) ?_; intro w2 b2 k2; have O2 := hid (O1.out.ch k2 (fun q hq e => by have e1 : q = w.heap.size := e; have := (O1.out.blk hq).1; omega)); have V2 := hid (V1.out.only k2 (show w2.heap[w.heap.size]? = some (.cells (cC pc [r0, r1, r2, r3, r4, r5, r6, r7, r8, r9, r10, r11, r12, r13, r14, r15] (.slice ao2 n2 cap2)) 30 (0, 0)) by rw [cC_is]; exact b2)); clear b2 k2))
    have i0 : w2.cell? ⟨w.heap.size + 1, 0, none⟩ = some (.int .i64 28) := (cell_of V2.out.i 0).trans rfl
    have i1 : w2.cell? ⟨w.heap.size + 1, 1, none⟩ = some (.int .i64 a) := (cell_of V2.out.i 1).trans rfl
    have i2 : w2.cell? ⟨w.heap.size + 1, 2, none⟩ = some (.int .i64 b) := (cell_of V2.out.i 2).trans rfl
    have i3 : w2.cell? ⟨w.heap.size + 1, 3, none⟩ = some (.int .i64 c) := (cell_of V2.out.i 3).trans rfl
    have il := lt_of_block V2.out.i
    obtain ⟨x0, hx0⟩ : ∃ x, ([r0, r1, r2, r3, r4, r5, r6, r7, r8, r9, r10, r11, r12, r13, r14, r15] : List Int)[i]? = some x := ⟨_, List.getElem?_eq_getElem (by simp; omega)⟩
    have y0 := (cell_of V2.out.c (1 + i)).trans (cC_get hx0)
    have z0 := frozen_of V2.out.c (1 + i)
    have l0 := lt_of_block V2.out.c
    clear hx0
    have K3 := hid (show Ch (Only w.heap.size) w2 (w2.setCell ⟨w.heap.size, 1 + i, none⟩ (.int .i64 v)) from (Ch.refl _ _).own (1 + i) _)
    have V3 := hid (V2.out.only K3.out (show (w2.setCell ⟨w.heap.size, 1 + i, none⟩ (.int .i64 v)).heap[w.heap.size]? = some (.cells (cC pc (([r0, r1, r2, r3, r4, r5, r6, r7, r8, r9, r10, r11, r12, r13, r14, r15] : List Int).set i v) (.slice ao2 n2 cap2)) 30 (0, 0)) by rw [← cC_set (by simp; omega)]; exact setCell_block V2.out.c (1 + i) (.int .i64 v)))
    have O3 := hid (O2.out.ch K3.out (fun q hq e => by have e1 : q = w.heap.size := e; have := (O2.out.blk hq).1; omega))
    clear K3
    have HS := hid (show (cC pc (([r0, r1, r2, r3, r4, r5, r6, r7, r8, r9, r10, r11, r12, r13, r14, r15] : List Int).set i v) (.slice ao2 n2 cap2)).size = 18 from cC_size (by simp))
    go_wp2_with (first | (go_at_call 42; refine (HG.out _).mono ?_; rintro e w7 ⟨rfl, hw⟩; have hw := hw.symm; subst hw) | (refine wpList_load_row rfl 30 (.tmp 4) rfl w.heap.size rfl _ _ _ _ V3.out.c Tryd.underlying30 rfl (ctx_size' HS.out) ?_) | (refine st_row rfl 30 (.tmp 8) (.tmp 55) rfl (w.heap.size + 2) _ rfl rfl _ _ V3.out.t (ctx_size' HS.out) HS.out.symm cC_one ?_; intro w9 b9 k9; have R9 := hid b9; have K9 := hid k9; clear b9 k9))
    refine bodyPost_ret (results_cell_row rfl _ _ (w.heap.size + 2) _ _ _ _ rfl R9.out Tryd.underlying30 rfl (ctx_size' HS.out)) rfl ?_
    exact ⟨ao2, n2, cap2, rfl, (O3.out.ch K9.out (fun q hq e => by have e1 : q = w.heap.size + 2 := e; have := (O3.out.blk hq).1; omega)).lower (by omega), Ch.trans V3.out.g K9.out (fun q e => .inr (by have e1 : q = w.heap.size + 2 := e; omega))⟩
  · have V0 := hid (Va.new w #[.int .i64 pc, .int .i64 r0, .int .i64 r1, .int .i64 r2, .int .i64 r3, .int .i64 r4, .int .i64 r5, .int .i64 r6, .int .i64 r7, .int .i64 r8, .int .i64 r9, .int .i64 r10, .int .i64 r11, .int .i64 r12, .int .i64 r13, .int .i64 r14, .int .i64 r15, .slice ao n cap] #[.int .i64 32, .int .i64 a, .int .i64 b, .int .i64 c, .int .i64 m] #[.int .i64 0, .int .i64 0, .int .i64 0, .int .i64 0, .int .i64 0, .int .i64 0, .int .i64 0, .int .i64 0, .int .i64 0, .int .i64 0, .int .i64 0, .int .i64 0, .int .i64 0, .int .i64 0, .int .i64 0, .int .i64 0, .int .i64 0, .slice none 0 0])
    go_enter Tryd.func18, Tryd.ntmps18
    go_upto_region 2 with (first | (refine wpList_load_row rfl 30 (.tmp 4) rfl w.heap.size rfl _ _ _ _ V0.out.c Tryd.underlying30 rfl ctx_size ?_) | (go_at_call 28; refine (HA.out _ V0.out.g).mono ?_; rintro e w1 ⟨ao2, n2, cap2, rfl, o1, g1⟩; rw [cC_is]; have V1 := hid (V0.out.gr g1); have O1 := hid (show Ow eI 1 3 (w.heap.size + 3) w1 (.slice ao2 n2 cap2) ks from by simpa using o1); clear o1 g1) | (refine st_row rfl 30 (.tmp 4) (.tmp 10) rfl w.heap.size _ rfl rfl _ _ V1.out.c ctx_size rfl (one18 _ _ _ _ _ _ _ _ _ _ _ _ _ _ _ _ _ _ _ _) ?_; intro w2 b2 k2; have O2 := hid (O1.out.ch k2 (fun q hq e => by have e1 : q = w.heap.size := e; have := (O1.out.blk hq).1; omega)); have V2 := hid (V1.out.only k2 (show w2.heap[w.heap.size]? = some (.cells (cC pc [r0, r1, r2, r3, r4, r5, r6, r7, r8, r9, r10, r11, r12, r13, r14, r15] (.slice ao2 n2 cap2)) 30 (0, 0)) by rw [cC_is]; exact b2)); clear b2 k2))
    have i0 : w2.cell? ⟨w.heap.size + 1, 0, none⟩ = some (.int .i64 32) := (cell_of V2.out.i 0).trans rfl
    have i1 : w2.cell? ⟨w.heap.size + 1, 1, none⟩ = some (.int .i64 a) := (cell_of V2.out.i 1).trans rfl
    have i2 : w2.cell? ⟨w.heap.size + 1, 2, none⟩ = some (.int .i64 b) := (cell_of V2.out.i 2).trans rfl
    have i3 : w2.cell? ⟨w.heap.size + 1, 3, none⟩ = some (.int .i64 c) := (cell_of V2.out.i 3).trans rfl
    have il := lt_of_block V2.out.i
    obtain ⟨x0, hx0⟩ : ∃ x, ([r0, r1, r2, r3, r4, r5, r6, r7, r8, r9, r10, r11, r12, r13, r14, r15] : List Int)[i]? = some x := ⟨_, List.getElem?_eq_getElem (by simp; omega)⟩
    have y0 := (cell_of V2.out.c (1 + i)).trans (cC_get hx0)
    have z0 := frozen_of V2.out.c (1 + i)
    have l0 := lt_of_block V2.out.c
    clear hx0
    have K3 := hid (show Ch (Only w.heap.size) w2 (w2.setCell ⟨w.heap.size, 1 + i, none⟩ (.int .i64 v)) from (Ch.refl _ _).own (1 + i) _)
    have V3 := hid (V2.out.only K3.out (show (w2.setCell ⟨w.heap.size, 1 + i, none⟩ (.int .i64 v)).heap[w.heap.size]? = some (.cells (cC pc (([r0, r1, r2, r3, r4, r5, r6, r7, r8, r9, r10, r11, r12, r13, r14, r15] : List Int).set i v) (.slice ao2 n2 cap2)) 30 (0, 0)) by rw [← cC_set (by simp; omega)]; exact setCell_block V2.out.c (1 + i) (.int .i64 v)))
    have O3 := hid (O2.out.ch K3.out (fun q hq e => by have e1 : q = w.heap.size := e; have := (O2.out.blk hq).1; omega))
    clear K3
    have HS := hid (show (cC pc (([r0, r1, r2, r3, r4, r5, r6, r7, r8, r9, r10, r11, r12, r13, r14, r15] : List Int).set i v) (.slice ao2 n2 cap2)).size = 18 from cC_size (by simp))
    go_wp2_with (first | (go_at_call 42; refine (HG.out _).mono ?_; rintro e w7 ⟨rfl, hw⟩; have hw := hw.symm; subst hw) | (refine wpList_load_row rfl 30 (.tmp 4) rfl w.heap.size rfl _ _ _ _ V3.out.c Tryd.underlying30 rfl (ctx_size' HS.out) ?_) | (refine st_row rfl 30 (.tmp 8) (.tmp 55) rfl (w.heap.size + 2) _ rfl rfl _ _ V3.out.t (ctx_size' HS.out) HS.out.symm cC_one ?_; intro w9 b9 k9; have R9 := hid b9; have K9 := hid k9; clear b9 k9))
    refine bodyPost_ret (results_cell_row rfl _ _ (w.heap.size + 2) _ _ _ _ rfl R9.out Tryd.underlying30 rfl (ctx_size' HS.out)) rfl ?_
    exact ⟨ao2, n2, cap2, rfl, (O3.out.ch K9.out (fun q hq e => by have e1 : q = w.heap.size + 2 := e; have := (O3.out.blk hq).1; omega)).lower (by omega), Ch.trans V3.out.g K9.out (fun q e => .inr (by have e1 : q = w.heap.size + 2 := e; omega))⟩
  · have V0 := hid (Va.new w #[.int .i64 pc, .int .i64 r0, .int .i64 r1, .int .i64 r2, .int .i64 r3, .int .i64 r4, .int .i64 r5, .int .i64 r6, .int .i64 r7, .int .i64 r8, .int .i64 r9, .int .i64 r10, .int .i64 r11, .int .i64 r12, .int .i64 r13, .int .i64 r14, .int .i64 r15, .slice ao n cap] #[.int .i64 33, .int .i64 a, .int .i64 b, .int .i64 c, .int .i64 m] #[.int .i64 0, .int .i64 0, .int .i64 0, .int .i64 0, .int .i64 0, .int .i64 0, .int .i64 0, .int .i64 0, .int .i64 0, .int .i64 0, .int .i64 0, .int .i64 0, .int .i64 0, .int .i64 0, .int .i64 0, .int .i64 0, .int .i64 0, .slice none 0 0])
    go_enter Tryd.func18, Tryd.ntmps18
    go_upto_region 2 with (first | (refine wpList_load_row rfl 30 (.tmp 4) rfl w.heap.size rfl _ _ _ _ V0.out.c Tryd.underlying30 rfl ctx_size ?_) | (go_at_call 28; refine (HA.out _ V0.out.g).mono ?_; rintro e w1 ⟨ao2, n2, cap2, rfl, o1, g1⟩; rw [cC_is]; have V1 := hid (V0.out.gr g1); have O1 := hid (show Ow eI 1 3 (w.heap.size + 3) w1 (.slice ao2 n2 cap2) ks from by simpa using o1); clear o1 g1) | (refine st_row rfl 30 (.tmp 4) (.tmp 10) rfl w.heap.size _ rfl rfl _ _ V1.out.c ctx_size rfl (one18 _ _ _ _ _ _ _ _ _ _ _ _ _ _ _ _ _ _ _ _) ?_; intro w2 b2 k2; have O2 := hid (O1.out.ch k2 (fun q hq e => by have e1 : q = w.heap.size := e; have := (O1.out.blk hq).1; omega)); have V2 := hid (V1.out.only k2 (show w2.heap[w.heap.size]? = some (.cells (cC pc [r0, r1, r2, r3, r4, r5, r6, r7, r8, r9, r10, r11, r12, r13, r14, r15] (.slice ao2 n2 cap2)) 30 (0, 0)) by rw [cC_is]; exact b2)); clear b2 k2))
    have i0 : w2.cell? ⟨w.heap.size + 1, 0, none⟩ = some (.int .i64 33) := (cell_of V2.out.i 0).trans rfl
    have i1 : w2.cell? ⟨w.heap.size + 1, 1, none⟩ = some (.int .i64 a) := (cell_of V2.out.i 1).trans rfl
    have i2 : w2.cell? ⟨w.heap.size + 1, 2, none⟩ = some (.int .i64 b) := (cell_of V2.out.i 2).trans rfl
    have i3 : w2.cell? ⟨w.heap.size + 1, 3, none⟩ = some (.int .i64 c) := (cell_of V2.out.i 3).trans rfl
    have il := lt_of_block V2.out.i
    obtain ⟨x0, hx0⟩ : ∃ x, ([r0, r1, r2, r3, r4, r5, r6, r7, r8, r9, r10, r11, r12, r13, r14, r15] : List Int)[i]? = some x := ⟨_, List.getElem?_eq_getElem (by simp; omega)⟩
    have y0 := (cell_of V2.out.c (1 + i)).trans (cC_get hx0)
    have z0 := frozen_of V2.out.c (1 + i)
    have l0 := lt_of_block V2.out.c
    clear hx0
    have K3 := hid (show Ch (Only w.heap.size) w2 (w2.setCell ⟨w.heap.size, 1 + i, none⟩ (.int .i64 v)) from (Ch.refl _ _).own (1 + i) _)
    have V3 := hid (V2.out.only K3.out (show (w2.setCell ⟨w.heap.size, 1 + i, none⟩ (.int .i64 v)).heap[w.heap.size]? = some (.cells (cC pc (([r0, r1, r2, r3, r4, r5, r6, r7, r8, r9, r10, r11, r12, r13, r14, r15] : List Int).set i v) (.slice ao2 n2 cap2)) 30 (0, 0)) by rw [← cC_set (by simp; omega)]; exact setCell_block V2.out.c (1 + i) (.int .i64 v)))
    have O3 := hid (O2.out.ch K3.out (fun q hq e => by have e1 : q = w.heap.size := e; have := (O2.out.blk hq).1; omega))
    clear K3
    have HS := hid (show (cC pc (([r0, r1, r2, r3, r4, r5, r6, r7, r8, r9, r10, r11, r12, r13, r14, r15] : List Int).set i v) (.slice ao2 n2 cap2)).size = 18 from cC_size (by simp))
    go_wp2_with (first | (go_at_call 42; refine (HG.out _).mono ?_; rintro e w7 ⟨rfl, hw⟩; have hw := hw.symm; subst hw) | (refine wpList_load_row rfl 30 (.tmp 4) rfl w.heap.size rfl _ _ _ _ V3.out.c Tryd.underlying30 rfl (ctx_size' HS.out) ?_) | (refine st_row rfl 30 (.tmp 8) (.tmp 55) rfl (w.heap.size + 2) _ rfl rfl _ _ V3.out.t (ctx_size' HS.out) HS.out.symm cC_one ?_; intro w9 b9 k9; have R9 := hid b9; have K9 := hid k9; clear b9 k9))
    refine bodyPost_ret (results_cell_row rfl _ _ (w.heap.size + 2) _ _ _ _ rfl R9.out Tryd.underlying30 rfl (ctx_size' HS.out)) rfl ?_
    exact ⟨ao2, n2, cap2, rfl, (O3.out.ch K9.out (fun q hq e => by have e1 : q = w.heap.size + 2 := e; have := (O3.out.blk hq).1; omega)).lower (by omega), Ch.trans V3.out.g K9.out (fun q e => .inr (by have e1 : q = w.heap.size + 2 := e; omega))⟩
  · have V0 := hid (Va.new w #[.int .i64 pc, .int .i64 r0, .int .i64 r1, .int .i64 r2, .int .i64 r3, .int .i64 r4, .int .i64 r5, .int .i64 r6, .int .i64 r7, .int .i64 r8, .int .i64 r9, .int .i64 r10, .int .i64 r11, .int .i64 r12, .int .i64 r13, .int .i64 r14, .int .i64 r15, .slice ao n cap] #[.int .i64 34, .int .i64 a, .int .i64 b, .int .i64 c, .int .i64 m] #[.int .i64 0, .int .i64 0, .int .i64 0, .int .i64 0, .int .i64 0, .int .i64 0, .int .i64 0, .int .i64 0, .int .i64 0, .int .i64 0, .int .i64 0, .int .i64 0, .int .i64 0, .int .i64 0, .int .i64 0, .int .i64 0, .int .i64 0, .slice none 0 0])
    go_enter Tryd.func18, Tryd.ntmps18
    go_upto_region 2 with (first | (refine wpList_load_row rfl 30 (.tmp 4) rfl w.heap.size rfl _ _ _ _ V0.out.c Tryd.underlying30 rfl ctx_size ?_) | (go_at_call 28; refine (HA.out _ V0.out.g).mono ?_; rintro e w1 ⟨ao2, n2, cap2, rfl, o1, g1⟩; rw [cC_is]; have V1 := hid (V0.out.gr g1); have O1 := hid (show Ow eI 1 3 (w.heap.size + 3) w1 (.slice ao2 n2 cap2) ks from by simpa using o1); clear o1 g1) | (refine st_row rfl 30 (.tmp 4) (.tmp 10) rfl w.heap.size _ rfl rfl _ _ V1.out.c ctx_size rfl (one18 _ _ _ _ _ _ _ _ _ _ _ _ _ _ _ _ _ _ _ _) ?_; intro w2 b2 k2; have O2 := hid (O1.out.ch k2 (fun q hq e => by have e1 : q = w.heap.size := e; have := (O1.out.blk hq).1; omega)); have V2 := hid (V1.out.only k2 (show w2.heap[w.heap.size]? = some (.cells (cC pc [r0, r1, r2, r3, r4, r5, r6, r7, r8, r9, r10, r11, r12, r13, r14, r15] (.slice ao2 n2 cap2)) 30 (0, 0)) by rw [cC_is]; exact b2)); clear b2 k2))
    have i0 : w2.cell? ⟨w.heap.size + 1, 0, none⟩ = some (.int .i64 34) := (cell_of V2.out.i 0).trans rfl
    have i1 : w2.cell? ⟨w.heap.size + 1, 1, none⟩ = some (.int .i64 a) := (cell_of V2.out.i 1).trans rfl
    have i2 : w2.cell? ⟨w.heap.size + 1, 2, none⟩ = some (.int .i64 b) := (cell_of V2.out.i 2).trans rfl
    have i3 : w2.cell? ⟨w.heap.size + 1, 3, none⟩ = some (.int .i64 c) := (cell_of V2.out.i 3).trans rfl
    have il := lt_of_block V2.out.i
    obtain ⟨x0, hx0⟩ : ∃ x, ([r0, r1, r2, r3, r4, r5, r6, r7, r8, r9, r10, r11, r12, r13, r14, r15] : List Int)[i]? = some x := ⟨_, List.getElem?_eq_getElem (by simp; omega)⟩
    have y0 := (cell_of V2.out.c (1 + i)).trans (cC_get hx0)
    have z0 := frozen_of V2.out.c (1 + i)
    have l0 := lt_of_block V2.out.c
    clear hx0
    have K3 := hid (show Ch (Only w.heap.size) w2 (w2.setCell ⟨w.heap.size, 1 + i, none⟩ (.int .i64 v)) from (Ch.refl _ _).own (1 + i) _)
    have V3 := hid (V2.out.only K3.out (show (w2.setCell ⟨w.heap.size, 1 + i, none⟩ (.int .i64 v)).heap[w.heap.size]? = some (.cells (cC pc (([r0, r1, r2, r3, r4, r5, r6, r7, r8, r9, r10, r11, r12, r13, r14, r15] : List Int).set i v) (.slice ao2 n2 cap2)) 30 (0, 0)) by rw [← cC_set (by simp; omega)]; exact setCell_block V2.out.c (1 + i) (.int .i64 v)))
    have O3 := hid (O2.out.ch K3.out (fun q hq e => by have e1 : q = w.heap.size := e; have := (O2.out.blk hq).1; omega))
    clear K3
    have HS := hid (show (cC pc (([r0, r1, r2, r3, r4, r5, r6, r7, r8, r9, r10, r11, r12, r13, r14, r15] : List Int).set i v) (.slice ao2 n2 cap2)).size = 18 from cC_size (by simp))
    go_wp2_with (first | (go_at_call 42; refine (HG.out _).mono ?_; rintro e w7 ⟨rfl, hw⟩; have hw := hw.symm; subst hw) | (refine wpList_load_row rfl 30 (.tmp 4) rfl w.heap.size rfl _ _ _ _ V3.out.c Tryd.underlying30 rfl (ctx_size' HS.out) ?_) | (refine st_row rfl 30 (.tmp 8) (.tmp 55) rfl (w.heap.size + 2) _ rfl rfl _ _ V3.out.t (ctx_size' HS.out) HS.out.symm cC_one ?_; intro w9 b9 k9; have R9 := hid b9; have K9 := hid k9; clear b9 k9))
    refine bodyPost_ret (results_cell_row rfl _ _ (w.heap.size + 2) _ _ _ _ rfl R9.out Tryd.underlying30 rfl (ctx_size' HS.out)) rfl ?_
    exact ⟨ao2, n2, cap2, rfl, (O3.out.ch K9.out (fun q hq e => by have e1 : q = w.heap.size + 2 := e; have := (O3.out.blk hq).1; omega)).lower (by omega), Ch.trans V3.out.g K9.out (fun q e => .inr (by have e1 : q = w.heap.size + 2 := e; omega))⟩
  · have V0 := hid (Va.new w #[.int .i64 pc, .int .i64 r0, .int .i64 r1, .int .i64 r2, .int .i64 r3, .int .i64 r4, .int .i64 r5, .int .i64 r6, .int .i64 r7, .int .i64 r8, .int .i64 r9, .int .i64 r10, .int .i64 r11, .int .i64 r12, .int .i64 r13, .int .i64 r14, .int .i64 r15, .slice ao n cap] #[.int .i64 47, .int .i64 a, .int .i64 b, .int .i64 c, .int .i64 m] #[.int .i64 0, .int .i64 0, .int .i64 0, .int .i64 0, .int .i64 0, .int .i64 0, .int .i64 0, .int .i64 0, .int .i64 0, .int .i64 0, .int .i64 0, .int .i64 0, .int .i64 0, .int .i64 0, .int .i64 0, .int .i64 0, .int .i64 0, .slice none 0 0])
    go_enter Tryd.func18, Tryd.ntmps18
    go_upto_region 2 with (first | (refine wpList_load_row rfl 30 (.tmp 4) rfl w.heap.size rfl _ _ _ _ V0.out.c Tryd.underlying30 rfl ctx_size ?_) | (go_at_call 28; refine (HA.out _ V0.out.g).mono ?_; rintro e w1 ⟨ao2, n2, cap2, rfl, o1, g1⟩; rw [cC_is]; have V1 := hid (V0.out.gr g1); have O1 := hid (show Ow eI 1 3 (w.heap.size + 3) w1 (.slice ao2 n2 cap2) ks from by simpa using o1); clear o1 g1) | (refine st_row rfl 30 (.tmp 4) (.tmp 10) rfl w.heap.size _ rfl rfl _ _ V1.out.c ctx_size rfl (one18 _ _ _ _ _ _ _ _ _ _ _ _ _ _ _ _ _ _ _ _) ?_; intro w2 b2 k2; have O2 := hid (O1.out.ch k2 (fun q hq e => by have e1 : q = w.heap.size := e; have := (O1.out.blk hq).1; omega)); have V2 := hid (V1.out.only k2 (show w2.heap[w.heap.size]? = some (.cells (cC pc [r0, r1, r2, r3, r4, r5, r6, r7, r8, r9, r10, r11, r12, r13, r14, r15] (.slice ao2 n2 cap2)) 30 (0, 0)) by rw [cC_is]; exact b2)); clear b2 k2))
    have i0 : w2.cell? ⟨w.heap.size + 1, 0, none⟩ = some (.int .i64 47) := (cell_of V2.out.i 0).trans rfl
    have i1 : w2.cell? ⟨w.heap.size + 1, 1, none⟩ = some (.int .i64 a) := (cell_of V2.out.i 1).trans rfl
    have i2 : w2.cell? ⟨w.heap.size + 1, 2, none⟩ = some (.int .i64 b) := (cell_of V2.out.i 2).trans rfl
    have i3 : w2.cell? ⟨w.heap.size + 1, 3, none⟩ = some (.int .i64 c) := (cell_of V2.out.i 3).trans rfl
    have il := lt_of_block V2.out.i
    obtain ⟨x0, hx0⟩ : ∃ x, ([r0, r1, r2, r3, r4, r5, r6, r7, r8, r9, r10, r11, r12, r13, r14, r15] : List Int)[i]? = some x := ⟨_, List.getElem?_eq_getElem (by simp; omega)⟩
    have y0 := (cell_of V2.out.c (1 + i)).trans (cC_get hx0)
    have z0 := frozen_of V2.out.c (1 + i)
    have l0 := lt_of_block V2.out.c
    clear hx0
    have K3 := hid (show Ch (Only w.heap.size) w2 (w2.setCell ⟨w.heap.size, 1 + i, none⟩ (.int .i64 v)) from (Ch.refl _ _).own (1 + i) _)
    have V3 := hid (V2.out.only K3.out (show (w2.setCell ⟨w.heap.size, 1 + i, none⟩ (.int .i64 v)).heap[w.heap.size]? = some (.cells (cC pc (([r0, r1, r2, r3, r4, r5, r6, r7, r8, r9, r10, r11, r12, r13, r14, r15] : List Int).set i v) (.slice ao2 n2 cap2)) 30 (0, 0)) by rw [← cC_set (by simp; omega)]; exact setCell_block V2.out.c (1 + i) (.int .i64 v)))
    have O3 := hid (O2.out.ch K3.out (fun q hq e => by have e1 : q = w.heap.size := e; have := (O2.out.blk hq).1; omega))
    clear K3
    have HS := hid (show (cC pc (([r0, r1, r2, r3, r4, r5, r6, r7, r8, r9, r10, r11, r12, r13, r14, r15] : List Int).set i v) (.slice ao2 n2 cap2)).size = 18 from cC_size (by simp))
    go_wp2_with (first | (go_at_call 42; refine (HG.out _).mono ?_; rintro e w7 ⟨rfl, hw⟩; have hw := hw.symm; subst hw) | (refine wpList_load_row rfl 30 (.tmp 4) rfl w.heap.size rfl _ _ _ _ V3.out.c Tryd.underlying30 rfl (ctx_size' HS.out) ?_) | (refine st_row rfl 30 (.tmp 8) (.tmp 55) rfl (w.heap.size + 2) _ rfl rfl _ _ V3.out.t (ctx_size' HS.out) HS.out.symm cC_one ?_; intro w9 b9 k9; have R9 := hid b9; have K9 := hid k9; clear b9 k9))
    refine bodyPost_ret (results_cell_row rfl _ _ (w.heap.size + 2) _ _ _ _ rfl R9.out Tryd.underlying30 rfl (ctx_size' HS.out)) rfl ?_
    exact ⟨ao2, n2, cap2, rfl, (O3.out.ch K9.out (fun q hq e => by have e1 : q = w.heap.size + 2 := e; have := (O3.out.blk hq).1; omega)).lower (by omega), Ch.trans V3.out.g K9.out (fun q e => .inr (by have e1 : q = w.heap.size + 2 := e; omega))⟩
  · have V0 := hid (Va.new w #[.int .i64 pc, .int .i64 r0, .int .i64 r1, .int .i64 r2, .int .i64 r3, .int .i64 r4, .int .i64 r5, .int .i64 r6, .int .i64 r7, .int .i64 r8, .int .i64 r9, .int .i64 r10, .int .i64 r11, .int .i64 r12, .int .i64 r13, .int .i64 r14, .int .i64 r15, .slice ao n cap] #[.int .i64 49, .int .i64 a, .int .i64 b, .int .i64 c, .int .i64 m] #[.int .i64 0, .int .i64 0, .int .i64 0, .int .i64 0, .int .i64 0, .int .i64 0, .int .i64 0, .int .i64 0, .int .i64 0, .int .i64 0, .int .i64 0, .int .i64 0, .int .i64 0, .int .i64 0, .int .i64 0, .int .i64 0, .int .i64 0, .slice none 0 0])
    go_enter Tryd.func18, Tryd.ntmps18
    go_upto_region 2 with (first | (refine wpList_load_row rfl 30 (.tmp 4) rfl w.heap.size rfl _ _ _ _ V0.out.c Tryd.underlying30 rfl ctx_size ?_) | (go_at_call 28; refine (HA.out _ V0.out.g).mono ?_; rintro e w1 ⟨ao2, n2, cap2, rfl, o1, g1⟩; rw [cC_is]; have V1 := hid (V0.out.gr g1); have O1 := hid (show Ow eI 1 3 (w.heap.size + 3) w1 (.slice ao2 n2 cap2) ks from by simpa using o1); clear o1 g1) | (refine st_row rfl 30 (.tmp 4) (.tmp 10) rfl w.heap.size _ rfl rfl _ _ V1.out.c ctx_size rfl (one18 _ _ _ _ _ _ _ _ _ _ _ _ _ _ _ _ _ _ _ _) ?_; intro w2 b2 k2; have O2 := hid (O1.out.ch k2 (fun q hq e => by have e1 : q = w.heap.size := e; have := (O1.out.blk hq).1; omega)); have V2 := hid (V1.out.only k2 (show w2.heap[w.heap.size]? = some (.cells (cC pc [r0, r1, r2, r3, r4, r5, r6, r7, r8, r9, r10, r11, r12, r13, r14, r15] (.slice ao2 n2 cap2)) 30 (0, 0)) by rw [cC_is]; exact b2)); clear b2 k2))
    have i0 : w2.cell? ⟨w.heap.size + 1, 0, none⟩ = some (.int .i64 49) := (cell_of V2.out.i 0).trans rfl
    have i1 : w2.cell? ⟨w.heap.size + 1, 1, none⟩ = some (.int .i64 a) := (cell_of V2.out.i 1).trans rfl
    have i2 : w2.cell? ⟨w.heap.size + 1, 2, none⟩ = some (.int .i64 b) := (cell_of V2.out.i 2).trans rfl
    have i3 : w2.cell? ⟨w.heap.size + 1, 3, none⟩ = some (.int .i64 c) := (cell_of V2.out.i 3).trans rfl
    have il := lt_of_block V2.out.i
    obtain ⟨x0, hx0⟩ : ∃ x, ([r0, r1, r2, r3, r4, r5, r6, r7, r8, r9, r10, r11, r12, r13, r14, r15] : List Int)[i]? = some x := ⟨_, List.getElem?_eq_getElem (by simp; omega)⟩
    have y0 := (cell_of V2.out.c (1 + i)).trans (cC_get hx0)
    have z0 := frozen_of V2.out.c (1 + i)
    have l0 := lt_of_block V2.out.c
    clear hx0
    have K3 := hid (show Ch (Only w.heap.size) w2 (w2.setCell ⟨w.heap.size, 1 + i, none⟩ (.int .i64 v)) from (Ch.refl _ _).own (1 + i) _)
    have V3 := hid (V2.out.only K3.out (show (w2.setCell ⟨w.heap.size, 1 + i, none⟩ (.int .i64 v)).heap[w.heap.size]? = some (.cells (cC pc (([r0, r1, r2, r3, r4, r5, r6, r7, r8, r9, r10, r11, r12, r13, r14, r15] : List Int).set i v) (.slice ao2 n2 cap2)) 30 (0, 0)) by rw [← cC_set (by simp; omega)]; exact setCell_block V2.out.c (1 + i) (.int .i64 v)))
    have O3 := hid (O2.out.ch K3.out (fun q hq e => by have e1 : q = w.heap.size := e; have := (O2.out.blk hq).1; omega))
    clear K3
    have HS := hid (show (cC pc (([r0, r1, r2, r3, r4, r5, r6, r7, r8, r9, r10, r11, r12, r13, r14, r15] : List Int).set i v) (.slice ao2 n2 cap2)).size = 18 from cC_size (by simp))
    go_wp2_with (first | (go_at_call 42; refine (HG.out _).mono ?_; rintro e w7 ⟨rfl, hw⟩; have hw := hw.symm; subst hw) | (refine wpList_load_row rfl 30 (.tmp 4) rfl w.heap.size rfl _ _ _ _ V3.out.c Tryd.underlying30 rfl (ctx_size' HS.out) ?_) | (refine st_row rfl 30 (.tmp 8) (.tmp 55) rfl (w.heap.size + 2) _ rfl rfl _ _ V3.out.t (ctx_size' HS.out) HS.out.symm cC_one ?_; intro w9 b9 k9; have R9 := hid b9; have K9 := hid k9; clear b9 k9))
    refine bodyPost_ret (results_cell_row rfl _ _ (w.heap.size + 2) _ _ _ _ rfl R9.out Tryd.underlying30 rfl (ctx_size' HS.out)) rfl ?_
    exact ⟨ao2, n2, cap2, rfl, (O3.out.ch K9.out (fun q hq e => by have e1 : q = w.heap.size + 2 := e; have := (O3.out.blk hq).1; omega)).lower (by omega), Ch.trans V3.out.g K9.out (fun q e => .inr (by have e1 : q = w.heap.size + 2 := e; omega))⟩
  · have V0 := hid (Va.new w #[.int .i64 pc, .int .i64 r0, .int .i64 r1, .int .i64 r2, .int .i64 r3, .int .i64 r4, .int .i64 r5, .int .i64 r6, .int .i64 r7, .int .i64 r8, .int .i64 r9, .int .i64 r10, .int .i64 r11, .int .i64 r12, .int .i64 r13, .int .i64 r14, .int .i64 r15, .slice ao n cap] #[.int .i64 50, .int .i64 a, .int .i64 b, .int .i64 c, .int .i64 m] #[.int .i64 0, .int .i64 0, .int .i64 0, .int .i64 0, .int .i64 0, .int .i64 0, .int .i64 0, .int .i64 0, .int .i64 0, .int .i64 0, .int .i64 0, .int .i64 0, .int .i64 0, .int .i64 0, .int .i64 0, .int .i64 0, .int .i64 0, .slice none 0 0])
    go_enter Tryd.func18, Tryd.ntmps18
    go_upto_region 2 with (first | (refine wpList_load_row rfl 30 (.tmp 4) rfl w.heap.size rfl _ _ _ _ V0.out.c Tryd.underlying30 rfl ctx_size ?_) | (go_at_call 28; refine (HA.out _ V0.out.g).mono ?_; rintro e w1 ⟨ao2, n2, cap2, rfl, o1, g1⟩; rw [cC_is]; have V1 := hid (V0.out.gr g1); have O1 := hid (show Ow eI 1 3 (w.heap.size + 3) w1 (.slice ao2 n2 cap2) ks from by simpa using o1); clear o1 g1) | (refine st_row rfl 30 (.tmp 4) (.tmp 10) rfl w.heap.size _ rfl rfl _ _ V1.out.c ctx_size rfl (one18 _ _ _ _ _ _ _ _ _ _ _ _ _ _ _ _ _ _ _ _) ?_; intro w2 b2 k2; have O2 := hid (O1.out.ch k2 (fun q hq e => by have e1 : q = w.heap.size := e; have := (O1.out.blk hq).1; omega)); have V2 := hid (V1.out.only k2 (show w2.heap[w.heap.size]? = some (.cells (cC pc [r0, r1, r2, r3, r4, r5, r6, r7, r8, r9, r10, r11, r12, r13, r14, r15] (.slice ao2 n2 cap2)) 30 (0, 0)) by rw [cC_is]; exact b2)); clear b2 k2))
    have i0 : w2.cell? ⟨w.heap.size + 1, 0, none⟩ = some (.int .i64 50) := (cell_of V2.out.i 0).trans rfl
    have i1 : w2.cell? ⟨w.heap.size + 1, 1, none⟩ = some (.int .i64 a) := (cell_of V2.out.i 1).trans rfl
    have i2 : w2.cell? ⟨w.heap.size + 1, 2, none⟩ = some (.int .i64 b) := (cell_of V2.out.i 2).trans rfl
    have i3 : w2.cell? ⟨w.heap.size + 1, 3, none⟩ = some (.int .i64 c) := (cell_of V2.out.i 3).trans rfl
    have il := lt_of_block V2.out.i
    obtain ⟨x0, hx0⟩ : ∃ x, ([r0, r1, r2, r3, r4, r5, r6, r7, r8, r9, r10, r11, r12, r13, r14, r15] : List Int)[i]? = some x := ⟨_, List.getElem?_eq_getElem (by simp; omega)⟩
    have y0 := (cell_of V2.out.c (1 + i)).trans (cC_get hx0)
    have z0 := frozen_of V2.out.c (1 + i)
    have l0 := lt_of_block V2.out.c
    clear hx0
    have K3 := hid (show Ch (Only w.heap.size) w2 (w2.setCell ⟨w.heap.size, 1 + i, none⟩ (.int .i64 v)) from (Ch.refl _ _).own (1 + i) _)
    have V3 := hid (V2.out.only K3.out (show (w2.setCell ⟨w.heap.size, 1 + i, none⟩ (.int .i64 v)).heap[w.heap.size]? = some (.cells (cC pc (([r0, r1, r2, r3, r4, r5, r6, r7, r8, r9, r10, r11, r12, r13, r14, r15] : List Int).set i v) (.slice ao2 n2 cap2)) 30 (0, 0)) by rw [← cC_set (by simp; omega)]; exact setCell_block V2.out.c (1 + i) (.int .i64 v)))
    have O3 := hid (O2.out.ch K3.out (fun q hq e => by have e1 : q = w.heap.size := e; have := (O2.out.blk hq).1; omega))
    clear K3
    have HS := hid (show (cC pc (([r0, r1, r2, r3, r4, r5, r6, r7, r8, r9, r10, r11, r12, r13, r14, r15] : List Int).set i v) (.slice ao2 n2 cap2)).size = 18 from cC_size (by simp))
    go_wp2_with (first | (go_at_call 42; refine (HG.out _).mono ?_; rintro e w7 ⟨rfl, hw⟩; have hw := hw.symm; subst hw) | (refine wpList_load_row rfl 30 (.tmp 4) rfl w.heap.size rfl _ _ _ _ V3.out.c Tryd.underlying30 rfl (ctx_size' HS.out) ?_) | (refine st_row rfl 30 (.tmp 8) (.tmp 55) rfl (w.heap.size + 2) _ rfl rfl _ _ V3.out.t (ctx_size' HS.out) HS.out.symm cC_one ?_; intro w9 b9 k9; have R9 := hid b9; have K9 := hid k9; clear b9 k9))
    refine bodyPost_ret (results_cell_row rfl _ _ (w.heap.size + 2) _ _ _ _ rfl R9.out Tryd.underlying30 rfl (ctx_size' HS.out)) rfl ?_
    exact ⟨ao2, n2, cap2, rfl, (O3.out.ch K9.out (fun q hq e => by have e1 : q = w.heap.size + 2 := e; have := (O3.out.blk hq).1; omega)).lower (by omega), Ch.trans V3.out.g K9.out (fun q e => .inr (by have e1 : q = w.heap.size + 2 := e; omega))⟩
  · have V0 := hid (Va.new w #[.int .i64 pc, .int .i64 r0, .int .i64 r1, .int .i64 r2, .int .i64 r3, .int .i64 r4, .int .i64 r5, .int .i64 r6, .int .i64 r7, .int .i64 r8, .int .i64 r9, .int .i64 r10, .int .i64 r11, .int .i64 r12, .int .i64 r13, .int .i64 r14, .int .i64 r15, .slice ao n cap] #[.int .i64 55, .int .i64 a, .int .i64 b, .int .i64 c, .int .i64 m] #[.int .i64 0, .int .i64 0, .int .i64 0, .int .i64 0, .int .i64 0, .int .i64 0, .int .i64 0, .int .i64 0, .int .i64 0, .int .i64 0, .int .i64 0, .int .i64 0, .int .i64 0, .int .i64 0, .int .i64 0, .int .i64 0, .int .i64 0, .slice none 0 0])
    go_enter Tryd.func18, Tryd.ntmps18
    go_upto_region 2 with (first | (refine wpList_load_row rfl 30 (.tmp 4) rfl w.heap.size rfl _ _ _ _ V0.out.c Tryd.underlying30 rfl ctx_size ?_) | (go_at_call 28; refine (HA.out _ V0.out.g).mono ?_; rintro e w1 ⟨ao2, n2, cap2, rfl, o1, g1⟩; rw [cC_is]; have V1 := hid (V0.out.gr g1); have O1 := hid (show Ow eI 1 3 (w.heap.size + 3) w1 (.slice ao2 n2 cap2) ks from by simpa using o1); clear o1 g1) | (refine st_row rfl 30 (.tmp 4) (.tmp 10) rfl w.heap.size _ rfl rfl _ _ V1.out.c ctx_size rfl (one18 _ _ _ _ _ _ _ _ _ _ _ _ _ _ _ _ _ _ _ _) ?_; intro w2 b2 k2; have O2 := hid (O1.out.ch k2 (fun q hq e => by have e1 : q = w.heap.size := e; have := (O1.out.blk hq).1; omega)); have V2 := hid (V1.out.only k2 (show w2.heap[w.heap.size]? = some (.cells (cC pc [r0, r1, r2, r3, r4, r5, r6, r7, r8, r9, r10, r11, r12, r13, r14, r15] (.slice ao2 n2 cap2)) 30 (0, 0)) by rw [cC_is]; exact b2)); clear b2 k2))
    have i0 : w2.cell? ⟨w.heap.size + 1, 0, none⟩ = some (.int .i64 55) := (cell_of V2.out.i 0).trans rfl
    have i1 : w2.cell? ⟨w.heap.size + 1, 1, none⟩ = some (.int .i64 a) := (cell_of V2.out.i 1).trans rfl
    have i2 : w2.cell? ⟨w.heap.size + 1, 2, none⟩ = some (.int .i64 b) := (cell_of V2.out.i 2).trans rfl
    have i3 : w2.cell? ⟨w.heap.size + 1, 3, none⟩ = some (.int .i64 c) := (cell_of V2.out.i 3).trans rfl
    have il := lt_of_block V2.out.i
    obtain ⟨x0, hx0⟩ : ∃ x, ([r0, r1, r2, r3, r4, r5, r6, r7, r8, r9, r10, r11, r12, r13, r14, r15] : List Int)[i]? = some x := ⟨_, List.getElem?_eq_getElem (by simp; omega)⟩
    have y0 := (cell_of V2.out.c (1 + i)).trans (cC_get hx0)
    have z0 := frozen_of V2.out.c (1 + i)
    have l0 := lt_of_block V2.out.c
    clear hx0
    have K3 := hid (show Ch (Only w.heap.size) w2 (w2.setCell ⟨w.heap.size, 1 + i, none⟩ (.int .i64 v)) from (Ch.refl _ _).own (1 + i) _)
    have V3 := hid (V2.out.only K3.out (show (w2.setCell ⟨w.heap.size, 1 + i, none⟩ (.int .i64 v)).heap[w.heap.size]? = some (.cells (cC pc (([r0, r1, r2, r3, r4, r5, r6, r7, r8, r9, r10, r11, r12, r13, r14, r15] : List Int).set i v) (.slice ao2 n2 cap2)) 30 (0, 0)) by rw [← cC_set (by simp; omega)]; exact setCell_block V2.out.c (1 + i) (.int .i64 v)))
    have O3 := hid (O2.out.ch K3.out (fun q hq e => by have e1 : q = w.heap.size := e; have := (O2.out.blk hq).1; omega))
    clear K3
    have HS := hid (show (cC pc (([r0, r1, r2, r3, r4, r5, r6, r7, r8, r9, r10, r11, r12, r13, r14, r15] : List Int).set i v) (.slice ao2 n2 cap2)).size = 18 from cC_size (by simp))
    go_wp2_with (first | (go_at_call 42; refine (HG.out _).mono ?_; rintro e w7 ⟨rfl, hw⟩; have hw := hw.symm; subst hw) | (refine wpList_load_row rfl 30 (.tmp 4) rfl w.heap.size rfl _ _ _ _ V3.out.c Tryd.underlying30 rfl (ctx_size' HS.out) ?_) | (refine st_row rfl 30 (.tmp 8) (.tmp 55) rfl (w.heap.size + 2) _ rfl rfl _ _ V3.out.t (ctx_size' HS.out) HS.out.symm cC_one ?_; intro w9 b9 k9; have R9 := hid b9; have K9 := hid k9; clear b9 k9))
    refine bodyPost_ret (results_cell_row rfl _ _ (w.heap.size + 2) _ _ _ _ rfl R9.out Tryd.underlying30 rfl (ctx_size' HS.out)) rfl ?_
    exact ⟨ao2, n2, cap2, rfl, (O3.out.ch K9.out (fun q hq e => by have e1 : q = w.heap.size + 2 := e; have := (O3.out.blk hq).1; omega)).lower (by omega), Ch.trans V3.out.g K9.out (fun q e => .inr (by have e1 : q = w.heap.size + 2 := e; omega))⟩
  · have V0 := hid (Va.new w #[.int .i64 pc, .int .i64 r0, .int .i64 r1, .int .i64 r2, .int .i64 r3, .int .i64 r4, .int .i64 r5, .int .i64 r6, .int .i64 r7, .int .i64 r8, .int .i64 r9, .int .i64 r10, .int .i64 r11, .int .i64 r12, .int .i64 r13, .int .i64 r14, .int .i64 r15, .slice ao n cap] #[.int .i64 56, .int .i64 a, .int .i64 b, .int .i64 c, .int .i64 m] #[.int .i64 0, .int .i64 0, .int .i64 0, .int .i64 0, .int .i64 0, .int .i64 0, .int .i64 0, .int .i64 0, .int .i64 0, .int .i64 0, .int .i64 0, .int .i64 0, .int .i64 0, .int .i64 0, .int .i64 0, .int .i64 0, .int .i64 0, .slice none 0 0])
    go_enter Tryd.func18, Tryd.ntmps18
    go_upto_region 2 with (first | (refine wpList_load_row rfl 30 (.tmp 4) rfl w.heap.size rfl _ _ _ _ V0.out.c Tryd.underlying30 rfl ctx_size ?_) | (go_at_call 28; refine (HA.out _ V0.out.g).mono ?_; rintro e w1 ⟨ao2, n2, cap2, rfl, o1, g1⟩; rw [cC_is]; have V1 := hid (V0.out.gr g1); have O1 := hid (show Ow eI 1 3 (w.heap.size + 3) w1 (.slice ao2 n2 cap2) ks from by simpa using o1); clear o1 g1) | (refine st_row rfl 30 (.tmp 4) (.tmp 10) rfl w.heap.size _ rfl rfl _ _ V1.out.c ctx_size rfl (one18 _ _ _ _ _ _ _ _ _ _ _ _ _ _ _ _ _ _ _ _) ?_; intro w2 b2 k2; have O2 := hid (O1.out.ch k2 (fun q hq e => by have e1 : q = w.heap.size := e; have := (O1.out.blk hq).1; omega)); have V2 := hid (V1.out.only k2 (show w2.heap[w.heap.size]? = some (.cells (cC pc [r0, r1, r2, r3, r4, r5, r6, r7, r8, r9, r10, r11, r12, r13, r14, r15] (.slice ao2 n2 cap2)) 30 (0, 0)) by rw [cC_is]; exact b2)); clear b2 k2))
    have i0 : w2.cell? ⟨w.heap.size + 1, 0, none⟩ = some (.int .i64 56) := (cell_of V2.out.i 0).trans rfl
    have i1 : w2.cell? ⟨w.heap.size + 1, 1, none⟩ = some (.int .i64 a) := (cell_of V2.out.i 1).trans rfl
    have i2 : w2.cell? ⟨w.heap.size + 1, 2, none⟩ = some (.int .i64 b) := (cell_of V2.out.i 2).trans rfl
    have i3 : w2.cell? ⟨w.heap.size + 1, 3, none⟩ = some (.int .i64 c) := (cell_of V2.out.i 3).trans rfl
    have il := lt_of_block V2.out.i
    obtain ⟨x0, hx0⟩ : ∃ x, ([r0, r1, r2, r3, r4, r5, r6, r7, r8, r9, r10, r11, r12, r13, r14, r15] : List Int)[i]? = some x := ⟨_, List.getElem?_eq_getElem (by simp; omega)⟩
    have y0 := (cell_of V2.out.c (1 + i)).trans (cC_get hx0)
    have z0 := frozen_of V2.out.c (1 + i)
    have l0 := lt_of_block V2.out.c
    clear hx0
    have K3 := hid (show Ch (Only w.heap.size) w2 (w2.setCell ⟨w.heap.size, 1 + i, none⟩ (.int .i64 v)) from (Ch.refl _ _).own (1 + i) _)
    have V3 := hid (V2.out.only K3.out (show (w2.setCell ⟨w.heap.size, 1 + i, none⟩ (.int .i64 v)).heap[w.heap.size]? = some (.cells (cC pc (([r0, r1, r2, r3, r4, r5, r6, r7, r8, r9, r10, r11, r12, r13, r14, r15] : List Int).set i v) (.slice ao2 n2 cap2)) 30 (0, 0)) by rw [← cC_set (by simp; omega)]; exact setCell_block V2.out.c (1 + i) (.int .i64 v)))
    have O3 := hid (O2.out.ch K3.out (fun q hq e => by have e1 : q = w.heap.size := e; have := (O2.out.blk hq).1; omega))
    clear K3
    have HS := hid (show (cC pc (([r0, r1, r2, r3, r4, r5, r6, r7, r8, r9, r10, r11, r12, r13, r14, r15] : List Int).set i v) (.slice ao2 n2 cap2)).size = 18 from cC_size (by simp))
    go_wp2_with (first | (go_at_call 42; refine (HG.out _).mono ?_; rintro e w7 ⟨rfl, hw⟩; have hw := hw.symm; subst hw) | (refine wpList_load_row rfl 30 (.tmp 4) rfl w.heap.size rfl _ _ _ _ V3.out.c Tryd.underlying30 rfl (ctx_size' HS.out) ?_) | (refine st_row rfl 30 (.tmp 8) (.tmp 55) rfl (w.heap.size + 2) _ rfl rfl _ _ V3.out.t (ctx_size' HS.out) HS.out.symm cC_one ?_; intro w9 b9 k9; have R9 := hid b9; have K9 := hid k9; clear b9 k9))
    refine bodyPost_ret (results_cell_row rfl _ _ (w.heap.size + 2) _ _ _ _ rfl R9.out Tryd.underlying30 rfl (ctx_size' HS.out)) rfl ?_
    exact ⟨ao2, n2, cap2, rfl, (O3.out.ch K9.out (fun q hq e => by have e1 : q = w.heap.size + 2 := e; have := (O3.out.blk hq).1; omega)).lower (by omega), Ch.trans V3.out.g K9.out (fun q e => .inr (by have e1 : q = w.heap.size + 2 := e; omega))⟩
  · have V0 := hid (Va.new w #[.int .i64 pc, .int .i64 r0, .int .i64 r1, .int .i64 r2, .int .i64 r3, .int .i64 r4, .int .i64 r5, .int .i64 r6, .int .i64 r7, .int .i64 r8, .int .i64 r9, .int .i64 r10, .int .i64 r11, .int .i64 r12, .int .i64 r13, .int .i64 r14, .int .i64 r15, .slice ao n cap] #[.int .i64 57, .int .i64 a, .int .i64 b, .int .i64 c, .int .i64 m] #[.int .i64 0, .int .i64 0, .int .i64 0, .int .i64 0, .int .i64 0, .int .i64 0, .int .i64 0, .int .i64 0, .int .i64 0, .int .i64 0, .int .i64 0, .int .i64 0, .int .i64 0, .int .i64 0, .int .i64 0, .int .i64 0, .int .i64 0, .slice none 0 0])
    go_enter Tryd.func18, Tryd.ntmps18
    go_upto_region 2 with (first | (refine wpList_load_row rfl 30 (.tmp 4) rfl w.heap.size rfl _ _ _ _ V0.out.c Tryd.underlying30 rfl ctx_size ?_) | (go_at_call 28; refine (HA.out _ V0.out.g).mono ?_; rintro e w1 ⟨ao2, n2, cap2, rfl, o1, g1⟩; rw [cC_is]; have V1 := hid (V0.out.gr g1); have O1 := hid (show Ow eI 1 3 (w.heap.size + 3) w1 (.slice ao2 n2 cap2) ks from by simpa using o1); clear o1 g1) | (refine st_row rfl 30 (.tmp 4) (.tmp 10) rfl w.heap.size _ rfl rfl _ _ V1.out.c ctx_size rfl (one18 _ _ _ _ _ _ _ _ _ _ _ _ _ _ _ _ _ _ _ _) ?_; intro w2 b2 k2; have O2 := hid (O1.out.ch k2 (fun q hq e => by have e1 : q = w.heap.size := e; have := (O1.out.blk hq).1; omega)); have V2 := hid (V1.out.only k2 (show w2.heap[w.heap.size]? = some (.cells (cC pc [r0, r1, r2, r3, r4, r5, r6, r7, r8, r9, r10, r11, r12, r13, r14, r15] (.slice ao2 n2 cap2)) 30 (0, 0)) by rw [cC_is]; exact b2)); clear b2 k2))
    have i0 : w2.cell? ⟨w.heap.size + 1, 0, none⟩ = some (.int .i64 57) := (cell_of V2.out.i 0).trans rfl
    have i1 : w2.cell? ⟨w.heap.size + 1, 1, none⟩ = some (.int .i64 a) := (cell_of V2.out.i 1).trans rfl
    have i2 : w2.cell? ⟨w.heap.size + 1, 2, none⟩ = some (.int .i64 b) := (cell_of V2.out.i 2).trans rfl
    have i3 : w2.cell? ⟨w.heap.size + 1, 3, none⟩ = some (.int .i64 c) := (cell_of V2.out.i 3).trans rfl
    have il := lt_of_block V2.out.i
    obtain ⟨x0, hx0⟩ : ∃ x, ([r0, r1, r2, r3, r4, r5, r6, r7, r8, r9, r10, r11, r12, r13, r14, r15] : List Int)[i]? = some x := ⟨_, List.getElem?_eq_getElem (by simp; omega)⟩
    have y0 := (cell_of V2.out.c (1 + i)).trans (cC_get hx0)
    have z0 := frozen_of V2.out.c (1 + i)
    have l0 := lt_of_block V2.out.c
    clear hx0
    have K3 := hid (show Ch (Only w.heap.size) w2 (w2.setCell ⟨w.heap.size, 1 + i, none⟩ (.int .i64 v)) from (Ch.refl _ _).own (1 + i) _)
    have V3 := hid (V2.out.only K3.out (show (w2.setCell ⟨w.heap.size, 1 + i, none⟩ (.int .i64 v)).heap[w.heap.size]? = some (.cells (cC pc (([r0, r1, r2, r3, r4, r5, r6, r7, r8, r9, r10, r11, r12, r13, r14, r15] : List Int).set i v) (.slice ao2 n2 cap2)) 30 (0, 0)) by rw [← cC_set (by simp; omega)]; exact setCell_block V2.out.c (1 + i) (.int .i64 v)))
    have O3 := hid (O2.out.ch K3.out (fun q hq e => by have e1 : q = w.heap.size := e; have := (O2.out.blk hq).1; omega))
    clear K3
    have HS := hid (show (cC pc (([r0, r1, r2, r3, r4, r5, r6, r7, r8, r9, r10, r11, r12, r13, r14, r15] : List Int).set i v) (.slice ao2 n2 cap2)).size = 18 from cC_size (by simp))
    go_wp2_with (first | (go_at_call 42; refine (HG.out _).mono ?_; rintro e w7 ⟨rfl, hw⟩; have hw := hw.symm; subst hw) | (refine wpList_load_row rfl 30 (.tmp 4) rfl w.heap.size rfl _ _ _ _ V3.out.c Tryd.underlying30 rfl (ctx_size' HS.out) ?_) | (refine st_row rfl 30 (.tmp 8) (.tmp 55) rfl (w.heap.size + 2) _ rfl rfl _ _ V3.out.t (ctx_size' HS.out) HS.out.symm cC_one ?_; intro w9 b9 k9; have R9 := hid b9; have K9 := hid k9; clear b9 k9))
    refine bodyPost_ret (results_cell_row rfl _ _ (w.heap.size + 2) _ _ _ _ rfl R9.out Tryd.underlying30 rfl (ctx_size' HS.out)) rfl ?_
    exact ⟨ao2, n2, cap2, rfl, (O3.out.ch K9.out (fun q hq e => by have e1 : q = w.heap.size + 2 := e; have := (O3.out.blk hq).1; omega)).lower (by omega), Ch.trans V3.out.g K9.out (fun q e => .inr (by have e1 : q = w.heap.size + 2 := e; omega))⟩
set_option maxHeartbeats 4000000 in
set_option maxRecDepth 20000 in
theorem pans_2 (P : Nat → Prop) (w : World) (pc : Int) (r : List Int) (hr : r.length = 16) (ao : Option Addr) (n cap : Nat) (ks : List Int) (hk : Ls eI P w (.slice ao n cap) ks) (hn : n ≤ 17592186044416) (o a b c m v k : Int) (ho : C2 o) :
    Calls Tryd.prog 18 #[.agg (cC pc r (.slice ao n cap)), .agg #[.int .i64 o, .int .i64 a, .int .i64 b, .int .i64 c, .int .i64 m], .int .i64 v, .int .i64 k] w (CxR w pc ((r.set (rg a) v).set (rg b) k) ks) := by
  obtain ⟨r0, r1, r2, r3, r4, r5, r6, r7, r8, r9, r10, r11, r12, r13, r14, r15, rfl⟩ := regs16 hr
  have HA := hid (fun (W : World) (p : Gr w W) => apart_any P W pc [r0, r1, r2, r3, r4, r5, r6, r7, r8, r9, r10, r11, r12, r13, r14, r15] rfl ao n cap ks (hk.gr p) hn)
  rw [cC_is]
  rw [cC_is] at HA
  have HG := hid (fun (W : World) => register_any a W)
  rw [rg_is] at HG
  have hi := rg_lt a
  generalize rg a = i at hi HG ⊢
  have i0 : (0 : Int) ≤ (i : Int) := by omega
  have i1 : (i : Int) < 16 := by omega
  have HG2 := hid (fun (W : World) => register_any b W)
  rw [rg_is] at HG2
  have hj := rg_lt b
  generalize rg b = j at hj HG2 ⊢
  have j0 : (0 : Int) ≤ (j : Int) := by omega
  have j1 : (j : Int) < 16 := by omega
  clear hr hk
  unfold C2 at ho
  rcases ho with rfl | rfl | rfl
  · have V0 := hid (Va.new w #[.int .i64 pc, .int .i64 r0, .int .i64 r1, .int .i64 r2, .int .i64 r3, .int .i64 r4, .int .i64 r5, .int .i64 r6, .int .i64 r7, .int .i64 r8, .int .i64 r9, .int .i64 r10, .int .i64 r11, .int .i64 r12, .int .i64 r13, .int .i64 r14, .int .i64 r15, .slice ao n cap] #[.int .i64 30, .int .i64 a, .int .i64 b, .int .i64 c, .int .i64 m] #[.int .i64 0, .int .i64 0, .int .i64 0, .int .i64 0, .int .i64 0, .int .i64 0, .int .i64 0, .int .i64 0, .int .i64 0, .int .i64 0, .int .i64 0, .int .i64 0, .int .i64 0, .int .i64 0, .int .i64 0, .int .i64 0, .int .i64 0, .slice none 0 0])
    go_enter Tryd.func18, Tryd.ntmps18
    go_upto_region 2 with (first | (refine wpList_load_row rfl 30 (.tmp 4) rfl w.heap.size rfl _ _ _ _ V0.out.c Tryd.underlying30 rfl ctx_size ?_) | (go_at_call 28; refine (HA.out _ V0.out.g).mono ?_; rintro e w1 ⟨ao2, n2, cap2, rfl, o1, g1⟩; rw [cC_is]; have V1 := hid (V0.out.gr g1); have O1 := hid (show Ow eI 1 3 (w.heap.size + 3) w1 (.slice ao2 n2 cap2) ks from by simpa using o1); clear o1 g1) | (refine st_row rfl 30 (.tmp 4) (.tmp 10) rfl w.heap.size _ rfl rfl _ _ V1.out.c ctx_size rfl (one18 _ _ _ _ _ _ _ _ _ _ _ _ _ _ _ _ _ _ _ _) ?_; intro w2 b2 k2; have O2 := hid (O1.out.ch k2 (fun q hq e => by have e1 : q = w.heap.size := e; have := (O1.out.blk hq).1; omega)); have V2 := hid (V1.out.only k2 (show w2.heap[w.heap.size]? = some (.cells (cC pc [r0, r1, r2, r3, r4, r5, r6, r7, r8, r9, r10, r11, r12, r13, r14, r15] (.slice ao2 n2 cap2)) 30 (0, 0)) by rw [cC_is]; exact b2)); clear b2 k2))
    have i0 : w2.cell? ⟨w.heap.size + 1, 0, none⟩ = some (.int .i64 30) := (cell_of V2.out.i 0).trans rfl
    have i1 : w2.cell? ⟨w.heap.size + 1, 1, none⟩ = some (.int .i64 a) := (cell_of V2.out.i 1).trans rfl
    have i2 : w2.cell? ⟨w.heap.size + 1, 2, none⟩ = some (.int .i64 b) := (cell_of V2.out.i 2).trans rfl
    have i3 : w2.cell? ⟨w.heap.size + 1, 3, none⟩ = some (.int .i64 c) := (cell_of V2.out.i 3).trans rfl
    have il := lt_of_block V2.out.i
    obtain ⟨x0, hx0⟩ : ∃ x, ([r0, r1, r2, r3, r4, r5, r6, r7, r8, r9, r10, r11, r12, r13, r14, r15] : List Int)[i]? = some x := ⟨_, List.getElem?_eq_getElem (by simp; omega)⟩
    have y0 := (cell_of V2.out.c (1 + i)).trans (cC_get hx0)
    have z0 := frozen_of V2.out.c (1 + i)
    have l0 := lt_of_block V2.out.c
    clear hx0
    have K3 := hid (show Ch (Only w.heap.size) w2 (w2.setCell ⟨w.heap.size, 1 + i, none⟩ (.int .i64 v)) from (Ch.refl _ _).own (1 + i) _)
    have V3 := hid (V2.out.only K3.out (show (w2.setCell ⟨w.heap.size, 1 + i, none⟩ (.int .i64 v)).heap[w.heap.size]? = some (.cells (cC pc (([r0, r1, r2, r3, r4, r5, r6, r7, r8, r9, r10, r11, r12, r13, r14, r15] : List Int).set i v) (.slice ao2 n2 cap2)) 30 (0, 0)) by rw [← cC_set (by simp; omega)]; exact setCell_block V2.out.c (1 + i) (.int .i64 v)))
    have O3 := hid (O2.out.ch K3.out (fun q hq e => by have e1 : q = w.heap.size := e; have := (O2.out.blk hq).1; omega))
    clear K3
    go_upto_region 19 with (go_at_call 42; refine (HG.out _).mono ?_; rintro e w7 ⟨rfl, hw⟩; have hw := hw.symm; subst hw)
    clear i0 i1 i2 i3 il y0 z0 l0
    generalize w2.setCell ⟨w.heap.size, 1 + i, none⟩ (.int .i64 v) = w3 at V3 O3 ⊢
    have i0 : w3.cell? ⟨w.heap.size + 1, 0, none⟩ = some (.int .i64 30) := (cell_of V3.out.i 0).trans rfl
    have i1 : w3.cell? ⟨w.heap.size + 1, 1, none⟩ = some (.int .i64 a) := (cell_of V3.out.i 1).trans rfl
    have i2 : w3.cell? ⟨w.heap.size + 1, 2, none⟩ = some (.int .i64 b) := (cell_of V3.out.i 2).trans rfl
    have i3 : w3.cell? ⟨w.heap.size + 1, 3, none⟩ = some (.int .i64 c) := (cell_of V3.out.i 3).trans rfl
    have il := lt_of_block V3.out.i
    obtain ⟨x1, hx1⟩ : ∃ x, (([r0, r1, r2, r3, r4, r5, r6, r7, r8, r9, r10, r11, r12, r13, r14, r15] : List Int).set i v : List Int)[j]? = some x := ⟨_, List.getElem?_eq_getElem (by simp; omega)⟩
    have y1 := (cell_of V3.out.c (1 + j)).trans (cC_get hx1)
    have z1 := frozen_of V3.out.c (1 + j)
    have l1 := lt_of_block V3.out.c
    clear hx1
    have K4 := hid (show Ch (Only w.heap.size) w3 (w3.setCell ⟨w.heap.size, 1 + j, none⟩ (.int .i64 k)) from (Ch.refl _ _).own (1 + j) _)
    have V4 := hid (V3.out.only K4.out (show (w3.setCell ⟨w.heap.size, 1 + j, none⟩ (.int .i64 k)).heap[w.heap.size]? = some (.cells (cC pc ((([r0, r1, r2, r3, r4, r5, r6, r7, r8, r9, r10, r11, r12, r13, r14, r15] : List Int).set i v).set j k) (.slice ao2 n2 cap2)) 30 (0, 0)) by rw [← cC_set (by simp; omega)]; exact setCell_block V3.out.c (1 + j) (.int .i64 k)))
    have O4 := hid (O3.out.ch K4.out (fun q hq e => by have e1 : q = w.heap.size := e; have := (O3.out.blk hq).1; omega))
    clear K4
    have HS := hid (show (cC pc ((([r0, r1, r2, r3, r4, r5, r6, r7, r8, r9, r10, r11, r12, r13, r14, r15] : List Int).set i v).set j k) (.slice ao2 n2 cap2)).size = 18 from cC_size (by simp))
    go_wp2_with (first | (go_at_call 42; refine (HG2.out _).mono ?_; rintro e w7 ⟨rfl, hw⟩; have hw := hw.symm; subst hw) | (refine wpList_load_row rfl 30 (.tmp 4) rfl w.heap.size rfl _ _ _ _ V4.out.c Tryd.underlying30 rfl (ctx_size' HS.out) ?_) | (refine st_row rfl 30 (.tmp 8) (.tmp 55) rfl (w.heap.size + 2) _ rfl rfl _ _ V4.out.t (ctx_size' HS.out) HS.out.symm cC_one ?_; intro w9 b9 k9; have R9 := hid b9; have K9 := hid k9; clear b9 k9))
    refine bodyPost_ret (results_cell_row rfl _ _ (w.heap.size + 2) _ _ _ _ rfl R9.out Tryd.underlying30 rfl (ctx_size' HS.out)) rfl ?_
    exact ⟨ao2, n2, cap2, rfl, (O4.out.ch K9.out (fun q hq e => by have e1 : q = w.heap.size + 2 := e; have := (O4.out.blk hq).1; omega)).lower (by omega), Ch.trans V4.out.g K9.out (fun q e => .inr (by have e1 : q = w.heap.size + 2 := e; omega))⟩
  · have V0 := hid (Va.new w #[.int .i64 pc, .int .i64 r0, .int .i64 r1, .int .i64 r2, .int .i64 r3, .int .i64 r4, .int .i64 r5, .int .i64 r6, .int .i64 r7, .int .i64 r8, .int .i64 r9, .int .i64 r10, .int .i64 r11, .int .i64 r12, .int .i64 r13, .int .i64 r14, .int .i64 r15, .slice ao n cap] #[.int .i64 51, .int .i64 a, .int .i64 b, .int .i64 c, .int .i64 m] #[.int .i64 0, .int .i64 0, .int .i64 0, .int .i64 0, .int .i64 0, .int .i64 0, .int .i64 0, .int .i64 0, .int .i64 0, .int .i64 0, .int .i64 0, .int .i64 0, .int .i64 0, .int .i64 0, .int .i64 0, .int .i64 0, .int .i64 0, .slice none 0 0])
    go_enter Tryd.func18, Tryd.ntmps18
    go_upto_region 2 with (first | (refine wpList_load_row rfl 30 (.tmp 4) rfl w.heap.size rfl _ _ _ _ V0.out.c Tryd.underlying30 rfl ctx_size ?_) | (go_at_call 28; refine (HA.out _ V0.out.g).mono ?_; rintro e w1 ⟨ao2, n2, cap2, rfl, o1, g1⟩; rw [cC_is]; have V1 := hid (V0.out.gr g1); have O1 := hid (show Ow eI 1 3 (w.heap.size + 3) w1 (.slice ao2 n2 cap2) ks from by simpa using o1); clear o1 g1) | (refine st_row rfl 30 (.tmp 4) (.tmp 10) rfl w.heap.size _ rfl rfl _ _ V1.out.c ctx_size rfl (one18 _ _ _ _ _ _ _ _ _ _ _ _ _ _ _ _ _ _ _ _) ?_; intro w2 b2 k2; have O2 := hid (O1.out.ch k2 (fun q hq e => by have e1 : q = w.heap.size := e; have := (O1.out.blk hq).1; omega)); have V2 := hid (V1.out.only k2 (show w2.heap[w.heap.size]? = some (.cells (cC pc [r0, r1, r2, r3, r4, r5, r6, r7, r8, r9, r10, r11, r12, r13, r14, r15] (.slice ao2 n2 cap2)) 30 (0, 0)) by rw [cC_is]; exact b2)); clear b2 k2))
    have i0 : w2.cell? ⟨w.heap.size + 1, 0, none⟩ = some (.int .i64 51) := (cell_of V2.out.i 0).trans rfl
    have i1 : w2.cell? ⟨w.heap.size + 1, 1, none⟩ = some (.int .i64 a) := (cell_of V2.out.i 1).trans rfl
    have i2 : w2.cell? ⟨w.heap.size + 1, 2, none⟩ = some (.int .i64 b) := (cell_of V2.out.i 2).trans rfl
    have i3 : w2.cell? ⟨w.heap.size + 1, 3, none⟩ = some (.int .i64 c) := (cell_of V2.out.i 3).trans rfl
    have il := lt_of_block V2.out.i
    obtain ⟨x0, hx0⟩ : ∃ x, ([r0, r1, r2, r3, r4, r5, r6, r7, r8, r9, r10, r11, r12, r13, r14, r15] : List Int)[i]? = some x := ⟨_, List.getElem?_eq_getElem (by simp; omega)⟩
    have y0 := (cell_of V2.out.c (1 + i)).trans (cC_get hx0)
    have z0 := frozen_of V2.out.c (1 + i)
    have l0 := lt_of_block V2.out.c
    clear hx0
    have K3 := hid (show Ch (Only w.heap.size) w2 (w2.setCell ⟨w.heap.size, 1 + i, none⟩ (.int .i64 v)) from (Ch.refl _ _).own (1 + i) _)
    have V3 := hid (V2.out.only K3.out (show (w2.setCell ⟨w.heap.size, 1 + i, none⟩ (.int .i64 v)).heap[w.heap.size]? = some (.cells (cC pc (([r0, r1, r2, r3, r4, r5, r6, r7, r8, r9, r10, r11, r12, r13, r14, r15] : List Int).set i v) (.slice ao2 n2 cap2)) 30 (0, 0)) by rw [← cC_set (by simp; omega)]; exact setCell_block V2.out.c (1 + i) (.int .i64 v)))
    have O3 := hid (O2.out.ch K3.out (fun q hq e => by have e1 : q = w.heap.size := e; have := (O2.out.blk hq).1; omega))
    clear K3
    go_upto_region 19 with (go_at_call 42; refine (HG.out _).mono ?_; rintro e w7 ⟨rfl, hw⟩; have hw := hw.symm; subst hw)
    clear i0 i1 i2 i3 il y0 z0 l0
    generalize w2.setCell ⟨w.heap.size, 1 + i, none⟩ (.int .i64 v) = w3 at V3 O3 ⊢
    have i0 : w3.cell? ⟨w.heap.size + 1, 0, none⟩ = some (.int .i64 51) := (cell_of V3.out.i 0).trans rfl
    have i1 : w3.cell? ⟨w.heap.size + 1, 1, none⟩ = some (.int .i64 a) := (cell_of V3.out.i 1).trans rfl
    have i2 : w3.cell? ⟨w.heap.size + 1, 2, none⟩ = some (.int .i64 b) := (cell_of V3.out.i 2).trans rfl
    have i3 : w3.cell? ⟨w.heap.size + 1, 3, none⟩ = some (.int .i64 c) := (cell_of V3.out.i 3).trans rfl
    have il := lt_of_block V3.out.i
    obtain ⟨x1, hx1⟩ : ∃ x, (([r0, r1, r2, r3, r4, r5, r6, r7, r8, r9, r10, r11, r12, r13, r14, r15] : List Int).set i v : List Int)[j]? = some x := ⟨_, List.getElem?_eq_getElem (by simp; omega)⟩
    have y1 := (cell_of V3.out.c (1 + j)).trans (cC_get hx1)
    have z1 := frozen_of V3.out.c (1 + j)
    have l1 := lt_of_block V3.out.c
    clear hx1
    have K4 := hid (show Ch (Only w.heap.size) w3 (w3.setCell ⟨w.heap.size, 1 + j, none⟩ (.int .i64 k)) from (Ch.refl _ _).own (1 + j) _)
    have V4 := hid (V3.out.only K4.out (show (w3.setCell ⟨w.heap.size, 1 + j, none⟩ (.int .i64 k)).heap[w.heap.size]? = some (.cells (cC pc ((([r0, r1, r2, r3, r4, r5, r6, r7, r8, r9, r10, r11, r12, r13, r14, r15] : List Int).set i v).set j k) (.slice ao2 n2 cap2)) 30 (0, 0)) by rw [← cC_set (by simp; omega)]; exact setCell_block V3.out.c (1 + j) (.int .i64 k)))
    have O4 := hid (O3.out.ch K4.out (fun q hq e => by have e1 : q = w.heap.size := e; have := (O3.out.blk hq).1; omega))
    clear K4
    have HS := hid (show (cC pc ((([r0, r1, r2, r3, r4, r5, r6, r7, r8, r9, r10, r11, r12, r13, r14, r15] : List Int).set i v).set j k) (.slice ao2 n2 cap2)).size = 18 from cC_size (by simp))
    go_wp2_with (first | (go_at_call 42; refine (HG2.out _).mono ?_; rintro e w7 ⟨rfl, hw⟩; have hw := hw.symm; subst hw) | (refine wpList_load_row rfl 30 (.tmp 4) rfl w.heap.size rfl _ _ _ _ V4.out.c Tryd.underlying30 rfl (ctx_size' HS.out) ?_) | (refine st_row rfl 30 (.tmp 8) (.tmp 55) rfl (w.heap.size + 2) _ rfl rfl _ _ V4.out.t (ctx_size' HS.out) HS.out.symm cC_one ?_; intro w9 b9 k9; have R9 := hid b9; have K9 := hid k9; clear b9 k9))
    refine bodyPost_ret (results_cell_row rfl _ _ (w.heap.size + 2) _ _ _ _ rfl R9.out Tryd.underlying30 rfl (ctx_size' HS.out)) rfl ?_
    exact ⟨ao2, n2, cap2, rfl, (O4.out.ch K9.out (fun q hq e => by have e1 : q = w.heap.size + 2 := e; have := (O4.out.blk hq).1; omega)).lower (by omega), Ch.trans V4.out.g K9.out (fun q e => .inr (by have e1 : q = w.heap.size + 2 := e; omega))⟩
  · have V0 := hid (Va.new w #[.int .i64 pc, .int .i64 r0, .int .i64 r1, .int .i64 r2, .int .i64 r3, .int .i64 r4, .int .i64 r5, .int .i64 r6, .int .i64 r7, .int .i64 r8, .int .i64 r9, .int .i64 r10, .int .i64 r11, .int .i64 r12, .int .i64 r13, .int .i64 r14, .int .i64 r15, .slice ao n cap] #[.int .i64 54, .int .i64 a, .int .i64 b, .int .i64 c, .int .i64 m] #[.int .i64 0, .int .i64 0, .int .i64 0, .int .i64 0, .int .i64 0, .int .i64 0, .int .i64 0, .int .i64 0, .int .i64 0, .int .i64 0, .int .i64 0, .int .i64 0, .int .i64 0, .int .i64 0, .int .i64 0, .int .i64 0, .int .i64 0, .slice none 0 0])
    go_enter Tryd.func18, Tryd.ntmps18
    go_upto_region 2 with (first | (refine wpList_load_row rfl 30 (.tmp 4) rfl w.heap.size rfl _ _ _ _ V0.out.c Tryd.underlying30 rfl ctx_size ?_) | (go_at_call 28; refine (HA.out _ V0.out.g).mono ?_; rintro e w1 ⟨ao2, n2, cap2, rfl, o1, g1⟩; rw [cC_is]; have V1 := hid (V0.out.gr g1); have O1 := hid (show Ow eI 1 3 (w.heap.size + 3) w1 (.slice ao2 n2 cap2) ks from by simpa using o1); clear o1 g1) | (refine st_row rfl 30 (.tmp 4) (.tmp 10) rfl w.heap.size _ rfl rfl _ _ V1.out.c ctx_size rfl (one18 _ _ _ _ _ _ _ _ _ _ _ _ _ _ _ _ _ _ _ _) ?_; intro w2 b2 k2; have O2 := hid (O1.out.ch k2 (fun q hq e => by have e1 : q = w.heap.size := e; have := (O1.out.blk hq).1; omega)); have V2 := hid (V1.out.only k2 (show w2.heap[w.heap.size]? = some (.cells (cC pc [r0, r1, r2, r3, r4, r5, r6, r7, r8, r9, r10, r11, r12, r13, r14, r15] (.slice ao2 n2 cap2)) 30 (0, 0)) by rw [cC_is]; exact b2)); clear b2 k2))
    have i0 : w2.cell? ⟨w.heap.size + 1, 0, none⟩ = some (.int .i64 54) := (cell_of V2.out.i 0).trans rfl
    have i1 : w2.cell? ⟨w.heap.size + 1, 1, none⟩ = some (.int .i64 a) := (cell_of V2.out.i 1).trans rfl
    have i2 : w2.cell? ⟨w.heap.size + 1, 2, none⟩ = some (.int .i64 b) := (cell_of V2.out.i 2).trans rfl
    have i3 : w2.cell? ⟨w.heap.size + 1, 3, none⟩ = some (.int .i64 c) := (cell_of V2.out.i 3).trans rfl
    have il := lt_of_block V2.out.i
    obtain ⟨x0, hx0⟩ : ∃ x, ([r0, r1, r2, r3, r4, r5, r6, r7, r8, r9, r10, r11, r12, r13, r14, r15] : List Int)[i]? = some x := ⟨_, List.getElem?_eq_getElem (by simp; omega)⟩
    have y0 := (cell_of V2.out.c (1 + i)).trans (cC_get hx0)
    have z0 := frozen_of V2.out.c (1 + i)
    have l0 := lt_of_block V2.out.c
    clear hx0
    have K3 := hid (show Ch (Only w.heap.size) w2 (w2.setCell ⟨w.heap.size, 1 + i, none⟩ (.int .i64 v)) from (Ch.refl _ _).own (1 + i) _)
    have V3 := hid (V2.out.only K3.out (show (w2.setCell ⟨w.heap.size, 1 + i, none⟩ (.int .i64 v)).heap[w.heap.size]? = some (.cells (cC pc (([r0, r1, r2, r3, r4, r5, r6, r7, r8, r9, r10, r11, r12, r13, r14, r15] : List Int).set i v) (.slice ao2 n2 cap2)) 30 (0, 0)) by rw [← cC_set (by simp; omega)]; exact setCell_block V2.out.c (1 + i) (.int .i64 v)))
    have O3 := hid (O2.out.ch K3.out (fun q hq e => by have e1 : q = w.heap.size := e; have := (O2.out.blk hq).1; omega))
    clear K3
    go_upto_region 19 with (go_at_call 42; refine (HG.out _).mono ?_; rintro e w7 ⟨rfl, hw⟩; have hw := hw.symm; subst hw)
    clear i0 i1 i2 i3 il y0 z0 l0
    generalize w2.setCell ⟨w.heap.size, 1 + i, none⟩ (.int .i64 v) = w3 at V3 O3 ⊢
    have i0 : w3.cell? ⟨w.heap.size + 1, 0, none⟩ = some (.int .i64 54) := (cell_of V3.out.i 0).trans rfl
    have i1 : w3.cell? ⟨w.heap.size + 1, 1, none⟩ = some (.int .i64 a) := (cell_of V3.out.i 1).trans rfl
    have i2 : w3.cell? ⟨w.heap.size + 1, 2, none⟩ = some (.int .i64 b) := (cell_of V3.out.i 2).trans rfl
    have i3 : w3.cell? ⟨w.heap.size + 1, 3, none⟩ = some (.int .i64 c) := (cell_of V3.out.i 3).trans rfl
    have il := lt_of_block V3.out.i
    obtain ⟨x1, hx1⟩ : ∃ x, (([r0, r1, r2, r3, r4, r5, r6, r7, r8, r9, r10, r11, r12, r13, r14, r15] : List Int).set i v : List Int)[j]? = some x := ⟨_, List.getElem?_eq_getElem (by simp; omega)⟩
    have y1 := (cell_of V3.out.c (1 + j)).trans (cC_get hx1)
    have z1 := frozen_of V3.out.c (1 + j)
    have l1 := lt_of_block V3.out.c
    clear hx1
    have K4 := hid (show Ch (Only w.heap.size) w3 (w3.setCell ⟨w.heap.size, 1 + j, none⟩ (.int .i64 k)) from (Ch.refl _ _).own (1 + j) _)
    have V4 := hid (V3.out.only K4.out (show (w3.setCell ⟨w.heap.size, 1 + j, none⟩ (.int .i64 k)).heap[w.heap.size]? = some (.cells (cC pc ((([r0, r1, r2, r3, r4, r5, r6, r7, r8, r9, r10, r11, r12, r13, r14, r15] : List Int).set i v).set j k) (.slice ao2 n2 cap2)) 30 (0, 0)) by rw [← cC_set (by simp; omega)]; exact setCell_block V3.out.c (1 + j) (.int .i64 k)))
    have O4 := hid (O3.out.ch K4.out (fun q hq e => by have e1 : q = w.heap.size := e; have := (O3.out.blk hq).1; omega))
    clear K4
    have HS := hid (show (cC pc ((([r0, r1, r2, r3, r4, r5, r6, r7, r8, r9, r10, r11, r12, r13, r14, r15] : List Int).set i v).set j k) (.slice ao2 n2 cap2)).size = 18 from cC_size (by simp))
    go_wp2_with (first | (go_at_call 42; refine (HG2.out _).mono ?_; rintro e w7 ⟨rfl, hw⟩; have hw := hw.symm; subst hw) | (refine wpList_load_row rfl 30 (.tmp 4) rfl w.heap.size rfl _ _ _ _ V4.out.c Tryd.underlying30 rfl (ctx_size' HS.out) ?_) | (refine st_row rfl 30 (.tmp 8) (.tmp 55) rfl (w.heap.size + 2) _ rfl rfl _ _ V4.out.t (ctx_size' HS.out) HS.out.symm cC_one ?_; intro w9 b9 k9; have R9 := hid b9; have K9 := hid k9; clear b9 k9))
    refine bodyPost_ret (results_cell_row rfl _ _ (w.heap.size + 2) _ _ _ _ rfl R9.out Tryd.underlying30 rfl (ctx_size' HS.out)) rfl ?_
    exact ⟨ao2, n2, cap2, rfl, (O4.out.ch K9.out (fun q hq e => by have e1 : q = w.heap.size + 2 := e; have := (O4.out.blk hq).1; omega)).lower (by omega), Ch.trans V4.out.g K9.out (fun q e => .inr (by have e1 : q = w.heap.size + 2 := e; omega))⟩
set_option maxHeartbeats 4000000 in
set_option maxRecDepth 20000 in
theorem pans_3 (P : Nat → Prop) (w : World) (pc : Int) (r : List Int) (hr : r.length = 16) (ao : Option Addr) (n cap : Nat) (ks : List Int) (hk : Ls eI P w (.slice ao n cap) ks) (hn : n ≤ 17592186044416) (o a b c m v k : Int) (ho : o = 53) :
    Calls Tryd.prog 18 #[.agg (cC pc r (.slice ao n cap)), .agg #[.int .i64 o, .int .i64 a, .int .i64 b, .int .i64 c, .int .i64 m], .int .i64 v, .int .i64 k] w (CxR w pc (r.set (rg c) v) ks) := by
  obtain ⟨r0, r1, r2, r3, r4, r5, r6, r7, r8, r9, r10, r11, r12, r13, r14, r15, rfl⟩ := regs16 hr
  have HA := hid (fun (W : World) (p : Gr w W) => apart_any P W pc [r0, r1, r2, r3, r4, r5, r6, r7, r8, r9, r10, r11, r12, r13, r14, r15] rfl ao n cap ks (hk.gr p) hn)
  rw [cC_is]
  rw [cC_is] at HA
  have HG := hid (fun (W : World) => register_any c W)
  rw [rg_is] at HG
  have hi := rg_lt c
  generalize rg c = i at hi HG ⊢
  have i0 : (0 : Int) ≤ (i : Int) := by omega
  have i1 : (i : Int) < 16 := by omega
  clear hr hk
  subst ho
  have V0 := hid (Va.new w #[.int .i64 pc, .int .i64 r0, .int .i64 r1, .int .i64 r2, .int .i64 r3, .int .i64 r4, .int .i64 r5, .int .i64 r6, .int .i64 r7, .int .i64 r8, .int .i64 r9, .int .i64 r10, .int .i64 r11, .int .i64 r12, .int .i64 r13, .int .i64 r14, .int .i64 r15, .slice ao n cap] #[.int .i64 53, .int .i64 a, .int .i64 b, .int .i64 c, .int .i64 m] #[.int .i64 0, .int .i64 0, .int .i64 0, .int .i64 0, .int .i64 0, .int .i64 0, .int .i64 0, .int .i64 0, .int .i64 0, .int .i64 0, .int .i64 0, .int .i64 0, .int .i64 0, .int .i64 0, .int .i64 0, .int .i64 0, .int .i64 0, .slice none 0 0])
  go_enter Tryd.func18, Tryd.ntmps18
  go_upto_region 2 with (first | (refine wpList_load_row rfl 30 (.tmp 4) rfl w.heap.size rfl _ _ _ _ V0.out.c Tryd.underlying30 rfl ctx_size ?_) | (go_at_call 28; refine (HA.out _ V0.out.g).mono ?_; rintro e w1 ⟨ao2, n2, cap2, rfl, o1, g1⟩; rw [cC_is]; have V1 := hid (V0.out.gr g1); have O1 := hid (show Ow eI 1 3 (w.heap.size + 3) w1 (.slice ao2 n2 cap2) ks from by simpa using o1); clear o1 g1) | (refine st_row rfl 30 (.tmp 4) (.tmp 10) rfl w.heap.size _ rfl rfl _ _ V1.out.c ctx_size rfl (one18 _ _ _ _ _ _ _ _ _ _ _ _ _ _ _ _ _ _ _ _) ?_; intro w2 b2 k2; have O2 := hid (O1.out.ch k2 (fun q hq e => by have e1 : q = w.heap.size := e; have := (O1.out.blk hq).1; omega)); have V2 := hid (V1.out.only k2 (show w2.heap[w.heap.size]? = some (.cells (cC pc [r0, r1, r2, r3, r4, r5, r6, r7, r8, r9, r10, r11, r12, r13, r14, r15] (.slice ao2 n2 cap2)) 30 (0, 0)) by rw [cC_is]; exact b2)); clear b2 k2))
  have i0 : w2.cell? ⟨w.heap.size + 1, 0, none⟩ = some (.int .i64 53) := (cell_of V2.out.i 0).trans rfl
  have i1 : w2.cell? ⟨w.heap.size + 1, 1, none⟩ = some (.int .i64 a) := (cell_of V2.out.i 1).trans rfl
  have i2 : w2.cell? ⟨w.heap.size + 1, 2, none⟩ = some (.int .i64 b) := (cell_of V2.out.i 2).trans rfl
  have i3 : w2.cell? ⟨w.heap.size + 1, 3, none⟩ = some (.int .i64 c) := (cell_of V2.out.i 3).trans rfl
  have il := lt_of_block V2.out.i
  obtain ⟨x0, hx0⟩ : ∃ x, ([r0, r1, r2, r3, r4, r5, r6, r7, r8, r9, r10, r11, r12, r13, r14, r15] : List Int)[i]? = some x := ⟨_, List.getElem?_eq_getElem (by simp; omega)⟩
  have y0 := (cell_of V2.out.c (1 + i)).trans (cC_get hx0)
  have z0 := frozen_of V2.out.c (1 + i)
  have l0 := lt_of_block V2.out.c
  clear hx0
  have K3 := hid (show Ch (Only w.heap.size) w2 (w2.setCell ⟨w.heap.size, 1 + i, none⟩ (.int .i64 v)) from (Ch.refl _ _).own (1 + i) _)
  have V3 := hid (V2.out.only K3.out (show (w2.setCell ⟨w.heap.size, 1 + i, none⟩ (.int .i64 v)).heap[w.heap.size]? = some (.cells (cC pc (([r0, r1, r2, r3, r4, r5, r6, r7, r8, r9, r10, r11, r12, r13, r14, r15] : List Int).set i v) (.slice ao2 n2 cap2)) 30 (0, 0)) by rw [← cC_set (by simp; omega)]; exact setCell_block V2.out.c (1 + i) (.int .i64 v)))
  have O3 := hid (O2.out.ch K3.out (fun q hq e => by have e1 : q = w.heap.size := e; have := (O2.out.blk hq).1; omega))
  clear K3
  have HS := hid (show (cC pc (([r0, r1, r2, r3, r4, r5, r6, r7, r8, r9, r10, r11, r12, r13, r14, r15] : List Int).set i v) (.slice ao2 n2 cap2)).size = 18 from cC_size (by simp))
  go_wp2_with (first | (go_at_call 42; refine (HG.out _).mono ?_; rintro e w7 ⟨rfl, hw⟩; have hw := hw.symm; subst hw) | (refine wpList_load_row rfl 30 (.tmp 4) rfl w.heap.size rfl _ _ _ _ V3.out.c Tryd.underlying30 rfl (ctx_size' HS.out) ?_) | (refine st_row rfl 30 (.tmp 8) (.tmp 55) rfl (w.heap.size + 2) _ rfl rfl _ _ V3.out.t (ctx_size' HS.out) HS.out.symm cC_one ?_; intro w9 b9 k9; have R9 := hid b9; have K9 := hid k9; clear b9 k9))
  refine bodyPost_ret (results_cell_row rfl _ _ (w.heap.size + 2) _ _ _ _ rfl R9.out Tryd.underlying30 rfl (ctx_size' HS.out)) rfl ?_
  exact ⟨ao2, n2, cap2, rfl, (O3.out.ch K9.out (fun q hq e => by have e1 : q = w.heap.size + 2 := e; have := (O3.out.blk hq).1; omega)).lower (by omega), Ch.trans V3.out.g K9.out (fun q e => .inr (by have e1 : q = w.heap.size + 2 := e; omega))⟩
end Go.Proofs.YtcdlhfodeckleaaDoor.Lt
