/-
  What the document's Same answers of contexts that read the same. No conditions.
-/
import Derived.Test.YtcdlhfodeckleaaDoorStEq
namespace Go.Proofs.YtcdlhfodeckleaaDoor.Lt
open Go.RowKit Wd

set_option maxHeartbeats 2000000 in
set_option maxRecDepth 20000 in
theorem same9_any (P Q : Nat → Prop) (w : World) (pc : Int) (r : List Int) (hr : r.length = 16) (ao bo : Option Addr) (n ca cb : Nat) (ks : List Int) (h : Ls eI P w (.slice ao n ca) ks) (k : Ls eI Q w (.slice bo n cb) ks) (hn : n ≤ 17592186044416) :
    Calls Tryd.prog 12 #[.agg (cC pc r (.slice ao n ca)), .agg (cC pc r (.slice bo n cb))] w fun e w' => e = .returned (.bool true) ∧ Gr w w' := by
  obtain ⟨r0, r1, r2, r3, r4, r5, r6, r7, r8, r9, r10, r11, r12, r13, r14, r15, rfl⟩ := regs16 hr
  rw [cC_is, cC_is]
  have HL := hid h.len.1
  have HA := hid (show Ls eI P ((w.alloc (.cells #[.int .i64 pc, .int .i64 r0, .int .i64 r1, .int .i64 r2, .int .i64 r3, .int .i64 r4, .int .i64 r5, .int .i64 r6, .int .i64 r7, .int .i64 r8, .int .i64 r9, .int .i64 r10, .int .i64 r11, .int .i64 r12, .int .i64 r13, .int .i64 r14, .int .i64 r15, .slice ao n ca] 30)).alloc (.cells #[.int .i64 pc, .int .i64 r0, .int .i64 r1, .int .i64 r2, .int .i64 r3, .int .i64 r4, .int .i64 r5, .int .i64 r6, .int .i64 r7, .int .i64 r8, .int .i64 r9, .int .i64 r10, .int .i64 r11, .int .i64 r12, .int .i64 r13, .int .i64 r14, .int .i64 r15, .slice bo n cb] 30)) (.slice ao n ca) ks from (h.alloc _).alloc _)
  have HB := hid (show Ls eI Q ((w.alloc (.cells #[.int .i64 pc, .int .i64 r0, .int .i64 r1, .int .i64 r2, .int .i64 r3, .int .i64 r4, .int .i64 r5, .int .i64 r6, .int .i64 r7, .int .i64 r8, .int .i64 r9, .int .i64 r10, .int .i64 r11, .int .i64 r12, .int .i64 r13, .int .i64 r14, .int .i64 r15, .slice ao n ca] 30)).alloc (.cells #[.int .i64 pc, .int .i64 r0, .int .i64 r1, .int .i64 r2, .int .i64 r3, .int .i64 r4, .int .i64 r5, .int .i64 r6, .int .i64 r7, .int .i64 r8, .int .i64 r9, .int .i64 r10, .int .i64 r11, .int .i64 r12, .int .i64 r13, .int .i64 r14, .int .i64 r15, .slice bo n cb] 30)) (.slice bo n cb) ks from (k.alloc _).alloc _)
  have G0 := hid (show Gr w ((w.alloc (.cells #[.int .i64 pc, .int .i64 r0, .int .i64 r1, .int .i64 r2, .int .i64 r3, .int .i64 r4, .int .i64 r5, .int .i64 r6, .int .i64 r7, .int .i64 r8, .int .i64 r9, .int .i64 r10, .int .i64 r11, .int .i64 r12, .int .i64 r13, .int .i64 r14, .int .i64 r15, .slice ao n ca] 30)).alloc (.cells #[.int .i64 pc, .int .i64 r0, .int .i64 r1, .int .i64 r2, .int .i64 r3, .int .i64 r4, .int .i64 r5, .int .i64 r6, .int .i64 r7, .int .i64 r8, .int .i64 r9, .int .i64 r10, .int .i64 r11, .int .i64 r12, .int .i64 r13, .int .i64 r14, .int .i64 r15, .slice bo n cb] 30)) from Ch.alloc (Ch.alloc (Gr.refl w) _) _)
  have B1 := hid (show ((w.alloc (.cells #[.int .i64 pc, .int .i64 r0, .int .i64 r1, .int .i64 r2, .int .i64 r3, .int .i64 r4, .int .i64 r5, .int .i64 r6, .int .i64 r7, .int .i64 r8, .int .i64 r9, .int .i64 r10, .int .i64 r11, .int .i64 r12, .int .i64 r13, .int .i64 r14, .int .i64 r15, .slice ao n ca] 30)).alloc (.cells #[.int .i64 pc, .int .i64 r0, .int .i64 r1, .int .i64 r2, .int .i64 r3, .int .i64 r4, .int .i64 r5, .int .i64 r6, .int .i64 r7, .int .i64 r8, .int .i64 r9, .int .i64 r10, .int .i64 r11, .int .i64 r12, .int .i64 r13, .int .i64 r14, .int .i64 r15, .slice bo n cb] 30)).heap[w.heap.size]? = some (.cells #[.int .i64 pc, .int .i64 r0, .int .i64 r1, .int .i64 r2, .int .i64 r3, .int .i64 r4, .int .i64 r5, .int .i64 r6, .int .i64 r7, .int .i64 r8, .int .i64 r9, .int .i64 r10, .int .i64 r11, .int .i64 r12, .int .i64 r13, .int .i64 r14, .int .i64 r15, .slice ao n ca] 30 (0, 0)) from al_blk (MapKept.heap_alloc w _).1 _)
  have B2 := hid (show ((w.alloc (.cells #[.int .i64 pc, .int .i64 r0, .int .i64 r1, .int .i64 r2, .int .i64 r3, .int .i64 r4, .int .i64 r5, .int .i64 r6, .int .i64 r7, .int .i64 r8, .int .i64 r9, .int .i64 r10, .int .i64 r11, .int .i64 r12, .int .i64 r13, .int .i64 r14, .int .i64 r15, .slice ao n ca] 30)).alloc (.cells #[.int .i64 pc, .int .i64 r0, .int .i64 r1, .int .i64 r2, .int .i64 r3, .int .i64 r4, .int .i64 r5, .int .i64 r6, .int .i64 r7, .int .i64 r8, .int .i64 r9, .int .i64 r10, .int .i64 r11, .int .i64 r12, .int .i64 r13, .int .i64 r14, .int .i64 r15, .slice bo n cb] 30)).heap[w.heap.size + 1]? = some (.cells #[.int .i64 pc, .int .i64 r0, .int .i64 r1, .int .i64 r2, .int .i64 r3, .int .i64 r4, .int .i64 r5, .int .i64 r6, .int .i64 r7, .int .i64 r8, .int .i64 r9, .int .i64 r10, .int .i64 r11, .int .i64 r12, .int .i64 r13, .int .i64 r14, .int .i64 r15, .slice bo n cb] 30 (0, 0)) by simpa using (MapKept.heap_alloc (w.alloc (.cells #[.int .i64 pc, .int .i64 r0, .int .i64 r1, .int .i64 r2, .int .i64 r3, .int .i64 r4, .int .i64 r5, .int .i64 r6, .int .i64 r7, .int .i64 r8, .int .i64 r9, .int .i64 r10, .int .i64 r11, .int .i64 r12, .int .i64 r13, .int .i64 r14, .int .i64 r15, .slice ao n ca] 30)) (.cells #[.int .i64 pc, .int .i64 r0, .int .i64 r1, .int .i64 r2, .int .i64 r3, .int .i64 r4, .int .i64 r5, .int .i64 r6, .int .i64 r7, .int .i64 r8, .int .i64 r9, .int .i64 r10, .int .i64 r11, .int .i64 r12, .int .i64 r13, .int .i64 r14, .int .i64 r15, .slice bo n cb] 30)).1)
  have h16 := fun W => eq16 r0 r1 r2 r3 r4 r5 r6 r7 r8 r9 r10 r11 r12 r13 r14 r15 W
  clear h k hr
  go_enter Tryd.func12, Tryd.ntmps12
  go_wp2_with fail
  go_loopg [5] n (fun q i wq => ∃ j : Nat, j + q = n ∧ i = .int .i64 ((j : Nat) : Int) ∧ Gr ((w.alloc (.cells #[.int .i64 pc, .int .i64 r0, .int .i64 r1, .int .i64 r2, .int .i64 r3, .int .i64 r4, .int .i64 r5, .int .i64 r6, .int .i64 r7, .int .i64 r8, .int .i64 r9, .int .i64 r10, .int .i64 r11, .int .i64 r12, .int .i64 r13, .int .i64 r14, .int .i64 r15, .slice ao n ca] 30)).alloc (.cells #[.int .i64 pc, .int .i64 r0, .int .i64 r1, .int .i64 r2, .int .i64 r3, .int .i64 r4, .int .i64 r5, .int .i64 r6, .int .i64 r7, .int .i64 r8, .int .i64 r9, .int .i64 r10, .int .i64 r11, .int .i64 r12, .int .i64 r13, .int .i64 r14, .int .i64 r15, .slice bo n cb] 30)) wq)
  case atStart => exact ⟨0, by omega, rfl, Gr.refl _⟩
  case round =>
    obtain ⟨j, hjm, rfl, hG⟩ := hrel
    have HG := hid hG
    have b1 := gr_blk B1.out hG
    have b2 := gr_blk B2.out hG
    have a17 : wr.cell? ⟨w.heap.size, 17, none⟩ = some (.slice ao n ca) := (cell_of b1 17).trans rfl
    have b17 : wr.cell? ⟨w.heap.size + 1, 17, none⟩ = some (.slice bo n cb) := (cell_of b2 17).trans rfl
    have la := lt_of_block b1
    have lb := lt_of_block b2
    clear hG b1 b2
    by_cases hj : j < n
    · obtain ⟨x, hx⟩ : ∃ x, ks[j]? = some x := ⟨_, List.getElem?_eq_getElem (by rw [← HL.out]; exact hj)⟩
      obtain ⟨g, o, cap', hv, _, hgl, _, hcs⟩ := HA.out.get eI_len hx
      injection hv with hv1 hv2 hv3
      subst hv1
      obtain ⟨g', o', cap'', hv', _, hgl', _, hcs'⟩ := HB.out.get eI_len hx
      injection hv' with hw1 hw2 hw3
      subst hw1
      have c0 := (HG.out.cell hgl).trans (hcs 0 _ rfl)
      rw [Nat.mul_one, Nat.add_zero] at c0
      have d0 := (HG.out.cell hgl').trans (hcs' 0 _ rfl)
      rw [Nat.mul_one, Nat.add_zero] at d0
      have lg : g < wr.heap.size := Nat.lt_of_lt_of_le hgl HG.out.size
      have lg' : g' < wr.heap.size := Nat.lt_of_lt_of_le hgl' HG.out.size
      have j0 : (0 : Int) ≤ (j : Int) := by omega
      have j1 : (j : Int) < (n : Int) := by omega
      clear hcs hv2 hv3 hx hcs' hw2 hw3 hgl hgl'
      go_wp2_with fail
      go_region
      all_goals go_wp2_with fail
      all_goals go_roundg (gk - 1)
      all_goals first | omega | exact ⟨j + 1, by omega, by simp, by first | exact HG.out | exact Ch.drew HG.out | exact Ch.drewN HG.out _⟩
    · have jn : ¬ (j : Int) < (n : Int) := by omega
      go_wp2
      go_ret
      exact ⟨rfl, Gr.trans G0.out HG.out⟩
end Go.Proofs.YtcdlhfodeckleaaDoor.Lt
