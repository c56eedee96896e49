/-
  What the program's apart, the law's ints and twin, and the document's calls answer. No conditions.
-/
import Derived.Test.YtcdlhfodeckleaaDoorStBase
import Derived.Deep.DeepCutAuto
namespace Go.Proofs.YtcdlhfodeckleaaDoor.Lt
open Go.RowKit Wd

/-- a list of its own is told -/
def NxR (w : World) (xs : List Int) (e : Ending) (w' : World) : Prop := ∃ v, e = .returned v ∧ Ow eI 1 3 w.heap.size w' v xs ∧ Gr w w'
set_option maxHeartbeats 1000000 in
set_option maxRecDepth 20000 in
theorem apart_any (P : Nat → Prop) (w : World) (pc : Int) (r : List Int) (hr : r.length = 16) (ao : Option Addr) (n cap : Nat) (ks : List Int) (h : Ls eI P w (.slice ao n cap) ks) (hn : n ≤ 17592186044416) :
    Calls Tryd.prog 28 #[.agg (cC pc r (.slice ao n cap))] w (CxR w pc r ks) := by
  obtain ⟨r0, r1, r2, r3, r4, r5, r6, r7, r8, r9, r10, r11, r12, r13, r14, r15, rfl⟩ := regs16 hr
  rw [cC_is]
  have HL := hid (show Ls eI P ((w.alloc (.cells #[.int .i64 pc, .int .i64 r0, .int .i64 r1, .int .i64 r2, .int .i64 r3, .int .i64 r4, .int .i64 r5, .int .i64 r6, .int .i64 r7, .int .i64 r8, .int .i64 r9, .int .i64 r10, .int .i64 r11, .int .i64 r12, .int .i64 r13, .int .i64 r14, .int .i64 r15, .slice ao n cap] 30)).alloc (.cells #[.int .i64 0, .int .i64 0, .int .i64 0, .int .i64 0, .int .i64 0, .int .i64 0, .int .i64 0, .int .i64 0, .int .i64 0, .int .i64 0, .int .i64 0, .int .i64 0, .int .i64 0, .int .i64 0, .int .i64 0, .int .i64 0, .int .i64 0, .slice none 0 0] 30)) (.slice ao n cap) ks from (h.alloc _).alloc _)
  have HN := hid h.len.1
  have B1 := hid (show ((w.alloc (.cells #[.int .i64 pc, .int .i64 r0, .int .i64 r1, .int .i64 r2, .int .i64 r3, .int .i64 r4, .int .i64 r5, .int .i64 r6, .int .i64 r7, .int .i64 r8, .int .i64 r9, .int .i64 r10, .int .i64 r11, .int .i64 r12, .int .i64 r13, .int .i64 r14, .int .i64 r15, .slice ao n cap] 30)).alloc (.cells #[.int .i64 0, .int .i64 0, .int .i64 0, .int .i64 0, .int .i64 0, .int .i64 0, .int .i64 0, .int .i64 0, .int .i64 0, .int .i64 0, .int .i64 0, .int .i64 0, .int .i64 0, .int .i64 0, .int .i64 0, .int .i64 0, .int .i64 0, .slice none 0 0] 30)).heap[w.heap.size]? = some (.cells #[.int .i64 pc, .int .i64 r0, .int .i64 r1, .int .i64 r2, .int .i64 r3, .int .i64 r4, .int .i64 r5, .int .i64 r6, .int .i64 r7, .int .i64 r8, .int .i64 r9, .int .i64 r10, .int .i64 r11, .int .i64 r12, .int .i64 r13, .int .i64 r14, .int .i64 r15, .slice ao n cap] 30 (0, 0)) from al_blk (MapKept.heap_alloc w _).1 _)
  have B2 := hid (show ((w.alloc (.cells #[.int .i64 pc, .int .i64 r0, .int .i64 r1, .int .i64 r2, .int .i64 r3, .int .i64 r4, .int .i64 r5, .int .i64 r6, .int .i64 r7, .int .i64 r8, .int .i64 r9, .int .i64 r10, .int .i64 r11, .int .i64 r12, .int .i64 r13, .int .i64 r14, .int .i64 r15, .slice ao n cap] 30)).alloc (.cells #[.int .i64 0, .int .i64 0, .int .i64 0, .int .i64 0, .int .i64 0, .int .i64 0, .int .i64 0, .int .i64 0, .int .i64 0, .int .i64 0, .int .i64 0, .int .i64 0, .int .i64 0, .int .i64 0, .int .i64 0, .int .i64 0, .int .i64 0, .slice none 0 0] 30)).heap[w.heap.size + 1]? = some (.cells #[.int .i64 0, .int .i64 0, .int .i64 0, .int .i64 0, .int .i64 0, .int .i64 0, .int .i64 0, .int .i64 0, .int .i64 0, .int .i64 0, .int .i64 0, .int .i64 0, .int .i64 0, .int .i64 0, .int .i64 0, .int .i64 0, .int .i64 0, .slice none 0 0] 30 (0, 0)) by simpa using (MapKept.heap_alloc (w.alloc (.cells #[.int .i64 pc, .int .i64 r0, .int .i64 r1, .int .i64 r2, .int .i64 r3, .int .i64 r4, .int .i64 r5, .int .i64 r6, .int .i64 r7, .int .i64 r8, .int .i64 r9, .int .i64 r10, .int .i64 r11, .int .i64 r12, .int .i64 r13, .int .i64 r14, .int .i64 r15, .slice ao n cap] 30)) (.cells #[.int .i64 0, .int .i64 0, .int .i64 0, .int .i64 0, .int .i64 0, .int .i64 0, .int .i64 0, .int .i64 0, .int .i64 0, .int .i64 0, .int .i64 0, .int .i64 0, .int .i64 0, .int .i64 0, .int .i64 0, .int .i64 0, .int .i64 0, .slice none 0 0] 30)).1)
  have G0 := hid (show Gr w ((w.alloc (.cells #[.int .i64 pc, .int .i64 r0, .int .i64 r1, .int .i64 r2, .int .i64 r3, .int .i64 r4, .int .i64 r5, .int .i64 r6, .int .i64 r7, .int .i64 r8, .int .i64 r9, .int .i64 r10, .int .i64 r11, .int .i64 r12, .int .i64 r13, .int .i64 r14, .int .i64 r15, .slice ao n cap] 30)).alloc (.cells #[.int .i64 0, .int .i64 0, .int .i64 0, .int .i64 0, .int .i64 0, .int .i64 0, .int .i64 0, .int .i64 0, .int .i64 0, .int .i64 0, .int .i64 0, .int .i64 0, .int .i64 0, .int .i64 0, .int .i64 0, .int .i64 0, .int .i64 0, .slice none 0 0] 30)) from Ch.alloc (Ch.alloc (Gr.refl w) _) _)
  clear h hr
  go_enter Tryd.func28, Tryd.ntmps28
  go_upto_region 2 with (at_builtin; refine wpList_append_ow eI_len rfl (.const (.slice none 0 0)) (.tmp 4) _ 3 8 _ Tryd.underlying28 int_info rfl (by omega) rfl (w.heap.size + 2) _ [] rfl (Ow.nil _ _ _ _ _) P _ ks rfl HL.out (eI_one _) n (by rw [HN.out]; simp) (by omega) (by unfold maxLen; omega) (by simp) ks (List.nil_append _) ?_; intro ao9 cap9 w2 ow2 cw2 bl2; obtain ⟨v2, hv9⟩ : ∃ v, v = Value.slice ao9 n cap9 := ⟨_, rfl⟩; rw [← hv9] at ow2; rw [← hv9]; have F2 := hid (show ∃ a n c, v2 = .slice a n c from ⟨_, _, _, hv9⟩); have O2 := hid ow2; have C2 := hid (show Gr ((w.alloc (.cells #[.int .i64 pc, .int .i64 r0, .int .i64 r1, .int .i64 r2, .int .i64 r3, .int .i64 r4, .int .i64 r5, .int .i64 r6, .int .i64 r7, .int .i64 r8, .int .i64 r9, .int .i64 r10, .int .i64 r11, .int .i64 r12, .int .i64 r13, .int .i64 r14, .int .i64 r15, .slice ao n cap] 30)).alloc (.cells #[.int .i64 0, .int .i64 0, .int .i64 0, .int .i64 0, .int .i64 0, .int .i64 0, .int .i64 0, .int .i64 0, .int .i64 0, .int .i64 0, .int .i64 0, .int .i64 0, .int .i64 0, .int .i64 0, .int .i64 0, .int .i64 0, .int .i64 0, .slice none 0 0] 30)) w2 from cw2.mono (fun q e => by cases e)); clear ow2 cw2 bl2 hv9; obtain ⟨ao2, n2, cap2, hv2⟩ : ∃ a n c, v2 = .slice a n c := F2.out; subst hv2; have b1 := gr_blk B1.out C2.out; have BB1 := hid b1; have BB2 := hid (gr_blk B2.out C2.out); have c17 : w2.cell? ⟨w.heap.size, 17, none⟩ = some (.slice ao n cap) := (cell_of b1 17).trans rfl; have z17 := frozen_of b1 17; have l1 := lt_of_block b1; clear b1)
  have D1 := hid (show (w2.setCell ⟨w.heap.size, 17, none⟩ (.slice ao2 n2 cap2)).heap[w.heap.size]? = some (.cells #[.int .i64 pc, .int .i64 r0, .int .i64 r1, .int .i64 r2, .int .i64 r3, .int .i64 r4, .int .i64 r5, .int .i64 r6, .int .i64 r7, .int .i64 r8, .int .i64 r9, .int .i64 r10, .int .i64 r11, .int .i64 r12, .int .i64 r13, .int .i64 r14, .int .i64 r15, .slice ao2 n2 cap2] 30 (0, 0)) by simpa using setCell_block BB1.out 17 (.slice ao2 n2 cap2))
  have K2 := hid (show Ch (Only w.heap.size) w2 (w2.setCell ⟨w.heap.size, 17, none⟩ (.slice ao2 n2 cap2)) from (Ch.refl _ _).own 17 _)
  have D2 := hid (show (w2.setCell ⟨w.heap.size, 17, none⟩ (.slice ao2 n2 cap2)).heap[w.heap.size + 1]? = some (.cells #[.int .i64 0, .int .i64 0, .int .i64 0, .int .i64 0, .int .i64 0, .int .i64 0, .int .i64 0, .int .i64 0, .int .i64 0, .int .i64 0, .int .i64 0, .int .i64 0, .int .i64 0, .int .i64 0, .int .i64 0, .int .i64 0, .int .i64 0, .slice none 0 0] 30 (0, 0)) from (K2.out.block _ (lt_of_block BB2.out) (fun q => by have q1 : w.heap.size + 1 = w.heap.size := q; omega)).trans BB2.out)
  have O3 := hid (show Ow eI 1 3 (w.heap.size + 2) (w2.setCell ⟨w.heap.size, 17, none⟩ (.slice ao2 n2 cap2)) (.slice ao2 n2 cap2) ks from O2.out.ch K2.out (fun q hq e => by have e1 : q = w.heap.size := e; have := (O2.out.blk hq).1; omega))
  have G3 := hid (show Gr w (w2.setCell ⟨w.heap.size, 17, none⟩ (.slice ao2 n2 cap2)) from Ch.fresh (Gr.trans G0.out C2.out) (Nat.le_refl _) 17 _)
  clear c17 z17 l1
  generalize w2.setCell ⟨w.heap.size, 17, none⟩ (.slice ao2 n2 cap2) = W3 at D1 D2 O3 G3 ⊢
  go_wp2_with (first | (refine wpList_load_row rfl 30 (.tmp 1) rfl w.heap.size rfl _ _ _ _ D1.out Tryd.underlying30 rfl ctx_size ?_) | (refine st_row rfl 30 (.tmp 2) (.tmp 7) rfl (w.heap.size + 1) _ rfl rfl _ _ D2.out ctx_size rfl (one18 _ _ _ _ _ _ _ _ _ _ _ _ _ _ _ _ _ _ _ _) ?_; intro w4 b4 k4; have B4 := hid b4; have K4 := hid k4; clear b4 k4))
  refine bodyPost_ret (results_cell_row rfl _ _ (w.heap.size + 1) _ _ _ _ rfl B4.out Tryd.underlying30 rfl ctx_size) rfl ?_
  exact ⟨ao2, n2, cap2, rfl, (O3.out.ch K4.out (fun q hq e => by have e1 : q = w.heap.size + 1 := e; have := (O3.out.blk hq).1; omega)).lower (by omega), Ch.trans G3.out K4.out (fun q e => .inr (by have e1 : q = w.heap.size + 1 := e; omega))⟩
theorem ow_empty (w : World) : Ow eI 1 3 w.heap.size (w.alloc (.cells #[] 3)) (.slice (some ⟨w.heap.size, 0, none⟩) 0 0) [] := ⟨rfl, .inr ⟨w.heap.size, 0, #[], rfl, Nat.le_refl _, (MapKept.heap_alloc w _).1, Nat.le_refl _, by unfold maxLen; omega, rfl, rfl⟩⟩
set_option maxRecDepth 20000 in
theorem ints_any (P : Nat → Prop) (w : World) (ao : Option Addr) (n cap : Nat) (ks : List Int) (h : Ls eI P w (.slice ao n cap) ks) (hn : n ≤ 17592186044416) :
    Calls Tryd.prog 25 #[.slice ao n cap] w (NxR w ks) := by
  have HL := hid h.len.1
  have HB := hid h
  have HE := hid (ow_empty w)
  have K0 := hid (show Gr w (w.alloc (.cells #[] 3)) from Ch.alloc (Gr.refl w) _)
  clear h
  go_enter Tryd.func25, Tryd.ntmps25
  go_wp2_with fail
  go_loopg [3, 4] n (fun m o i wq => ∃ (j k c : Nat) (a : Option Addr), j + m = n ∧ i = .int .i64 ((j : Nat) : Int) ∧ o = .slice a k c ∧ k = j ∧ Ow eI 1 3 w.heap.size wq (.slice a k c) (ks.take j) ∧ Gr w wq)
  case atStart => exact ⟨0, 0, 0, _, by omega, rfl, rfl, rfl, HE.out, K0.out⟩
  case round =>
    obtain ⟨j, k, c, a, hjm, rfl, rfl, rfl, hO, hG⟩ := hrel
    have HO := hid hO
    have HG := hid hG
    clear hO hG
    by_cases hj : k < n
    · obtain ⟨x, hx⟩ : ∃ x, ks[k]? = some x := ⟨_, List.getElem?_eq_getElem (by rw [← HL.out]; exact hj)⟩
      obtain ⟨g, o, cap', hv, _, hgl, _, hcs⟩ := HB.out.get eI_len hx
      injection hv with hv1 hv2 hv3
      subst hv1
      have c0 := (HG.out.cell hgl).trans (hcs 0 _ rfl)
      rw [Nat.mul_one, Nat.add_zero] at c0
      have lg : g < wr.heap.size := Nat.lt_of_lt_of_le hgl HG.out.size
      have j0 : (0 : Int) ≤ (k : Int) := by omega
      have j1 : (k : Int) < (n : Int) := by omega
      have HT := hid (take_one hx)
      have HS := hid (show w.heap.size ≤ wr.heap.size from HG.out.size)
      have HKL := hid (show k = (ks.take k).length from HO.out.len.1)
      generalize ks.take k = zs at HO HT HKL
      clear hcs hv2 hv3 hx hgl
      go_wp2_with (at_builtin; refine wpList_append_ow eI_len rfl (.tmp 12) (.tmp 17) _ 3 8 _ Tryd.underlying28 int_info rfl (by omega) rfl w.heap.size _ zs rfl (HO.out.alloc _) _ _ [x] rfl (ls_int _ _ _ (by simp)) (eI_one _) (k + 1) (by rw [← HKL.out]; rfl) (by omega) (by unfold maxLen; omega) (by simp; have := HS.out; omega) (zs ++ [x]) rfl ?_; intro ao5 cap5 w5 ow5 cw5 bl5; have O5 := hid ow5; have G5 := hid (show Gr w w5 from Ch.trans (Ch.alloc HG.out _) cw5 (fun q h => .inr (HO.out.blk h).1)); clear ow5 cw5 bl5)
      clear c0
      go_roundg (gk - 1)
      case measure => omega
      case rel => exact ⟨k + 1, k + 1, cap5, ao5, by omega, by simp, rfl, rfl, by rw [HT.out]; exact O5.out, G5.out⟩
    · have jn : ¬ (k : Int) < (n : Int) := by omega
      have HT := hid (show ks.take k = ks from List.take_of_length_le (by rw [← HL.out]; omega))
      rw [HT.out] at HO
      go_wp2
      go_ret
      exact ⟨_, rfl, HO.out, HG.out⟩
set_option maxRecDepth 20000 in
theorem rcalls9_any (P : Nat → Prop) (w : World) (ao : Option Addr) (n cap : Nat) (ks : List Int) (h : Ls eI P w (.slice ao n cap) ks) (hn : n ≤ 17592186044416) :
    Calls Tryd.prog 38 #[.slice ao n cap] w (NxR w ks) := by
  have HL := hid h.len.1
  have HB := hid h
  have HE := hid (ow_empty w)
  have K0 := hid (show Gr w (w.alloc (.cells #[] 3)) from Ch.alloc (Gr.refl w) _)
  clear h
  go_enter Tryd.func38, Tryd.ntmps38
  go_wp2_with fail
  go_loopg [3, 4] n (fun m o i wq => ∃ (j k c : Nat) (a : Option Addr), j + m = n ∧ i = .int .i64 ((j : Nat) : Int) ∧ o = .slice a k c ∧ k = j ∧ Ow eI 1 3 w.heap.size wq (.slice a k c) (ks.take j) ∧ Gr w wq)
  case atStart => exact ⟨0, 0, 0, _, by omega, rfl, rfl, rfl, HE.out, K0.out⟩
  case round =>
    obtain ⟨j, k, c, a, hjm, rfl, rfl, rfl, hO, hG⟩ := hrel
    have HO := hid hO
    have HG := hid hG
    clear hO hG
    by_cases hj : k < n
    · obtain ⟨x, hx⟩ : ∃ x, ks[k]? = some x := ⟨_, List.getElem?_eq_getElem (by rw [← HL.out]; exact hj)⟩
      obtain ⟨g, o, cap', hv, _, hgl, _, hcs⟩ := HB.out.get eI_len hx
      injection hv with hv1 hv2 hv3
      subst hv1
      have c0 := (HG.out.cell hgl).trans (hcs 0 _ rfl)
      rw [Nat.mul_one, Nat.add_zero] at c0
      have lg : g < wr.heap.size := Nat.lt_of_lt_of_le hgl HG.out.size
      have j0 : (0 : Int) ≤ (k : Int) := by omega
      have j1 : (k : Int) < (n : Int) := by omega
      have HT := hid (take_one hx)
      have HS := hid (show w.heap.size ≤ wr.heap.size from HG.out.size)
      have HKL := hid (show k = (ks.take k).length from HO.out.len.1)
      generalize ks.take k = zs at HO HT HKL
      clear hcs hv2 hv3 hx hgl
      go_wp2_with (at_builtin; refine wpList_append_ow eI_len rfl (.tmp 12) (.tmp 17) _ 3 8 _ Tryd.underlying28 int_info rfl (by omega) rfl w.heap.size _ zs rfl (HO.out.alloc _) _ _ [x] rfl (ls_int _ _ _ (by simp)) (eI_one _) (k + 1) (by rw [← HKL.out]; rfl) (by omega) (by unfold maxLen; omega) (by simp; have := HS.out; omega) (zs ++ [x]) rfl ?_; intro ao5 cap5 w5 ow5 cw5 bl5; have O5 := hid ow5; have G5 := hid (show Gr w w5 from Ch.trans (Ch.alloc HG.out _) cw5 (fun q h => .inr (HO.out.blk h).1)); clear ow5 cw5 bl5)
      clear c0
      go_roundg (gk - 1)
      case measure => omega
      case rel => exact ⟨k + 1, k + 1, cap5, ao5, by omega, by simp, rfl, rfl, by rw [HT.out]; exact O5.out, G5.out⟩
    · have jn : ¬ (k : Int) < (n : Int) := by omega
      have HT := hid (show ks.take k = ks from List.take_of_length_le (by rw [← HL.out]; omega))
      rw [HT.out] at HO
      go_wp2
      go_ret
      exact ⟨_, rfl, HO.out, HG.out⟩
set_option maxHeartbeats 1000000 in
set_option maxRecDepth 20000 in
theorem twin_any (P : Nat → Prop) (w : World) (pc : Int) (r : List Int) (hr : r.length = 16) (ao : Option Addr) (n cap : Nat) (ks : List Int) (h : Ls eI P w (.slice ao n cap) ks) (hn : n ≤ 17592186044416) :
    Calls Tryd.prog 14 #[.agg (cC pc r (.slice ao n cap))] w (CxR w pc r ks) := by
  obtain ⟨r0, r1, r2, r3, r4, r5, r6, r7, r8, r9, r10, r11, r12, r13, r14, r15, rfl⟩ := regs16 hr
  rw [cC_is]
  have HL := hid (show Ls eI P ((w.alloc (.cells #[.int .i64 pc, .int .i64 r0, .int .i64 r1, .int .i64 r2, .int .i64 r3, .int .i64 r4, .int .i64 r5, .int .i64 r6, .int .i64 r7, .int .i64 r8, .int .i64 r9, .int .i64 r10, .int .i64 r11, .int .i64 r12, .int .i64 r13, .int .i64 r14, .int .i64 r15, .slice ao n cap] 30)).alloc (.cells #[.int .i64 0, .int .i64 0, .int .i64 0, .int .i64 0, .int .i64 0, .int .i64 0, .int .i64 0, .int .i64 0, .int .i64 0, .int .i64 0, .int .i64 0, .int .i64 0, .int .i64 0, .int .i64 0, .int .i64 0, .int .i64 0, .int .i64 0, .slice none 0 0] 30)) (.slice ao n cap) ks from (h.alloc _).alloc _)
  have HN := hid h.len.1
  have B1 := hid (show ((w.alloc (.cells #[.int .i64 pc, .int .i64 r0, .int .i64 r1, .int .i64 r2, .int .i64 r3, .int .i64 r4, .int .i64 r5, .int .i64 r6, .int .i64 r7, .int .i64 r8, .int .i64 r9, .int .i64 r10, .int .i64 r11, .int .i64 r12, .int .i64 r13, .int .i64 r14, .int .i64 r15, .slice ao n cap] 30)).alloc (.cells #[.int .i64 0, .int .i64 0, .int .i64 0, .int .i64 0, .int .i64 0, .int .i64 0, .int .i64 0, .int .i64 0, .int .i64 0, .int .i64 0, .int .i64 0, .int .i64 0, .int .i64 0, .int .i64 0, .int .i64 0, .int .i64 0, .int .i64 0, .slice none 0 0] 30)).heap[w.heap.size]? = some (.cells #[.int .i64 pc, .int .i64 r0, .int .i64 r1, .int .i64 r2, .int .i64 r3, .int .i64 r4, .int .i64 r5, .int .i64 r6, .int .i64 r7, .int .i64 r8, .int .i64 r9, .int .i64 r10, .int .i64 r11, .int .i64 r12, .int .i64 r13, .int .i64 r14, .int .i64 r15, .slice ao n cap] 30 (0, 0)) from al_blk (MapKept.heap_alloc w _).1 _)
  have B2 := hid (show ((w.alloc (.cells #[.int .i64 pc, .int .i64 r0, .int .i64 r1, .int .i64 r2, .int .i64 r3, .int .i64 r4, .int .i64 r5, .int .i64 r6, .int .i64 r7, .int .i64 r8, .int .i64 r9, .int .i64 r10, .int .i64 r11, .int .i64 r12, .int .i64 r13, .int .i64 r14, .int .i64 r15, .slice ao n cap] 30)).alloc (.cells #[.int .i64 0, .int .i64 0, .int .i64 0, .int .i64 0, .int .i64 0, .int .i64 0, .int .i64 0, .int .i64 0, .int .i64 0, .int .i64 0, .int .i64 0, .int .i64 0, .int .i64 0, .int .i64 0, .int .i64 0, .int .i64 0, .int .i64 0, .slice none 0 0] 30)).heap[w.heap.size + 1]? = some (.cells #[.int .i64 0, .int .i64 0, .int .i64 0, .int .i64 0, .int .i64 0, .int .i64 0, .int .i64 0, .int .i64 0, .int .i64 0, .int .i64 0, .int .i64 0, .int .i64 0, .int .i64 0, .int .i64 0, .int .i64 0, .int .i64 0, .int .i64 0, .slice none 0 0] 30 (0, 0)) by simpa using (MapKept.heap_alloc (w.alloc (.cells #[.int .i64 pc, .int .i64 r0, .int .i64 r1, .int .i64 r2, .int .i64 r3, .int .i64 r4, .int .i64 r5, .int .i64 r6, .int .i64 r7, .int .i64 r8, .int .i64 r9, .int .i64 r10, .int .i64 r11, .int .i64 r12, .int .i64 r13, .int .i64 r14, .int .i64 r15, .slice ao n cap] 30)) (.cells #[.int .i64 0, .int .i64 0, .int .i64 0, .int .i64 0, .int .i64 0, .int .i64 0, .int .i64 0, .int .i64 0, .int .i64 0, .int .i64 0, .int .i64 0, .int .i64 0, .int .i64 0, .int .i64 0, .int .i64 0, .int .i64 0, .int .i64 0, .slice none 0 0] 30)).1)
  have G0 := hid (show Gr w ((w.alloc (.cells #[.int .i64 pc, .int .i64 r0, .int .i64 r1, .int .i64 r2, .int .i64 r3, .int .i64 r4, .int .i64 r5, .int .i64 r6, .int .i64 r7, .int .i64 r8, .int .i64 r9, .int .i64 r10, .int .i64 r11, .int .i64 r12, .int .i64 r13, .int .i64 r14, .int .i64 r15, .slice ao n cap] 30)).alloc (.cells #[.int .i64 0, .int .i64 0, .int .i64 0, .int .i64 0, .int .i64 0, .int .i64 0, .int .i64 0, .int .i64 0, .int .i64 0, .int .i64 0, .int .i64 0, .int .i64 0, .int .i64 0, .int .i64 0, .int .i64 0, .int .i64 0, .int .i64 0, .slice none 0 0] 30)) from Ch.alloc (Ch.alloc (Gr.refl w) _) _)
  clear h hr
  go_enter Tryd.func14, Tryd.ntmps14
  go_upto_region 2 with (go_at_call 25; refine (ints_any P _ _ _ _ ks HL.out hn).mono ?_; rintro e w2 ⟨v2, rfl, o2, g2⟩; have F2 := hid (show ∃ a n c, v2 = .slice a n c from by obtain ⟨a, c, e⟩ := o2.form; exact ⟨a, _, c, e⟩); have O2 := hid (show Ow eI 1 3 (w.heap.size + 2) w2 v2 ks from by simpa using o2); have C2 := hid g2; clear o2 g2; obtain ⟨ao2, n2, cap2, hv2⟩ : ∃ a n c, v2 = .slice a n c := F2.out; subst hv2; have b1 := gr_blk B1.out C2.out; have BB1 := hid b1; have BB2 := hid (gr_blk B2.out C2.out); have c17 : w2.cell? ⟨w.heap.size, 17, none⟩ = some (.slice ao n cap) := (cell_of b1 17).trans rfl; have z17 := frozen_of b1 17; have l1 := lt_of_block b1; clear b1)
  have D1 := hid (show (w2.setCell ⟨w.heap.size, 17, none⟩ (.slice ao2 n2 cap2)).heap[w.heap.size]? = some (.cells #[.int .i64 pc, .int .i64 r0, .int .i64 r1, .int .i64 r2, .int .i64 r3, .int .i64 r4, .int .i64 r5, .int .i64 r6, .int .i64 r7, .int .i64 r8, .int .i64 r9, .int .i64 r10, .int .i64 r11, .int .i64 r12, .int .i64 r13, .int .i64 r14, .int .i64 r15, .slice ao2 n2 cap2] 30 (0, 0)) by simpa using setCell_block BB1.out 17 (.slice ao2 n2 cap2))
  have K2 := hid (show Ch (Only w.heap.size) w2 (w2.setCell ⟨w.heap.size, 17, none⟩ (.slice ao2 n2 cap2)) from (Ch.refl _ _).own 17 _)
  have D2 := hid (show (w2.setCell ⟨w.heap.size, 17, none⟩ (.slice ao2 n2 cap2)).heap[w.heap.size + 1]? = some (.cells #[.int .i64 0, .int .i64 0, .int .i64 0, .int .i64 0, .int .i64 0, .int .i64 0, .int .i64 0, .int .i64 0, .int .i64 0, .int .i64 0, .int .i64 0, .int .i64 0, .int .i64 0, .int .i64 0, .int .i64 0, .int .i64 0, .int .i64 0, .slice none 0 0] 30 (0, 0)) from (K2.out.block _ (lt_of_block BB2.out) (fun q => by have q1 : w.heap.size + 1 = w.heap.size := q; omega)).trans BB2.out)
  have O3 := hid (show Ow eI 1 3 (w.heap.size + 2) (w2.setCell ⟨w.heap.size, 17, none⟩ (.slice ao2 n2 cap2)) (.slice ao2 n2 cap2) ks from O2.out.ch K2.out (fun q hq e => by have e1 : q = w.heap.size := e; have := (O2.out.blk hq).1; omega))
  have G3 := hid (show Gr w (w2.setCell ⟨w.heap.size, 17, none⟩ (.slice ao2 n2 cap2)) from Ch.fresh (Gr.trans G0.out C2.out) (Nat.le_refl _) 17 _)
  clear c17 z17 l1
  generalize w2.setCell ⟨w.heap.size, 17, none⟩ (.slice ao2 n2 cap2) = W3 at D1 D2 O3 G3 ⊢
  go_wp2_with (first | (refine wpList_load_row rfl 30 (.tmp 1) rfl w.heap.size rfl _ _ _ _ D1.out Tryd.underlying30 rfl ctx_size ?_) | (refine st_row rfl 30 (.tmp 2) (.tmp 7) rfl (w.heap.size + 1) _ rfl rfl _ _ D2.out ctx_size rfl (one18 _ _ _ _ _ _ _ _ _ _ _ _ _ _ _ _ _ _ _ _) ?_; intro w4 b4 k4; have B4 := hid b4; have K4 := hid k4; clear b4 k4))
  refine bodyPost_ret (results_cell_row rfl _ _ (w.heap.size + 1) _ _ _ _ rfl B4.out Tryd.underlying30 rfl ctx_size) rfl ?_
  exact ⟨ao2, n2, cap2, rfl, (O3.out.ch K4.out (fun q hq e => by have e1 : q = w.heap.size + 1 := e; have := (O3.out.blk hq).1; omega)).lower (by omega), Ch.trans G3.out K4.out (fun q e => .inr (by have e1 : q = w.heap.size + 1 := e; omega))⟩
end Go.Proofs.YtcdlhfodeckleaaDoor.Lt
