/-
  What does answers and leaves. Condition: the heap and the document's list hold the same nodes, fewer than 4294967296.
-/
import Derived.Test.YtkaeccmhfbjcmaaHpTold
import Derived.Handy
namespace Go.Proofs.Ytkaeccmhfbjcmaa.Hp
open Go.RowKit
attribute [local go_sem ↓] Go.wp_at_zero Go.wp_at_succ

/-- an act in a block -/
def Ac (w : World) (k : Nat) (kd wh na : Int) : Prop := w.heap[k]? = some (.cells #[.int .i64 kd, .int .u64 wh, .int .i64 na] 33 (0, 0))
theorem Ac.new (w : World) (kd wh na : Int) : Ac (w.alloc (.cells #[.int .i64 kd, .int .u64 wh, .int .i64 na] 33)) w.heap.size kd wh na := (MapKept.heap_alloc w _).1
theorem Ac.lt {w : World} {k : Nat} {kd wh na : Int} (h : Ac w k kd wh na) : k < w.heap.size := lt_of_block h
theorem Ac.ch {S : Nat → Prop} {w w' : World} {k : Nat} {kd wh na : Int} (h : Ac w k kd wh na) (g : Ch S w w') (hn : ¬ S k) : Ac w' k kd wh na := (g.block k (lt_of_block h) hn).trans h
theorem Ac.alloc {w : World} {k : Nat} {kd wh na : Int} (h : Ac w k kd wh na) (o : Obj) : Ac (w.alloc o) k kd wh na := (Below.heap_alloc _ _ _ h.lt).trans h
theorem Ac.cells {w : World} {k : Nat} {kd wh na : Int} (h : Ac w k kd wh na) : w.cell? ⟨k, 0, none⟩ = some (.int .i64 kd) ∧ w.cell? ⟨k, 1, none⟩ = some (.int .u64 wh) ∧ w.cell? ⟨k, 2, none⟩ = some (.int .i64 na) := ⟨cell_of h 0, cell_of h 1, cell_of h 2⟩
/-- what does answers and leaves -/
def DR (T : Nat → Prop) (b : Nat) (v : Value) (ys : List W3) (nx : Int) (w : World) (e : Ending) (w' : World) : Prop :=
  ∃ T' v' xs' ys' nx', e = .returned (.tuple #[.agg #[v', .int .i64 nx'], .bool true]) ∧ Bo T' w' b v' xs' ys' nx' ∧ Ch T w w' ∧ (∀ q, T' q → T q ∨ w.heap.size ≤ q) ∧ ys'.length ≤ ys.length + 1 ∧ 0 ≤ nx' ∧ nx' ≤ nx + 1 ∧ ((v' = v ∧ ys' = ys) ∨ Lst (w.heap.size ≤ ·) w' v' ys')
/-- the heap turned, the list is new, the answer is laid down -/
theorem Bo.fin {T T2 : Nat → Prop} {w W0 V w2 w5 : World} {kr b : Nat} {v : Value} {xs2 ys2 : List W3} {nx2 : Int} (hh : Hh T2 w2 b xs2 nx2) (p : xs2.Perm ys2) (l : Lst (W0.heap.size ≤ ·) V v ys2) (g2 : Ch T V w2) (t2 : ∀ q, T2 q → T q ∨ V.heap.size ≤ q)
    (ht : ∀ q, T q → q < w.heap.size) (h0 : w.heap.size ≤ kr) (h1 : kr < W0.heap.size) (h2 : W0.heap.size ≤ V.heap.size) (C : Ch (Only kr) w2 w5) : Bo T2 w5 b v xs2 ys2 nx2 := by
  refine ⟨hh.ch C (fun q hq e => ?_), p, ?_⟩
  · have e1 : q = kr := e
    rcases t2 q hq with a | a
    · have := ht q a; omega
    · omega
  · have l1 := l.mono (Q := fun q => W0.heap.size ≤ q ∧ ¬ T2 q) (fun q hq (hb : W0.heap.size ≤ q) => ⟨hb, fun a => by
      rcases t2 q a with a | a
      · have := ht q a; omega
      · omega⟩)
    have l2 := l1.ch g2 (fun q _ hb a => by have := ht q a; have := hb.1; omega)
    exact (l2.ch C (fun q _ hb e => by have e1 : q = kr := e; have := hb.1; omega)).mono (fun _ _ a => a.2)
/-- .. in new memory -/
theorem Bo.fin2 {T : Nat → Prop} {w W0 V w2 w5 : World} {kr : Nat} {v : Value} {ys2 : List W3} (l : Lst (W0.heap.size ≤ ·) V v ys2) (g2 : Ch T V w2)
    (ht : ∀ q, T q → q < w.heap.size) (h0 : w.heap.size ≤ kr) (h1 : kr < W0.heap.size) (C : Ch (Only kr) w2 w5) : Lst (w.heap.size ≤ ·) w5 v ys2 :=
  ((l.ch g2 (fun q _ (hb : W0.heap.size ≤ q) a => by have := ht q a; omega)).ch C (fun q _ (hb : W0.heap.size ≤ q) e => by have e1 : q = kr := e; omega)).mono (fun q _ (hb : W0.heap.size ≤ q) => by show w.heap.size ≤ q; omega)
set_option maxHeartbeats 4000000 in
theorem does_push (T : Nat → Prop) (b : Nat) (v : Value) (xs ys : List W3) (nx wh na : Int) (w : World) (h : Bo T w b v xs ys nx) (hl : ys.length < 4294967296) (h0 : 0 ≤ nx) (hnx : nx < 4294967296) :
    Calls Try.prog 9 #[.pointer (some ⟨b, 0, none⟩), .agg #[v, .int .i64 nx], .agg #[.int .i64 0, .int .u64 wh, .int .i64 na]] w fun e w' => DR T b v ys nx w e w' := by
  obtain ⟨ao, cap, rfl⟩ := h.l.form
  obtain ⟨n, hnn⟩ : ∃ n, n = ys.length := ⟨_, rfl⟩
  rw [← hnn] at hl h ⊢
  obtain ⟨W0, hW0⟩ : ∃ W, W = ((w.alloc (.cells #[.slice ao n cap, .int .i64 nx] 28)).alloc (.cells #[.int .i64 0, .int .u64 wh, .int .i64 na] 33)).alloc (.cells #[.slice none 0 0, .int .i64 0] 28) := ⟨_, rfl⟩
  have g0 : Ch NoB w W0 := by rw [hW0]; exact (((Ch.refl NoB w).alloc _).alloc _).alloc _
  have f0 : Tv W0 w.heap.size (.slice ao n cap) nx := by rw [hW0]; exact ((Tv.new w _ _).alloc _).alloc _
  have q0 : Ac W0 (w.heap.size + 1) 0 wh na := by
    have z := Ac.new (w.alloc (.cells #[.slice ao n cap, .int .i64 nx] 28)) 0 wh na
    rw [World.size_alloc] at z
    rw [hW0]
    exact z.alloc _
  have r0 : Tv W0 (w.heap.size + 1 + 1) (.slice none 0 0) 0 := by
    have z := Tv.new ((w.alloc (.cells #[.slice ao n cap, .int .i64 nx] 28)).alloc (.cells #[.int .i64 0, .int .u64 wh, .int .i64 na] 33)) (.slice none 0 0) 0
    rw [World.size_alloc, World.size_alloc] at z
    rw [hW0]
    exact z
  obtain ⟨ks, hks⟩ : ∃ k, k = w.heap.size := ⟨_, rfl⟩
  obtain ⟨ka, hka⟩ : ∃ k, k = w.heap.size + 1 := ⟨_, rfl⟩
  obtain ⟨kr, hkr⟩ : ∃ k, k = w.heap.size + 1 + 1 := ⟨_, rfl⟩
  have HK := hid (show w.heap.size ≤ ks ∧ ks < ka ∧ ka < kr by omega)
  have HN := hid hnn
  have HB0 := hid h
  have HB := hid (h.still g0)
  have HTL := hid h.h.tl
  have HG0 := hid g0
  have HF0 := hid (show Tv W0 ks (.slice ao n cap) nx by rw [hks]; exact f0)
  have HA0 := hid (show Ac W0 ka 0 wh na by rw [hka]; exact q0)
  have HR0 := hid (show Tv W0 kr (.slice none 0 0) 0 by rw [hkr]; exact r0)
  have ntr : ¬ T kr := fun e => by have := HTL.out kr e; have := HK.out; omega
  have nta : ¬ T ka := fun e => by have := HTL.out ka e; have := HK.out; omega
  clear hnn g0 f0 q0 r0 h
  go_enter Try.func9, Try.ntmps9
  go_wp2_with fail
  have e2 : w.heap.size + 2 = w.heap.size + 1 + 1 := rfl
  try rw [e2]
  rw [← hW0]
  try rw [← hkr]
  try rw [← hka]
  rw [← hks]
  clear hW0 hks hkr hka e2
  refine (rpush_any _ _ ys nx wh na W0 HB.out.l (by rw [← HN.out]; omega) h0 hnx).mono ?_
  rintro e w1 ⟨v1, rfl, lv1, g1⟩
  obtain ⟨a1, q1, rfl⟩ := lv1.form
  obtain ⟨n1, hn1⟩ : ∃ n, n = (ys ++ [(⟨wh, nx, na⟩ : W3)]).length := ⟨_, rfl⟩
  rw [← hn1] at lv1 ⊢
  have HN1 := hid hn1
  have HG1 := hid g1
  have HL1 := hid lv1
  clear hn1 g1 lv1
  go_wp2_with fail
  obtain ⟨V2, hV2⟩ : ∃ W, W = (w1.alloc (.cells #[.slice a1 n1 q1, .int .i64 (nx + 1)] 28)).drew := ⟨_, rfl⟩
  obtain ⟨k8, hk8⟩ : ∃ k, k = w1.heap.size := ⟨_, rfl⟩
  have gv : Ch NoB w1 V2 := by rw [hV2]; exact ((Ch.refl NoB w1).alloc _).drew
  have HGV := hid (HG1.out.trans' gv)
  have HLV := hid (HL1.out.ch gv (fun _ _ _ => noB _))
  have AV := (HA0.out.ch HGV.out (noB _)).cells
  have hSV : (V2.cell? ⟨k8, 0, none⟩ = some (.slice a1 n1 q1) ∧ V2.cell? ⟨k8, 1, none⟩ = some (.int .i64 (nx + 1))) ∧ V2.cell? ⟨ka, 1, none⟩ = some (.int .u64 wh) ∧ V2.cell? ⟨ka, 2, none⟩ = some (.int .i64 na) := by
    have z := Tv.new w1 (.slice a1 n1 q1) (nx + 1)
    rw [← hk8] at z
    refine ⟨?_, AV.2⟩
    rw [hV2]
    exact z.cells
  have hSW : ((w1.alloc (.cells #[.slice a1 n1 q1, .int .i64 (nx + 1)] 28)).cell? ⟨k8, 0, none⟩ = some (.slice a1 n1 q1) ∧ (w1.alloc (.cells #[.slice a1 n1 q1, .int .i64 (nx + 1)] 28)).cell? ⟨k8, 1, none⟩ = some (.int .i64 (nx + 1))) ∧ (w1.alloc (.cells #[.slice a1 n1 q1, .int .i64 (nx + 1)] 28)).cell? ⟨ka, 1, none⟩ = some (.int .u64 wh) ∧ (w1.alloc (.cells #[.slice a1 n1 q1, .int .i64 (nx + 1)] 28)).cell? ⟨ka, 2, none⟩ = some (.int .i64 na) := by
    rw [hV2] at hSV
    exact hSV
  have lk8 : k8 < V2.heap.size := by rw [hV2, hk8]; show w1.heap.size < (w1.alloc _).heap.size; simp
  have lka : ka < V2.heap.size := (HA0.out.ch HGV.out (noB _)).lt
  have nk8 : ¬ (k8 = kr) := by have := HR0.out.lt; have := HG1.out.size; omega
  have nka : ¬ (ka = kr) := by have := HK.out; omega
  have ntk8 : ¬ T k8 := fun e => by have := HTL.out k8 e; have := HG0.out.size; have := HG1.out.size; omega
  rw [← hk8]
  clear gv AV hk8
  refine wp_region_held_drew (S := fun w' => (w'.cell? ⟨k8, 0, none⟩ = some (.slice a1 n1 q1) ∧ w'.cell? ⟨k8, 1, none⟩ = some (.int .i64 (nx + 1))) ∧ w'.cell? ⟨ka, 1, none⟩ = some (.int .u64 wh) ∧ w'.cell? ⟨ka, 2, none⟩ = some (.int .i64 na)) (by kernel_rfl) (by exact hSW) (fun _ => ?_)
  rw [← hV2]
  clear hV2
  refine takeS_on (i := 0) 42 (v := ?v89) rfl rfl (by kernel_rfl) (by kernel_rfl) (by kernel_rfl) (fun _ _ _ h => h) (by kernel_rfl) ?hy89 (by exact hSV) ?_
  case hy89 => (intro w' hSw; go_simp; try (with_reducible rfl))
  simp only [Act.put, List.setIfInBounds_toArray, List.set_cons_zero, List.set_cons_succ]
  refine takeS_on (i := 1) 43 (v := ?v90) rfl rfl (by kernel_rfl) (by kernel_rfl) (by kernel_rfl) (fun _ _ _ h => h) (by kernel_rfl) ?hy90 (by exact hSV) ?_
  case hy90 => (intro w' hSw; go_simp; try (with_reducible rfl))
  simp only [Act.put, List.setIfInBounds_toArray, List.set_cons_zero, List.set_cons_succ]
  refine takeS_on (i := 2) 44 (v := ?v91) rfl rfl (by kernel_rfl) (by kernel_rfl) (by kernel_rfl) (fun _ _ _ h => h) (by kernel_rfl) ?hy91 (by exact hSV) ?_
  case hy91 => (intro w' hSw; go_simp; try (with_reducible rfl))
  simp only [Act.put, List.setIfInBounds_toArray, List.set_cons_zero, List.set_cons_succ]
  refine takeS_on (i := 3) 45 (v := ?v92) rfl rfl (by kernel_rfl) (by kernel_rfl) (by kernel_rfl) (fun _ _ _ h => h) (by kernel_rfl) ?hy92 (by exact hSV) ?_
  case hy92 => (intro w' hSw; go_simp; try (with_reducible rfl))
  simp only [Act.put, List.setIfInBounds_toArray, List.set_cons_zero, List.set_cons_succ]
  refine takeS_on (i := 4) 46 (v := ?v93) rfl rfl (by kernel_rfl) (by kernel_rfl) (by kernel_rfl) (fun _ _ _ h => h) (by kernel_rfl) ?hy93 (by exact hSV) ?_
  case hy93 => (intro w' hSw; go_simp; try (with_reducible rfl))
  simp only [Act.put, List.setIfInBounds_toArray, List.set_cons_zero, List.set_cons_succ]
  refine takeS_on (i := 5) 47 (v := ?v94) rfl rfl (by kernel_rfl) (by kernel_rfl) (by kernel_rfl) (fun _ _ _ h => h) (by kernel_rfl) ?hy94 (by exact hSV) ?_
  case hy94 => (intro w' hSw; go_simp; try (with_reducible rfl))
  simp only [Act.put, List.setIfInBounds_toArray, List.set_cons_zero, List.set_cons_succ]
  refine takeS_on (i := 7) 49 (v := ?v95) rfl rfl (by kernel_rfl) (by kernel_rfl) (by kernel_rfl) (fun _ _ _ h => h) (by kernel_rfl) ?hy95 (by exact hSV) ?_
  case hy95 => (intro w' hSw; go_simp; try (with_reducible rfl))
  simp only [Act.put, List.setIfInBounds_toArray, List.set_cons_zero, List.set_cons_succ]
  refine wpAnyH_ready (rs := [6]) (by kernel_rfl) (by simp) (AllReadyH.cons rfl (fun K hK => ?_) AllReadyH.nil)
  go_simp
  refine (push_any T b xs nx wh na V2 (HB.out.h.still HGV.out) h0 hnx (by rw [HB.out.p.length_eq, ← HN.out]; exact hl)).mono ?_
  rintro e w2 ⟨rfl, xs2, p2, T2, hh2, g2, t2⟩
  have hS2 : (w2.cell? ⟨k8, 0, none⟩ = some (.slice a1 n1 q1) ∧ w2.cell? ⟨k8, 1, none⟩ = some (.int .i64 (nx + 1))) ∧ w2.cell? ⟨ka, 1, none⟩ = some (.int .u64 wh) ∧ w2.cell? ⟨ka, 2, none⟩ = some (.int .i64 na) := ⟨⟨(g2.cell lk8 ntk8).trans hSV.1.1, (g2.cell lk8 ntk8).trans hSV.1.2⟩, (g2.cell lka nta).trans hSV.2.1, (g2.cell lka nta).trans hSV.2.2⟩
  have lk82 := Nat.lt_of_lt_of_le lk8 g2.size
  have lka2 := Nat.lt_of_lt_of_le lka g2.size
  have C5 := ((Ch.refl (Only kr) w2).own 0 (.slice a1 n1 q1)).own 1 (.int .i64 (nx + 1))
  have hS5 : (((w2.setCell ⟨kr, 0, none⟩ (.slice a1 n1 q1)).setCell ⟨kr, 1, none⟩ (.int .i64 (nx + 1))).cell? ⟨k8, 0, none⟩ = some (.slice a1 n1 q1) ∧ ((w2.setCell ⟨kr, 0, none⟩ (.slice a1 n1 q1)).setCell ⟨kr, 1, none⟩ (.int .i64 (nx + 1))).cell? ⟨k8, 1, none⟩ = some (.int .i64 (nx + 1))) ∧ ((w2.setCell ⟨kr, 0, none⟩ (.slice a1 n1 q1)).setCell ⟨kr, 1, none⟩ (.int .i64 (nx + 1))).cell? ⟨ka, 1, none⟩ = some (.int .u64 wh) ∧ ((w2.setCell ⟨kr, 0, none⟩ (.slice a1 n1 q1)).setCell ⟨kr, 1, none⟩ (.int .i64 (nx + 1))).cell? ⟨ka, 2, none⟩ = some (.int .i64 na) := ⟨⟨(C5.cell lk82 (fun e => nk8 e)).trans hS2.1.1, (C5.cell lk82 (fun e => nk8 e)).trans hS2.1.2⟩, (C5.cell lka2 (fun e => nka e)).trans hS2.2.1, (C5.cell lka2 (fun e => nka e)).trans hS2.2.2⟩
  have R2 := (HR0.out.ch HGV.out (noB _)).ch g2 ntr
  obtain ⟨z0, z1⟩ := R2.cells
  obtain ⟨y0, y1⟩ := R2.fz
  have l2 := R2.lt
  have HBF := hid (Bo.fin hh2 (p2.trans ((HB.out.p.cons _).trans (List.perm_append_singleton _ _).symm)) HLV.out g2 t2 HTL.out (by have := HK.out; omega) HR0.out.lt HGV.out.size C5)
  have HLF := hid (Bo.fin2 HLV.out g2 HTL.out (show w.heap.size ≤ kr by have := HK.out; omega) HR0.out.lt C5)
  have HGF := hid (((((HG0.out.trans' HGV.out).any (S := T)).trans' g2)).trans C5 (fun q e => .inr (by have e1 : q = kr := e; have := HK.out; omega)))
  have HTF := hid (show ∀ q, T2 q → T q ∨ w.heap.size ≤ q from fun q e => (t2 q e).imp id (fun a => Nat.le_trans (Nat.le_trans HG0.out.size HGV.out.size) a))
  clear p2 hh2 g2 t2 C5 R2
  refine hK.out _ _ (by exact hS2) (fun _ => ?_)
  clear hK K
  refine takeS_on (i := 8) 50 (v := ?v96) rfl rfl (by kernel_rfl) (by kernel_rfl) (by kernel_rfl) (fun _ _ _ h => h) (by kernel_rfl) ?hy96 (by exact hS2) ?_
  case hy96 => (intro w' hSw; go_simp; try (with_reducible rfl))
  simp only [Act.put, List.setIfInBounds_toArray, List.set_cons_zero, List.set_cons_succ]
  refine wpAnyH_ready (rs := [9]) (by kernel_rfl) (by simp) (AllReadyH.cons rfl (fun K hK => ?_) AllReadyH.nil)
  go_simp
  refine hK.out _ _ (by exact hS5) (fun _ => ?_)
  clear hK K
  refine takeS_on (i := 10) 7 (v := ?v97) rfl rfl (by kernel_rfl) (by kernel_rfl) (by kernel_rfl) (fun _ _ _ h => h) (by kernel_rfl) ?hy97 (by exact hS5) ?_
  case hy97 => (intro w' hSw; go_simp; try (with_reducible rfl))
  simp only [Act.put, List.setIfInBounds_toArray, List.set_cons_zero, List.set_cons_succ]
  refine wpAnyH_done (by kernel_rfl) ?_ _
  go_wp2
  refine bodyPost_ret (v := .tuple #[.agg #[.slice a1 n1 q1, .int .i64 (nx + 1)], .bool true]) (by simp [results, Try.results9, go_sem, z0, z1]) rfl ?_
  exact ⟨T2, _, _, _, _, rfl, HBF.out, HGF.out, HTF.out, by rw [List.length_append]; exact Nat.le_refl _, by omega, by omega, .inr HLF.out⟩
end Go.Proofs.Ytkaeccmhfbjcmaa.Hp
