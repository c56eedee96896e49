/-
  What twin answers: a copy of a program that shares no memory with it. Conditions: lists are no longer than the reach lets be.
-/
import Derived.Test.YtbehlhnnfdkmaaaGreatDoorLtTw
namespace Go.Proofs.YtbehlhnnfdkmaaaGreatDoor.Lt
open Go.RowKit Wd

set_option maxHeartbeats 4000000 in
set_option maxRecDepth 100000 in
theorem twin_any (P : Nat → Prop) (w : World) (ia ib ic : Value) (cs : List Int) (fs : List (Int × Int)) (ts : List Tb) (h : Pin P w ia ib ic cs fs ts) (hc : cs.length ≤ 35184372088832) (hf : fs.length ≤ 8796093022208) (ht : ts.length ≤ 4398046511104) (hq : ∀ t ∈ ts, t.cs.length ≤ 4398046511104) :
    Calls Tryz.prog 14 #[.agg #[ia, ib, ic]] w (TwR w cs fs (ts.map (fun t => (t.cs, t.df)))) := by
  obtain ⟨aoc, cac, hia⟩ := h.c.form
  obtain ⟨aof, caf, hib⟩ := h.f.form
  obtain ⟨aot, cat, hic⟩ := h.t.form
  obtain ⟨nc, hnc⟩ : ∃ n, n = cs.length := ⟨_, rfl⟩
  obtain ⟨nf, hnf⟩ : ∃ n, n = fs.length := ⟨_, rfl⟩
  obtain ⟨nt, hnt⟩ : ∃ n, n = ts.length := ⟨_, rfl⟩
  rw [← hnc] at hia hc
  rw [← hnf] at hib hf
  rw [← hnt] at hic ht
  subst hia hib hic
  have HIN := hid h
  have HNC := hid hnc
  have HNF := hid hnf
  have HNT := hid hnt
  have HQ := hid hq
  have T0 := hid (show Tw w (.slice aoc nc cac) (.slice aof nf caf) (.slice aot nt cat) (((w.alloc (.cells #[.slice aoc nc cac, .slice aof nf caf, .slice aot nt cat] 26)).alloc (.cells #[.slice none 0 0, .slice none 0 0, .slice none 0 0] 26)).alloc (.cells #[.slice none 0 0, .slice none 0 0, .slice none 0 0] 26)) (.slice none 0 0) (.slice none 0 0) (.slice none 0 0) [] [] [] from
    { g := Ch.alloc (Ch.alloc (Ch.alloc (Gr.refl w) _) _) _
      b0 := al_blk (al_blk (MapKept.heap_alloc w _).1 _) _
      b1 := by simpa using al_blk (MapKept.heap_alloc (w.alloc (.cells #[.slice aoc nc cac, .slice aof nf caf, .slice aot nt cat] 26)) (.cells #[.slice none 0 0, .slice none 0 0, .slice none 0 0] 26)).1 (.cells #[.slice none 0 0, .slice none 0 0, .slice none 0 0] 26)
      b2 := by simpa using (MapKept.heap_alloc ((w.alloc (.cells #[.slice aoc nc cac, .slice aof nf caf, .slice aot nt cat] 26)).alloc (.cells #[.slice none 0 0, .slice none 0 0, .slice none 0 0] 26)) (.cells #[.slice none 0 0, .slice none 0 0, .slice none 0 0] 26)).1
      lt := by simp
      c := Ow.nil _ _ _ _ _
      f := Ow.nil _ _ _ _ _
      t := Ow.nil _ _ _ _ _
      cs := fun t ht => by cases ht
      dj := by simp [Dj.nil] })
  clear h hnc hnf hnt hq
  go_enter Tryz.func14, Tryz.ntmps14
  go_wp2_with fail
  go_loopg [4] nc (fun m i wq => ∃ j vc, j + m = nc ∧ i = .int .i64 ((j : Nat) : Int) ∧ Tw w (.slice aoc nc cac) (.slice aof nf caf) (.slice aot nt cat) wq vc (.slice none 0 0) (.slice none 0 0) (cs.take j) [] [])
  case atStart => exact ⟨0, _, by omega, rfl, T0.out⟩
  case round =>
    obtain ⟨j, vc, hjk, rfl, htw⟩ := hrel
    have htw := htw
    obtain ⟨ao, cl, hv⟩ := htw.c.form
    rw [List.length_take, ← HNC.out, Nat.min_eq_left (by omega)] at hv
    subst hv
    have HTW := hid htw
    clear htw
    by_cases hj : j < nc
    · obtain ⟨x, hx⟩ : ∃ x, cs[j]? = some x := ⟨_, List.getElem?_eq_getElem (by rw [← HNC.out]; exact hj)⟩
      have HX := hid hx
      obtain ⟨g, o, cap', hv, _, hgl, hcap, hcs⟩ := HIN.out.c.get eU_len hx
      injection hv with hv1 hv2 hv3
      subst hv1
      have HGL := hid hgl
      have gs := HTW.out.g.size
      have c0 := (HTW.out.g.cell hgl).trans (hcs 0 _ rfl)
      rw [Nat.mul_one, Nat.add_zero] at c0
      have n0 : wr.cell? ⟨w.heap.size, 0, none⟩ = some (.slice (some ⟨g, o, none⟩) nc cac) := (cell_of HTW.out.b0 0).trans rfl
      have o0 : wr.cell? ⟨w.heap.size + 2, 0, none⟩ = some (.slice ao j cl) := (cell_of HTW.out.b2 0).trans rfl
      have l0 := lt_of_block HTW.out.b0
      have l2 := lt_of_block HTW.out.b2
      have lg : g < wr.heap.size := by omega
      have j0 : (0 : Int) ≤ (j : Int) := by omega
      have j1 : (j : Int) < (nc : Int) := by omega
      clear hv2 hv3 hcs hx hcap hgl
      go_wp2_with fail
      have hS0 : (fun w' => w'.cell? ⟨w.heap.size, 0, none⟩ = some (.slice (some ⟨g, o, none⟩) nc cac) ∧ w'.cell? ⟨g, o + j, none⟩ = some (.int .u32 x)) wr.drew := ⟨n0, c0⟩
      refine wp_region_held_drew (S := fun w' => w'.cell? ⟨w.heap.size, 0, none⟩ = some (.slice (some ⟨g, o, none⟩) nc cac) ∧ w'.cell? ⟨g, o + j, none⟩ = some (.int .u32 x)) (by kernel_rfl) (by exact hS0) (fun hSx => ?_)
      clear hSx
      refine takeS_on (i := 0) 17 (v := ?v18) rfl rfl (by kernel_rfl) (by kernel_rfl) (by kernel_rfl) (fun _ _ _ h => h) (by kernel_rfl) ?hy18 (by exact hS0) ?_
      case hy18 => (intro w' hSw; go_simp; try (with_reducible rfl))
      simp only [Act.put, List.setIfInBounds_toArray, List.set_cons_zero, List.set_cons_succ]
      refine takeS_on (i := 2) 19 (v := ?v19) rfl rfl (by kernel_rfl) (by kernel_rfl) (by kernel_rfl) (fun _ _ _ h => h) (by kernel_rfl) ?hy19 (by exact hS0) ?_
      case hy19 => (intro w' hSw; go_simp; try (with_reducible rfl))
      simp only [Act.put, List.setIfInBounds_toArray, List.set_cons_zero, List.set_cons_succ]
      refine takeS_on (i := 3) 20 (v := ?v20) rfl rfl (by kernel_rfl) (by kernel_rfl) (by kernel_rfl) (fun _ _ _ h => h) (by kernel_rfl) ?hy20 (by exact hS0) ?_
      case hy20 => (intro w' hSw; go_simp; try (with_reducible rfl))
      simp only [Act.put, List.setIfInBounds_toArray, List.set_cons_zero, List.set_cons_succ]
      refine takeS_on (i := 4) 21 (v := ?v21) rfl rfl (by kernel_rfl) (by kernel_rfl) (by kernel_rfl) (fun _ _ _ h => h) (by kernel_rfl) ?hy21 (by exact hS0) ?_
      case hy21 => (intro w' hSw; go_simp; try (with_reducible rfl))
      simp only [Act.put, List.setIfInBounds_toArray, List.set_cons_zero, List.set_cons_succ]
      refine takeS_on (i := 5) 22 (v := ?v22) rfl rfl (by kernel_rfl) (by kernel_rfl) (by kernel_rfl) (fun _ _ _ h => h) (by kernel_rfl) ?hy22 (by exact hS0) ?_
      case hy22 => (intro w' hSw; go_simp; try (with_reducible rfl))
      simp only [Act.put, List.setIfInBounds_toArray, List.set_cons_zero, List.set_cons_succ]
      refine takeS_on (i := 6) 23 (v := ?v23) rfl rfl (by kernel_rfl) (by kernel_rfl) (by kernel_rfl) (fun _ _ _ h => h) (by kernel_rfl) ?hy23 (by exact hS0) ?_
      case hy23 => (intro w' hSw; go_simp; try (with_reducible rfl))
      simp only [Act.put, List.setIfInBounds_toArray, List.set_cons_zero, List.set_cons_succ]
      refine wpAnyH_ready (rs := [1, 7]) (by kernel_rfl) (by simp) (AllReadyH.cons rfl (fun K hK => ?_) (AllReadyH.cons rfl (fun K hK => ?_) AllReadyH.nil))
      · go_simp
        refine hK.out _ _ (by exact hS0) (fun hSx => ?_)
        clear hSx hK K
        refine wpAnyH_ready (rs := [7]) (by kernel_rfl) (by simp) (AllReadyH.cons rfl (fun K hK => ?_) AllReadyH.nil)
        go_simp
        have kc : Gr wr (wr.alloc (.cells #[.int .u32 x] 39)).drew := Ch.drew (Ch.alloc (Gr.refl wr) _)
        have hS_c : (fun w' => w'.cell? ⟨w.heap.size, 0, none⟩ = some (.slice (some ⟨g, o, none⟩) nc cac) ∧ w'.cell? ⟨g, o + j, none⟩ = some (.int .u32 x)) (wr.alloc (.cells #[.int .u32 x] 39)).drew := ⟨(Ch.cell kc l0 (noB _)).trans n0, (Ch.cell kc lg (noB _)).trans c0⟩
        refine hK.out _ _ (by exact hS_c) (fun hSx => ?_)
        clear hSx hK K
        refine wpAnyH_ready (rs := [8]) (by kernel_rfl) (by simp) (AllReadyH.cons rfl (fun K hK => ?_) AllReadyH.nil)
        refine step_append_ow eU_len rfl (.tmp 18) (.tmp 24) 22 39 4 (.int .u32 0) Tryz.underlying22 u32_info rfl (by omega) rfl (w.heap.size + 3) (.slice ao j cl) (cs.take j) (by simp [Act.eval]) (HTW.out.c.alloc _) _ _ [x] (by simp [Act.eval]) (Ls.single wr _ _ _ rfl) eU_one (j + 1) (by rw [List.length_take, ← HNC.out]; simp; omega) (by omega) (by unfold maxLen; omega) (by have := HTW.out.lt; simp; omega) (cs.take j ++ [x]) rfl ?_
        intro ao6 cap6 w6 ow6 cw6 bl6
        have nB : ¬ Blk (.slice ao j cl) w.heap.size := fun e => by have := (HTW.out.c.blk e).1; omega
        have nG : ¬ Blk (.slice ao j cl) g := fun e => by have := (HTW.out.c.blk e).1; have := HGL.out; omega
        have nO : ¬ Blk (.slice ao j cl) (w.heap.size + 2) := fun e => by have := (HTW.out.c.blk e).1; omega
        have hS_d : (fun w' => w'.cell? ⟨w.heap.size, 0, none⟩ = some (.slice (some ⟨g, o, none⟩) nc cac) ∧ w'.cell? ⟨g, o + j, none⟩ = some (.int .u32 x)) w6 := ⟨(Ch.cell cw6 (by simp; omega) nB).trans hS_c.1, (Ch.cell cw6 (by simp; omega) nG).trans hS_c.2⟩
        have b6 := (cw6.block (w.heap.size + 2) (by simp; have := HTW.out.lt; omega) nO).trans (al_blk HTW.out.b2 _)
        have u6 : w6.cell? ⟨w.heap.size + 2, 0, none⟩ = some (.slice ao j cl) := (cell_of b6 _).trans rfl
        have z6 := frozen_of b6 0
        have HO6 := hid ow6
        have HC6 := hid cw6
        have HB6 := hid bl6
        clear ow6 cw6 bl6 b6
        refine hK.out _ _ (by exact hS_d) (fun hSx => ?_)
        change wpAnyH _ _ _ _ _ _ _ (Act.put _ (some 25) _) _
        simp only [Act.put, List.setIfInBounds_toArray, List.set_cons_zero, List.set_cons_succ]
        clear hSx hK K
        refine takeS_on (i := 9) 26 (v := ?v24) rfl rfl (by kernel_rfl) (by kernel_rfl) (by kernel_rfl) (fun _ _ _ h => h) (by kernel_rfl) ?hy24 (by exact hS_d) ?_
        case hy24 => (intro w' hSw; go_simp; try (with_reducible rfl))
        simp only [Act.put, List.setIfInBounds_toArray, List.set_cons_zero, List.set_cons_succ]
        refine wpAnyH_ready (rs := [10]) (by kernel_rfl) (by simp) (AllReadyH.cons rfl (fun K hK => ?_) AllReadyH.nil)
        go_simp
        have k7 : Ch (Only (w.heap.size + 2)) w6 (w6.setCell ⟨w.heap.size + 2, 0, none⟩ (.slice ao6 (j + 1) cap6)) := (Ch.refl _ _).own _ _
        have s6 := HC6.out.size
        simp at s6
        have g1 : ¬ Only (w.heap.size + 2) w.heap.size := fun e => by have e1 : w.heap.size = w.heap.size + 2 := e; omega
        have g2 : ¬ Only (w.heap.size + 2) g := fun e => by have e1 : g = w.heap.size + 2 := e; have := HGL.out; omega
        have hS_e : (fun w' => w'.cell? ⟨w.heap.size, 0, none⟩ = some (.slice (some ⟨g, o, none⟩) nc cac) ∧ w'.cell? ⟨g, o + j, none⟩ = some (.int .u32 x)) (w6.setCell ⟨w.heap.size + 2, 0, none⟩ (.slice ao6 (j + 1) cap6)) := ⟨(Ch.cell k7 (by omega) g1).trans hS_d.1, (Ch.cell k7 (by omega) g2).trans hS_d.2⟩
        refine hK.out _ _ (by exact hS_e) (fun hSx => ?_)
        clear hSx hK K
        refine wpAnyH_done (by kernel_rfl) ?_ _
        clear hS0 hS_c hS_d hS_e u6 z6 s6 k7 kc
        have T7 := HTW.out.newC (Ch.drew (Ch.alloc (Gr.refl wr) _)) HO6.out HC6.out HB6.out
        generalize w6.setCell ⟨w.heap.size + 2, 0, none⟩ (.slice ao6 (j + 1) cap6) = W7 at T7 ⊢
        have HT7 := hid T7
        clear T7
        go_wp2_with fail
        go_roundg (gk - 1)
        case measure => omega
        case rel => exact ⟨j + 1, _, by omega, by simp, by rw [take_one HX.out]; exact HT7.out⟩
      · go_simp
        have kc : Gr wr (wr.alloc (.cells #[.int .u32 x] 39)).drew := Ch.drew (Ch.alloc (Gr.refl wr) _)
        have hS_c : (fun w' => w'.cell? ⟨w.heap.size, 0, none⟩ = some (.slice (some ⟨g, o, none⟩) nc cac) ∧ w'.cell? ⟨g, o + j, none⟩ = some (.int .u32 x)) (wr.alloc (.cells #[.int .u32 x] 39)).drew := ⟨(Ch.cell kc l0 (noB _)).trans n0, (Ch.cell kc lg (noB _)).trans c0⟩
        refine hK.out _ _ (by exact hS_c) (fun hSx => ?_)
        clear hSx hK K
        refine wpAnyH_ready (rs := [1]) (by kernel_rfl) (by simp) (AllReadyH.cons rfl (fun K hK => ?_) AllReadyH.nil)
        go_simp
        refine hK.out _ _ (by exact hS_c) (fun hSx => ?_)
        clear hSx hK K
        refine wpAnyH_ready (rs := [8]) (by kernel_rfl) (by simp) (AllReadyH.cons rfl (fun K hK => ?_) AllReadyH.nil)
        refine step_append_ow eU_len rfl (.tmp 18) (.tmp 24) 22 39 4 (.int .u32 0) Tryz.underlying22 u32_info rfl (by omega) rfl (w.heap.size + 3) (.slice ao j cl) (cs.take j) (by simp [Act.eval]) (HTW.out.c.alloc _) _ _ [x] (by simp [Act.eval]) (Ls.single wr _ _ _ rfl) eU_one (j + 1) (by rw [List.length_take, ← HNC.out]; simp; omega) (by omega) (by unfold maxLen; omega) (by have := HTW.out.lt; simp; omega) (cs.take j ++ [x]) rfl ?_
        intro ao6 cap6 w6 ow6 cw6 bl6
        have nB : ¬ Blk (.slice ao j cl) w.heap.size := fun e => by have := (HTW.out.c.blk e).1; omega
        have nG : ¬ Blk (.slice ao j cl) g := fun e => by have := (HTW.out.c.blk e).1; have := HGL.out; omega
        have nO : ¬ Blk (.slice ao j cl) (w.heap.size + 2) := fun e => by have := (HTW.out.c.blk e).1; omega
        have hS_d : (fun w' => w'.cell? ⟨w.heap.size, 0, none⟩ = some (.slice (some ⟨g, o, none⟩) nc cac) ∧ w'.cell? ⟨g, o + j, none⟩ = some (.int .u32 x)) w6 := ⟨(Ch.cell cw6 (by simp; omega) nB).trans hS_c.1, (Ch.cell cw6 (by simp; omega) nG).trans hS_c.2⟩
        have b6 := (cw6.block (w.heap.size + 2) (by simp; have := HTW.out.lt; omega) nO).trans (al_blk HTW.out.b2 _)
        have u6 : w6.cell? ⟨w.heap.size + 2, 0, none⟩ = some (.slice ao j cl) := (cell_of b6 _).trans rfl
        have z6 := frozen_of b6 0
        have HO6 := hid ow6
        have HC6 := hid cw6
        have HB6 := hid bl6
        clear ow6 cw6 bl6 b6
        refine hK.out _ _ (by exact hS_d) (fun hSx => ?_)
        change wpAnyH _ _ _ _ _ _ _ (Act.put _ (some 25) _) _
        simp only [Act.put, List.setIfInBounds_toArray, List.set_cons_zero, List.set_cons_succ]
        clear hSx hK K
        refine takeS_on (i := 9) 26 (v := ?v25) rfl rfl (by kernel_rfl) (by kernel_rfl) (by kernel_rfl) (fun _ _ _ h => h) (by kernel_rfl) ?hy25 (by exact hS_d) ?_
        case hy25 => (intro w' hSw; go_simp; try (with_reducible rfl))
        simp only [Act.put, List.setIfInBounds_toArray, List.set_cons_zero, List.set_cons_succ]
        refine wpAnyH_ready (rs := [10]) (by kernel_rfl) (by simp) (AllReadyH.cons rfl (fun K hK => ?_) AllReadyH.nil)
        go_simp
        have k7 : Ch (Only (w.heap.size + 2)) w6 (w6.setCell ⟨w.heap.size + 2, 0, none⟩ (.slice ao6 (j + 1) cap6)) := (Ch.refl _ _).own _ _
        have s6 := HC6.out.size
        simp at s6
        have g1 : ¬ Only (w.heap.size + 2) w.heap.size := fun e => by have e1 : w.heap.size = w.heap.size + 2 := e; omega
        have g2 : ¬ Only (w.heap.size + 2) g := fun e => by have e1 : g = w.heap.size + 2 := e; have := HGL.out; omega
        have hS_e : (fun w' => w'.cell? ⟨w.heap.size, 0, none⟩ = some (.slice (some ⟨g, o, none⟩) nc cac) ∧ w'.cell? ⟨g, o + j, none⟩ = some (.int .u32 x)) (w6.setCell ⟨w.heap.size + 2, 0, none⟩ (.slice ao6 (j + 1) cap6)) := ⟨(Ch.cell k7 (by omega) g1).trans hS_d.1, (Ch.cell k7 (by omega) g2).trans hS_d.2⟩
        refine hK.out _ _ (by exact hS_e) (fun hSx => ?_)
        clear hSx hK K
        refine wpAnyH_done (by kernel_rfl) ?_ _
        clear hS0 hS_c hS_d hS_e u6 z6 s6 k7 kc
        have T7 := HTW.out.newC (Ch.drew (Ch.alloc (Gr.refl wr) _)) HO6.out HC6.out HB6.out
        generalize w6.setCell ⟨w.heap.size + 2, 0, none⟩ (.slice ao6 (j + 1) cap6) = W7 at T7 ⊢
        have HT7 := hid T7
        clear T7
        go_wp2_with fail
        go_roundg (gk - 1)
        case measure => omega
        case rel => exact ⟨j + 1, _, by omega, by simp, by rw [take_one HX.out]; exact HT7.out⟩
    · have hjn : j = nc := by omega
      have T1 := HTW.out
      have htk : cs.take j = cs := by rw [hjn, HNC.out]; exact List.take_length
      rw [htk] at T1
      have HT1 := hid T1
      have n0 : wr.cell? ⟨w.heap.size, 0, none⟩ = some (.slice aoc nc cac) := (cell_of HTW.out.b0 0).trans rfl
      have l0 := lt_of_block HTW.out.b0
      have jn : ¬ (j : Int) < (nc : Int) := by omega
      clear T1 htk HTW T0 hjn
      go_wp2_with fail
      clear n0 l0 jn hj hjk
      generalize (.slice ao j cl : Value) = VC at HT1
      rename World => V1
      go_loopg [5] nf (fun m i wq => ∃ j vf, j + m = nf ∧ i = .int .i64 ((j : Nat) : Int) ∧ Tw w (.slice aoc nc cac) (.slice aof nf caf) (.slice aot nt cat) wq VC vf (.slice none 0 0) cs (fs.take j) [])
      case atStart => exact ⟨0, _, by omega, rfl, HT1.out⟩
      case round =>
        clear HT1
        obtain ⟨j, vf, hjk, rfl, htw⟩ := hrel
        have htw := htw
        obtain ⟨ao, cl, hv⟩ := htw.f.form
        rw [List.length_take, ← HNF.out, Nat.min_eq_left (by omega)] at hv
        subst hv
        have HTW := hid htw
        clear htw
        by_cases hj : j < nf
        · obtain ⟨⟨x1, x2⟩, hx⟩ : ∃ x, fs[j]? = some x := ⟨_, List.getElem?_eq_getElem (by rw [← HNF.out]; exact hj)⟩
          have HX := hid hx
          obtain ⟨g, o, cap', hv, _, hgl, hcap, hcs⟩ := HIN.out.f.get eG_len hx
          injection hv with hv1 hv2 hv3
          subst hv1
          have HGL := hid hgl
          have gs := HTW.out.g.size
          have c0 := (HTW.out.g.cell hgl).trans (hcs 0 _ rfl)
          have c1 := (HTW.out.g.cell hgl).trans (hcs 1 _ rfl)
          rw [Nat.add_zero] at c0
          have n0 : wr.cell? ⟨w.heap.size, 1, none⟩ = some (.slice (some ⟨g, o, none⟩) nf caf) := (cell_of HTW.out.b0 1).trans rfl
          have o0 : wr.cell? ⟨w.heap.size + 2, 1, none⟩ = some (.slice ao j cl) := (cell_of HTW.out.b2 1).trans rfl
          have l0 := lt_of_block HTW.out.b0
          have l2 := lt_of_block HTW.out.b2
          have lg : g < wr.heap.size := by omega
          have j0 : (0 : Int) ≤ (j : Int) := by omega
          have j1 : (j : Int) < (nf : Int) := by omega
          clear hv2 hv3 hcs hx hcap hgl
          go_wp2_with fail
          have hS0 : (fun w' => w'.cell? ⟨w.heap.size, 1, none⟩ = some (.slice (some ⟨g, o, none⟩) nf caf) ∧ w'.cell? ⟨g, o + j * 2, none⟩ = some (.int .i64 x1) ∧ w'.cell? ⟨g, o + j * 2 + 1, none⟩ = some (.int .i64 x2)) wr.drew := ⟨n0, c0, c1⟩
          refine wp_region_held_drew (S := fun w' => w'.cell? ⟨w.heap.size, 1, none⟩ = some (.slice (some ⟨g, o, none⟩) nf caf) ∧ w'.cell? ⟨g, o + j * 2, none⟩ = some (.int .i64 x1) ∧ w'.cell? ⟨g, o + j * 2 + 1, none⟩ = some (.int .i64 x2)) (by kernel_rfl) (by exact hS0) (fun hSx => ?_)
          clear hSx
          refine takeS_on (i := 0) 34 (v := ?v26) rfl rfl (by kernel_rfl) (by kernel_rfl) (by kernel_rfl) (fun _ _ _ h => h) (by kernel_rfl) ?hy26 (by exact hS0) ?_
          case hy26 => (intro w' hSw; go_simp; try (with_reducible rfl))
          simp only [Act.put, List.setIfInBounds_toArray, List.set_cons_zero, List.set_cons_succ]
          refine takeS_on (i := 2) 36 (v := ?v27) rfl rfl (by kernel_rfl) (by kernel_rfl) (by kernel_rfl) (fun _ _ _ h => h) (by kernel_rfl) ?hy27 (by exact hS0) ?_
          case hy27 => (intro w' hSw; go_simp; try (with_reducible rfl))
          simp only [Act.put, List.setIfInBounds_toArray, List.set_cons_zero, List.set_cons_succ]
          refine takeS_on (i := 3) 37 (v := ?v28) rfl rfl (by kernel_rfl) (by kernel_rfl) (by kernel_rfl) (fun _ _ _ h => h) (by kernel_rfl) ?hy28 (by exact hS0) ?_
          case hy28 => (intro w' hSw; go_simp; try (with_reducible rfl))
          simp only [Act.put, List.setIfInBounds_toArray, List.set_cons_zero, List.set_cons_succ]
          refine takeS_on (i := 4) 38 (v := ?v29) rfl rfl (by kernel_rfl) (by kernel_rfl) (by kernel_rfl) (fun _ _ _ h => h) (by kernel_rfl) ?hy29 (by exact hS0) ?_
          case hy29 => (intro w' hSw; go_simp; try (with_reducible rfl))
          simp only [Act.put, List.setIfInBounds_toArray, List.set_cons_zero, List.set_cons_succ]
          refine takeS_on (i := 5) 39 (v := ?v30) rfl rfl (by kernel_rfl) (by kernel_rfl) (by kernel_rfl) (fun _ _ _ h => h) (by kernel_rfl) ?hy30 (by exact hS0) ?_
          case hy30 => (intro w' hSw; go_simp; try (with_reducible rfl))
          simp only [Act.put, List.setIfInBounds_toArray, List.set_cons_zero, List.set_cons_succ]
          refine takeS_on (i := 6) 40 (v := ?v31) rfl rfl (by kernel_rfl) (by kernel_rfl) (by kernel_rfl) (fun _ _ _ h => h) (by kernel_rfl) ?hy31 (by exact hS0) ?_
          case hy31 => (intro w' hSw; go_simp; try (with_reducible rfl))
          simp only [Act.put, List.setIfInBounds_toArray, List.set_cons_zero, List.set_cons_succ]
          refine wpAnyH_ready (rs := [1, 7]) (by kernel_rfl) (by simp) (AllReadyH.cons rfl (fun K hK => ?_) (AllReadyH.cons rfl (fun K hK => ?_) AllReadyH.nil))
          · go_simp
            refine hK.out _ _ (by exact hS0) (fun hSx => ?_)
            clear hSx hK K
            refine wpAnyH_ready (rs := [7]) (by kernel_rfl) (by simp) (AllReadyH.cons rfl (fun K hK => ?_) AllReadyH.nil)
            go_simp
            have kc : Gr wr (wr.alloc (.cells #[.int .i64 x1, .int .i64 x2] 41)).drew := Ch.drew (Ch.alloc (Gr.refl wr) _)
            have hS_c : (fun w' => w'.cell? ⟨w.heap.size, 1, none⟩ = some (.slice (some ⟨g, o, none⟩) nf caf) ∧ w'.cell? ⟨g, o + j * 2, none⟩ = some (.int .i64 x1) ∧ w'.cell? ⟨g, o + j * 2 + 1, none⟩ = some (.int .i64 x2)) (wr.alloc (.cells #[.int .i64 x1, .int .i64 x2] 41)).drew := ⟨(Ch.cell kc l0 (noB _)).trans n0, (Ch.cell kc lg (noB _)).trans c0, (Ch.cell kc lg (noB _)).trans c1⟩
            refine hK.out _ _ (by exact hS_c) (fun hSx => ?_)
            clear hSx hK K
            refine wpAnyH_ready (rs := [8]) (by kernel_rfl) (by simp) (AllReadyH.cons rfl (fun K hK => ?_) AllReadyH.nil)
            refine step_append_ow eG_len rfl (.tmp 35) (.tmp 41) 23 41 16 (.agg #[.int .i64 0, .int .i64 0]) Tryz.underlying23 func_info rfl (by omega) rfl (w.heap.size + 3) (.slice ao j cl) (fs.take j) (by simp [Act.eval]) (HTW.out.f.alloc _) _ _ [(x1, x2)] (by simp [Act.eval]) (Ls.single wr _ _ _ rfl) eG_one (j + 1) (by rw [List.length_take, ← HNF.out]; simp; omega) (by omega) (by unfold maxLen; omega) (by have := HTW.out.lt; simp; omega) (fs.take j ++ [(x1, x2)]) rfl ?_
            intro ao6 cap6 w6 ow6 cw6 bl6
            have nB : ¬ Blk (.slice ao j cl) w.heap.size := fun e => by have := (HTW.out.f.blk e).1; omega
            have nG : ¬ Blk (.slice ao j cl) g := fun e => by have := (HTW.out.f.blk e).1; have := HGL.out; omega
            have nO : ¬ Blk (.slice ao j cl) (w.heap.size + 2) := fun e => by have := (HTW.out.f.blk e).1; omega
            have hS_d : (fun w' => w'.cell? ⟨w.heap.size, 1, none⟩ = some (.slice (some ⟨g, o, none⟩) nf caf) ∧ w'.cell? ⟨g, o + j * 2, none⟩ = some (.int .i64 x1) ∧ w'.cell? ⟨g, o + j * 2 + 1, none⟩ = some (.int .i64 x2)) w6 := ⟨(Ch.cell cw6 (by simp; omega) nB).trans hS_c.1, (Ch.cell cw6 (by simp; omega) nG).trans hS_c.2.1, (Ch.cell cw6 (by simp; omega) nG).trans hS_c.2.2⟩
            have b6 := (cw6.block (w.heap.size + 2) (by simp; have := HTW.out.lt; omega) nO).trans (al_blk HTW.out.b2 _)
            have u6 : w6.cell? ⟨w.heap.size + 2, 1, none⟩ = some (.slice ao j cl) := (cell_of b6 _).trans rfl
            have z6 := frozen_of b6 1
            have HO6 := hid ow6
            have HC6 := hid cw6
            have HB6 := hid bl6
            clear ow6 cw6 bl6 b6
            refine hK.out _ _ (by exact hS_d) (fun hSx => ?_)
            change wpAnyH _ _ _ _ _ _ _ (Act.put _ (some 42) _) _
            simp only [Act.put, List.setIfInBounds_toArray, List.set_cons_zero, List.set_cons_succ]
            clear hSx hK K
            refine takeS_on (i := 9) 43 (v := ?v32) rfl rfl (by kernel_rfl) (by kernel_rfl) (by kernel_rfl) (fun _ _ _ h => h) (by kernel_rfl) ?hy32 (by exact hS_d) ?_
            case hy32 => (intro w' hSw; go_simp; try (with_reducible rfl))
            simp only [Act.put, List.setIfInBounds_toArray, List.set_cons_zero, List.set_cons_succ]
            refine wpAnyH_ready (rs := [10]) (by kernel_rfl) (by simp) (AllReadyH.cons rfl (fun K hK => ?_) AllReadyH.nil)
            go_simp
            have k7 : Ch (Only (w.heap.size + 2)) w6 (w6.setCell ⟨w.heap.size + 2, 1, none⟩ (.slice ao6 (j + 1) cap6)) := (Ch.refl _ _).own _ _
            have s6 := HC6.out.size
            simp at s6
            have g1 : ¬ Only (w.heap.size + 2) w.heap.size := fun e => by have e1 : w.heap.size = w.heap.size + 2 := e; omega
            have g2 : ¬ Only (w.heap.size + 2) g := fun e => by have e1 : g = w.heap.size + 2 := e; have := HGL.out; omega
            have hS_e : (fun w' => w'.cell? ⟨w.heap.size, 1, none⟩ = some (.slice (some ⟨g, o, none⟩) nf caf) ∧ w'.cell? ⟨g, o + j * 2, none⟩ = some (.int .i64 x1) ∧ w'.cell? ⟨g, o + j * 2 + 1, none⟩ = some (.int .i64 x2)) (w6.setCell ⟨w.heap.size + 2, 1, none⟩ (.slice ao6 (j + 1) cap6)) := ⟨(Ch.cell k7 (by omega) g1).trans hS_d.1, (Ch.cell k7 (by omega) g2).trans hS_d.2.1, (Ch.cell k7 (by omega) g2).trans hS_d.2.2⟩
            refine hK.out _ _ (by exact hS_e) (fun hSx => ?_)
            clear hSx hK K
            refine wpAnyH_done (by kernel_rfl) ?_ _
            clear hS0 hS_c hS_d hS_e u6 z6 s6 k7 kc
            have T7 := HTW.out.newF (Ch.drew (Ch.alloc (Gr.refl wr) _)) HO6.out HC6.out HB6.out
            generalize w6.setCell ⟨w.heap.size + 2, 1, none⟩ (.slice ao6 (j + 1) cap6) = W7 at T7 ⊢
            have HT7 := hid T7
            clear T7
            go_wp2_with fail
            go_roundg (gk - 1)
            case measure => omega
            case rel => exact ⟨j + 1, _, by omega, by simp, by rw [take_one HX.out]; exact HT7.out⟩
          · go_simp
            have kc : Gr wr (wr.alloc (.cells #[.int .i64 x1, .int .i64 x2] 41)).drew := Ch.drew (Ch.alloc (Gr.refl wr) _)
            have hS_c : (fun w' => w'.cell? ⟨w.heap.size, 1, none⟩ = some (.slice (some ⟨g, o, none⟩) nf caf) ∧ w'.cell? ⟨g, o + j * 2, none⟩ = some (.int .i64 x1) ∧ w'.cell? ⟨g, o + j * 2 + 1, none⟩ = some (.int .i64 x2)) (wr.alloc (.cells #[.int .i64 x1, .int .i64 x2] 41)).drew := ⟨(Ch.cell kc l0 (noB _)).trans n0, (Ch.cell kc lg (noB _)).trans c0, (Ch.cell kc lg (noB _)).trans c1⟩
            refine hK.out _ _ (by exact hS_c) (fun hSx => ?_)
            clear hSx hK K
            refine wpAnyH_ready (rs := [1]) (by kernel_rfl) (by simp) (AllReadyH.cons rfl (fun K hK => ?_) AllReadyH.nil)
            go_simp
            refine hK.out _ _ (by exact hS_c) (fun hSx => ?_)
            clear hSx hK K
            refine wpAnyH_ready (rs := [8]) (by kernel_rfl) (by simp) (AllReadyH.cons rfl (fun K hK => ?_) AllReadyH.nil)
            refine step_append_ow eG_len rfl (.tmp 35) (.tmp 41) 23 41 16 (.agg #[.int .i64 0, .int .i64 0]) Tryz.underlying23 func_info rfl (by omega) rfl (w.heap.size + 3) (.slice ao j cl) (fs.take j) (by simp [Act.eval]) (HTW.out.f.alloc _) _ _ [(x1, x2)] (by simp [Act.eval]) (Ls.single wr _ _ _ rfl) eG_one (j + 1) (by rw [List.length_take, ← HNF.out]; simp; omega) (by omega) (by unfold maxLen; omega) (by have := HTW.out.lt; simp; omega) (fs.take j ++ [(x1, x2)]) rfl ?_
            intro ao6 cap6 w6 ow6 cw6 bl6
            have nB : ¬ Blk (.slice ao j cl) w.heap.size := fun e => by have := (HTW.out.f.blk e).1; omega
            have nG : ¬ Blk (.slice ao j cl) g := fun e => by have := (HTW.out.f.blk e).1; have := HGL.out; omega
            have nO : ¬ Blk (.slice ao j cl) (w.heap.size + 2) := fun e => by have := (HTW.out.f.blk e).1; omega
            have hS_d : (fun w' => w'.cell? ⟨w.heap.size, 1, none⟩ = some (.slice (some ⟨g, o, none⟩) nf caf) ∧ w'.cell? ⟨g, o + j * 2, none⟩ = some (.int .i64 x1) ∧ w'.cell? ⟨g, o + j * 2 + 1, none⟩ = some (.int .i64 x2)) w6 := ⟨(Ch.cell cw6 (by simp; omega) nB).trans hS_c.1, (Ch.cell cw6 (by simp; omega) nG).trans hS_c.2.1, (Ch.cell cw6 (by simp; omega) nG).trans hS_c.2.2⟩
            have b6 := (cw6.block (w.heap.size + 2) (by simp; have := HTW.out.lt; omega) nO).trans (al_blk HTW.out.b2 _)
            have u6 : w6.cell? ⟨w.heap.size + 2, 1, none⟩ = some (.slice ao j cl) := (cell_of b6 _).trans rfl
            have z6 := frozen_of b6 1
            have HO6 := hid ow6
            have HC6 := hid cw6
            have HB6 := hid bl6
            clear ow6 cw6 bl6 b6
            refine hK.out _ _ (by exact hS_d) (fun hSx => ?_)
            change wpAnyH _ _ _ _ _ _ _ (Act.put _ (some 42) _) _
            simp only [Act.put, List.setIfInBounds_toArray, List.set_cons_zero, List.set_cons_succ]
            clear hSx hK K
            refine takeS_on (i := 9) 43 (v := ?v33) rfl rfl (by kernel_rfl) (by kernel_rfl) (by kernel_rfl) (fun _ _ _ h => h) (by kernel_rfl) ?hy33 (by exact hS_d) ?_
            case hy33 => (intro w' hSw; go_simp; try (with_reducible rfl))
            simp only [Act.put, List.setIfInBounds_toArray, List.set_cons_zero, List.set_cons_succ]
            refine wpAnyH_ready (rs := [10]) (by kernel_rfl) (by simp) (AllReadyH.cons rfl (fun K hK => ?_) AllReadyH.nil)
            go_simp
            have k7 : Ch (Only (w.heap.size + 2)) w6 (w6.setCell ⟨w.heap.size + 2, 1, none⟩ (.slice ao6 (j + 1) cap6)) := (Ch.refl _ _).own _ _
            have s6 := HC6.out.size
            simp at s6
            have g1 : ¬ Only (w.heap.size + 2) w.heap.size := fun e => by have e1 : w.heap.size = w.heap.size + 2 := e; omega
            have g2 : ¬ Only (w.heap.size + 2) g := fun e => by have e1 : g = w.heap.size + 2 := e; have := HGL.out; omega
            have hS_e : (fun w' => w'.cell? ⟨w.heap.size, 1, none⟩ = some (.slice (some ⟨g, o, none⟩) nf caf) ∧ w'.cell? ⟨g, o + j * 2, none⟩ = some (.int .i64 x1) ∧ w'.cell? ⟨g, o + j * 2 + 1, none⟩ = some (.int .i64 x2)) (w6.setCell ⟨w.heap.size + 2, 1, none⟩ (.slice ao6 (j + 1) cap6)) := ⟨(Ch.cell k7 (by omega) g1).trans hS_d.1, (Ch.cell k7 (by omega) g2).trans hS_d.2.1, (Ch.cell k7 (by omega) g2).trans hS_d.2.2⟩
            refine hK.out _ _ (by exact hS_e) (fun hSx => ?_)
            clear hSx hK K
            refine wpAnyH_done (by kernel_rfl) ?_ _
            clear hS0 hS_c hS_d hS_e u6 z6 s6 k7 kc
            have T7 := HTW.out.newF (Ch.drew (Ch.alloc (Gr.refl wr) _)) HO6.out HC6.out HB6.out
            generalize w6.setCell ⟨w.heap.size + 2, 1, none⟩ (.slice ao6 (j + 1) cap6) = W7 at T7 ⊢
            have HT7 := hid T7
            clear T7
            go_wp2_with fail
            go_roundg (gk - 1)
            case measure => omega
            case rel => exact ⟨j + 1, _, by omega, by simp, by rw [take_one HX.out]; exact HT7.out⟩
        · have hjn : j = nf := by omega
          have T1 := HTW.out
          have htk : fs.take j = fs := by rw [hjn, HNF.out]; exact List.take_length
          rw [htk] at T1
          have HT1 := hid T1
          have n0 : wr.cell? ⟨w.heap.size, 1, none⟩ = some (.slice aof nf caf) := (cell_of HTW.out.b0 1).trans rfl
          have l0 := lt_of_block HTW.out.b0
          have jn : ¬ (j : Int) < (nf : Int) := by omega
          clear T1 htk HTW hjn
          go_wp2_with fail
          clear n0 l0 jn hj hjk
          generalize (.slice ao j cl : Value) = VF at HT1
          rename World => V2
          go_loopg [6] nt (fun m i wq => ∃ j vt us, j + m = nt ∧ i = .int .i64 ((j : Nat) : Int) ∧ us.map (fun t => (t.cs, t.df)) = (ts.take j).map (fun t => (t.cs, t.df)) ∧ Tw w (.slice aoc nc cac) (.slice aof nf caf) (.slice aot nt cat) wq VC VF vt cs fs us)
          case atStart => exact ⟨0, _, [], by omega, rfl, rfl, HT1.out⟩
          case round =>
            clear HT1
            obtain ⟨j, vt, us, hjk, rfl, hus, htw⟩ := hrel
            have hul : us.length = j := by
              have := congrArg List.length hus
              rw [List.length_map, List.length_map, List.length_take, ← HNT.out] at this
              omega
            obtain ⟨ao, cl, hv⟩ := htw.t.form
            rw [hul] at hv
            subst hv
            have HTW := hid htw
            have HUS := hid hus
            have HUL := hid hul
            obtain ⟨GK, hGK⟩ : ∃ n, n = gk - 1 := ⟨_, rfl⟩
            have HGK := hid hGK
            clear htw hus hul hGK
            have l0 := lt_of_block HTW.out.b0
            have l2 := lt_of_block HTW.out.b2
            have gs := HTW.out.g.size
            by_cases hj : j < nt
            · obtain ⟨t, hx⟩ : ∃ x, ts[j]? = some x := ⟨_, List.getElem?_eq_getElem (by rw [← HNT.out]; exact hj)⟩
              have HX := hid hx
              have HM := hid (List.mem_of_getElem? hx)
              obtain ⟨g, o, cap', hv, _, hgl, hcap, hcs⟩ := HIN.out.t.get eT_len hx
              injection hv with hv1 hv2 hv3
              subst hv1
              have HGL := hid hgl
              obtain ⟨nq, hnq⟩ : ∃ n, n = t.cs.length := ⟨_, rfl⟩
              have HNQ := hid hnq
              have hq := HQ.out t HM.out
              rw [← hnq] at hq
              obtain ⟨aq, cq, hcv⟩ := (HIN.out.cs t HM.out).form
              rw [← hnq] at hcv
              have HCV := hid hcv
              have hd0 := hcs 0 _ rfl
              have hd1 := hcs 1 _ rfl
              rw [Nat.add_zero, hcv] at hd0
              have HD0 := hid hd0
              have d0 := (HTW.out.g.cell hgl).trans hd0
              have d1 := (HTW.out.g.cell hgl).trans hd1
              have n2 : wr.cell? ⟨w.heap.size, 2, none⟩ = some (.slice (some ⟨g, o, none⟩) nt cat) := (cell_of HTW.out.b0 2).trans rfl
              have lg : g < wr.heap.size := by omega
              have j0 : (0 : Int) ≤ (j : Int) := by omega
              have j1 : (j : Int) < (nt : Int) := by omega
              have HJ := hid hjk
              have HJ2 := hid hj
              have HBT := hid (MapKept.heap_alloc wr (.cells #[.slice none 0 0, .bool t.df] 44)).1
              have HGT := hid (Gr.alloc (Gr.refl wr) #[.slice none 0 0, .bool t.df] 44)
              clear hv2 hv3 hcs hx hcap hgl hd0 hd1 hnq hcv hjk
              go_wp2_with fail
              clear d0 d1 n2 lg l0 l2 gs
              rename World => V
              go_loopg [8] nq (fun m i wq => ∃ k cv, k + m = nq ∧ i = .int .i64 ((k : Nat) : Int) ∧ wq.heap[V.heap.size]? = some (.cells #[cv, .bool t.df] 44 (0, 0)) ∧ Ow eC 4 46 (V.heap.size + 1) wq cv (t.cs.take k) ∧ Gr V wq)
              case atStart => exact ⟨0, _, by omega, rfl, HBT.out, Ow.nil _ _ _ _ _, HGT.out⟩
              case round =>
                clear HBT HGT
                obtain ⟨k, cv, hkk, rfl, hbk, hoc, hgv⟩ := hrel
                obtain ⟨ao2, cl2, hv⟩ := hoc.form
                rw [List.length_take, ← HNQ.out, Nat.min_eq_left (by omega)] at hv
                subst hv
                have HBK := hid hbk
                have HOC := hid hoc
                have HGV := hid hgv
                have HGW := hid (Gr.trans HTW.out.g hgv)
                have gs := HGW.out.size
                have gs2 := hgv.size
                have gs3 := HTW.out.lt
                have lk := lt_of_block hbk
                have b0w := gr_blk HTW.out.b0 hgv
                have l0 := lt_of_block b0w
                have n2 : wr.cell? ⟨w.heap.size, 2, none⟩ = some (.slice (some ⟨g, o, none⟩) nt cat) := (cell_of b0w 2).trans rfl
                have d0 := (HGW.out.cell HGL.out).trans HD0.out
                have lg : g < wr.heap.size := by have := HGL.out; omega
                have k0 : wr.cell? ⟨V.heap.size, 0, none⟩ = some (.slice ao2 k cl2) := (cell_of hbk 0).trans rfl
                have k1 : wr.cell? ⟨V.heap.size, 1, none⟩ = some (.bool t.df) := (cell_of hbk 1).trans rfl
                clear hbk hoc hgv b0w
                by_cases hk : k < nq
                · obtain ⟨⟨x1, x2, x3, x4⟩, hx⟩ : ∃ x, t.cs[k]? = some x := ⟨_, List.getElem?_eq_getElem (by rw [← HNQ.out]; exact hk)⟩
                  have HX2 := hid hx
                  obtain ⟨gq, oq, cap', hv, _, hgl, hcap, hcs⟩ := (HIN.out.cs t HM.out).get eC_len hx
                  rw [HCV.out] at hv
                  injection hv with hv1 hv2 hv3
                  subst hv1
                  have HGQ := hid hgl
                  have c0 := (HGW.out.cell hgl).trans (hcs 0 _ rfl)
                  have c1 := (HGW.out.cell hgl).trans (hcs 1 _ rfl)
                  have c2 := (HGW.out.cell hgl).trans (hcs 2 _ rfl)
                  have c3 := (HGW.out.cell hgl).trans (hcs 3 _ rfl)
                  rw [Nat.add_zero] at c0
                  have lq : gq < wr.heap.size := by omega
                  have q0 : (0 : Int) ≤ (k : Int) := by omega
                  have q1 : (k : Int) < (nq : Int) := by omega
                  clear hv2 hv3 hcs hx hcap hgl
                  go_wp2_with fail
                  have hS0 : (fun w' => w'.cell? ⟨w.heap.size, 2, none⟩ = some (.slice (some ⟨g, o, none⟩) nt cat) ∧ w'.cell? ⟨g, o + j * 2, none⟩ = some (.slice (some ⟨gq, oq, none⟩) nq cq) ∧ w'.cell? ⟨gq, oq + k * 4, none⟩ = some (.bool x1) ∧ w'.cell? ⟨gq, oq + k * 4 + 1, none⟩ = some (.int .i64 x2) ∧ w'.cell? ⟨gq, oq + k * 4 + 2, none⟩ = some (.int .i64 x3) ∧ w'.cell? ⟨gq, oq + k * 4 + 3, none⟩ = some (.int .i64 x4)) wr.drew := ⟨n2, d0, c0, c1, c2, c3⟩
                  refine wp_region_held_drew (S := fun w' => w'.cell? ⟨w.heap.size, 2, none⟩ = some (.slice (some ⟨g, o, none⟩) nt cat) ∧ w'.cell? ⟨g, o + j * 2, none⟩ = some (.slice (some ⟨gq, oq, none⟩) nq cq) ∧ w'.cell? ⟨gq, oq + k * 4, none⟩ = some (.bool x1) ∧ w'.cell? ⟨gq, oq + k * 4 + 1, none⟩ = some (.int .i64 x2) ∧ w'.cell? ⟨gq, oq + k * 4 + 2, none⟩ = some (.int .i64 x3) ∧ w'.cell? ⟨gq, oq + k * 4 + 3, none⟩ = some (.int .i64 x4)) (by kernel_rfl) (by exact hS0) (fun hSx => ?_)
                  clear hSx
                  refine takeS_on (i := 0) 69 (v := ?v34) rfl rfl (by kernel_rfl) (by kernel_rfl) (by kernel_rfl) (fun _ _ _ h => h) (by kernel_rfl) ?hy34 (by exact hS0) ?_
                  case hy34 => (intro w' hSw; go_simp; try (with_reducible rfl))
                  simp only [Act.put, List.setIfInBounds_toArray, List.set_cons_zero, List.set_cons_succ]
                  refine takeS_on (i := 2) 71 (v := ?v35) rfl rfl (by kernel_rfl) (by kernel_rfl) (by kernel_rfl) (fun _ _ _ h => h) (by kernel_rfl) ?hy35 (by exact hS0) ?_
                  case hy35 => (intro w' hSw; go_simp; try (with_reducible rfl))
                  simp only [Act.put, List.setIfInBounds_toArray, List.set_cons_zero, List.set_cons_succ]
                  refine takeS_on (i := 3) 72 (v := ?v36) rfl rfl (by kernel_rfl) (by kernel_rfl) (by kernel_rfl) (fun _ _ _ h => h) (by kernel_rfl) ?hy36 (by exact hS0) ?_
                  case hy36 => (intro w' hSw; go_simp; try (with_reducible rfl))
                  simp only [Act.put, List.setIfInBounds_toArray, List.set_cons_zero, List.set_cons_succ]
                  refine takeS_on (i := 4) 73 (v := ?v37) rfl rfl (by kernel_rfl) (by kernel_rfl) (by kernel_rfl) (fun _ _ _ h => h) (by kernel_rfl) ?hy37 (by exact hS0) ?_
                  case hy37 => (intro w' hSw; go_simp; try (with_reducible rfl))
                  simp only [Act.put, List.setIfInBounds_toArray, List.set_cons_zero, List.set_cons_succ]
                  refine takeS_on (i := 5) 74 (v := ?v38) rfl rfl (by kernel_rfl) (by kernel_rfl) (by kernel_rfl) (fun _ _ _ h => h) (by kernel_rfl) ?hy38 (by exact hS0) ?_
                  case hy38 => (intro w' hSw; go_simp; try (with_reducible rfl))
                  simp only [Act.put, List.setIfInBounds_toArray, List.set_cons_zero, List.set_cons_succ]
                  refine takeS_on (i := 6) 75 (v := ?v39) rfl rfl (by kernel_rfl) (by kernel_rfl) (by kernel_rfl) (fun _ _ _ h => h) (by kernel_rfl) ?hy39 (by exact hS0) ?_
                  case hy39 => (intro w' hSw; go_simp; try (with_reducible rfl))
                  simp only [Act.put, List.setIfInBounds_toArray, List.set_cons_zero, List.set_cons_succ]
                  refine takeS_on (i := 7) 76 (v := ?v40) rfl rfl (by kernel_rfl) (by kernel_rfl) (by kernel_rfl) (fun _ _ _ h => h) (by kernel_rfl) ?hy40 (by exact hS0) ?_
                  case hy40 => (intro w' hSw; go_simp; try (with_reducible rfl))
                  simp only [Act.put, List.setIfInBounds_toArray, List.set_cons_zero, List.set_cons_succ]
                  refine takeS_on (i := 8) 77 (v := ?v41) rfl rfl (by kernel_rfl) (by kernel_rfl) (by kernel_rfl) (fun _ _ _ h => h) (by kernel_rfl) ?hy41 (by exact hS0) ?_
                  case hy41 => (intro w' hSw; go_simp; try (with_reducible rfl))
                  simp only [Act.put, List.setIfInBounds_toArray, List.set_cons_zero, List.set_cons_succ]
                  refine takeS_on (i := 9) 78 (v := ?v42) rfl rfl (by kernel_rfl) (by kernel_rfl) (by kernel_rfl) (fun _ _ _ h => h) (by kernel_rfl) ?hy42 (by exact hS0) ?_
                  case hy42 => (intro w' hSw; go_simp; try (with_reducible rfl))
                  simp only [Act.put, List.setIfInBounds_toArray, List.set_cons_zero, List.set_cons_succ]
                  refine takeS_on (i := 10) 79 (v := ?v43) rfl rfl (by kernel_rfl) (by kernel_rfl) (by kernel_rfl) (fun _ _ _ h => h) (by kernel_rfl) ?hy43 (by exact hS0) ?_
                  case hy43 => (intro w' hSw; go_simp; try (with_reducible rfl))
                  simp only [Act.put, List.setIfInBounds_toArray, List.set_cons_zero, List.set_cons_succ]
                  refine wpAnyH_ready (rs := [1, 11]) (by kernel_rfl) (by simp) (AllReadyH.cons rfl (fun K hK => ?_) (AllReadyH.cons rfl (fun K hK => ?_) AllReadyH.nil))
                  · go_simp
                    refine hK.out _ _ (by exact hS0) (fun hSx => ?_)
                    clear hSx hK K
                    refine wpAnyH_ready (rs := [11]) (by kernel_rfl) (by simp) (AllReadyH.cons rfl (fun K hK => ?_) AllReadyH.nil)
                    go_simp
                    have kc : Gr wr (wr.alloc (.cells #[.bool x1, .int .i64 x2, .int .i64 x3, .int .i64 x4] 46)).drew := Ch.drew (Ch.alloc (Gr.refl wr) _)
                    have hS_c : (fun w' => w'.cell? ⟨w.heap.size, 2, none⟩ = some (.slice (some ⟨g, o, none⟩) nt cat) ∧ w'.cell? ⟨g, o + j * 2, none⟩ = some (.slice (some ⟨gq, oq, none⟩) nq cq) ∧ w'.cell? ⟨gq, oq + k * 4, none⟩ = some (.bool x1) ∧ w'.cell? ⟨gq, oq + k * 4 + 1, none⟩ = some (.int .i64 x2) ∧ w'.cell? ⟨gq, oq + k * 4 + 2, none⟩ = some (.int .i64 x3) ∧ w'.cell? ⟨gq, oq + k * 4 + 3, none⟩ = some (.int .i64 x4)) (wr.alloc (.cells #[.bool x1, .int .i64 x2, .int .i64 x3, .int .i64 x4] 46)).drew := ⟨(Ch.cell kc l0 (noB _)).trans n2, (Ch.cell kc lg (noB _)).trans d0, (Ch.cell kc lq (noB _)).trans c0, (Ch.cell kc lq (noB _)).trans c1, (Ch.cell kc lq (noB _)).trans c2, (Ch.cell kc lq (noB _)).trans c3⟩
                    refine hK.out _ _ (by exact hS_c) (fun hSx => ?_)
                    clear hSx hK K
                    refine wpAnyH_ready (rs := [12]) (by kernel_rfl) (by simp) (AllReadyH.cons rfl (fun K hK => ?_) AllReadyH.nil)
                    refine step_append_ow eC_len rfl (.tmp 70) (.tmp 80) 42 46 32 (.agg #[.bool false, .int .i64 0, .int .i64 0, .int .i64 0]) Tryz.underlying42 case_info rfl (by omega) rfl (V.heap.size + 1) (.slice ao2 k cl2) (t.cs.take k) (by simp [Act.eval]) (HOC.out.alloc _) _ _ [⟨x1, x2, x3, x4⟩] (by simp [Act.eval]) (Ls.single wr _ _ _ rfl) eC_one (k + 1) (by rw [List.length_take, ← HNQ.out]; simp; omega) (by omega) (by unfold maxLen; omega) (by simp; omega) (t.cs.take k ++ [⟨x1, x2, x3, x4⟩]) rfl ?_
                    intro ao6 cap6 w6 ow6 cw6 bl6
                    have nB : ¬ Blk (.slice ao2 k cl2) w.heap.size := fun e => by have := (HOC.out.blk e).1; omega
                    have nG : ¬ Blk (.slice ao2 k cl2) g := fun e => by have := (HOC.out.blk e).1; have := HGL.out; omega
                    have nQ : ¬ Blk (.slice ao2 k cl2) gq := fun e => by have := (HOC.out.blk e).1; have := HGQ.out; omega
                    have nV : ¬ Blk (.slice ao2 k cl2) V.heap.size := fun e => by have := (HOC.out.blk e).1; omega
                    have hS_d : (fun w' => w'.cell? ⟨w.heap.size, 2, none⟩ = some (.slice (some ⟨g, o, none⟩) nt cat) ∧ w'.cell? ⟨g, o + j * 2, none⟩ = some (.slice (some ⟨gq, oq, none⟩) nq cq) ∧ w'.cell? ⟨gq, oq + k * 4, none⟩ = some (.bool x1) ∧ w'.cell? ⟨gq, oq + k * 4 + 1, none⟩ = some (.int .i64 x2) ∧ w'.cell? ⟨gq, oq + k * 4 + 2, none⟩ = some (.int .i64 x3) ∧ w'.cell? ⟨gq, oq + k * 4 + 3, none⟩ = some (.int .i64 x4)) w6 := ⟨(Ch.cell cw6 (by simp; omega) nB).trans hS_c.1, (Ch.cell cw6 (by simp; omega) nG).trans hS_c.2.1, (Ch.cell cw6 (by simp; omega) nQ).trans hS_c.2.2.1, (Ch.cell cw6 (by simp; omega) nQ).trans hS_c.2.2.2.1, (Ch.cell cw6 (by simp; omega) nQ).trans hS_c.2.2.2.2.1, (Ch.cell cw6 (by simp; omega) nQ).trans hS_c.2.2.2.2.2⟩
                    have b6 := (cw6.block V.heap.size (by simp; omega) nV).trans (al_blk HBK.out _)
                    have u6 : w6.cell? ⟨V.heap.size, 0, none⟩ = some (.slice ao2 k cl2) := (cell_of b6 _).trans rfl
                    have z6 := frozen_of b6 0
                    have l6 := lt_of_block b6
                    have HV6 := hid b6
                    have HO6 := hid ow6
                    have HC6 := hid cw6
                    clear ow6 cw6 bl6 b6
                    refine hK.out _ _ (by exact hS_d) (fun hSx => ?_)
                    change wpAnyH _ _ _ _ _ _ _ (Act.put _ (some 81) _) _
                    simp only [Act.put, List.setIfInBounds_toArray, List.set_cons_zero, List.set_cons_succ]
                    clear hSx hK K
                    refine takeS_on (i := 13) 82 (v := ?v44) rfl rfl (by kernel_rfl) (by kernel_rfl) (by kernel_rfl) (fun _ _ _ h => h) (by kernel_rfl) ?hy44 (by exact hS_d) ?_
                    case hy44 => (intro w' hSw; go_simp; try (with_reducible rfl))
                    simp only [Act.put, List.setIfInBounds_toArray, List.set_cons_zero, List.set_cons_succ]
                    refine wpAnyH_ready (rs := [14]) (by kernel_rfl) (by simp) (AllReadyH.cons rfl (fun K hK => ?_) AllReadyH.nil)
                    go_simp
                    have k7 : Ch (Only V.heap.size) w6 (w6.setCell ⟨V.heap.size, 0, none⟩ (.slice ao6 (k + 1) cap6)) := (Ch.refl _ _).own _ _
                    have s6 := HC6.out.size
                    simp at s6
                    have g1 : ¬ Only V.heap.size w.heap.size := fun e => by have e1 : w.heap.size = V.heap.size := e; omega
                    have g2 : ¬ Only V.heap.size g := fun e => by have e1 : g = V.heap.size := e; have := HGL.out; omega
                    have g3 : ¬ Only V.heap.size gq := fun e => by have e1 : gq = V.heap.size := e; have := HGQ.out; omega
                    have hS_e : (fun w' => w'.cell? ⟨w.heap.size, 2, none⟩ = some (.slice (some ⟨g, o, none⟩) nt cat) ∧ w'.cell? ⟨g, o + j * 2, none⟩ = some (.slice (some ⟨gq, oq, none⟩) nq cq) ∧ w'.cell? ⟨gq, oq + k * 4, none⟩ = some (.bool x1) ∧ w'.cell? ⟨gq, oq + k * 4 + 1, none⟩ = some (.int .i64 x2) ∧ w'.cell? ⟨gq, oq + k * 4 + 2, none⟩ = some (.int .i64 x3) ∧ w'.cell? ⟨gq, oq + k * 4 + 3, none⟩ = some (.int .i64 x4)) (w6.setCell ⟨V.heap.size, 0, none⟩ (.slice ao6 (k + 1) cap6)) := ⟨(Ch.cell k7 (by omega) g1).trans hS_d.1, (Ch.cell k7 (by omega) g2).trans hS_d.2.1, (Ch.cell k7 (by omega) g3).trans hS_d.2.2.1, (Ch.cell k7 (by omega) g3).trans hS_d.2.2.2.1, (Ch.cell k7 (by omega) g3).trans hS_d.2.2.2.2.1, (Ch.cell k7 (by omega) g3).trans hS_d.2.2.2.2.2⟩
                    refine hK.out _ _ (by exact hS_e) (fun hSx => ?_)
                    clear hSx hK K
                    refine wpAnyH_done (by kernel_rfl) ?_ _
                    have B7 := hid (show (w6.setCell ⟨V.heap.size, 0, none⟩ (.slice ao6 (k + 1) cap6)).heap[V.heap.size]? = some (.cells #[.slice ao6 (k + 1) cap6, .bool t.df] 44 (0, 0)) by simpa using setCell_block HV6.out 0 (.slice ao6 (k + 1) cap6))
                    have O7 := hid (HO6.out.ch k7 (fun q hq e => by have := (HO6.out.blk hq).1; have e1 : q = V.heap.size := e; omega))
                    have G7 := hid (show Gr V (w6.setCell ⟨V.heap.size, 0, none⟩ (.slice ao6 (k + 1) cap6)) from Ch.trans (Ch.trans (Gr.trans HGV.out (Ch.drew (Ch.alloc (Gr.refl wr) _))) HC6.out (fun q e => .inr (by have := (HOC.out.blk e).1; omega))) k7 (fun q e => .inr (by have e1 : q = V.heap.size := e; omega)))
                    clear hS0 hS_c hS_d hS_e u6 z6 s6 k7 kc l6
                    generalize w6.setCell ⟨V.heap.size, 0, none⟩ (.slice ao6 (k + 1) cap6) = W7 at B7 O7 G7 ⊢
                    go_wp2_with fail
                    go_roundg (gk - 1)
                    case measure => omega
                    case rel => exact ⟨k + 1, _, by omega, by simp, B7.out, by rw [take_one HX2.out]; exact O7.out, G7.out⟩
                  · go_simp
                    have kc : Gr wr (wr.alloc (.cells #[.bool x1, .int .i64 x2, .int .i64 x3, .int .i64 x4] 46)).drew := Ch.drew (Ch.alloc (Gr.refl wr) _)
                    have hS_c : (fun w' => w'.cell? ⟨w.heap.size, 2, none⟩ = some (.slice (some ⟨g, o, none⟩) nt cat) ∧ w'.cell? ⟨g, o + j * 2, none⟩ = some (.slice (some ⟨gq, oq, none⟩) nq cq) ∧ w'.cell? ⟨gq, oq + k * 4, none⟩ = some (.bool x1) ∧ w'.cell? ⟨gq, oq + k * 4 + 1, none⟩ = some (.int .i64 x2) ∧ w'.cell? ⟨gq, oq + k * 4 + 2, none⟩ = some (.int .i64 x3) ∧ w'.cell? ⟨gq, oq + k * 4 + 3, none⟩ = some (.int .i64 x4)) (wr.alloc (.cells #[.bool x1, .int .i64 x2, .int .i64 x3, .int .i64 x4] 46)).drew := ⟨(Ch.cell kc l0 (noB _)).trans n2, (Ch.cell kc lg (noB _)).trans d0, (Ch.cell kc lq (noB _)).trans c0, (Ch.cell kc lq (noB _)).trans c1, (Ch.cell kc lq (noB _)).trans c2, (Ch.cell kc lq (noB _)).trans c3⟩
                    refine hK.out _ _ (by exact hS_c) (fun hSx => ?_)
                    clear hSx hK K
                    refine wpAnyH_ready (rs := [1]) (by kernel_rfl) (by simp) (AllReadyH.cons rfl (fun K hK => ?_) AllReadyH.nil)
                    go_simp
                    refine hK.out _ _ (by exact hS_c) (fun hSx => ?_)
                    clear hSx hK K
                    refine wpAnyH_ready (rs := [12]) (by kernel_rfl) (by simp) (AllReadyH.cons rfl (fun K hK => ?_) AllReadyH.nil)
                    refine step_append_ow eC_len rfl (.tmp 70) (.tmp 80) 42 46 32 (.agg #[.bool false, .int .i64 0, .int .i64 0, .int .i64 0]) Tryz.underlying42 case_info rfl (by omega) rfl (V.heap.size + 1) (.slice ao2 k cl2) (t.cs.take k) (by simp [Act.eval]) (HOC.out.alloc _) _ _ [⟨x1, x2, x3, x4⟩] (by simp [Act.eval]) (Ls.single wr _ _ _ rfl) eC_one (k + 1) (by rw [List.length_take, ← HNQ.out]; simp; omega) (by omega) (by unfold maxLen; omega) (by simp; omega) (t.cs.take k ++ [⟨x1, x2, x3, x4⟩]) rfl ?_
                    intro ao6 cap6 w6 ow6 cw6 bl6
                    have nB : ¬ Blk (.slice ao2 k cl2) w.heap.size := fun e => by have := (HOC.out.blk e).1; omega
                    have nG : ¬ Blk (.slice ao2 k cl2) g := fun e => by have := (HOC.out.blk e).1; have := HGL.out; omega
                    have nQ : ¬ Blk (.slice ao2 k cl2) gq := fun e => by have := (HOC.out.blk e).1; have := HGQ.out; omega
                    have nV : ¬ Blk (.slice ao2 k cl2) V.heap.size := fun e => by have := (HOC.out.blk e).1; omega
                    have hS_d : (fun w' => w'.cell? ⟨w.heap.size, 2, none⟩ = some (.slice (some ⟨g, o, none⟩) nt cat) ∧ w'.cell? ⟨g, o + j * 2, none⟩ = some (.slice (some ⟨gq, oq, none⟩) nq cq) ∧ w'.cell? ⟨gq, oq + k * 4, none⟩ = some (.bool x1) ∧ w'.cell? ⟨gq, oq + k * 4 + 1, none⟩ = some (.int .i64 x2) ∧ w'.cell? ⟨gq, oq + k * 4 + 2, none⟩ = some (.int .i64 x3) ∧ w'.cell? ⟨gq, oq + k * 4 + 3, none⟩ = some (.int .i64 x4)) w6 := ⟨(Ch.cell cw6 (by simp; omega) nB).trans hS_c.1, (Ch.cell cw6 (by simp; omega) nG).trans hS_c.2.1, (Ch.cell cw6 (by simp; omega) nQ).trans hS_c.2.2.1, (Ch.cell cw6 (by simp; omega) nQ).trans hS_c.2.2.2.1, (Ch.cell cw6 (by simp; omega) nQ).trans hS_c.2.2.2.2.1, (Ch.cell cw6 (by simp; omega) nQ).trans hS_c.2.2.2.2.2⟩
                    have b6 := (cw6.block V.heap.size (by simp; omega) nV).trans (al_blk HBK.out _)
                    have u6 : w6.cell? ⟨V.heap.size, 0, none⟩ = some (.slice ao2 k cl2) := (cell_of b6 _).trans rfl
                    have z6 := frozen_of b6 0
                    have l6 := lt_of_block b6
                    have HV6 := hid b6
                    have HO6 := hid ow6
                    have HC6 := hid cw6
                    clear ow6 cw6 bl6 b6
                    refine hK.out _ _ (by exact hS_d) (fun hSx => ?_)
                    change wpAnyH _ _ _ _ _ _ _ (Act.put _ (some 81) _) _
                    simp only [Act.put, List.setIfInBounds_toArray, List.set_cons_zero, List.set_cons_succ]
                    clear hSx hK K
                    refine takeS_on (i := 13) 82 (v := ?v45) rfl rfl (by kernel_rfl) (by kernel_rfl) (by kernel_rfl) (fun _ _ _ h => h) (by kernel_rfl) ?hy45 (by exact hS_d) ?_
                    case hy45 => (intro w' hSw; go_simp; try (with_reducible rfl))
                    simp only [Act.put, List.setIfInBounds_toArray, List.set_cons_zero, List.set_cons_succ]
                    refine wpAnyH_ready (rs := [14]) (by kernel_rfl) (by simp) (AllReadyH.cons rfl (fun K hK => ?_) AllReadyH.nil)
                    go_simp
                    have k7 : Ch (Only V.heap.size) w6 (w6.setCell ⟨V.heap.size, 0, none⟩ (.slice ao6 (k + 1) cap6)) := (Ch.refl _ _).own _ _
                    have s6 := HC6.out.size
                    simp at s6
                    have g1 : ¬ Only V.heap.size w.heap.size := fun e => by have e1 : w.heap.size = V.heap.size := e; omega
                    have g2 : ¬ Only V.heap.size g := fun e => by have e1 : g = V.heap.size := e; have := HGL.out; omega
                    have g3 : ¬ Only V.heap.size gq := fun e => by have e1 : gq = V.heap.size := e; have := HGQ.out; omega
                    have hS_e : (fun w' => w'.cell? ⟨w.heap.size, 2, none⟩ = some (.slice (some ⟨g, o, none⟩) nt cat) ∧ w'.cell? ⟨g, o + j * 2, none⟩ = some (.slice (some ⟨gq, oq, none⟩) nq cq) ∧ w'.cell? ⟨gq, oq + k * 4, none⟩ = some (.bool x1) ∧ w'.cell? ⟨gq, oq + k * 4 + 1, none⟩ = some (.int .i64 x2) ∧ w'.cell? ⟨gq, oq + k * 4 + 2, none⟩ = some (.int .i64 x3) ∧ w'.cell? ⟨gq, oq + k * 4 + 3, none⟩ = some (.int .i64 x4)) (w6.setCell ⟨V.heap.size, 0, none⟩ (.slice ao6 (k + 1) cap6)) := ⟨(Ch.cell k7 (by omega) g1).trans hS_d.1, (Ch.cell k7 (by omega) g2).trans hS_d.2.1, (Ch.cell k7 (by omega) g3).trans hS_d.2.2.1, (Ch.cell k7 (by omega) g3).trans hS_d.2.2.2.1, (Ch.cell k7 (by omega) g3).trans hS_d.2.2.2.2.1, (Ch.cell k7 (by omega) g3).trans hS_d.2.2.2.2.2⟩
                    refine hK.out _ _ (by exact hS_e) (fun hSx => ?_)
                    clear hSx hK K
                    refine wpAnyH_done (by kernel_rfl) ?_ _
                    have B7 := hid (show (w6.setCell ⟨V.heap.size, 0, none⟩ (.slice ao6 (k + 1) cap6)).heap[V.heap.size]? = some (.cells #[.slice ao6 (k + 1) cap6, .bool t.df] 44 (0, 0)) by simpa using setCell_block HV6.out 0 (.slice ao6 (k + 1) cap6))
                    have O7 := hid (HO6.out.ch k7 (fun q hq e => by have := (HO6.out.blk hq).1; have e1 : q = V.heap.size := e; omega))
                    have G7 := hid (show Gr V (w6.setCell ⟨V.heap.size, 0, none⟩ (.slice ao6 (k + 1) cap6)) from Ch.trans (Ch.trans (Gr.trans HGV.out (Ch.drew (Ch.alloc (Gr.refl wr) _))) HC6.out (fun q e => .inr (by have := (HOC.out.blk e).1; omega))) k7 (fun q e => .inr (by have e1 : q = V.heap.size := e; omega)))
                    clear hS0 hS_c hS_d hS_e u6 z6 s6 k7 kc l6
                    generalize w6.setCell ⟨V.heap.size, 0, none⟩ (.slice ao6 (k + 1) cap6) = W7 at B7 O7 G7 ⊢
                    go_wp2_with fail
                    go_roundg (gk - 1)
                    case measure => omega
                    case rel => exact ⟨k + 1, _, by omega, by simp, B7.out, by rw [take_one HX2.out]; exact O7.out, G7.out⟩
                · have hkn : k = nq := by omega
                  have O1 := HOC.out
                  have htk : t.cs.take k = t.cs := by rw [hkn, HNQ.out]; exact List.take_length
                  rw [htk] at O1
                  have HO1 := hid O1
                  have kn : ¬ (k : Int) < (nq : Int) := by omega
                  have b2w := gr_blk HTW.out.b2 HGV.out
                  have HB2 := hid b2w
                  have o2 : wr.cell? ⟨w.heap.size + 2, 2, none⟩ = some (.slice ao j cl) := (cell_of b2w 2).trans rfl
                  have l2 := lt_of_block b2w
                  have j0 : (0 : Int) ≤ (j : Int) := by omega
                  have hj2 := HJ2.out
                  have j1 : (j : Int) < (nt : Int) := by omega
                  clear O1 htk b2w hkn
                  go_wp2_with (at_builtin; refine wpList_append_ow eT_len rfl (.tmp 84) (.tmp 86) _ 44 32 _ Tryz.underlying24 table_info rfl (by omega) rfl (w.heap.size + 3) _ us rfl ((HTW.out.t.gr HGV.out).alloc _) _ _ [⟨t.cs, .slice ao2 k cl2, t.df⟩] rfl (Ls.single wr _ _ _ rfl) (by intro u hu; simp [eT] at hu; rcases hu with rfl | rfl <;> rfl) (j + 1) (by rw [HUL.out]; rfl) (by omega) (by unfold maxLen; omega) (by simp; omega) _ rfl ?_; intro ao8 cap8 w8 ow8 cw8 bl8; have nO : ¬ Blk (.slice ao j cl) (w.heap.size + 2) := fun e => by { have := (HTW.out.t.blk e).1; omega }; have b8 := (cw8.block (w.heap.size + 2) (by simp; omega) nO).trans (al_blk HB2.out _); have u8 : w8.cell? ⟨w.heap.size + 2, 2, none⟩ = some (.slice ao j cl) := (cell_of b8 _).trans rfl; have z8 := frozen_of b8 2; have l8 := lt_of_block b8; have HO8 := hid ow8; have HC8 := hid cw8; have HB8 := hid bl8; clear ow8 cw8 bl8 b8)
                  have T8 := HTW.out.newT (tb := ⟨t.cs, .slice ao2 k cl2, t.df⟩) (Ch.alloc HGV.out _) ((HO1.out.alloc _).lower (by omega)) HO8.out HC8.out HB8.out
                  have HT8 := hid T8
                  clear T8
                  go_roundg GK
                  case measure => have := HGK.out; have := HJ.out; omega
                  case rel => exact ⟨j + 1, _, _, by have := HGK.out; have := HJ.out; omega, by simp, by rw [take_one HX.out, List.map_append, List.map_append, HUS.out]; rfl, HT8.out⟩
            · have hjn : j = nt := by omega
              have T1 := HTW.out
              have htk : ts.take j = ts := by rw [hjn, HNT.out]; exact List.take_length
              rw [htk] at HUS
              have n2 : wr.cell? ⟨w.heap.size, 2, none⟩ = some (.slice aot nt cat) := (cell_of T1.b0 2).trans rfl
              have o0 : wr.cell? ⟨w.heap.size + 2, 0, none⟩ = some VC := (cell_of T1.b2 0).trans rfl
              have o1 : wr.cell? ⟨w.heap.size + 2, 1, none⟩ = some VF := (cell_of T1.b2 1).trans rfl
              have o2 : wr.cell? ⟨w.heap.size + 2, 2, none⟩ = some (.slice ao j cl) := (cell_of T1.b2 2).trans rfl
              have r0 : wr.cell? ⟨w.heap.size + 1, 0, none⟩ = some (.slice none 0 0) := (cell_of T1.b1 0).trans rfl
              have r1 : wr.cell? ⟨w.heap.size + 1, 1, none⟩ = some (.slice none 0 0) := (cell_of T1.b1 1).trans rfl
              have r2 : wr.cell? ⟨w.heap.size + 1, 2, none⟩ = some (.slice none 0 0) := (cell_of T1.b1 2).trans rfl
              have z0 := frozen_of T1.b1 0
              have z1 := frozen_of T1.b1 1
              have z2 := frozen_of T1.b1 2
              have jn : ¬ (j : Int) < (nt : Int) := by omega
              obtain ⟨p1, p2, hVC⟩ := T1.c.form
              obtain ⟨p3, p4, hVF⟩ := T1.f.form
              subst hVC hVF
              have hfin := hid (three_of (x' := .slice p1 cs.length p2) (y' := .slice p3 fs.length p4) (z' := .slice ao j cl) T1.b1)
              clear T1 htk hjn
              go_wp2_with fail
              refine bodyPost_ret (v := .agg #[.slice p1 cs.length p2, .slice p3 fs.length p4, .slice ao j cl]) (by simp [results, Tryz.results14, go_sem, cell_of hfin.out]) rfl ?_
              exact TwR.of HTW.out HUS.out ((((Ch.refl _ _).own _ _).own _ _).own _ _)
end Go.Proofs.YtbehlhnnfdkmaaaGreatDoor.Lt
