/-
  StepAnswers, walked. Condition: the tables lie where they lie.
-/
import Derived.Test.YtcdlhfodeckleaaDoorStAnsP
import Derived.Test.YtcdlhfodeckleaaDoorStAnsR
import Derived.Test.YtcdlhfodeckleaaDoorStSame
namespace Go.Proofs.YtcdlhfodeckleaaDoor.Lt
open Go.RowKit Wd

theorem pans_any (P : Nat → Prop) (w : World) (pc : Int) (r : List Int) (hr : r.length = 16) (ao : Option Addr) (n cap : Nat) (ks : List Int) (hk : Ls eI P w (.slice ao n cap) ks) (hn : n ≤ 17592186044416) (o a b c m v k : Int) :
    Calls Tryd.prog 18 #[.agg (cC pc r (.slice ao n cap)), .agg #[.int .i64 o, .int .i64 a, .int .i64 b, .int .i64 c, .int .i64 m], .int .i64 v, .int .i64 k] w (CxR w pc (ans o a b c v k r) ks) := by
  unfold ans
  by_cases h1 : C1 o
  · rw [if_pos h1]; exact pans_1 P w pc r hr ao n cap ks hk hn o a b c m v k h1
  · rw [if_neg h1]
    by_cases h2 : C2 o
    · rw [if_pos h2]; exact pans_2 P w pc r hr ao n cap ks hk hn o a b c m v k h2
    · rw [if_neg h2]
      by_cases h3 : o = 53
      · rw [if_pos h3]; exact pans_3 P w pc r hr ao n cap ks hk hn o a b c m v k h3
      · rw [if_neg h3]; exact pans_0 P w pc r hr ao n cap ks hk hn o a b c m v k ⟨h1, h2, h3⟩
theorem rans_any (P : Nat → Prop) (w : World) (pc : Int) (r : List Int) (hr : r.length = 16) (ao : Option Addr) (n cap : Nat) (ks : List Int) (hk : Ls eI P w (.slice ao n cap) ks) (hn : n ≤ 17592186044416) (o a b c m v k : Int) :
    Calls Tryd.prog 19 #[.agg (cC pc r (.slice ao n cap)), .agg #[.int .i64 o, .int .i64 a, .int .i64 b, .int .i64 c, .int .i64 m], .int .i64 v, .int .i64 k] w (CxR w pc (ans o a b c v k r) ks) := by
  unfold ans
  by_cases h1 : C1 o
  · rw [if_pos h1]; exact rans_1 P w pc r hr ao n cap ks hk hn o a b c m v k h1
  · rw [if_neg h1]
    by_cases h2 : C2 o
    · rw [if_pos h2]; exact rans_2 P w pc r hr ao n cap ks hk hn o a b c m v k h2
    · rw [if_neg h2]
      by_cases h3 : o = 53
      · rw [if_pos h3]; exact rans_3 P w pc r hr ao n cap ks hk hn o a b c m v k h3
      · rw [if_neg h3]; exact rans_0 P w pc r hr ao n cap ks hk hn o a b c m v k ⟨h1, h2, h3⟩
theorem y7_cells {w : World} {X : Nat} {a b c d e f g : Value} {T : TypeId} (h : w.heap[X]? = some (.cells #[a, b, c, d, e, f, g] T (0, 0))) : w.cell? ⟨X, 0, none⟩ = some a ∧ w.cell? ⟨X, 1, none⟩ = some b ∧ w.cell? ⟨X, 2, none⟩ = some c ∧ w.cell? ⟨X, 3, none⟩ = some d ∧ w.cell? ⟨X, 4, none⟩ = some e ∧ w.cell? ⟨X, 5, none⟩ = some f ∧ w.cell? ⟨X, 6, none⟩ = some g ∧ X < w.heap.size :=
  ⟨(cell_of h 0).trans rfl, (cell_of h 1).trans rfl, (cell_of h 2).trans rfl, (cell_of h 3).trans rfl, (cell_of h 4).trans rfl, (cell_of h 5).trans rfl, (cell_of h 6).trans rfl, lt_of_block h⟩
/-- a context and a reply in variables of their own -/
structure Sr (w : World) (X Y : Array Value) (W : World) : Prop where
  g : Gr w W
  c : W.heap[w.heap.size]? = some (.cells X 30 (0, 0))
  y : W.heap[w.heap.size + 1]? = some (.cells Y 54 (0, 0))
theorem Sr.gr {w : World} {X Y : Array Value} {W W' : World} (h : Sr w X Y W) (g : Gr W W') : Sr w X Y W' := ⟨Gr.trans h.g g, gr_blk h.c g, gr_blk h.y g⟩
theorem Sr.drew {w : World} {X Y : Array Value} {W : World} (h : Sr w X Y W) : Sr w X Y W.drew := ⟨Ch.drew h.g, h.c, h.y⟩
theorem Sr.st {w : World} {X Y : Array Value} {W W' : World} {A : Nat} (h : Sr w X Y W) (k : Ch (Only A) W W') (hA : w.heap.size + 1 < A) : Sr w X Y W' :=
  ⟨Ch.trans h.g k (fun q e => .inr (by have e1 : q = A := e; omega)), (k.block _ (lt_of_block h.c) (fun q => by have q1 : w.heap.size = A := q; omega)).trans h.c, (k.block _ (lt_of_block h.y) (fun q => by have q1 : w.heap.size + 1 = A := q; omega)).trans h.y⟩
theorem Sr.new (w : World) (X Y : Array Value) : Sr w X Y ((w.alloc (.cells X 30)).alloc (.cells Y 54)) := by
  refine ⟨Ch.alloc (Ch.alloc (Gr.refl w) _) _, al_blk (MapKept.heap_alloc w _).1 _, ?_⟩
  simpa using (MapKept.heap_alloc (w.alloc (.cells X 30)) (.cells Y 54)).1
/-- and what was answered -/
structure Ss (w : World) (X Y : Array Value) (A : Nat) (D : Array Value) (u : Value) (ks : List Int) (W : World) : Prop where
  g : Gr w W
  c : W.heap[w.heap.size]? = some (.cells X 30 (0, 0))
  y : W.heap[w.heap.size + 1]? = some (.cells Y 54 (0, 0))
  d : W.heap[A]? = some (.cells D 30 (0, 0))
  l : ∃ P, Ls eI P W u ks
theorem Ss.gr {w : World} {X Y D : Array Value} {A : Nat} {u : Value} {ks : List Int} {W W' : World} (h : Ss w X Y A D u ks W) (g : Gr W W') : Ss w X Y A D u ks W' := ⟨Gr.trans h.g g, gr_blk h.c g, gr_blk h.y g, gr_blk h.d g, ⟨_, h.l.choose_spec.gr g⟩⟩
set_option maxHeartbeats 4000000 in
set_option maxRecDepth 20000 in
theorem answers_any9 (P : Nat → Prop) (w : World) (pc : Int) (r : List Int) (ao : Option Addr) (n cap : Nat) (ks : List Int) (o a b c m v k : Int) (hr : r.length = 16) (hk : Ls eI P w (.slice ao n cap) ks) (hn : n ≤ 17592186044416) (hg : Glb w) :
    Calls Tryd.prog 6 #[.agg (cC pc r (.slice ao n cap)), .agg #[.int .i64 o, .int .i64 a, .int .i64 b, .int .i64 c, .int .i64 m, .int .i64 v, .int .i64 k]] w fun e w' => e = .returned (.bool true) ∧ Gr w w' := by
  obtain ⟨r0, r1, r2, r3, r4, r5, r6, r7, r8, r9, r10, r11, r12, r13, r14, r15, rfl⟩ := regs16 hr
  have hkl : ks.length ≤ 17592186044416 := by have := hk.len.1; omega
  have HLV := hid (fun (W : World) (p : Gr w W) => lives9_any W (hg.gr p))
  have HT := hid (fun (W : World) (p : Gr w W) => twin_any P W pc [r0, r1, r2, r3, r4, r5, r6, r7, r8, r9, r10, r11, r12, r13, r14, r15] rfl ao n cap ks (hk.gr p) hn)
  have HP := hid (fun (W : World) (_ : Gr w W) (ao2 : Option Addr) (n2 cap2 B : Nat) (h : Ow eI 1 3 B W (.slice ao2 n2 cap2) ks) => pans_any (B ≤ ·) W pc [r0, r1, r2, r3, r4, r5, r6, r7, r8, r9, r10, r11, r12, r13, r14, r15] rfl ao2 n2 cap2 ks h.lst (by have := h.len.1; omega) o a b c m v k)
  have HR := hid (fun (W : World) (p : Gr w W) => rans_any P W pc [r0, r1, r2, r3, r4, r5, r6, r7, r8, r9, r10, r11, r12, r13, r14, r15] rfl ao n cap ks (hk.gr p) hn o a b c m v k)
  obtain ⟨rr, hq⟩ : ∃ rr, rr = ans o a b c v k [r0, r1, r2, r3, r4, r5, r6, r7, r8, r9, r10, r11, r12, r13, r14, r15] := ⟨_, rfl⟩
  have hrr : rr.length = 16 := by rw [hq, ans_len]; rfl
  rw [← hq] at HP HR
  rw [cC_is] at HT HR ⊢
  have hB := Sr.new w #[.int .i64 pc, .int .i64 r0, .int .i64 r1, .int .i64 r2, .int .i64 r3, .int .i64 r4, .int .i64 r5, .int .i64 r6, .int .i64 r7, .int .i64 r8, .int .i64 r9, .int .i64 r10, .int .i64 r11, .int .i64 r12, .int .i64 r13, .int .i64 r14, .int .i64 r15, .slice ao n cap] #[.int .i64 o, .int .i64 a, .int .i64 b, .int .i64 c, .int .i64 m, .int .i64 v, .int .i64 k]
  clear hk hg hr hq hn
  go_enter Tryd.func6, Tryd.ntmps6
  go_wp2_with fail
  generalize (w.alloc (.cells #[.int .i64 pc, .int .i64 r0, .int .i64 r1, .int .i64 r2, .int .i64 r3, .int .i64 r4, .int .i64 r5, .int .i64 r6, .int .i64 r7, .int .i64 r8, .int .i64 r9, .int .i64 r10, .int .i64 r11, .int .i64 r12, .int .i64 r13, .int .i64 r14, .int .i64 r15, .slice ao n cap] 30)).alloc (.cells #[.int .i64 o, .int .i64 a, .int .i64 b, .int .i64 c, .int .i64 m, .int .i64 v, .int .i64 k] 54) = W0 at hB ⊢
  have hS0 := hB.drew
  refine wp_region_held_drew (S := Sr w #[.int .i64 pc, .int .i64 r0, .int .i64 r1, .int .i64 r2, .int .i64 r3, .int .i64 r4, .int .i64 r5, .int .i64 r6, .int .i64 r7, .int .i64 r8, .int .i64 r9, .int .i64 r10, .int .i64 r11, .int .i64 r12, .int .i64 r13, .int .i64 r14, .int .i64 r15, .slice ao n cap] #[.int .i64 o, .int .i64 a, .int .i64 b, .int .i64 c, .int .i64 m, .int .i64 v, .int .i64 k]) (by kernel_rfl) (by exact hS0) (fun _ => ?_)
  refine takeS_on (i := 0) 6 (v := ?v1) rfl rfl (by kernel_rfl) (by kernel_rfl) (by kernel_rfl) (fun _ _ _ h => h) (by kernel_rfl) ?hy1 (by exact hS0) ?_
  case hy1 => (intro w' hSw; refine Eq.trans (exec_row 30 (.tmp 2) rfl _ rfl _ _ _ _ hSw.c Tryd.underlying30 rfl ctx_size) ?_; with_reducible rfl)
  simp only [Act.put, List.setIfInBounds_toArray, List.set_cons_zero, List.set_cons_succ]
  refine takeS_on (i := 2) 8 (v := ?v2) rfl rfl (by kernel_rfl) (by kernel_rfl) (by kernel_rfl) (fun _ _ _ h => h) (by kernel_rfl) ?hy2 (by exact hS0) ?_
  case hy2 => (intro w' hSw; go_simp; try (with_reducible rfl))
  simp only [Act.put, List.setIfInBounds_toArray, List.set_cons_zero, List.set_cons_succ]
  refine takeS_on (i := 3) 9 (v := ?v3) rfl rfl (by kernel_rfl) (by kernel_rfl) (by kernel_rfl) (fun _ _ _ h => h) (by kernel_rfl) ?hy3 (by exact hS0) ?_
  case hy3 => (intro w' hSw; obtain ⟨j0, j1, j2, j3, j4, j5, j6, jl⟩ := y7_cells hSw.y; go_simp; try (with_reducible rfl))
  simp only [Act.put, List.setIfInBounds_toArray, List.set_cons_zero, List.set_cons_succ]
  refine takeS_on (i := 4) 10 (v := ?v4) rfl rfl (by kernel_rfl) (by kernel_rfl) (by kernel_rfl) (fun _ _ _ h => h) (by kernel_rfl) ?hy4 (by exact hS0) ?_
  case hy4 => (intro w' hSw; go_simp; try (with_reducible rfl))
  simp only [Act.put, List.setIfInBounds_toArray, List.set_cons_zero, List.set_cons_succ]
  refine takeS_on (i := 5) 11 (v := ?v5) rfl rfl (by kernel_rfl) (by kernel_rfl) (by kernel_rfl) (fun _ _ _ h => h) (by kernel_rfl) ?hy5 (by exact hS0) ?_
  case hy5 => (intro w' hSw; obtain ⟨j0, j1, j2, j3, j4, j5, j6, jl⟩ := y7_cells hSw.y; go_simp; try (with_reducible rfl))
  simp only [Act.put, List.setIfInBounds_toArray, List.set_cons_zero, List.set_cons_succ]
  refine takeS_on (i := 6) 12 (v := ?v6) rfl rfl (by kernel_rfl) (by kernel_rfl) (by kernel_rfl) (fun _ _ _ h => h) (by kernel_rfl) ?hy6 (by exact hS0) ?_
  case hy6 => (intro w' hSw; go_simp; try (with_reducible rfl))
  simp only [Act.put, List.setIfInBounds_toArray, List.set_cons_zero, List.set_cons_succ]
  refine takeS_on (i := 7) 13 (v := ?v7) rfl rfl (by kernel_rfl) (by kernel_rfl) (by kernel_rfl) (fun _ _ _ h => h) (by kernel_rfl) ?hy7 (by exact hS0) ?_
  case hy7 => (intro w' hSw; obtain ⟨j0, j1, j2, j3, j4, j5, j6, jl⟩ := y7_cells hSw.y; go_simp; try (with_reducible rfl))
  simp only [Act.put, List.setIfInBounds_toArray, List.set_cons_zero, List.set_cons_succ]
  refine wpAnyH_ready (rs := [1, 9]) (by kernel_rfl) (by simp) (AllReadyH.cons rfl (fun K hK => ?_) (AllReadyH.cons rfl (fun K hK => ?_) AllReadyH.nil))
  · go_simp
    refine (HT.out _ hS0.g).mono ?_
    rintro e w1 ⟨ao2, n2, cap2, rfl, o2, g1⟩
    have hS1 := hS0.gr g1
    have OT := hid o2
    clear o2 g1
    refine hK.out _ _ (by exact hS1) (fun _ => ?_)
    clear hK K
    refine wpAnyH_ready (rs := [8, 9]) (by kernel_rfl) (by simp) (AllReadyH.cons rfl (fun K hK => ?_) (AllReadyH.cons rfl (fun K hK => ?_) AllReadyH.nil))
    · go_simp
      refine (HP.out _ hS1.g _ _ _ _ OT.out).mono ?_
      rintro e w2 ⟨ao3, n3, cap3, rfl, o3, g2⟩
      obtain rfl : n3 = ks.length := o3.len.1
      have hS2 := hS1.gr g2
      have OD := hid o3
      clear o3 g2
      refine hK.out _ _ (by exact hS2) (fun _ => ?_)
      clear hK K
      refine wpAnyH_ready (rs := [9]) (by kernel_rfl) (by simp) (AllReadyH.cons rfl (fun K hK => ?_) AllReadyH.nil)
      go_simp
      have hS3 : Sr w #[.int .i64 pc, .int .i64 r0, .int .i64 r1, .int .i64 r2, .int .i64 r3, .int .i64 r4, .int .i64 r5, .int .i64 r6, .int .i64 r7, .int .i64 r8, .int .i64 r9, .int .i64 r10, .int .i64 r11, .int .i64 r12, .int .i64 r13, .int .i64 r14, .int .i64 r15, .slice ao n cap] #[.int .i64 o, .int .i64 a, .int .i64 b, .int .i64 c, .int .i64 m, .int .i64 v, .int .i64 k] (w2.alloc (.cells #[.int .i64 0, .int .i64 0, .int .i64 0, .int .i64 0, .int .i64 0, .int .i64 0, .int .i64 0, .int .i64 0, .int .i64 0, .int .i64 0, .int .i64 0, .int .i64 0, .int .i64 0, .int .i64 0, .int .i64 0, .int .i64 0, .int .i64 0, .slice none 0 0] 30)) := hS2.gr (Ch.alloc (Gr.refl _) _)
      have AA := hid (show (w2.alloc (.cells #[.int .i64 0, .int .i64 0, .int .i64 0, .int .i64 0, .int .i64 0, .int .i64 0, .int .i64 0, .int .i64 0, .int .i64 0, .int .i64 0, .int .i64 0, .int .i64 0, .int .i64 0, .int .i64 0, .int .i64 0, .int .i64 0, .int .i64 0, .slice none 0 0] 30)).heap[w2.heap.size]? = some (.cells #[.int .i64 0, .int .i64 0, .int .i64 0, .int .i64 0, .int .i64 0, .int .i64 0, .int .i64 0, .int .i64 0, .int .i64 0, .int .i64 0, .int .i64 0, .int .i64 0, .int .i64 0, .int .i64 0, .int .i64 0, .int .i64 0, .int .i64 0, .slice none 0 0] 30 (0, 0)) from (MapKept.heap_alloc w2 (.cells #[.int .i64 0, .int .i64 0, .int .i64 0, .int .i64 0, .int .i64 0, .int .i64 0, .int .i64 0, .int .i64 0, .int .i64 0, .int .i64 0, .int .i64 0, .int .i64 0, .int .i64 0, .int .i64 0, .int .i64 0, .int .i64 0, .int .i64 0, .slice none 0 0] 30)).1)
      have LA := hid (show w.heap.size + 1 < w2.heap.size from lt_of_block hS2.y)
      have ND := hid (fun (q : Nat) (hq : Blk (.slice ao3 ks.length cap3) q) => show q ≠ w2.heap.size from by have l2 := (OD.out.blk hq).2; omega)
      have OD := hid (OD.out.gr (show Gr w2 (w2.alloc (.cells #[.int .i64 0, .int .i64 0, .int .i64 0, .int .i64 0, .int .i64 0, .int .i64 0, .int .i64 0, .int .i64 0, .int .i64 0, .int .i64 0, .int .i64 0, .int .i64 0, .int .i64 0, .int .i64 0, .int .i64 0, .int .i64 0, .int .i64 0, .slice none 0 0] 30)) from Ch.alloc (Gr.refl _) _))
      generalize w2.alloc (.cells #[.int .i64 0, .int .i64 0, .int .i64 0, .int .i64 0, .int .i64 0, .int .i64 0, .int .i64 0, .int .i64 0, .int .i64 0, .int .i64 0, .int .i64 0, .int .i64 0, .int .i64 0, .int .i64 0, .int .i64 0, .int .i64 0, .int .i64 0, .slice none 0 0] 30) = w3 at hS3 AA OD ⊢
      refine hK.out _ _ (by exact hS3) (fun _ => ?_)
      clear hK K
      refine wpAnyH_ready (rs := [10]) (by kernel_rfl) (by simp) (AllReadyH.cons rfl (fun K hK => ?_) AllReadyH.nil)
      rw [if_pos (by kernel_rfl)]
      refine wp_store_row 30 (.tmp 5) (.tmp 14) rfl w2.heap.size (cC pc rr (.slice ao3 ks.length cap3)) rfl rfl _ _ AA.out (ctx_size' (cC_size hrr)) (cC_size hrr).symm cC_one ?_
      have B9 := hid (setRow_blk (c := (cC pc rr (.slice ao3 ks.length cap3))) AA.out)
      have k9 := setRow_ch w3 w2.heap.size (cC pc rr (.slice ao3 ks.length cap3))
      have hS4 := hS3.st k9 LA.out
      have L9 := hid (OD.out.ch k9 (fun q hq e => ND.out q hq e)).lst
      clear k9
      generalize w3.setRow w2.heap.size (cC pc rr (.slice ao3 ks.length cap3)) = w4 at hS4 B9 L9 ⊢
      refine hK.out _ _ (by exact hS4) (fun _ => ?_)
      clear hK K
      refine wpAnyH_done (by kernel_rfl) ?_ _
      go_wp2_with fail
      have hT0 : Ss w #[.int .i64 pc, .int .i64 r0, .int .i64 r1, .int .i64 r2, .int .i64 r3, .int .i64 r4, .int .i64 r5, .int .i64 r6, .int .i64 r7, .int .i64 r8, .int .i64 r9, .int .i64 r10, .int .i64 r11, .int .i64 r12, .int .i64 r13, .int .i64 r14, .int .i64 r15, .slice ao n cap] #[.int .i64 o, .int .i64 a, .int .i64 b, .int .i64 c, .int .i64 m, .int .i64 v, .int .i64 k] w2.heap.size (cC pc rr (.slice ao3 ks.length cap3)) (.slice ao3 ks.length cap3) ks w4.drew := ⟨Ch.drew hS4.g, hS4.c, hS4.y, B9.out, ⟨_, L9.out⟩⟩
      refine wp_region_held_drew (S := Ss w #[.int .i64 pc, .int .i64 r0, .int .i64 r1, .int .i64 r2, .int .i64 r3, .int .i64 r4, .int .i64 r5, .int .i64 r6, .int .i64 r7, .int .i64 r8, .int .i64 r9, .int .i64 r10, .int .i64 r11, .int .i64 r12, .int .i64 r13, .int .i64 r14, .int .i64 r15, .slice ao n cap] #[.int .i64 o, .int .i64 a, .int .i64 b, .int .i64 c, .int .i64 m, .int .i64 v, .int .i64 k] w2.heap.size (cC pc rr (.slice ao3 ks.length cap3)) (.slice ao3 ks.length cap3) ks) (by kernel_rfl) (by exact hT0) (fun _ => ?_)
      refine wpAnyH_ready (rs := [0]) (by kernel_rfl) (by simp) (AllReadyH.cons rfl (fun K hK => ?_) AllReadyH.nil)
      go_simp
      refine (HLV.out _ hT0.g).mono ?_
      rintro e x1 ⟨rfl, h1⟩
      have hT1 := hT0.gr h1
      clear h1
      refine hK.out _ _ (by exact hT1) (fun _ => ?_)
      clear hK K
      refine takeS_on (i := 1) 16 (v := ?v8) rfl rfl (by kernel_rfl) (by kernel_rfl) (by kernel_rfl) (fun _ _ _ h => h) (by kernel_rfl) ?hy8 (by exact hT1) ?_
      case hy8 => (intro w' hSw; go_simp; try (with_reducible rfl))
      simp only [Act.put, List.setIfInBounds_toArray, List.set_cons_zero, List.set_cons_succ]
      refine takeS_on (i := 2) 17 (v := ?v9) rfl rfl (by kernel_rfl) (by kernel_rfl) (by kernel_rfl) (fun _ _ _ h => h) (by kernel_rfl) ?hy9 (by exact hT1) ?_
      case hy9 => (intro w' hSw; refine Eq.trans (exec_row 30 (.tmp 5) rfl _ rfl _ _ _ _ hSw.d Tryd.underlying30 rfl (ctx_size' (cC_size hrr))) ?_; with_reducible rfl)
      simp only [Act.put, List.setIfInBounds_toArray, List.set_cons_zero, List.set_cons_succ]
      refine takeS_on (i := 3) 18 (v := ?v10) rfl rfl (by kernel_rfl) (by kernel_rfl) (by kernel_rfl) (fun _ _ _ h => h) (by kernel_rfl) ?hy10 (by exact hT1) ?_
      case hy10 => (intro w' hSw; refine Eq.trans (exec_row 30 (.tmp 2) rfl _ rfl _ _ _ _ hSw.c Tryd.underlying30 rfl ctx_size) ?_; with_reducible rfl)
      simp only [Act.put, List.setIfInBounds_toArray, List.set_cons_zero, List.set_cons_succ]
      refine takeS_on (i := 4) 19 (v := ?v11) rfl rfl (by kernel_rfl) (by kernel_rfl) (by kernel_rfl) (fun _ _ _ h => h) (by kernel_rfl) ?hy11 (by exact hT1) ?_
      case hy11 => (intro w' hSw; go_simp; try (with_reducible rfl))
      simp only [Act.put, List.setIfInBounds_toArray, List.set_cons_zero, List.set_cons_succ]
      refine takeS_on (i := 5) 20 (v := ?v12) rfl rfl (by kernel_rfl) (by kernel_rfl) (by kernel_rfl) (fun _ _ _ h => h) (by kernel_rfl) ?hy12 (by exact hT1) ?_
      case hy12 => (intro w' hSw; obtain ⟨j0, j1, j2, j3, j4, j5, j6, jl⟩ := y7_cells hSw.y; go_simp; try (with_reducible rfl))
      simp only [Act.put, List.setIfInBounds_toArray, List.set_cons_zero, List.set_cons_succ]
      refine takeS_on (i := 6) 21 (v := ?v13) rfl rfl (by kernel_rfl) (by kernel_rfl) (by kernel_rfl) (fun _ _ _ h => h) (by kernel_rfl) ?hy13 (by exact hT1) ?_
      case hy13 => (intro w' hSw; go_simp; try (with_reducible rfl))
      simp only [Act.put, List.setIfInBounds_toArray, List.set_cons_zero, List.set_cons_succ]
      refine takeS_on (i := 7) 22 (v := ?v14) rfl rfl (by kernel_rfl) (by kernel_rfl) (by kernel_rfl) (fun _ _ _ h => h) (by kernel_rfl) ?hy14 (by exact hT1) ?_
      case hy14 => (intro w' hSw; obtain ⟨j0, j1, j2, j3, j4, j5, j6, jl⟩ := y7_cells hSw.y; go_simp; try (with_reducible rfl))
      simp only [Act.put, List.setIfInBounds_toArray, List.set_cons_zero, List.set_cons_succ]
      refine takeS_on (i := 8) 23 (v := ?v15) rfl rfl (by kernel_rfl) (by kernel_rfl) (by kernel_rfl) (fun _ _ _ h => h) (by kernel_rfl) ?hy15 (by exact hT1) ?_
      case hy15 => (intro w' hSw; go_simp; try (with_reducible rfl))
      simp only [Act.put, List.setIfInBounds_toArray, List.set_cons_zero, List.set_cons_succ]
      refine takeS_on (i := 9) 24 (v := ?v16) rfl rfl (by kernel_rfl) (by kernel_rfl) (by kernel_rfl) (fun _ _ _ h => h) (by kernel_rfl) ?hy16 (by exact hT1) ?_
      case hy16 => (intro w' hSw; obtain ⟨j0, j1, j2, j3, j4, j5, j6, jl⟩ := y7_cells hSw.y; go_simp; try (with_reducible rfl))
      simp only [Act.put, List.setIfInBounds_toArray, List.set_cons_zero, List.set_cons_succ]
      refine wpAnyH_ready (rs := [10]) (by kernel_rfl) (by simp) (AllReadyH.cons rfl (fun K hK => ?_) AllReadyH.nil)
      go_simp
      refine (HR.out _ hT1.g).mono ?_
      rintro e x2 ⟨ao4, n4, cap4, rfl, o4, h2⟩
      obtain rfl : n4 = ks.length := o4.len.1
      have hT2 := hT1.gr h2
      have OR := hid o4
      clear o4 h2
      refine hK.out _ _ (by exact hT2) (fun _ => ?_)
      clear hK K
      refine wpAnyH_ready (rs := [11]) (by kernel_rfl) (by simp) (AllReadyH.cons rfl (fun K hK => ?_) AllReadyH.nil)
      go_simp
      refine (same9_any _ _ _ pc rr hrr ao3 ao4 ks.length cap3 cap4 ks hT2.l.choose_spec OR.out.lst hkl).mono ?_
      rintro e x3 ⟨rfl, h3⟩
      have hT3 := hT2.gr h3
      clear h3
      refine hK.out _ _ (by exact hT3) (fun _ => ?_)
      clear hK K
      refine takeS_on (i := 12) 27 (v := ?v17) rfl rfl (by kernel_rfl) (by kernel_rfl) (by kernel_rfl) (fun _ _ _ h => h) (by kernel_rfl) ?hy17 (by exact hT3) ?_
      case hy17 => (intro w' hSw; go_simp; try (with_reducible rfl))
      simp only [Act.put, List.setIfInBounds_toArray, List.set_cons_zero, List.set_cons_succ]
      refine takeS_on (i := 13) 4 (v := ?v18) rfl rfl (by kernel_rfl) (by kernel_rfl) (by kernel_rfl) (fun _ _ _ h => h) (by kernel_rfl) ?hy18 (by exact hT3) ?_
      case hy18 => (intro w' hSw; go_simp; try (with_reducible rfl))
      simp only [Act.put, List.setIfInBounds_toArray, List.set_cons_zero, List.set_cons_succ]
      refine wpAnyH_done (by kernel_rfl) ?_ _
      go_wp2_with fail
      go_ret
      exact ⟨rfl, hT3.g⟩
    · go_simp
      have hS2 : Sr w #[.int .i64 pc, .int .i64 r0, .int .i64 r1, .int .i64 r2, .int .i64 r3, .int .i64 r4, .int .i64 r5, .int .i64 r6, .int .i64 r7, .int .i64 r8, .int .i64 r9, .int .i64 r10, .int .i64 r11, .int .i64 r12, .int .i64 r13, .int .i64 r14, .int .i64 r15, .slice ao n cap] #[.int .i64 o, .int .i64 a, .int .i64 b, .int .i64 c, .int .i64 m, .int .i64 v, .int .i64 k] (w1.alloc (.cells #[.int .i64 0, .int .i64 0, .int .i64 0, .int .i64 0, .int .i64 0, .int .i64 0, .int .i64 0, .int .i64 0, .int .i64 0, .int .i64 0, .int .i64 0, .int .i64 0, .int .i64 0, .int .i64 0, .int .i64 0, .int .i64 0, .int .i64 0, .slice none 0 0] 30)) := hS1.gr (Ch.alloc (Gr.refl _) _)
      have AA := hid (show (w1.alloc (.cells #[.int .i64 0, .int .i64 0, .int .i64 0, .int .i64 0, .int .i64 0, .int .i64 0, .int .i64 0, .int .i64 0, .int .i64 0, .int .i64 0, .int .i64 0, .int .i64 0, .int .i64 0, .int .i64 0, .int .i64 0, .int .i64 0, .int .i64 0, .slice none 0 0] 30)).heap[w1.heap.size]? = some (.cells #[.int .i64 0, .int .i64 0, .int .i64 0, .int .i64 0, .int .i64 0, .int .i64 0, .int .i64 0, .int .i64 0, .int .i64 0, .int .i64 0, .int .i64 0, .int .i64 0, .int .i64 0, .int .i64 0, .int .i64 0, .int .i64 0, .int .i64 0, .slice none 0 0] 30 (0, 0)) from (MapKept.heap_alloc w1 (.cells #[.int .i64 0, .int .i64 0, .int .i64 0, .int .i64 0, .int .i64 0, .int .i64 0, .int .i64 0, .int .i64 0, .int .i64 0, .int .i64 0, .int .i64 0, .int .i64 0, .int .i64 0, .int .i64 0, .int .i64 0, .int .i64 0, .int .i64 0, .slice none 0 0] 30)).1)
      have LA := hid (show w.heap.size + 1 < w1.heap.size from lt_of_block hS1.y)
      have OT := hid (OT.out.gr (show Gr w1 (w1.alloc (.cells #[.int .i64 0, .int .i64 0, .int .i64 0, .int .i64 0, .int .i64 0, .int .i64 0, .int .i64 0, .int .i64 0, .int .i64 0, .int .i64 0, .int .i64 0, .int .i64 0, .int .i64 0, .int .i64 0, .int .i64 0, .int .i64 0, .int .i64 0, .slice none 0 0] 30)) from Ch.alloc (Gr.refl _) _))
      generalize w1.alloc (.cells #[.int .i64 0, .int .i64 0, .int .i64 0, .int .i64 0, .int .i64 0, .int .i64 0, .int .i64 0, .int .i64 0, .int .i64 0, .int .i64 0, .int .i64 0, .int .i64 0, .int .i64 0, .int .i64 0, .int .i64 0, .int .i64 0, .int .i64 0, .slice none 0 0] 30) = w2 at hS2 AA OT ⊢
      refine hK.out _ _ (by exact hS2) (fun _ => ?_)
      clear hK K
      refine wpAnyH_ready (rs := [8]) (by kernel_rfl) (by simp) (AllReadyH.cons rfl (fun K hK => ?_) AllReadyH.nil)
      go_simp
      refine (HP.out _ hS2.g _ _ _ _ OT.out).mono ?_
      rintro e w3 ⟨ao3, n3, cap3, rfl, o3, g3⟩
      obtain rfl : n3 = ks.length := o3.len.1
      have hS3 := hS2.gr g3
      have OD := hid o3
      have ND := hid (fun (q : Nat) (hq : Blk (.slice ao3 ks.length cap3) q) => show q ≠ w1.heap.size from by have l1 := lt_of_block AA.out; have l2 := (o3.blk hq).1; omega)
      have AA := hid (gr_blk AA.out g3)
      clear o3 g3
      refine hK.out _ _ (by exact hS3) (fun _ => ?_)
      clear hK K
      refine wpAnyH_ready (rs := [10]) (by kernel_rfl) (by simp) (AllReadyH.cons rfl (fun K hK => ?_) AllReadyH.nil)
      rw [if_pos (by kernel_rfl)]
      refine wp_store_row 30 (.tmp 5) (.tmp 14) rfl w1.heap.size (cC pc rr (.slice ao3 ks.length cap3)) rfl rfl _ _ AA.out (ctx_size' (cC_size hrr)) (cC_size hrr).symm cC_one ?_
      have B9 := hid (setRow_blk (c := (cC pc rr (.slice ao3 ks.length cap3))) AA.out)
      have k9 := setRow_ch w3 w1.heap.size (cC pc rr (.slice ao3 ks.length cap3))
      have hS4 := hS3.st k9 LA.out
      have L9 := hid (OD.out.ch k9 (fun q hq e => ND.out q hq e)).lst
      clear k9
      generalize w3.setRow w1.heap.size (cC pc rr (.slice ao3 ks.length cap3)) = w4 at hS4 B9 L9 ⊢
      refine hK.out _ _ (by exact hS4) (fun _ => ?_)
      clear hK K
      refine wpAnyH_done (by kernel_rfl) ?_ _
      go_wp2_with fail
      have hT0 : Ss w #[.int .i64 pc, .int .i64 r0, .int .i64 r1, .int .i64 r2, .int .i64 r3, .int .i64 r4, .int .i64 r5, .int .i64 r6, .int .i64 r7, .int .i64 r8, .int .i64 r9, .int .i64 r10, .int .i64 r11, .int .i64 r12, .int .i64 r13, .int .i64 r14, .int .i64 r15, .slice ao n cap] #[.int .i64 o, .int .i64 a, .int .i64 b, .int .i64 c, .int .i64 m, .int .i64 v, .int .i64 k] w1.heap.size (cC pc rr (.slice ao3 ks.length cap3)) (.slice ao3 ks.length cap3) ks w4.drew := ⟨Ch.drew hS4.g, hS4.c, hS4.y, B9.out, ⟨_, L9.out⟩⟩
      refine wp_region_held_drew (S := Ss w #[.int .i64 pc, .int .i64 r0, .int .i64 r1, .int .i64 r2, .int .i64 r3, .int .i64 r4, .int .i64 r5, .int .i64 r6, .int .i64 r7, .int .i64 r8, .int .i64 r9, .int .i64 r10, .int .i64 r11, .int .i64 r12, .int .i64 r13, .int .i64 r14, .int .i64 r15, .slice ao n cap] #[.int .i64 o, .int .i64 a, .int .i64 b, .int .i64 c, .int .i64 m, .int .i64 v, .int .i64 k] w1.heap.size (cC pc rr (.slice ao3 ks.length cap3)) (.slice ao3 ks.length cap3) ks) (by kernel_rfl) (by exact hT0) (fun _ => ?_)
      refine wpAnyH_ready (rs := [0]) (by kernel_rfl) (by simp) (AllReadyH.cons rfl (fun K hK => ?_) AllReadyH.nil)
      go_simp
      refine (HLV.out _ hT0.g).mono ?_
      rintro e x1 ⟨rfl, h1⟩
      have hT1 := hT0.gr h1
      clear h1
      refine hK.out _ _ (by exact hT1) (fun _ => ?_)
      clear hK K
      refine takeS_on (i := 1) 16 (v := ?v19) rfl rfl (by kernel_rfl) (by kernel_rfl) (by kernel_rfl) (fun _ _ _ h => h) (by kernel_rfl) ?hy19 (by exact hT1) ?_
      case hy19 => (intro w' hSw; go_simp; try (with_reducible rfl))
      simp only [Act.put, List.setIfInBounds_toArray, List.set_cons_zero, List.set_cons_succ]
      refine takeS_on (i := 2) 17 (v := ?v20) rfl rfl (by kernel_rfl) (by kernel_rfl) (by kernel_rfl) (fun _ _ _ h => h) (by kernel_rfl) ?hy20 (by exact hT1) ?_
      case hy20 => (intro w' hSw; refine Eq.trans (exec_row 30 (.tmp 5) rfl _ rfl _ _ _ _ hSw.d Tryd.underlying30 rfl (ctx_size' (cC_size hrr))) ?_; with_reducible rfl)
      simp only [Act.put, List.setIfInBounds_toArray, List.set_cons_zero, List.set_cons_succ]
      refine takeS_on (i := 3) 18 (v := ?v21) rfl rfl (by kernel_rfl) (by kernel_rfl) (by kernel_rfl) (fun _ _ _ h => h) (by kernel_rfl) ?hy21 (by exact hT1) ?_
      case hy21 => (intro w' hSw; refine Eq.trans (exec_row 30 (.tmp 2) rfl _ rfl _ _ _ _ hSw.c Tryd.underlying30 rfl ctx_size) ?_; with_reducible rfl)
      simp only [Act.put, List.setIfInBounds_toArray, List.set_cons_zero, List.set_cons_succ]
      refine takeS_on (i := 4) 19 (v := ?v22) rfl rfl (by kernel_rfl) (by kernel_rfl) (by kernel_rfl) (fun _ _ _ h => h) (by kernel_rfl) ?hy22 (by exact hT1) ?_
      case hy22 => (intro w' hSw; go_simp; try (with_reducible rfl))
      simp only [Act.put, List.setIfInBounds_toArray, List.set_cons_zero, List.set_cons_succ]
      refine takeS_on (i := 5) 20 (v := ?v23) rfl rfl (by kernel_rfl) (by kernel_rfl) (by kernel_rfl) (fun _ _ _ h => h) (by kernel_rfl) ?hy23 (by exact hT1) ?_
      case hy23 => (intro w' hSw; obtain ⟨j0, j1, j2, j3, j4, j5, j6, jl⟩ := y7_cells hSw.y; go_simp; try (with_reducible rfl))
      simp only [Act.put, List.setIfInBounds_toArray, List.set_cons_zero, List.set_cons_succ]
      refine takeS_on (i := 6) 21 (v := ?v24) rfl rfl (by kernel_rfl) (by kernel_rfl) (by kernel_rfl) (fun _ _ _ h => h) (by kernel_rfl) ?hy24 (by exact hT1) ?_
      case hy24 => (intro w' hSw; go_simp; try (with_reducible rfl))
      simp only [Act.put, List.setIfInBounds_toArray, List.set_cons_zero, List.set_cons_succ]
      refine takeS_on (i := 7) 22 (v := ?v25) rfl rfl (by kernel_rfl) (by kernel_rfl) (by kernel_rfl) (fun _ _ _ h => h) (by kernel_rfl) ?hy25 (by exact hT1) ?_
      case hy25 => (intro w' hSw; obtain ⟨j0, j1, j2, j3, j4, j5, j6, jl⟩ := y7_cells hSw.y; go_simp; try (with_reducible rfl))
      simp only [Act.put, List.setIfInBounds_toArray, List.set_cons_zero, List.set_cons_succ]
      refine takeS_on (i := 8) 23 (v := ?v26) rfl rfl (by kernel_rfl) (by kernel_rfl) (by kernel_rfl) (fun _ _ _ h => h) (by kernel_rfl) ?hy26 (by exact hT1) ?_
      case hy26 => (intro w' hSw; go_simp; try (with_reducible rfl))
      simp only [Act.put, List.setIfInBounds_toArray, List.set_cons_zero, List.set_cons_succ]
      refine takeS_on (i := 9) 24 (v := ?v27) rfl rfl (by kernel_rfl) (by kernel_rfl) (by kernel_rfl) (fun _ _ _ h => h) (by kernel_rfl) ?hy27 (by exact hT1) ?_
      case hy27 => (intro w' hSw; obtain ⟨j0, j1, j2, j3, j4, j5, j6, jl⟩ := y7_cells hSw.y; go_simp; try (with_reducible rfl))
      simp only [Act.put, List.setIfInBounds_toArray, List.set_cons_zero, List.set_cons_succ]
      refine wpAnyH_ready (rs := [10]) (by kernel_rfl) (by simp) (AllReadyH.cons rfl (fun K hK => ?_) AllReadyH.nil)
      go_simp
      refine (HR.out _ hT1.g).mono ?_
      rintro e x2 ⟨ao4, n4, cap4, rfl, o4, h2⟩
      obtain rfl : n4 = ks.length := o4.len.1
      have hT2 := hT1.gr h2
      have OR := hid o4
      clear o4 h2
      refine hK.out _ _ (by exact hT2) (fun _ => ?_)
      clear hK K
      refine wpAnyH_ready (rs := [11]) (by kernel_rfl) (by simp) (AllReadyH.cons rfl (fun K hK => ?_) AllReadyH.nil)
      go_simp
      refine (same9_any _ _ _ pc rr hrr ao3 ao4 ks.length cap3 cap4 ks hT2.l.choose_spec OR.out.lst hkl).mono ?_
      rintro e x3 ⟨rfl, h3⟩
      have hT3 := hT2.gr h3
      clear h3
      refine hK.out _ _ (by exact hT3) (fun _ => ?_)
      clear hK K
      refine takeS_on (i := 12) 27 (v := ?v28) rfl rfl (by kernel_rfl) (by kernel_rfl) (by kernel_rfl) (fun _ _ _ h => h) (by kernel_rfl) ?hy28 (by exact hT3) ?_
      case hy28 => (intro w' hSw; go_simp; try (with_reducible rfl))
      simp only [Act.put, List.setIfInBounds_toArray, List.set_cons_zero, List.set_cons_succ]
      refine takeS_on (i := 13) 4 (v := ?v29) rfl rfl (by kernel_rfl) (by kernel_rfl) (by kernel_rfl) (fun _ _ _ h => h) (by kernel_rfl) ?hy29 (by exact hT3) ?_
      case hy29 => (intro w' hSw; go_simp; try (with_reducible rfl))
      simp only [Act.put, List.setIfInBounds_toArray, List.set_cons_zero, List.set_cons_succ]
      refine wpAnyH_done (by kernel_rfl) ?_ _
      go_wp2_with fail
      go_ret
      exact ⟨rfl, hT3.g⟩
  · go_simp
    have hS1 : Sr w #[.int .i64 pc, .int .i64 r0, .int .i64 r1, .int .i64 r2, .int .i64 r3, .int .i64 r4, .int .i64 r5, .int .i64 r6, .int .i64 r7, .int .i64 r8, .int .i64 r9, .int .i64 r10, .int .i64 r11, .int .i64 r12, .int .i64 r13, .int .i64 r14, .int .i64 r15, .slice ao n cap] #[.int .i64 o, .int .i64 a, .int .i64 b, .int .i64 c, .int .i64 m, .int .i64 v, .int .i64 k] ((W0.alloc (.cells #[.int .i64 0, .int .i64 0, .int .i64 0, .int .i64 0, .int .i64 0, .int .i64 0, .int .i64 0, .int .i64 0, .int .i64 0, .int .i64 0, .int .i64 0, .int .i64 0, .int .i64 0, .int .i64 0, .int .i64 0, .int .i64 0, .int .i64 0, .slice none 0 0] 30)).drew) := (hB.gr (Ch.alloc (Gr.refl _) _)).drew
    have AA := hid (show ((W0.alloc (.cells #[.int .i64 0, .int .i64 0, .int .i64 0, .int .i64 0, .int .i64 0, .int .i64 0, .int .i64 0, .int .i64 0, .int .i64 0, .int .i64 0, .int .i64 0, .int .i64 0, .int .i64 0, .int .i64 0, .int .i64 0, .int .i64 0, .int .i64 0, .slice none 0 0] 30)).drew).heap[W0.heap.size]? = some (.cells #[.int .i64 0, .int .i64 0, .int .i64 0, .int .i64 0, .int .i64 0, .int .i64 0, .int .i64 0, .int .i64 0, .int .i64 0, .int .i64 0, .int .i64 0, .int .i64 0, .int .i64 0, .int .i64 0, .int .i64 0, .int .i64 0, .int .i64 0, .slice none 0 0] 30 (0, 0)) from (MapKept.heap_alloc W0 (.cells #[.int .i64 0, .int .i64 0, .int .i64 0, .int .i64 0, .int .i64 0, .int .i64 0, .int .i64 0, .int .i64 0, .int .i64 0, .int .i64 0, .int .i64 0, .int .i64 0, .int .i64 0, .int .i64 0, .int .i64 0, .int .i64 0, .int .i64 0, .slice none 0 0] 30)).1)
    have LA := hid (show w.heap.size + 1 < W0.heap.size from lt_of_block hB.y)
    generalize (W0.alloc (.cells #[.int .i64 0, .int .i64 0, .int .i64 0, .int .i64 0, .int .i64 0, .int .i64 0, .int .i64 0, .int .i64 0, .int .i64 0, .int .i64 0, .int .i64 0, .int .i64 0, .int .i64 0, .int .i64 0, .int .i64 0, .int .i64 0, .int .i64 0, .slice none 0 0] 30)).drew = w1 at hS1 AA ⊢
    refine hK.out _ _ (by exact hS1) (fun _ => ?_)
    clear hK K
    refine wpAnyH_ready (rs := [1]) (by kernel_rfl) (by simp) (AllReadyH.cons rfl (fun K hK => ?_) AllReadyH.nil)
    go_simp
    refine (HT.out _ hS1.g).mono ?_
    rintro e w2 ⟨ao2, n2, cap2, rfl, o2, g2⟩
    have hS2 := hS1.gr g2
    have OT := hid o2
    have AA := hid (gr_blk AA.out g2)
    clear o2 g2
    refine hK.out _ _ (by exact hS2) (fun _ => ?_)
    clear hK K
    refine wpAnyH_ready (rs := [8]) (by kernel_rfl) (by simp) (AllReadyH.cons rfl (fun K hK => ?_) AllReadyH.nil)
    go_simp
    refine (HP.out _ hS2.g _ _ _ _ OT.out).mono ?_
    rintro e w3 ⟨ao3, n3, cap3, rfl, o3, g3⟩
    obtain rfl : n3 = ks.length := o3.len.1
    have hS3 := hS2.gr g3
    have OD := hid o3
    have ND := hid (fun (q : Nat) (hq : Blk (.slice ao3 ks.length cap3) q) => show q ≠ W0.heap.size from by have l1 := lt_of_block AA.out; have l2 := (o3.blk hq).1; omega)
    have AA := hid (gr_blk AA.out g3)
    clear o3 g3
    refine hK.out _ _ (by exact hS3) (fun _ => ?_)
    clear hK K
    refine wpAnyH_ready (rs := [10]) (by kernel_rfl) (by simp) (AllReadyH.cons rfl (fun K hK => ?_) AllReadyH.nil)
    rw [if_pos (by kernel_rfl)]
    refine wp_store_row 30 (.tmp 5) (.tmp 14) rfl W0.heap.size (cC pc rr (.slice ao3 ks.length cap3)) rfl rfl _ _ AA.out (ctx_size' (cC_size hrr)) (cC_size hrr).symm cC_one ?_
    have B9 := hid (setRow_blk (c := (cC pc rr (.slice ao3 ks.length cap3))) AA.out)
    have k9 := setRow_ch w3 W0.heap.size (cC pc rr (.slice ao3 ks.length cap3))
    have hS4 := hS3.st k9 LA.out
    have L9 := hid (OD.out.ch k9 (fun q hq e => ND.out q hq e)).lst
    clear k9
    generalize w3.setRow W0.heap.size (cC pc rr (.slice ao3 ks.length cap3)) = w4 at hS4 B9 L9 ⊢
    refine hK.out _ _ (by exact hS4) (fun _ => ?_)
    clear hK K
    refine wpAnyH_done (by kernel_rfl) ?_ _
    go_wp2_with fail
    have hT0 : Ss w #[.int .i64 pc, .int .i64 r0, .int .i64 r1, .int .i64 r2, .int .i64 r3, .int .i64 r4, .int .i64 r5, .int .i64 r6, .int .i64 r7, .int .i64 r8, .int .i64 r9, .int .i64 r10, .int .i64 r11, .int .i64 r12, .int .i64 r13, .int .i64 r14, .int .i64 r15, .slice ao n cap] #[.int .i64 o, .int .i64 a, .int .i64 b, .int .i64 c, .int .i64 m, .int .i64 v, .int .i64 k] W0.heap.size (cC pc rr (.slice ao3 ks.length cap3)) (.slice ao3 ks.length cap3) ks w4.drew := ⟨Ch.drew hS4.g, hS4.c, hS4.y, B9.out, ⟨_, L9.out⟩⟩
    refine wp_region_held_drew (S := Ss w #[.int .i64 pc, .int .i64 r0, .int .i64 r1, .int .i64 r2, .int .i64 r3, .int .i64 r4, .int .i64 r5, .int .i64 r6, .int .i64 r7, .int .i64 r8, .int .i64 r9, .int .i64 r10, .int .i64 r11, .int .i64 r12, .int .i64 r13, .int .i64 r14, .int .i64 r15, .slice ao n cap] #[.int .i64 o, .int .i64 a, .int .i64 b, .int .i64 c, .int .i64 m, .int .i64 v, .int .i64 k] W0.heap.size (cC pc rr (.slice ao3 ks.length cap3)) (.slice ao3 ks.length cap3) ks) (by kernel_rfl) (by exact hT0) (fun _ => ?_)
    refine wpAnyH_ready (rs := [0]) (by kernel_rfl) (by simp) (AllReadyH.cons rfl (fun K hK => ?_) AllReadyH.nil)
    go_simp
    refine (HLV.out _ hT0.g).mono ?_
    rintro e x1 ⟨rfl, h1⟩
    have hT1 := hT0.gr h1
    clear h1
    refine hK.out _ _ (by exact hT1) (fun _ => ?_)
    clear hK K
    refine takeS_on (i := 1) 16 (v := ?v30) rfl rfl (by kernel_rfl) (by kernel_rfl) (by kernel_rfl) (fun _ _ _ h => h) (by kernel_rfl) ?hy30 (by exact hT1) ?_
    case hy30 => (intro w' hSw; go_simp; try (with_reducible rfl))
    simp only [Act.put, List.setIfInBounds_toArray, List.set_cons_zero, List.set_cons_succ]
    refine takeS_on (i := 2) 17 (v := ?v31) rfl rfl (by kernel_rfl) (by kernel_rfl) (by kernel_rfl) (fun _ _ _ h => h) (by kernel_rfl) ?hy31 (by exact hT1) ?_
    case hy31 => (intro w' hSw; refine Eq.trans (exec_row 30 (.tmp 5) rfl _ rfl _ _ _ _ hSw.d Tryd.underlying30 rfl (ctx_size' (cC_size hrr))) ?_; with_reducible rfl)
    simp only [Act.put, List.setIfInBounds_toArray, List.set_cons_zero, List.set_cons_succ]
    refine takeS_on (i := 3) 18 (v := ?v32) rfl rfl (by kernel_rfl) (by kernel_rfl) (by kernel_rfl) (fun _ _ _ h => h) (by kernel_rfl) ?hy32 (by exact hT1) ?_
    case hy32 => (intro w' hSw; refine Eq.trans (exec_row 30 (.tmp 2) rfl _ rfl _ _ _ _ hSw.c Tryd.underlying30 rfl ctx_size) ?_; with_reducible rfl)
    simp only [Act.put, List.setIfInBounds_toArray, List.set_cons_zero, List.set_cons_succ]
    refine takeS_on (i := 4) 19 (v := ?v33) rfl rfl (by kernel_rfl) (by kernel_rfl) (by kernel_rfl) (fun _ _ _ h => h) (by kernel_rfl) ?hy33 (by exact hT1) ?_
    case hy33 => (intro w' hSw; go_simp; try (with_reducible rfl))
    simp only [Act.put, List.setIfInBounds_toArray, List.set_cons_zero, List.set_cons_succ]
    refine takeS_on (i := 5) 20 (v := ?v34) rfl rfl (by kernel_rfl) (by kernel_rfl) (by kernel_rfl) (fun _ _ _ h => h) (by kernel_rfl) ?hy34 (by exact hT1) ?_
    case hy34 => (intro w' hSw; obtain ⟨j0, j1, j2, j3, j4, j5, j6, jl⟩ := y7_cells hSw.y; go_simp; try (with_reducible rfl))
    simp only [Act.put, List.setIfInBounds_toArray, List.set_cons_zero, List.set_cons_succ]
    refine takeS_on (i := 6) 21 (v := ?v35) rfl rfl (by kernel_rfl) (by kernel_rfl) (by kernel_rfl) (fun _ _ _ h => h) (by kernel_rfl) ?hy35 (by exact hT1) ?_
    case hy35 => (intro w' hSw; go_simp; try (with_reducible rfl))
    simp only [Act.put, List.setIfInBounds_toArray, List.set_cons_zero, List.set_cons_succ]
    refine takeS_on (i := 7) 22 (v := ?v36) rfl rfl (by kernel_rfl) (by kernel_rfl) (by kernel_rfl) (fun _ _ _ h => h) (by kernel_rfl) ?hy36 (by exact hT1) ?_
    case hy36 => (intro w' hSw; obtain ⟨j0, j1, j2, j3, j4, j5, j6, jl⟩ := y7_cells hSw.y; go_simp; try (with_reducible rfl))
    simp only [Act.put, List.setIfInBounds_toArray, List.set_cons_zero, List.set_cons_succ]
    refine takeS_on (i := 8) 23 (v := ?v37) rfl rfl (by kernel_rfl) (by kernel_rfl) (by kernel_rfl) (fun _ _ _ h => h) (by kernel_rfl) ?hy37 (by exact hT1) ?_
    case hy37 => (intro w' hSw; go_simp; try (with_reducible rfl))
    simp only [Act.put, List.setIfInBounds_toArray, List.set_cons_zero, List.set_cons_succ]
    refine takeS_on (i := 9) 24 (v := ?v38) rfl rfl (by kernel_rfl) (by kernel_rfl) (by kernel_rfl) (fun _ _ _ h => h) (by kernel_rfl) ?hy38 (by exact hT1) ?_
    case hy38 => (intro w' hSw; obtain ⟨j0, j1, j2, j3, j4, j5, j6, jl⟩ := y7_cells hSw.y; go_simp; try (with_reducible rfl))
    simp only [Act.put, List.setIfInBounds_toArray, List.set_cons_zero, List.set_cons_succ]
    refine wpAnyH_ready (rs := [10]) (by kernel_rfl) (by simp) (AllReadyH.cons rfl (fun K hK => ?_) AllReadyH.nil)
    go_simp
    refine (HR.out _ hT1.g).mono ?_
    rintro e x2 ⟨ao4, n4, cap4, rfl, o4, h2⟩
    obtain rfl : n4 = ks.length := o4.len.1
    have hT2 := hT1.gr h2
    have OR := hid o4
    clear o4 h2
    refine hK.out _ _ (by exact hT2) (fun _ => ?_)
    clear hK K
    refine wpAnyH_ready (rs := [11]) (by kernel_rfl) (by simp) (AllReadyH.cons rfl (fun K hK => ?_) AllReadyH.nil)
    go_simp
    refine (same9_any _ _ _ pc rr hrr ao3 ao4 ks.length cap3 cap4 ks hT2.l.choose_spec OR.out.lst hkl).mono ?_
    rintro e x3 ⟨rfl, h3⟩
    have hT3 := hT2.gr h3
    clear h3
    refine hK.out _ _ (by exact hT3) (fun _ => ?_)
    clear hK K
    refine takeS_on (i := 12) 27 (v := ?v39) rfl rfl (by kernel_rfl) (by kernel_rfl) (by kernel_rfl) (fun _ _ _ h => h) (by kernel_rfl) ?hy39 (by exact hT3) ?_
    case hy39 => (intro w' hSw; go_simp; try (with_reducible rfl))
    simp only [Act.put, List.setIfInBounds_toArray, List.set_cons_zero, List.set_cons_succ]
    refine takeS_on (i := 13) 4 (v := ?v40) rfl rfl (by kernel_rfl) (by kernel_rfl) (by kernel_rfl) (fun _ _ _ h => h) (by kernel_rfl) ?hy40 (by exact hT3) ?_
    case hy40 => (intro w' hSw; go_simp; try (with_reducible rfl))
    simp only [Act.put, List.setIfInBounds_toArray, List.set_cons_zero, List.set_cons_succ]
    refine wpAnyH_done (by kernel_rfl) ?_ _
    go_wp2_with fail
    go_ret
    exact ⟨rfl, hT3.g⟩

end Go.Proofs.YtcdlhfodeckleaaDoor.Lt
