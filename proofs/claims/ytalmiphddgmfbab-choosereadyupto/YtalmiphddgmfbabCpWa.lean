/-
  What the program's Wait of layer 11 answers and leaves. Conditions: a goroutine's numbers are ints, lists are not too long.
-/
import Derived.Test.YtalmiphddgmfbabCpNt
import Derived.Deep.Cut
namespace Go.Proofs.Ytalmiphddgmfbab.Lt
open Go.RowKit Wd
attribute [local go_sem ↓] Go.wp_at_zero Go.wp_at_succ

theorem wo_app (l : List Wt) (x : Wt) (s g : Int) : (l ++ [x]).length - (wo (l ++ [x]) s g).length = (l.length - (wo l s g).length) + (if x.s = s ∧ x.g = g then 1 else 0) := by
  have h := List.length_filter_le (fun x : Wt => !(x.s == s && x.g == g)) l
  unfold wo
  rw [List.filter_append, List.length_append, List.length_append]
  by_cases e : x.s = s ∧ x.g = g
  · rw [if_pos e]
    have : (x.s == s && x.g == g) = true := by simp [e.1, e.2]
    have e2 : [x].filter (fun x : Wt => !(x.s == s && x.g == g)) = [] := by rw [List.filter_cons, this]; rfl
    rw [e2]
    simp only [List.length_cons, List.length_nil]
    omega
  · rw [if_neg e]
    have : (x.s == s && x.g == g) = false := by
      rcases Classical.em (x.s = s) with e1 | e1
      · have e2 : ¬ x.g = g := fun q => e ⟨e1, q⟩
        simp [e2]
      · simp [e1]
    have e2 : [x].filter (fun x : Wt => !(x.s == s && x.g == g)) = [x] := by rw [List.filter_cons, this]; rfl
    rw [e2]
    simp only [List.length_cons, List.length_nil]
    omega
theorem pl_ss (c : Cn) (s g cc vv : Int) : (∀ _ : True, (Cn.mk c.cap c.vs (c.ss ++ [Wt.mk s g cc vv]) c.rs c.cl).pl s g = c.pl s g + 1) ∧ ∀ s' g', ¬ (s' = s ∧ g' = g) → (Cn.mk c.cap c.vs (c.ss ++ [Wt.mk s g cc vv]) c.rs c.cl).pl s' g' = c.pl s' g' := by
  refine ⟨fun _ => ?_, fun s' g' hne => ?_⟩
  · unfold Cn.pl
    dsimp only
    rw [wo_app, if_pos ⟨rfl, rfl⟩]
    omega
  · unfold Cn.pl
    dsimp only
    rw [wo_app, if_neg (fun e => hne ⟨e.1.symm, e.2.symm⟩)]
    omega
theorem pl_rs (c : Cn) (s g cc vv : Int) : (∀ _ : True, (Cn.mk c.cap c.vs c.ss (c.rs ++ [Wt.mk s g cc vv]) c.cl).pl s g = c.pl s g + 1) ∧ ∀ s' g', ¬ (s' = s ∧ g' = g) → (Cn.mk c.cap c.vs c.ss (c.rs ++ [Wt.mk s g cc vv]) c.cl).pl s' g' = c.pl s' g' := by
  refine ⟨fun _ => ?_, fun s' g' hne => ?_⟩
  · unfold Cn.pl
    dsimp only
    rw [wo_app, if_pos ⟨rfl, rfl⟩]
    omega
  · unfold Cn.pl
    dsimp only
    rw [wo_app, if_neg (fun e => hne ⟨e.1.symm, e.2.symm⟩)]
    omega
theorem plA_more_at {s g : Int} {c d : Cn} (hp : d.pl s g = c.pl s g + 1) : ∀ (i j : Nat) (cs : List Cn), cs[j]? = some c → (plA s g i (cs.set j d)).Perm (plA s g i cs ++ [((i + j : Nat) : Int) + 1])
  | i, j, [], h => by simp at h
  | i, 0, e :: r, h => by
    simp at h
    subst h
    rw [List.set_cons_zero, plA, plA, hp, List.replicate_succ']
    simp only [List.append_assoc]
    refine List.Perm.append_left _ ?_
    rw [Nat.add_zero]
    exact List.perm_append_comm
  | i, j + 1, e :: r, h => by
    rw [List.getElem?_cons_succ] at h
    rw [List.set_cons_succ, plA, plA, List.append_assoc]
    refine List.Perm.append_left _ ?_
    have := plA_more_at hp (i + 1) j r h
    rw [show i + 1 + j = i + (j + 1) by omega] at this
    exact this
theorem plA_more {s g : Int} {c d : Cn} {j : Nat} {cs : List Cn} (hp : ∀ _ : True, d.pl s g = c.pl s g + 1) (h : cs[j]? = some c) : (plA s g 0 (cs.set j d)).Perm (plA s g 0 cs ++ [(j : Int) + 1]) := by
  have := plA_more_at (hp trivial) 0 j cs h
  rwa [Nat.zero_add] at this
structure Sk (w : World) (R : Array Value) (W : World) : Prop where
  bx : W.heap[w.heap.size]? = some (.cells R 95 (0, 0))
theorem Sk.gr {w W W' : World} {R : Array Value} (h : Sk w R W) (c : Gr W W') : Sk w R W' := ⟨gr_blk h.bx c⟩
theorem Sk.ch {w W W' : World} {R : Array Value} {S : Nat → Prop} (h : Sk w R W) (c : Ch S W W') (hn : ¬ S w.heap.size) : Sk w R W' := ⟨(c.block _ (lt_of_block h.bx) hn).trans h.bx⟩
/-- what Wait tells and leaves -/
def WpR (t : Nat → Tg) (w : World) (b : Nat) (cs : List Cn) (e : Ending) (w' : World) : Prop := e = .returned (.int .i64 0) ∧ ∃ t', Cs t' w' b cs ∧ Tn t t' w w'
set_option maxRecDepth 40000 in
set_option maxHeartbeats 8000000 in
theorem wait_send {t : Nat → Tg} {w : World} {b i : Nat} {cs : List Cn} {c : Cn} {s g cc vv : Int} (h : Cs t w b cs) (hk : Gok s g) (hc : cs[i]? = some c) (hn : cs.length ≤ 1024) (hb : c.ss.length < 4398046511104) (hp : pls cs s g ≤ 4398046511104) :
    Calls Try.prog 52 #[.pointer (some ⟨b, 0, none⟩), .int .i64 ((i : Int) + 1), .agg #[.int .i64 s, .int .i64 g, .int .i64 cc, .int .i64 vv], .bool true] w (WpR t w b (cs.set i ⟨c.cap, c.vs, c.ss ++ [Wt.mk s g cc vv], c.rs, c.cl⟩)) := by
  obtain ⟨k, v, xs, M, clock, h⟩ := h
  obtain ⟨gO, ca, x, ev, tO, hx, ho, h5⟩ := h.nl.at hc
  have hno : t w.heap.size = .no := by
    rcases Classical.em (t w.heap.size = .no) with e | e
    · exact e
    · have := h.hi _ e; omega
  obtain ⟨w1, hw1⟩ : ∃ W, W = w.alloc (.cells #[.int .i64 s, .int .i64 g, .int .i64 cc, .int .i64 vv] 95) := ⟨_, rfl⟩
  have g1 : Gr w w1 := by rw [hw1]; exact Ch.alloc (Gr.refl w) _
  have hme : (w.alloc (.cells #[.int .i64 s, .int .i64 g, .int .i64 cc, .int .i64 vv] 95)).heap[b]? = some (.cells #[.slice (some ⟨gO, 0, none⟩) cs.length ca, .map (some k)] 74 (0, 0)) := by rw [← ev]; exact al_blk h.me _
  have HF := hid (find_yes hme i (List.getElem?_eq_some_iff.1 hc).1 hn)
  obtain ⟨so, sk, es⟩ := ho.s.form
  obtain ⟨sn, hsn⟩ : ∃ n, n = c.ss.length := ⟨_, rfl⟩
  have HSN := hid hsn
  have HSB := hid (show sn < 4398046511104 from by rw [hsn]; exact hb)
  have HX := hid hx
  have HC := hid hc
  have EV := hid es
  have HVV := hid ev
  have HK := hid hk
  have HPB := hid hp
  have HAB := hid (show ¬ Blk (.slice so sn sk) w.heap.size from fun hq => by have e1 := ho.ts _ (by rw [es, ← hsn]; exact hq); rw [hno] at e1; cases e1)
  have HAG := hid (show ¬ (w.heap.size = gO) from fun e => by have e1 := hno; rw [e, tO] at e1; cases e1)
  have HPL := hid (pl_ss c s g cc vv)
  have HCA := hid h
  have G1 := hid g1
  have C0 := hid (show w.cell? ⟨gO, i * 5 + 2, none⟩ = some (.slice so sn sk) from by rw [hsn, ← es]; exact h5.c2)
  have L0 := hid h5.lt
  have O00 := hid (show Ow eW 4 95 0 w (.slice so sn sk) c.ss from by rw [hsn, ← es]; exact ho.s)
  have BX := hid (show w1.heap[w.heap.size]? = some (.cells #[.int .i64 s, .int .i64 g, .int .i64 cc, .int .i64 vv] 95 (0, 0)) from by rw [hw1]; exact (MapKept.heap_alloc w _).1)
  clear h hk hc hn hb hp hx ev tO ho h5 es hme g1 hno hsn
  go_enter Try.func52, Try.ntmps52
  go_upto_region 5 with (go_at_call 26; refine HF.out.mono ?_; rintro e w3 ⟨rfl, hw3⟩; subst hw3)
  rw [← hw1]
  clear hw1
  have hS0 : Sk w #[.int .i64 s, .int .i64 g, .int .i64 cc, .int .i64 vv] (World.drew w1) := ⟨BX.out⟩
  have GD : Gr w (World.drew w1) := Ch.drew G1.out
  have H0 := hid (HCA.out.b.gr GD)
  have O0 := hid (O00.out.gr GD)
  have c2 := (Ch.cell GD L0.out (noB _)).trans C0.out
  have lO : gO < (World.drew w1).heap.size := Nat.lt_of_lt_of_le L0.out GD.size
  have N0 := hid (show Tn t t w (World.drew w1) from Tn.gr GD)
  clear GD C0 L0 O00 BX G1 HCA HF
  refine wp_region_held_drew (S := Sk w #[.int .i64 s, .int .i64 g, .int .i64 cc, .int .i64 vv]) (by kernel_rfl) (by exact hS0) (fun _ => ?_)
  generalize World.drew w1 = V0 at hS0 H0 O0 c2 lO N0 ⊢
  refine takeS_on (i := 0) 21 (v := ?v1) rfl rfl (by kernel_rfl) (by kernel_rfl) (by kernel_rfl) (fun _ _ _ h => h) (by kernel_rfl) ?hy1 (by exact hS0) ?_
  case hy1 => (intro w' hSw; go_simp; try (with_reducible rfl))
  simp only [Act.put, List.setIfInBounds_toArray, List.set_cons_zero, List.set_cons_succ]
  refine takeS_on (i := 1) 22 (v := ?v2) rfl rfl (by kernel_rfl) (by kernel_rfl) (by kernel_rfl) (fun _ _ _ h => h) (by kernel_rfl) ?hy2 (by exact hS0) ?_
  case hy2 => (intro w' hSw; go_simp; try (with_reducible rfl))
  simp only [Act.put, List.setIfInBounds_toArray, List.set_cons_zero, List.set_cons_succ]
  refine takeS_on (i := 2) 23 (v := ?v3) rfl rfl (by kernel_rfl) (by kernel_rfl) (by kernel_rfl) (fun _ _ _ h => h) (by kernel_rfl) ?hy3 (by exact hS0) ?_
  case hy3 => (intro w' hSw; go_simp; try (with_reducible rfl))
  simp only [Act.put, List.setIfInBounds_toArray, List.set_cons_zero, List.set_cons_succ]
  refine takeS_on (i := 3) 24 (v := ?v4) rfl rfl (by kernel_rfl) (by kernel_rfl) (by kernel_rfl) (fun _ _ _ h => h) (by kernel_rfl) ?hy4 (by exact hS0) ?_
  case hy4 => (intro w' hSw; go_simp; try (with_reducible rfl))
  simp only [Act.put, List.setIfInBounds_toArray, List.set_cons_zero, List.set_cons_succ]
  refine takeS_on (i := 5) 26 (v := ?v5) rfl rfl (by kernel_rfl) (by kernel_rfl) (by kernel_rfl) (fun _ _ _ h => h) (by kernel_rfl) ?hy5 (by exact hS0) ?_
  case hy5 => (intro w' hSw; refine Eq.trans (exec_row 95 (.tmp 6) rfl _ rfl _ _ _ _ hSw.bx Try.underlying95 rfl wtr_size) ?_; with_reducible rfl)
  simp only [Act.put, List.setIfInBounds_toArray, List.set_cons_zero, List.set_cons_succ]
  refine wpAnyH_ready (rs := [4, 6]) (by kernel_rfl) (by simp) (AllReadyH.cons rfl (fun K hK => ?_) (AllReadyH.cons rfl (fun K hK => ?_) AllReadyH.nil))
  · go_simp
    refine hK.out _ _ (by exact hS0) (fun _ => ?_)
    clear hK K
    refine wpAnyH_ready (rs := [6]) (by kernel_rfl) (by simp) (AllReadyH.cons rfl (fun K hK => ?_) AllReadyH.nil)
    go_simp
    have G6 : Gr V0 (V0.alloc (.cells #[.int .i64 s, .int .i64 g, .int .i64 cc, .int .i64 vv] 95)) := Ch.alloc (Gr.refl _) _
    have SG := hid (Ls.single (enc := eW) V0 (Wt.mk s g cc vv) 95 #[.int .i64 s, .int .i64 g, .int .i64 cc, .int .i64 vv] rfl)
    have hS1 := hS0.gr G6
    have H1 := hid (H0.out.gr G6)
    have O1 := hid (O0.out.gr G6)
    have c2 := (Ch.cell G6 lO (noB _)).trans c2
    have N1 := hid (N0.out.then G6)
    clear G6
    generalize V0.alloc (.cells #[.int .i64 s, .int .i64 g, .int .i64 cc, .int .i64 vv] 95) = u1 at hS1 H1 O1 SG c2 N1 ⊢
    refine hK.out _ _ (by exact hS1) (fun _ => ?_)
    clear hK K
    refine wpAnyH_ready (rs := [7]) (by kernel_rfl) (by simp) (AllReadyH.cons rfl (fun K hK => ?_) AllReadyH.nil)
    refine step_append_ow eW_len rfl (.tmp 25) (.tmp 27) _ 95 32 _ Try.underlying68 wtr_info rfl (by omega) rfl 0 _ c.ss rfl O1.out _ _ [(Wt.mk s g cc vv)] rfl SG.out (eW_one _) (sn + 1) (by rw [HSN.out]; rfl) (by have := HSB.out; omega) (by unfold maxLen; have := HSB.out; omega) (Nat.zero_le _) (c.ss ++ [(Wt.mk s g cc vv)]) rfl ?_
    intro ao5 cap5 w5 ow5 cw5 bl5
    obtain ⟨gO', ca', t5, e5, l5, p5, f5, b5, n5, -, -⟩ := H1.out.sets HX.out HC.out (by rw [EV.out, ← HSN.out]; exact cw5) ow5 (by rw [EV.out, ← HSN.out]; exact bl5)
    rw [HVV.out] at e5
    injection e5 with e5 _ _
    injection e5 with e5
    injection e5 with e5 _ _
    subst e5
    rw [EV.out, ← HSN.out] at p5
    have hS5 := hS1.ch cw5 (fun hq => HAB.out hq)
    have hS6 : Sk w #[.int .i64 s, .int .i64 g, .int .i64 cc, .int .i64 vv] (w5.setCell ⟨gO, i * 5 + 2, none⟩ (.slice ao5 (sn + 1) cap5)) := hS5.ch (Ch.own (Ch.refl (Only gO) _) _ _) (fun e => HAG.out e)
    have B5 := hid b5
    have N5 := hid (Tn.trans N1.out n5)
    clear ow5 cw5 bl5 b5 n5
    refine hK.out _ _ (by exact hS5) (fun _ => ?_)
    change wpAnyH _ _ _ _ _ _ _ (Act.put _ (some 28) _) _
    simp only [Act.put, List.setIfInBounds_toArray, List.set_cons_zero, List.set_cons_succ]
    clear hK K
    refine takeS_on (i := 8) 29 (v := ?v6) rfl rfl (by kernel_rfl) (by kernel_rfl) (by kernel_rfl) (fun _ _ _ h => h) (by kernel_rfl) ?hy6 (by exact hS5) ?_
    case hy6 => (intro w' hSw; go_simp; try (with_reducible rfl))
    simp only [Act.put, List.setIfInBounds_toArray, List.set_cons_zero, List.set_cons_succ]
    refine takeS_on (i := 9) 30 (v := ?v7) rfl rfl (by kernel_rfl) (by kernel_rfl) (by kernel_rfl) (fun _ _ _ h => h) (by kernel_rfl) ?hy7 (by exact hS5) ?_
    case hy7 => (intro w' hSw; go_simp; try (with_reducible rfl))
    simp only [Act.put, List.setIfInBounds_toArray, List.set_cons_zero, List.set_cons_succ]
    refine wpAnyH_ready (rs := [10]) (by kernel_rfl) (by simp) (AllReadyH.cons rfl (fun K hK => ?_) AllReadyH.nil)
    go_simp
    refine hK.out _ _ (by exact hS6) (fun _ => ?_)
    clear hK K
    refine wpAnyH_done (by kernel_rfl) ?_ _
    generalize World.setCell w5 _ _ = w6 at B5 N5 hS6 ⊢
    clear p5 f5 l5 hS5 hS1 hS0
    have M6 := hS6.bx
    have SG6 := hid (Ls.single (enc := eW) w6 (Wt.mk s g cc vv) 95 #[.int .i64 s, .int .i64 g, .int .i64 cc, .int .i64 vv] rfl)
    have GA6 : Gr w6 (w6.alloc (.cells #[.int .i64 s, .int .i64 g, .int .i64 cc, .int .i64 vv] 95)) := Ch.alloc (Gr.refl _) _
    have HNT := hid (note_one (ch := (i : Int) + 1) _ _ 1 (B5.out.gr GA6) HK.out SG6.out (plA_more (fun h1 => HPL.out.1 h1) HC.out) (fun s' g' hne => plA_set (HPL.out.2 s' g' hne) _ _ _ HC.out) HPB.out)
    clear GA6
    go_wp2_with (first
      | (refine wpList_load_row rfl 95 (.tmp 6) rfl w.heap.size rfl _ _ _ _ M6 Try.underlying95 rfl wtr_size ?_)
      | (go_at_call 24; refine HNT.out.mono ?_; rintro e w7 ⟨rfl, t7, M7, k7, b7, n7⟩; have B7 := hid b7; have N7 := hid (Tn.trans (N5.out.then (show Gr w6 (w6.alloc (.cells #[.int .i64 s, .int .i64 g, .int .i64 cc, .int .i64 vv] 95)) from Ch.alloc (Gr.refl _) _)) n7); clear b7 n7))
    go_ret
    exact ⟨rfl, t7, ⟨_, _, _, _, _, B7.out.a (fun _ _ => rfl)⟩, N7.out⟩
  · go_simp
    have G6 : Gr V0 (V0.alloc (.cells #[.int .i64 s, .int .i64 g, .int .i64 cc, .int .i64 vv] 95)) := Ch.alloc (Gr.refl _) _
    have SG := hid (Ls.single (enc := eW) V0 (Wt.mk s g cc vv) 95 #[.int .i64 s, .int .i64 g, .int .i64 cc, .int .i64 vv] rfl)
    have hS1 := hS0.gr G6
    have H1 := hid (H0.out.gr G6)
    have O1 := hid (O0.out.gr G6)
    have c2 := (Ch.cell G6 lO (noB _)).trans c2
    have N1 := hid (N0.out.then G6)
    clear G6
    generalize V0.alloc (.cells #[.int .i64 s, .int .i64 g, .int .i64 cc, .int .i64 vv] 95) = u1 at hS1 H1 O1 SG c2 N1 ⊢
    refine hK.out _ _ (by exact hS1) (fun _ => ?_)
    clear hK K
    refine wpAnyH_ready (rs := [4]) (by kernel_rfl) (by simp) (AllReadyH.cons rfl (fun K hK => ?_) AllReadyH.nil)
    go_simp
    refine hK.out _ _ (by exact hS1) (fun _ => ?_)
    clear hK K
    refine wpAnyH_ready (rs := [7]) (by kernel_rfl) (by simp) (AllReadyH.cons rfl (fun K hK => ?_) AllReadyH.nil)
    refine step_append_ow eW_len rfl (.tmp 25) (.tmp 27) _ 95 32 _ Try.underlying68 wtr_info rfl (by omega) rfl 0 _ c.ss rfl O1.out _ _ [(Wt.mk s g cc vv)] rfl SG.out (eW_one _) (sn + 1) (by rw [HSN.out]; rfl) (by have := HSB.out; omega) (by unfold maxLen; have := HSB.out; omega) (Nat.zero_le _) (c.ss ++ [(Wt.mk s g cc vv)]) rfl ?_
    intro ao5 cap5 w5 ow5 cw5 bl5
    obtain ⟨gO', ca', t5, e5, l5, p5, f5, b5, n5, -, -⟩ := H1.out.sets HX.out HC.out (by rw [EV.out, ← HSN.out]; exact cw5) ow5 (by rw [EV.out, ← HSN.out]; exact bl5)
    rw [HVV.out] at e5
    injection e5 with e5 _ _
    injection e5 with e5
    injection e5 with e5 _ _
    subst e5
    rw [EV.out, ← HSN.out] at p5
    have hS5 := hS1.ch cw5 (fun hq => HAB.out hq)
    have hS6 : Sk w #[.int .i64 s, .int .i64 g, .int .i64 cc, .int .i64 vv] (w5.setCell ⟨gO, i * 5 + 2, none⟩ (.slice ao5 (sn + 1) cap5)) := hS5.ch (Ch.own (Ch.refl (Only gO) _) _ _) (fun e => HAG.out e)
    have B5 := hid b5
    have N5 := hid (Tn.trans N1.out n5)
    clear ow5 cw5 bl5 b5 n5
    refine hK.out _ _ (by exact hS5) (fun _ => ?_)
    change wpAnyH _ _ _ _ _ _ _ (Act.put _ (some 28) _) _
    simp only [Act.put, List.setIfInBounds_toArray, List.set_cons_zero, List.set_cons_succ]
    clear hK K
    refine takeS_on (i := 8) 29 (v := ?v8) rfl rfl (by kernel_rfl) (by kernel_rfl) (by kernel_rfl) (fun _ _ _ h => h) (by kernel_rfl) ?hy8 (by exact hS5) ?_
    case hy8 => (intro w' hSw; go_simp; try (with_reducible rfl))
    simp only [Act.put, List.setIfInBounds_toArray, List.set_cons_zero, List.set_cons_succ]
    refine takeS_on (i := 9) 30 (v := ?v9) rfl rfl (by kernel_rfl) (by kernel_rfl) (by kernel_rfl) (fun _ _ _ h => h) (by kernel_rfl) ?hy9 (by exact hS5) ?_
    case hy9 => (intro w' hSw; go_simp; try (with_reducible rfl))
    simp only [Act.put, List.setIfInBounds_toArray, List.set_cons_zero, List.set_cons_succ]
    refine wpAnyH_ready (rs := [10]) (by kernel_rfl) (by simp) (AllReadyH.cons rfl (fun K hK => ?_) AllReadyH.nil)
    go_simp
    refine hK.out _ _ (by exact hS6) (fun _ => ?_)
    clear hK K
    refine wpAnyH_done (by kernel_rfl) ?_ _
    generalize World.setCell w5 _ _ = w6 at B5 N5 hS6 ⊢
    clear p5 f5 l5 hS5 hS1 hS0
    have M6 := hS6.bx
    have SG6 := hid (Ls.single (enc := eW) w6 (Wt.mk s g cc vv) 95 #[.int .i64 s, .int .i64 g, .int .i64 cc, .int .i64 vv] rfl)
    have GA6 : Gr w6 (w6.alloc (.cells #[.int .i64 s, .int .i64 g, .int .i64 cc, .int .i64 vv] 95)) := Ch.alloc (Gr.refl _) _
    have HNT := hid (note_one (ch := (i : Int) + 1) _ _ 1 (B5.out.gr GA6) HK.out SG6.out (plA_more (fun h1 => HPL.out.1 h1) HC.out) (fun s' g' hne => plA_set (HPL.out.2 s' g' hne) _ _ _ HC.out) HPB.out)
    clear GA6
    go_wp2_with (first
      | (refine wpList_load_row rfl 95 (.tmp 6) rfl w.heap.size rfl _ _ _ _ M6 Try.underlying95 rfl wtr_size ?_)
      | (go_at_call 24; refine HNT.out.mono ?_; rintro e w7 ⟨rfl, t7, M7, k7, b7, n7⟩; have B7 := hid b7; have N7 := hid (Tn.trans (N5.out.then (show Gr w6 (w6.alloc (.cells #[.int .i64 s, .int .i64 g, .int .i64 cc, .int .i64 vv] 95)) from Ch.alloc (Gr.refl _) _)) n7); clear b7 n7))
    go_ret
    exact ⟨rfl, t7, ⟨_, _, _, _, _, B7.out.a (fun _ _ => rfl)⟩, N7.out⟩
set_option maxRecDepth 40000 in
set_option maxHeartbeats 8000000 in
theorem wait_recv {t : Nat → Tg} {w : World} {b i : Nat} {cs : List Cn} {c : Cn} {s g cc vv : Int} (h : Cs t w b cs) (hk : Gok s g) (hc : cs[i]? = some c) (hn : cs.length ≤ 1024) (hb : c.rs.length < 4398046511104) (hp : pls cs s g ≤ 4398046511104) :
    Calls Try.prog 52 #[.pointer (some ⟨b, 0, none⟩), .int .i64 ((i : Int) + 1), .agg #[.int .i64 s, .int .i64 g, .int .i64 cc, .int .i64 vv], .bool false] w (WpR t w b (cs.set i ⟨c.cap, c.vs, c.ss, c.rs ++ [Wt.mk s g cc 0], c.cl⟩)) := by
  obtain ⟨k, v, xs, M, clock, h⟩ := h
  obtain ⟨gO, ca, x, ev, tO, hx, ho, h5⟩ := h.nl.at hc
  have hno : t w.heap.size = .no := by
    rcases Classical.em (t w.heap.size = .no) with e | e
    · exact e
    · have := h.hi _ e; omega
  obtain ⟨w1, hw1⟩ : ∃ W, W = w.alloc (.cells #[.int .i64 s, .int .i64 g, .int .i64 cc, .int .i64 0] 95) := ⟨_, rfl⟩
  have g1 : Gr w w1 := by rw [hw1]; exact Ch.alloc (Gr.refl w) _
  have hme : (w.alloc (.cells #[.int .i64 s, .int .i64 g, .int .i64 cc, .int .i64 vv] 95)).heap[b]? = some (.cells #[.slice (some ⟨gO, 0, none⟩) cs.length ca, .map (some k)] 74 (0, 0)) := by rw [← ev]; exact al_blk h.me _
  have HF := hid (find_yes hme i (List.getElem?_eq_some_iff.1 hc).1 hn)
  obtain ⟨so, sk, es⟩ := ho.r.form
  obtain ⟨sn, hsn⟩ : ∃ n, n = c.rs.length := ⟨_, rfl⟩
  have HSN := hid hsn
  have HSB := hid (show sn < 4398046511104 from by rw [hsn]; exact hb)
  have HX := hid hx
  have HC := hid hc
  have EV := hid es
  have HVV := hid ev
  have HK := hid hk
  have HPB := hid hp
  have HAB := hid (show ¬ Blk (.slice so sn sk) w.heap.size from fun hq => by have e1 := ho.tr _ (by rw [es, ← hsn]; exact hq); rw [hno] at e1; cases e1)
  have HAG := hid (show ¬ (w.heap.size = gO) from fun e => by have e1 := hno; rw [e, tO] at e1; cases e1)
  have HPL := hid (pl_rs c s g cc 0)
  have HCA := hid h
  have G1 := hid g1
  have C0 := hid (show w.cell? ⟨gO, i * 5 + 3, none⟩ = some (.slice so sn sk) from by rw [hsn, ← es]; exact h5.c3)
  have L0 := hid h5.lt
  have O00 := hid (show Ow eW 4 95 0 w (.slice so sn sk) c.rs from by rw [hsn, ← es]; exact ho.r)
  have BX := hid (show w1.heap[w.heap.size]? = some (.cells #[.int .i64 s, .int .i64 g, .int .i64 cc, .int .i64 0] 95 (0, 0)) from by rw [hw1]; exact (MapKept.heap_alloc w _).1)
  clear h hk hc hn hb hp hx ev tO ho h5 es hme g1 hno hsn
  go_enter Try.func52, Try.ntmps52
  go_upto_region 7 with (go_at_call 26; refine HF.out.mono ?_; rintro e w3 ⟨rfl, hw3⟩; subst hw3)
  rw [← hw1]
  clear hw1
  have hS0 : Sk w #[.int .i64 s, .int .i64 g, .int .i64 cc, .int .i64 0] (World.drew w1) := ⟨BX.out⟩
  have GD : Gr w (World.drew w1) := Ch.drew G1.out
  have H0 := hid (HCA.out.b.gr GD)
  have O0 := hid (O00.out.gr GD)
  have c3 := (Ch.cell GD L0.out (noB _)).trans C0.out
  have lO : gO < (World.drew w1).heap.size := Nat.lt_of_lt_of_le L0.out GD.size
  have N0 := hid (show Tn t t w (World.drew w1) from Tn.gr GD)
  clear GD C0 L0 O00 BX G1 HCA HF
  refine wp_region_held_drew (S := Sk w #[.int .i64 s, .int .i64 g, .int .i64 cc, .int .i64 0]) (by kernel_rfl) (by exact hS0) (fun _ => ?_)
  generalize World.drew w1 = V0 at hS0 H0 O0 c3 lO N0 ⊢
  refine takeS_on (i := 0) 32 (v := ?v10) rfl rfl (by kernel_rfl) (by kernel_rfl) (by kernel_rfl) (fun _ _ _ h => h) (by kernel_rfl) ?hy10 (by exact hS0) ?_
  case hy10 => (intro w' hSw; go_simp; try (with_reducible rfl))
  simp only [Act.put, List.setIfInBounds_toArray, List.set_cons_zero, List.set_cons_succ]
  refine takeS_on (i := 1) 33 (v := ?v11) rfl rfl (by kernel_rfl) (by kernel_rfl) (by kernel_rfl) (fun _ _ _ h => h) (by kernel_rfl) ?hy11 (by exact hS0) ?_
  case hy11 => (intro w' hSw; go_simp; try (with_reducible rfl))
  simp only [Act.put, List.setIfInBounds_toArray, List.set_cons_zero, List.set_cons_succ]
  refine takeS_on (i := 2) 34 (v := ?v12) rfl rfl (by kernel_rfl) (by kernel_rfl) (by kernel_rfl) (fun _ _ _ h => h) (by kernel_rfl) ?hy12 (by exact hS0) ?_
  case hy12 => (intro w' hSw; go_simp; try (with_reducible rfl))
  simp only [Act.put, List.setIfInBounds_toArray, List.set_cons_zero, List.set_cons_succ]
  refine takeS_on (i := 3) 35 (v := ?v13) rfl rfl (by kernel_rfl) (by kernel_rfl) (by kernel_rfl) (fun _ _ _ h => h) (by kernel_rfl) ?hy13 (by exact hS0) ?_
  case hy13 => (intro w' hSw; go_simp; try (with_reducible rfl))
  simp only [Act.put, List.setIfInBounds_toArray, List.set_cons_zero, List.set_cons_succ]
  refine takeS_on (i := 5) 37 (v := ?v14) rfl rfl (by kernel_rfl) (by kernel_rfl) (by kernel_rfl) (fun _ _ _ h => h) (by kernel_rfl) ?hy14 (by exact hS0) ?_
  case hy14 => (intro w' hSw; refine Eq.trans (exec_row 95 (.tmp 6) rfl _ rfl _ _ _ _ hSw.bx Try.underlying95 rfl wtr_size) ?_; with_reducible rfl)
  simp only [Act.put, List.setIfInBounds_toArray, List.set_cons_zero, List.set_cons_succ]
  refine wpAnyH_ready (rs := [4, 6]) (by kernel_rfl) (by simp) (AllReadyH.cons rfl (fun K hK => ?_) (AllReadyH.cons rfl (fun K hK => ?_) AllReadyH.nil))
  · go_simp
    refine hK.out _ _ (by exact hS0) (fun _ => ?_)
    clear hK K
    refine wpAnyH_ready (rs := [6]) (by kernel_rfl) (by simp) (AllReadyH.cons rfl (fun K hK => ?_) AllReadyH.nil)
    go_simp
    have G6 : Gr V0 (V0.alloc (.cells #[.int .i64 s, .int .i64 g, .int .i64 cc, .int .i64 0] 95)) := Ch.alloc (Gr.refl _) _
    have SG := hid (Ls.single (enc := eW) V0 (Wt.mk s g cc 0) 95 #[.int .i64 s, .int .i64 g, .int .i64 cc, .int .i64 0] rfl)
    have hS1 := hS0.gr G6
    have H1 := hid (H0.out.gr G6)
    have O1 := hid (O0.out.gr G6)
    have c3 := (Ch.cell G6 lO (noB _)).trans c3
    have N1 := hid (N0.out.then G6)
    clear G6
    generalize V0.alloc (.cells #[.int .i64 s, .int .i64 g, .int .i64 cc, .int .i64 0] 95) = u1 at hS1 H1 O1 SG c3 N1 ⊢
    refine hK.out _ _ (by exact hS1) (fun _ => ?_)
    clear hK K
    refine wpAnyH_ready (rs := [7]) (by kernel_rfl) (by simp) (AllReadyH.cons rfl (fun K hK => ?_) AllReadyH.nil)
    refine step_append_ow eW_len rfl (.tmp 36) (.tmp 38) _ 95 32 _ Try.underlying68 wtr_info rfl (by omega) rfl 0 _ c.rs rfl O1.out _ _ [(Wt.mk s g cc 0)] rfl SG.out (eW_one _) (sn + 1) (by rw [HSN.out]; rfl) (by have := HSB.out; omega) (by unfold maxLen; have := HSB.out; omega) (Nat.zero_le _) (c.rs ++ [(Wt.mk s g cc 0)]) rfl ?_
    intro ao5 cap5 w5 ow5 cw5 bl5
    obtain ⟨gO', ca', t5, e5, l5, p5, f5, b5, n5, -, -⟩ := H1.out.setr HX.out HC.out (by rw [EV.out, ← HSN.out]; exact cw5) ow5 (by rw [EV.out, ← HSN.out]; exact bl5)
    rw [HVV.out] at e5
    injection e5 with e5 _ _
    injection e5 with e5
    injection e5 with e5 _ _
    subst e5
    rw [EV.out, ← HSN.out] at p5
    have hS5 := hS1.ch cw5 (fun hq => HAB.out hq)
    have hS6 : Sk w #[.int .i64 s, .int .i64 g, .int .i64 cc, .int .i64 0] (w5.setCell ⟨gO, i * 5 + 3, none⟩ (.slice ao5 (sn + 1) cap5)) := hS5.ch (Ch.own (Ch.refl (Only gO) _) _ _) (fun e => HAG.out e)
    have B5 := hid b5
    have N5 := hid (Tn.trans N1.out n5)
    clear ow5 cw5 bl5 b5 n5
    refine hK.out _ _ (by exact hS5) (fun _ => ?_)
    change wpAnyH _ _ _ _ _ _ _ (Act.put _ (some 39) _) _
    simp only [Act.put, List.setIfInBounds_toArray, List.set_cons_zero, List.set_cons_succ]
    clear hK K
    refine takeS_on (i := 8) 40 (v := ?v15) rfl rfl (by kernel_rfl) (by kernel_rfl) (by kernel_rfl) (fun _ _ _ h => h) (by kernel_rfl) ?hy15 (by exact hS5) ?_
    case hy15 => (intro w' hSw; go_simp; try (with_reducible rfl))
    simp only [Act.put, List.setIfInBounds_toArray, List.set_cons_zero, List.set_cons_succ]
    refine takeS_on (i := 9) 41 (v := ?v16) rfl rfl (by kernel_rfl) (by kernel_rfl) (by kernel_rfl) (fun _ _ _ h => h) (by kernel_rfl) ?hy16 (by exact hS5) ?_
    case hy16 => (intro w' hSw; go_simp; try (with_reducible rfl))
    simp only [Act.put, List.setIfInBounds_toArray, List.set_cons_zero, List.set_cons_succ]
    refine wpAnyH_ready (rs := [10]) (by kernel_rfl) (by simp) (AllReadyH.cons rfl (fun K hK => ?_) AllReadyH.nil)
    go_simp
    refine hK.out _ _ (by exact hS6) (fun _ => ?_)
    clear hK K
    refine wpAnyH_done (by kernel_rfl) ?_ _
    generalize World.setCell w5 _ _ = w6 at B5 N5 hS6 ⊢
    clear p5 f5 l5 hS5 hS1 hS0
    have M6 := hS6.bx
    have SG6 := hid (Ls.single (enc := eW) w6 (Wt.mk s g cc 0) 95 #[.int .i64 s, .int .i64 g, .int .i64 cc, .int .i64 0] rfl)
    have GA6 : Gr w6 (w6.alloc (.cells #[.int .i64 s, .int .i64 g, .int .i64 cc, .int .i64 0] 95)) := Ch.alloc (Gr.refl _) _
    have HNT := hid (note_one (ch := (i : Int) + 1) _ _ 1 (B5.out.gr GA6) HK.out SG6.out (plA_more (fun h1 => HPL.out.1 h1) HC.out) (fun s' g' hne => plA_set (HPL.out.2 s' g' hne) _ _ _ HC.out) HPB.out)
    clear GA6
    go_wp2_with (first
      | (refine wpList_load_row rfl 95 (.tmp 6) rfl w.heap.size rfl _ _ _ _ M6 Try.underlying95 rfl wtr_size ?_)
      | (go_at_call 24; refine HNT.out.mono ?_; rintro e w7 ⟨rfl, t7, M7, k7, b7, n7⟩; have B7 := hid b7; have N7 := hid (Tn.trans (N5.out.then (show Gr w6 (w6.alloc (.cells #[.int .i64 s, .int .i64 g, .int .i64 cc, .int .i64 0] 95)) from Ch.alloc (Gr.refl _) _)) n7); clear b7 n7))
    go_ret
    exact ⟨rfl, t7, ⟨_, _, _, _, _, B7.out.a (fun _ _ => rfl)⟩, N7.out⟩
  · go_simp
    have G6 : Gr V0 (V0.alloc (.cells #[.int .i64 s, .int .i64 g, .int .i64 cc, .int .i64 0] 95)) := Ch.alloc (Gr.refl _) _
    have SG := hid (Ls.single (enc := eW) V0 (Wt.mk s g cc 0) 95 #[.int .i64 s, .int .i64 g, .int .i64 cc, .int .i64 0] rfl)
    have hS1 := hS0.gr G6
    have H1 := hid (H0.out.gr G6)
    have O1 := hid (O0.out.gr G6)
    have c3 := (Ch.cell G6 lO (noB _)).trans c3
    have N1 := hid (N0.out.then G6)
    clear G6
    generalize V0.alloc (.cells #[.int .i64 s, .int .i64 g, .int .i64 cc, .int .i64 0] 95) = u1 at hS1 H1 O1 SG c3 N1 ⊢
    refine hK.out _ _ (by exact hS1) (fun _ => ?_)
    clear hK K
    refine wpAnyH_ready (rs := [4]) (by kernel_rfl) (by simp) (AllReadyH.cons rfl (fun K hK => ?_) AllReadyH.nil)
    go_simp
    refine hK.out _ _ (by exact hS1) (fun _ => ?_)
    clear hK K
    refine wpAnyH_ready (rs := [7]) (by kernel_rfl) (by simp) (AllReadyH.cons rfl (fun K hK => ?_) AllReadyH.nil)
    refine step_append_ow eW_len rfl (.tmp 36) (.tmp 38) _ 95 32 _ Try.underlying68 wtr_info rfl (by omega) rfl 0 _ c.rs rfl O1.out _ _ [(Wt.mk s g cc 0)] rfl SG.out (eW_one _) (sn + 1) (by rw [HSN.out]; rfl) (by have := HSB.out; omega) (by unfold maxLen; have := HSB.out; omega) (Nat.zero_le _) (c.rs ++ [(Wt.mk s g cc 0)]) rfl ?_
    intro ao5 cap5 w5 ow5 cw5 bl5
    obtain ⟨gO', ca', t5, e5, l5, p5, f5, b5, n5, -, -⟩ := H1.out.setr HX.out HC.out (by rw [EV.out, ← HSN.out]; exact cw5) ow5 (by rw [EV.out, ← HSN.out]; exact bl5)
    rw [HVV.out] at e5
    injection e5 with e5 _ _
    injection e5 with e5
    injection e5 with e5 _ _
    subst e5
    rw [EV.out, ← HSN.out] at p5
    have hS5 := hS1.ch cw5 (fun hq => HAB.out hq)
    have hS6 : Sk w #[.int .i64 s, .int .i64 g, .int .i64 cc, .int .i64 0] (w5.setCell ⟨gO, i * 5 + 3, none⟩ (.slice ao5 (sn + 1) cap5)) := hS5.ch (Ch.own (Ch.refl (Only gO) _) _ _) (fun e => HAG.out e)
    have B5 := hid b5
    have N5 := hid (Tn.trans N1.out n5)
    clear ow5 cw5 bl5 b5 n5
    refine hK.out _ _ (by exact hS5) (fun _ => ?_)
    change wpAnyH _ _ _ _ _ _ _ (Act.put _ (some 39) _) _
    simp only [Act.put, List.setIfInBounds_toArray, List.set_cons_zero, List.set_cons_succ]
    clear hK K
    refine takeS_on (i := 8) 40 (v := ?v17) rfl rfl (by kernel_rfl) (by kernel_rfl) (by kernel_rfl) (fun _ _ _ h => h) (by kernel_rfl) ?hy17 (by exact hS5) ?_
    case hy17 => (intro w' hSw; go_simp; try (with_reducible rfl))
    simp only [Act.put, List.setIfInBounds_toArray, List.set_cons_zero, List.set_cons_succ]
    refine takeS_on (i := 9) 41 (v := ?v18) rfl rfl (by kernel_rfl) (by kernel_rfl) (by kernel_rfl) (fun _ _ _ h => h) (by kernel_rfl) ?hy18 (by exact hS5) ?_
    case hy18 => (intro w' hSw; go_simp; try (with_reducible rfl))
    simp only [Act.put, List.setIfInBounds_toArray, List.set_cons_zero, List.set_cons_succ]
    refine wpAnyH_ready (rs := [10]) (by kernel_rfl) (by simp) (AllReadyH.cons rfl (fun K hK => ?_) AllReadyH.nil)
    go_simp
    refine hK.out _ _ (by exact hS6) (fun _ => ?_)
    clear hK K
    refine wpAnyH_done (by kernel_rfl) ?_ _
    generalize World.setCell w5 _ _ = w6 at B5 N5 hS6 ⊢
    clear p5 f5 l5 hS5 hS1 hS0
    have M6 := hS6.bx
    have SG6 := hid (Ls.single (enc := eW) w6 (Wt.mk s g cc 0) 95 #[.int .i64 s, .int .i64 g, .int .i64 cc, .int .i64 0] rfl)
    have GA6 : Gr w6 (w6.alloc (.cells #[.int .i64 s, .int .i64 g, .int .i64 cc, .int .i64 0] 95)) := Ch.alloc (Gr.refl _) _
    have HNT := hid (note_one (ch := (i : Int) + 1) _ _ 1 (B5.out.gr GA6) HK.out SG6.out (plA_more (fun h1 => HPL.out.1 h1) HC.out) (fun s' g' hne => plA_set (HPL.out.2 s' g' hne) _ _ _ HC.out) HPB.out)
    clear GA6
    go_wp2_with (first
      | (refine wpList_load_row rfl 95 (.tmp 6) rfl w.heap.size rfl _ _ _ _ M6 Try.underlying95 rfl wtr_size ?_)
      | (go_at_call 24; refine HNT.out.mono ?_; rintro e w7 ⟨rfl, t7, M7, k7, b7, n7⟩; have B7 := hid b7; have N7 := hid (Tn.trans (N5.out.then (show Gr w6 (w6.alloc (.cells #[.int .i64 s, .int .i64 g, .int .i64 cc, .int .i64 0] 95)) from Ch.alloc (Gr.refl _) _)) n7); clear b7 n7))
    go_ret
    exact ⟨rfl, t7, ⟨_, _, _, _, _, B7.out.a (fun _ _ => rfl)⟩, N7.out⟩
end Go.Proofs.Ytalmiphddgmfbab.Lt
