/-
  What the program's admit of layer 11 answers and leaves. Conditions: goroutines' numbers are ints, lists are not too long.
-/
import Derived.Test.YtalmiphddgmfbabCpSd
import Derived.Test.YtalmiphddgmfbabCpDel
import Derived.Deep.Cut
namespace Go.Proofs.Ytalmiphddgmfbab.Lt
open Go.RowKit Wd
attribute [local go_sem ↓] Go.wp_at_zero Go.wp_at_succ

theorem Bw.set {cs : List Cn} {i : Nat} {c : Cn} {vs : List Int} {cl : Bool} (h : Bw cs) (hc : cs[i]? = some c) : Bw (cs.set i ⟨c.cap, vs, c.ss, c.rs, cl⟩) := by
  intro d hd
  rcases List.mem_or_eq_of_mem_set hd with e | e
  · exact h d e
  · subst e
    exact h c (List.mem_of_getElem? hc)
theorem pls_set {cs : List Cn} {i : Nat} {c d : Cn} {s g : Int} (hc : cs[i]? = some c) (hp : d.pl s g = c.pl s g) : pls (cs.set i d) s g = pls cs s g := by
  rw [← plA_len s g 0, plA_set hp _ _ _ hc, plA_len]
/-- what admit tells and leaves -/
def AdR (t : Nat → Tg) (w : World) (b : Nat) (v : Value) (cs : List Cn) (ks : List Wk) (e : Ending) (w' : World) : Prop := ∃ mo mn mc, e = .returned (.slice mo mn mc) ∧ Ow eK 6 114 w.heap.size w' (.slice mo mn mc) ks ∧ ∃ t', Ct t' w' b v cs cs ∧ Tn t t' w w' ∧ ∀ q, Blk (.slice mo mn mc) q → t' q = .no
theorem admit_none {t : Nat → Tg} {w : World} {b k gO n ca i clock : Nat} {xs : List Rw} {M : List Me} {cs : List Cn} {c : Cn} (h : Ca t w b k (.slice (some ⟨gO, 0, none⟩) n ca) xs M clock cs) (hc : cs[i]? = some c) (hs : c.ss = []) :
    Calls Try.prog 64 #[.pointer (some ⟨b, 0, none⟩), .pointer (some ⟨gO, i * 5, none⟩)] w fun e w' => e = .returned (.slice none 0 0) ∧ w' = w := by
  obtain ⟨gO', ca', x, ev, -, hx, ho, h5⟩ := h.nl.at hc
  injection ev with ev _ _
  injection ev with ev
  injection ev with ev _ _
  subst ev
  obtain ⟨so, sk, es⟩ := ho.s.form
  have c2 := h5.c2
  rw [es, hs] at c2
  simp at c2
  clear h hc hs hx ho h5 es
  go_enter Try.func64, Try.ntmps64
  go_wp2
  go_ret
  exact ⟨rfl, rfl⟩
set_option maxRecDepth 40000 in
set_option maxHeartbeats 8000000 in
theorem admit_yes {t : Nat → Tg} {w : World} {b k gO n ca i clock : Nat} {xs : List Rw} {M : List Me} {cs : List Cn} {c : Cn} (h : Ca t w b k (.slice (some ⟨gO, 0, none⟩) n ca) xs M clock cs) (hc : cs[i]? = some c) (hn : cs.length ≤ 1024) (hb : Bw cs) (x0 x1 x2 x3 : Int) (rr : List Wt) (hs : c.ss = ⟨x0, x1, x2, x3⟩ :: rr) (hk : Gok x0 x1) (hv : c.vs.length ≤ 1024) (hp : pls cs x0 x1 ≤ 4398046511104) :
    Calls Try.prog 64 #[.pointer (some ⟨b, 0, none⟩), .pointer (some ⟨gO, i * 5, none⟩)] w (AdR t w b (.slice (some ⟨gO, 0, none⟩) n ca) (lvs (cs.set i ⟨c.cap, c.vs ++ [x3], c.ss, c.rs, c.cl⟩) x0 x1) [⟨x0, x1, x2, 0, true, 0⟩]) := by
  obtain ⟨gO', ca', x, ev, tO, hx, ho, h5⟩ := h.nl.at hc
  injection ev with ev en ec
  injection ev with ev
  injection ev with ev _ _
  subst ev
  clear en ec
  have hno : t w.heap.size = .no := (show Ct t w b _ cs cs from ⟨_, _, _, _, h.b⟩).hi _ (Nat.le_refl _)
  obtain ⟨w1, hw1⟩ : ∃ W, W = w.alloc (.cells #[.int .i64 x0, .int .i64 x1, .int .i64 x2, .int .i64 x3] 95) := ⟨_, rfl⟩
  have g1 : Gr w w1 := by rw [hw1]; exact Ch.alloc (Gr.refl w) _
  obtain ⟨so, sk, es⟩ := ho.s.form
  obtain ⟨vo, vk, ev⟩ := ho.v.form
  obtain ⟨sn, hsn⟩ : ∃ n, n = c.vs.length := ⟨_, rfl⟩
  have HSN := hid hsn
  have HSB := hid (show sn ≤ 1024 from by rw [hsn]; exact hv)
  have HX := hid hx
  have HC := hid hc
  have EV := hid ev
  have HK := hid hk
  have HN := hid hn
  have HBW := hid hb
  have HP := hid hp
  have HAB := hid (show ¬ Blk (.slice vo sn vk) w.heap.size from fun hq => by have e1 := ho.tv _ (by rw [ev, ← hsn]; exact hq); rw [hno] at e1; cases e1)
  have HAG := hid (show ¬ (w.heap.size = gO) from fun e => by have e1 := hno; rw [e, tO] at e1; cases e1)
  have HCA := hid h
  have G1 := hid g1
  have C0 := hid (show w.cell? ⟨gO, i * 5 + 1, none⟩ = some (.slice vo sn vk) from by rw [hsn, ← ev]; exact h5.c1)
  have L0 := hid h5.lt
  have O00 := hid (show Ow eI 1 2 0 w (.slice vo sn vk) c.vs from by rw [hsn, ← ev]; exact ho.v)
  have BX := hid (show w1.heap[w.heap.size]? = some (.cells #[.int .i64 x0, .int .i64 x1, .int .i64 x2, .int .i64 x3] 95 (0, 0)) from by rw [hw1]; exact (MapKept.heap_alloc w _).1)
  have c2 := h5.c2
  rw [es, hs] at c2
  obtain ⟨gr, rc, e9, -, hgr, -, hcs, -, -⟩ := ho.s.get eW_len (i := 0) (by rw [hs]; rfl)
  rw [es] at e9
  injection e9 with e9 e10 e11
  subst e9
  clear e10 e11
  have d0 := hcs 0 _ rfl
  have d1 := hcs 1 _ rfl
  have d2 := hcs 2 _ rfl
  have d3 := hcs 3 _ rfl
  simp only [Nat.zero_mul, Nat.zero_add] at d0 d1 d2 d3
  have rp : ((((Wt.mk x0 x1 x2 x3) :: rr).length : Nat) : Int) ≠ 0 := by simp only [List.length_cons]; omega
  have rp2 : (0 : Int) < ((((Wt.mk x0 x1 x2 x3) :: rr).length : Nat) : Int) := by simp only [List.length_cons]; omega
  have rq : 0 < ((Wt.mk x0 x1 x2 x3) :: rr).length := by simp
  have rq2 : ¬ ((Wt.mk x0 x1 x2 x3) :: rr).length = 0 := by simp
  generalize ((Wt.mk x0 x1 x2 x3) :: rr).length = rn at c2 rp rp2 rq rq2
  clear h hk hc hn hb hp hx ev tO ho h5 es g1 hno hsn hcs hgr hs hv
  go_enter Try.func64, Try.ntmps64
  go_upto_region 4 with fail
  rw [← hw1]
  clear hw1 c2 d0 d1 d2 d3
  have hS0 : Sk w #[.int .i64 x0, .int .i64 x1, .int .i64 x2, .int .i64 x3] (World.drew w1) := ⟨BX.out⟩
  have GD : Gr w (World.drew w1) := Ch.drew G1.out
  have H0 := hid (HCA.out.b.gr GD)
  have O0 := hid (O00.out.gr GD)
  have c1 := (Ch.cell GD L0.out (noB _)).trans C0.out
  have lO : gO < (World.drew w1).heap.size := Nat.lt_of_lt_of_le L0.out GD.size
  have N0 := hid (show Tn t t w (World.drew w1) from Tn.gr GD)
  clear GD C0 L0 O00 BX G1 HCA
  refine wp_region_held_drew (S := Sk w #[.int .i64 x0, .int .i64 x1, .int .i64 x2, .int .i64 x3]) (by kernel_rfl) (by exact hS0) (fun _ => ?_)
  generalize World.drew w1 = V0 at hS0 H0 O0 c1 lO N0 ⊢
  refine takeS_on (i := 0) 18 (v := ?v1) rfl rfl (by kernel_rfl) (by kernel_rfl) (by kernel_rfl) (fun _ _ _ h => h) (by kernel_rfl) ?hy1 (by exact hS0) ?_
  case hy1 => (intro w' hSw; go_simp; try (with_reducible rfl))
  simp only [Act.put, List.setIfInBounds_toArray, List.set_cons_zero, List.set_cons_succ]
  refine takeS_on (i := 1) 19 (v := ?v2) rfl rfl (by kernel_rfl) (by kernel_rfl) (by kernel_rfl) (fun _ _ _ h => h) (by kernel_rfl) ?hy2 (by exact hS0) ?_
  case hy2 => (intro w' hSw; go_simp; try (with_reducible rfl))
  simp only [Act.put, List.setIfInBounds_toArray, List.set_cons_zero, List.set_cons_succ]
  refine takeS_on (i := 2) 20 (v := ?v3) rfl rfl (by kernel_rfl) (by kernel_rfl) (by kernel_rfl) (fun _ _ _ h => h) (by kernel_rfl) ?hy3 (by exact hS0) ?_
  case hy3 => (intro w' hSw; go_simp; try (with_reducible rfl))
  simp only [Act.put, List.setIfInBounds_toArray, List.set_cons_zero, List.set_cons_succ]
  refine takeS_on (i := 3) 21 (v := ?v4) rfl rfl (by kernel_rfl) (by kernel_rfl) (by kernel_rfl) (fun _ _ _ h => h) (by kernel_rfl) ?hy4 (by exact hS0) ?_
  case hy4 => (intro w' hSw; go_simp; try (with_reducible rfl))
  simp only [Act.put, List.setIfInBounds_toArray, List.set_cons_zero, List.set_cons_succ]
  refine takeS_on (i := 5) 23 (v := ?v5) rfl rfl (by kernel_rfl) (by kernel_rfl) (by kernel_rfl) (fun _ _ _ h => h) (by kernel_rfl) ?hy5 (by exact hS0) ?_
  case hy5 => (intro w' hSw; go_simp; try (with_reducible rfl))
  simp only [Act.put, List.setIfInBounds_toArray, List.set_cons_zero, List.set_cons_succ]
  refine takeS_on (i := 6) 24 (v := ?v6) rfl rfl (by kernel_rfl) (by kernel_rfl) (by kernel_rfl) (fun _ _ _ h => h) (by kernel_rfl) ?hy6 (by exact hS0) ?_
  case hy6 => (intro w' hSw; have c9 := cell_of hSw.bx 3; simp at c9; go_simp; try (with_reducible rfl))
  simp only [Act.put, List.setIfInBounds_toArray, List.set_cons_zero, List.set_cons_succ]
  refine wpAnyH_ready (rs := [4, 7]) (by kernel_rfl) (by simp) (AllReadyH.cons rfl (fun K hK => ?_) (AllReadyH.cons rfl (fun K hK => ?_) AllReadyH.nil))
  · go_simp
    refine hK.out _ _ (by exact hS0) (fun _ => ?_)
    clear hK K
    refine wpAnyH_ready (rs := [7]) (by kernel_rfl) (by simp) (AllReadyH.cons rfl (fun K hK => ?_) AllReadyH.nil)
    go_simp
    have G6 : Gr V0 (V0.alloc (.cells #[.int .i64 x3] 2)) := Ch.alloc (Gr.refl _) _
    have SG := hid (Ls.single (enc := eI) V0 x3 2 #[.int .i64 x3] rfl)
    have hS1 := hS0.gr G6
    have H1 := hid (H0.out.gr G6)
    have O1 := hid (O0.out.gr G6)
    have c1 := (Ch.cell G6 lO (noB _)).trans c1
    have N1 := hid (N0.out.then G6)
    clear G6
    generalize V0.alloc (.cells #[.int .i64 x3] 2) = u1 at hS1 H1 O1 SG c1 N1 ⊢
    refine hK.out _ _ (by exact hS1) (fun _ => ?_)
    clear hK K
    refine wpAnyH_ready (rs := [8]) (by kernel_rfl) (by simp) (AllReadyH.cons rfl (fun K hK => ?_) AllReadyH.nil)
    refine step_append_ow eI_len rfl (.tmp 22) (.tmp 25) _ 2 8 _ Try.underlying67 i64_info rfl (by omega) rfl 0 _ c.vs rfl O1.out _ _ [x3] rfl SG.out (eI_one _) (sn + 1) (by rw [HSN.out]; rfl) (by have := HSB.out; omega) (by unfold maxLen; have := HSB.out; omega) (Nat.zero_le _) (c.vs ++ [x3]) rfl ?_
    intro ao5 cap5 w5 ow5 cw5 bl5
    obtain ⟨gO', ca', t5, e5, l5, p5, f5, b5, n5, -, -⟩ := H1.out.setv HX.out HC.out (by rw [EV.out, ← HSN.out]; exact cw5) ow5 (by rw [EV.out, ← HSN.out]; exact bl5)
    injection e5 with e5 _ _
    injection e5 with e5
    injection e5 with e5 _ _
    subst e5
    rw [EV.out, ← HSN.out] at p5
    have hS5 := hS1.ch cw5 (fun hq => HAB.out hq)
    have hS6 : Sk w #[.int .i64 x0, .int .i64 x1, .int .i64 x2, .int .i64 x3] (w5.setCell ⟨gO, i * 5 + 1, none⟩ (.slice ao5 (sn + 1) cap5)) := hS5.ch (Ch.own (Ch.refl (Only gO) _) _ _) (fun e => HAG.out e)
    have B5 := hid b5
    have N5 := hid (Tn.trans N1.out n5)
    clear ow5 cw5 bl5 b5 n5
    refine hK.out _ _ (by exact hS5) (fun _ => ?_)
    change wpAnyH _ _ _ _ _ _ _ (Act.put _ (some 26) _) _
    simp only [Act.put, List.setIfInBounds_toArray, List.set_cons_zero, List.set_cons_succ]
    clear hK K
    refine takeS_on (i := 9) 27 (v := ?v7) rfl rfl (by kernel_rfl) (by kernel_rfl) (by kernel_rfl) (fun _ _ _ h => h) (by kernel_rfl) ?hy7 (by exact hS5) ?_
    case hy7 => (intro w' hSw; go_simp; try (with_reducible rfl))
    simp only [Act.put, List.setIfInBounds_toArray, List.set_cons_zero, List.set_cons_succ]
    refine takeS_on (i := 10) 28 (v := ?v8) rfl rfl (by kernel_rfl) (by kernel_rfl) (by kernel_rfl) (fun _ _ _ h => h) (by kernel_rfl) ?hy8 (by exact hS5) ?_
    case hy8 => (intro w' hSw; go_simp; try (with_reducible rfl))
    simp only [Act.put, List.setIfInBounds_toArray, List.set_cons_zero, List.set_cons_succ]
    refine wpAnyH_ready (rs := [11]) (by kernel_rfl) (by simp) (AllReadyH.cons rfl (fun K hK => ?_) AllReadyH.nil)
    go_simp
    refine hK.out _ _ (by exact hS6) (fun _ => ?_)
    clear hK K
    refine wpAnyH_done (by kernel_rfl) ?_ _
    generalize World.setCell w5 _ _ = w6 at B5 N5 hS6 ⊢
    clear p5 f5 l5 hS5 hS1 hS0
    have M6 := hS6.bx
    have C6 := hid (show Ct t5 w6 b (.slice (some ⟨gO, 0, none⟩) n ca) (cs.set i ⟨c.cap, c.vs ++ [x3], c.ss, c.rs, c.cl⟩) (cs.set i ⟨c.cap, c.vs ++ [x3], c.ss, c.rs, c.cl⟩) from ⟨_, _, _, _, (B5.out.a (fun s' g' => plA_set (c := c) (d := ⟨c.cap, c.vs ++ [x3], c.ss, c.rs, c.cl⟩) rfl _ _ _ HC.out)).b⟩)
    have HWK := hid (wakeB_any (s := x0) (g := x1) x2 x3 0 true 0 C6.out rfl (self_cv x0 x1) HK.out (by rw [List.length_set]; exact HN.out) (HBW.out.set HC.out) (by rw [pls_set (d := ⟨c.cap, c.vs ++ [x3], c.ss, c.rs, c.cl⟩) HC.out rfl]; exact HP.out))
    go_wp2_with (first
      | (refine wpList_load_row rfl 95 (.tmp 5) rfl w.heap.size rfl _ _ _ _ M6 Try.underlying95 rfl wtr_size ?_)
      | (go_at_call 63; refine HWK.out.mono ?_; rintro e w7 ⟨rfl, t7, c7, n7⟩; have C7 := hid c7; have N7 := hid (Tn.trans N5.out n7); clear c7 n7))
    have ok0 := (ow_one (enc := eK) (K := 6) w7 (Wk.mk x0 x1 x2 0 true 0) 114 #[.int .i64 x0, .int .i64 x1, .int .i64 x2, .int .i64 0, .bool true, .int .i64 0] rfl rfl)
    have OK := hid ok0
    clear ok0
    have GA := hid (show Gr w7 (w7.alloc (.cells #[.int .i64 x0, .int .i64 x1, .int .i64 x2, .int .i64 0, .bool true, .int .i64 0] 114)) from Ch.alloc (Gr.refl w7) _)
    have SZ := hid (show w.heap.size ≤ w7.heap.size from N7.out.c.size)
    go_ret
    refine ⟨_, _, _, rfl, OK.out.lower SZ.out, t7, C7.out.gr GA.out, N7.out.then GA.out, fun q hq => C7.out.hi q ((OK.out.blk hq).1)⟩
  · go_simp
    have G6 : Gr V0 (V0.alloc (.cells #[.int .i64 x3] 2)) := Ch.alloc (Gr.refl _) _
    have SG := hid (Ls.single (enc := eI) V0 x3 2 #[.int .i64 x3] rfl)
    have hS1 := hS0.gr G6
    have H1 := hid (H0.out.gr G6)
    have O1 := hid (O0.out.gr G6)
    have c1 := (Ch.cell G6 lO (noB _)).trans c1
    have N1 := hid (N0.out.then G6)
    clear G6
    generalize V0.alloc (.cells #[.int .i64 x3] 2) = u1 at hS1 H1 O1 SG c1 N1 ⊢
    refine hK.out _ _ (by exact hS1) (fun _ => ?_)
    clear hK K
    refine wpAnyH_ready (rs := [4]) (by kernel_rfl) (by simp) (AllReadyH.cons rfl (fun K hK => ?_) AllReadyH.nil)
    go_simp
    refine hK.out _ _ (by exact hS1) (fun _ => ?_)
    clear hK K
    refine wpAnyH_ready (rs := [8]) (by kernel_rfl) (by simp) (AllReadyH.cons rfl (fun K hK => ?_) AllReadyH.nil)
    refine step_append_ow eI_len rfl (.tmp 22) (.tmp 25) _ 2 8 _ Try.underlying67 i64_info rfl (by omega) rfl 0 _ c.vs rfl O1.out _ _ [x3] rfl SG.out (eI_one _) (sn + 1) (by rw [HSN.out]; rfl) (by have := HSB.out; omega) (by unfold maxLen; have := HSB.out; omega) (Nat.zero_le _) (c.vs ++ [x3]) rfl ?_
    intro ao5 cap5 w5 ow5 cw5 bl5
    obtain ⟨gO', ca', t5, e5, l5, p5, f5, b5, n5, -, -⟩ := H1.out.setv HX.out HC.out (by rw [EV.out, ← HSN.out]; exact cw5) ow5 (by rw [EV.out, ← HSN.out]; exact bl5)
    injection e5 with e5 _ _
    injection e5 with e5
    injection e5 with e5 _ _
    subst e5
    rw [EV.out, ← HSN.out] at p5
    have hS5 := hS1.ch cw5 (fun hq => HAB.out hq)
    have hS6 : Sk w #[.int .i64 x0, .int .i64 x1, .int .i64 x2, .int .i64 x3] (w5.setCell ⟨gO, i * 5 + 1, none⟩ (.slice ao5 (sn + 1) cap5)) := hS5.ch (Ch.own (Ch.refl (Only gO) _) _ _) (fun e => HAG.out e)
    have B5 := hid b5
    have N5 := hid (Tn.trans N1.out n5)
    clear ow5 cw5 bl5 b5 n5
    refine hK.out _ _ (by exact hS5) (fun _ => ?_)
    change wpAnyH _ _ _ _ _ _ _ (Act.put _ (some 26) _) _
    simp only [Act.put, List.setIfInBounds_toArray, List.set_cons_zero, List.set_cons_succ]
    clear hK K
    refine takeS_on (i := 9) 27 (v := ?v9) rfl rfl (by kernel_rfl) (by kernel_rfl) (by kernel_rfl) (fun _ _ _ h => h) (by kernel_rfl) ?hy9 (by exact hS5) ?_
    case hy9 => (intro w' hSw; go_simp; try (with_reducible rfl))
    simp only [Act.put, List.setIfInBounds_toArray, List.set_cons_zero, List.set_cons_succ]
    refine takeS_on (i := 10) 28 (v := ?v10) rfl rfl (by kernel_rfl) (by kernel_rfl) (by kernel_rfl) (fun _ _ _ h => h) (by kernel_rfl) ?hy10 (by exact hS5) ?_
    case hy10 => (intro w' hSw; go_simp; try (with_reducible rfl))
    simp only [Act.put, List.setIfInBounds_toArray, List.set_cons_zero, List.set_cons_succ]
    refine wpAnyH_ready (rs := [11]) (by kernel_rfl) (by simp) (AllReadyH.cons rfl (fun K hK => ?_) AllReadyH.nil)
    go_simp
    refine hK.out _ _ (by exact hS6) (fun _ => ?_)
    clear hK K
    refine wpAnyH_done (by kernel_rfl) ?_ _
    generalize World.setCell w5 _ _ = w6 at B5 N5 hS6 ⊢
    clear p5 f5 l5 hS5 hS1 hS0
    have M6 := hS6.bx
    have C6 := hid (show Ct t5 w6 b (.slice (some ⟨gO, 0, none⟩) n ca) (cs.set i ⟨c.cap, c.vs ++ [x3], c.ss, c.rs, c.cl⟩) (cs.set i ⟨c.cap, c.vs ++ [x3], c.ss, c.rs, c.cl⟩) from ⟨_, _, _, _, (B5.out.a (fun s' g' => plA_set (c := c) (d := ⟨c.cap, c.vs ++ [x3], c.ss, c.rs, c.cl⟩) rfl _ _ _ HC.out)).b⟩)
    have HWK := hid (wakeB_any (s := x0) (g := x1) x2 x3 0 true 0 C6.out rfl (self_cv x0 x1) HK.out (by rw [List.length_set]; exact HN.out) (HBW.out.set HC.out) (by rw [pls_set (d := ⟨c.cap, c.vs ++ [x3], c.ss, c.rs, c.cl⟩) HC.out rfl]; exact HP.out))
    go_wp2_with (first
      | (refine wpList_load_row rfl 95 (.tmp 5) rfl w.heap.size rfl _ _ _ _ M6 Try.underlying95 rfl wtr_size ?_)
      | (go_at_call 63; refine HWK.out.mono ?_; rintro e w7 ⟨rfl, t7, c7, n7⟩; have C7 := hid c7; have N7 := hid (Tn.trans N5.out n7); clear c7 n7))
    have ok0 := (ow_one (enc := eK) (K := 6) w7 (Wk.mk x0 x1 x2 0 true 0) 114 #[.int .i64 x0, .int .i64 x1, .int .i64 x2, .int .i64 0, .bool true, .int .i64 0] rfl rfl)
    have OK := hid ok0
    clear ok0
    have GA := hid (show Gr w7 (w7.alloc (.cells #[.int .i64 x0, .int .i64 x1, .int .i64 x2, .int .i64 0, .bool true, .int .i64 0] 114)) from Ch.alloc (Gr.refl w7) _)
    have SZ := hid (show w.heap.size ≤ w7.heap.size from N7.out.c.size)
    go_ret
    refine ⟨_, _, _, rfl, OK.out.lower SZ.out, t7, C7.out.gr GA.out, N7.out.then GA.out, fun q hq => C7.out.hi q ((OK.out.blk hq).1)⟩
end Go.Proofs.Ytalmiphddgmfbab.Lt
