/-
  What the document's Recv of layer 11 answers where a value is held. Conditions: the lists are not too long.
-/
import Derived.Test.YtalmiphddgmfbabCnSv
import Derived.Deep.Cut
namespace Go.Proofs.Ytalmiphddgmfbab.Lt
open Go.RowKit Wd
attribute [local go_sem ↓] Go.wp_at_zero Go.wp_at_succ

/-- a block that holds an answer -/
structure Sm (A : Nat) (R : Array Value) (W : World) : Prop where
  bx : W.heap[A]? = some (.cells R 43 (0, 0))
theorem Sm.ch {A : Nat} {R : Array Value} {W W' : World} {S : Nat → Prop} (h : Sm A R W) (c : Ch S W W') (hn : ¬ S A) : Sm A R W' := ⟨(c.block _ (lt_of_block h.bx) hn).trans h.bx⟩
theorem lvs_getR {cs : List Cn} {i : Nat} {c : Cn} (hc : cs[i]? = some c) (s g : Int) : (lvs cs s g)[i]? = some (c.wo s g) := by unfold lvs; rw [List.getElem?_map, hc]; rfl
theorem lvs_lenR (cs : List Cn) (s g : Int) : (lvs cs s g).length = cs.length := List.length_map _
set_option maxHeartbeats 4000000 in
set_option maxRecDepth 20000 in
theorem rrecv_value0 (P : Nat → Prop) (w : World) (ao : Option Addr) (n cap : Nat) (cs : List Cn) (k : Nat) (d : Cn) (s g : Int) (h : Rds P w (.slice ao n cap) cs) (hb : Bd cs) (hn : cs.length ≤ 1024) (hnn : n = cs.length) (hk : cs[k]? = some d) (hp : decide (0 < pls cs s g) = false) (u : Int) (us : List Int) (hvs : d.vs = u :: us) (hlm : (u :: us).length ≤ 17592186044415) (hss : d.ss = []) : Calls Try.prog 41 #[.slice ao n cap, .int .i64 ((k + 1 : Nat) : Int), .agg #[.int .i64 s, .int .i64 g]] w (SdK w (cs.set k ⟨d.cap, us, d.ss, d.rs, d.cl⟩) false u true 0 []) := by
  have HBD := hid hb
  have HNB := hid hn
  have HVS := hid hvs
  have HSS := hid hss
  have HLM := hid hlm
  clear hvs hss hlm
  have hkn : k < n := by rw [hnn]; exact (List.getElem?_eq_some_iff.1 hk).1
  have hnb : n ≤ 1024 := by omega
  have HW := hid (fun (W : World) (p : Gr w W) => rwaits_any P W _ cs s g (h.gr p) hb (by omega))
  have HCP := hid (fun (W : World) (p : Gr w W) => copy_any P W _ cs (h.gr p) hb)
  have HI := hid ris_any
  have HP := hid hp
  have HNN := hid hnn
  have HCK := hid hk
  have hd : decide (1 ≤ ((k + 1 : Nat) : Int) ∧ ((k + 1 : Nat) : Int) ≤ (n : Int)) = true := decide_eq_true (by omega)
  have e0 : (((k + 1 : Nat) : Int) == 0) = false := by simp; omega
  have hw1 : wrap64 (((k + 1 : Nat) : Int) - 1) = (k : Int) := by unfold wrap64; omega
  have k0 : (0 : Int) ≤ (k : Int) := by omega
  have k1 : (k : Int) < (n : Int) := by omega
  obtain ⟨ch, hch⟩ : ∃ ch : Int, ch = ((k + 1 : Nat) : Int) := ⟨_, rfl⟩
  rw [← hch] at hd e0 hw1 ⊢
  have G0 := hid (show Gr w ((w.alloc (.cells #[.int .i64 s, .int .i64 g] 24)).alloc (.cells #[.bool false, .int .i64 0, .bool false, .int .i64 0, .slice none 0 0] 43)) from Ch.alloc (Ch.alloc (Gr.refl w) _) _)
  have X0 := hid (show ((w.alloc (.cells #[.int .i64 s, .int .i64 g] 24)).alloc (.cells #[.bool false, .int .i64 0, .bool false, .int .i64 0, .slice none 0 0] 43)).heap[w.heap.size + 1]? = some (.cells #[.bool false, .int .i64 0, .bool false, .int .i64 0, .slice none 0 0] 43 (0, 0)) from by simpa using (MapKept.heap_alloc (w.alloc (.cells #[.int .i64 s, .int .i64 g] 24)) (.cells #[.bool false, .int .i64 0, .bool false, .int .i64 0, .slice none 0 0] 43)).1)
  have Y0 := hid (show ((w.alloc (.cells #[.int .i64 s, .int .i64 g] 24)).alloc (.cells #[.bool false, .int .i64 0, .bool false, .int .i64 0, .slice none 0 0] 43)).heap[w.heap.size]? = some (.cells #[.int .i64 s, .int .i64 g] 24 (0, 0)) from al_blk (MapKept.heap_alloc w _).1 _)
  clear h hb hn hp hnn hk hch
  go_enter Try.func41, Try.ntmps41
  go_upto_region 7 with (first
    | (refine wpList_load_row rfl 24 (.tmp 5) rfl w.heap.size rfl _ _ _ _ Y0.out Try.underlying24 rfl gid_size ?_)
    | (go_at_call 38; refine (HW.out _ G0.out).mono ?_; rw [HP.out]; rintro e w1 ⟨rfl, g1⟩; have G1 := hid (Gr.trans G0.out g1); have X1 := hid (gr_blk X0.out g1); have Y1 := hid (gr_blk Y0.out g1); clear g1)
    | (go_at_call 57; refine (HI.out _ _ _ _ _).mono ?_; rw [hd]; rintro e w9 ⟨rfl, hw⟩; have hw := hw.symm; subst hw))
  go_upto_region 8 with (go_at_call 36; refine (HCP.out _ G1.out).mono ?_; rintro e w2 ⟨v2, t2, xs2, rfl, nl2, g2⟩; have N2 := hid (show Nx (w.heap.size + 2) w2 v2 cs from (show Nx w1.heap.size w2 v2 cs from ⟨t2, xs2, nl2⟩).lower (by have := lt_of_block X1.out; omega)); have X2 := hid (gr_blk X1.out g2); have Y2 := hid (gr_blk Y1.out g2); have G2 := hid (Gr.trans G1.out g2); clear nl2 g2; obtain ⟨a2, ca, rfl⟩ : ∃ a c, v2 = .slice a n c := (by obtain ⟨a, c, e⟩ := N2.out.form; exact ⟨a, c, by rw [e, HNN.out]⟩); obtain ⟨gO, ev⟩ : ∃ gO, a2 = some ⟨gO, 0, none⟩ := (by obtain ⟨t, xs, h⟩ := N2.out; obtain ⟨y, hy⟩ : ∃ y, xs[k]? = some y := ⟨_, List.getElem?_eq_getElem (by rw [h.n]; exact (List.getElem?_eq_some_iff.1 HCK.out).1)⟩; obtain ⟨g, ca', e, _⟩ := h.o.get eR_len hy; injection e with e _ _; exact ⟨g, e⟩); subst ev)
  obtain ⟨y, na⟩ := N2.out.at HCK.out
  obtain ⟨vo, vn, vc, ev⟩ : ∃ a n c, y.v = .slice a n c := by obtain ⟨a, c, e⟩ := na.v.form; exact ⟨a, _, c, e⟩
  obtain ⟨so, sn, sc, es⟩ : ∃ a n c, y.s = .slice a n c := by obtain ⟨a, c, e⟩ := na.s.form; exact ⟨a, _, c, e⟩
  obtain ⟨ro, rn, rc, er⟩ : ∃ a n c, y.r = .slice a n c := by obtain ⟨a, c, e⟩ := na.r.form; exact ⟨a, _, c, e⟩
  have c0 := na.c0
  have c1 := na.c1
  have c2 := na.c2
  have c3 := na.c3
  have c4 := na.c4
  rw [na.cap] at c0
  rw [ev] at c1
  rw [es] at c2
  rw [er] at c3
  rw [na.cl] at c4
  have HVN := hid (show vn = d.vs.length from by have := na.v; rw [ev] at this; exact this.len.1)
  have HSN := hid (show sn = d.ss.length from by have := na.s; rw [es] at this; exact this.len.1)
  have HRN := hid (show rn = d.rs.length from by have := na.r; rw [er] at this; exact this.len.1)
  have NA := hid na
  have EV := hid ev
  have ES := hid es
  have ER := hid er
  clear na ev es er HW HCP HI HP X0 Y0 G0 X1 Y1 G1
  go_upto_region 9 with (refine st_row rfl 70 (.tmp 10) (.tmp 37) rfl w2.heap.size _ rfl rfl _ _ (MapKept.heap_alloc w2 _).1 chn_size rfl (one5 _ _ _ _ _ _ _ _ _ _ _) ?_; intro w3 b3 k3; have G23 := hid (show Gr w2 w3 from Ch.trans (Ch.alloc (Gr.refl w2) _) k3 (fun q e => .inr (by have e1 : q = w2.heap.size := e; omega))); have HB := hid b3; clear b3 k3)
  clear c0 c1 c2 c3 c4
  obtain ⟨p0, p1, p2, p3, p4⟩ := five_cells HB.out
  have X3 := hid (gr_blk X2.out G23.out)
  have Y3 := hid (gr_blk Y2.out G23.out)
  have G3 := hid (Gr.trans G2.out G23.out)
  have NA3 := hid (NA.out.gr G23.out)
  clear X2 Y2 G2 NA
  generalize w2.heap.size = CB at HB p0 p1 p2 p3 p4 ⊢
  obtain ⟨gv, vcc, e9, -, hgv, -, hcs, -, -⟩ := NA3.out.v.get eI_len (i := 0) (by rw [HVS.out]; rfl)
  rw [EV.out] at e9
  injection e9 with e9 e10 e11
  subst e9
  clear e10 e11
  have d0 := hcs 0 _ rfl
  simp only [Nat.zero_mul, Nat.zero_add] at d0
  have vl : vn = us.length + 1 := by rw [HVN.out, HVS.out]; rfl
  have HVL := hid vl
  have vq : 0 < vn := by omega
  have vp : (0 : Int) < (vn : Int) := by omega
  clear hcs hgv vl
  obtain ⟨W4, hW4⟩ : ∃ W, W = w3.alloc (.cells #[.bool false, .int .i64 u, .bool true, .int .i64 0, .slice none 0 0] 43) := ⟨_, rfl⟩
  have G34 := hid (show Gr w3 W4 from by rw [hW4]; exact Ch.alloc (Gr.refl w3) _)
  have M4 := hid (show W4.heap[w3.heap.size]? = some (.cells #[.bool false, .int .i64 u, .bool true, .int .i64 0, .slice none 0 0] 43 (0, 0)) from by rw [hW4]; exact (MapKept.heap_alloc w3 _).1)
  have OE := hid (ow_empty 2 W4)
  have GE := hid (show Gr W4 (W4.alloc (.cells #[] 2)) from Ch.alloc (Gr.refl _) _)
  go_upto_region 12 with fail
  rw [← hW4]
  have SZ4 := hid (show W4.heap.size = w3.heap.size + 1 from by rw [hW4]; simp)
  rw [SZ4.out] at OE
  have LV3 := hid (show Ls eI (w.heap.size + 2 ≤ ·) w3 (.slice (some ⟨gv, 0, none⟩) vn vc) d.vs from by have := NA3.out.v; rw [EV.out] at this; exact this.lst)
  have HBC := hid HB.out
  clear hW4 d0 p0 p1 p2 p3 p4
  go_wp2_with fail
  go_loopg [12, 13] (vn - 1) (fun q v12 v13 wr => ∃ (j c : Nat) (a : Option Addr), j + 1 + q = vn ∧ v13 = .int .i64 ((j + 1 : Nat) : Int) ∧ v12 = .slice a j c ∧ Ow eI 1 2 (w3.heap.size + 1) wr (.slice a j c) (us.take j) ∧ Gr W4 wr)
  case atStart => exact ⟨0, 0, _, by omega, rfl, rfl, OE.out, GE.out⟩
  case round =>
    obtain ⟨j, c, a, hjq, rfl, rfl, hO, hG⟩ := hrel
    have HO := hid hO
    have HG := hid hG
    clear hO hG
    have GW := hid (Gr.trans G34.out HG.out)
    obtain ⟨p0, p1, p2, p3, p4⟩ := five_cells (gr_blk HBC.out GW.out)
    have lC := lt_of_block (gr_blk HBC.out GW.out)
    by_cases hj : j + 1 < vn
    · obtain ⟨y, hy⟩ : ∃ y, us[j]? = some y := ⟨_, List.getElem?_eq_getElem (by have := HVL.out; omega)⟩
      obtain ⟨g1, o1, cap', hv, _, hgl, _, hcs⟩ := (LV3.out.gr GW.out).get eI_len (i := j + 1) (a := y) (by rw [HVS.out, List.getElem?_cons_succ]; exact hy)
      injection hv with hv1 hv2 hv3
      injection hv1 with hv1
      injection hv1 with hv1 hv4 _
      subst hv1 hv4
      clear hv2 hv3
      have c0 := hcs 0 _ rfl
      simp only [Nat.mul_one, Nat.add_zero, Nat.zero_add] at c0
      have j0 : (0 : Int) ≤ ((j + 1 : Nat) : Int) := by omega
      have j1 : ((j + 1 : Nat) : Int) < (vn : Int) := by omega
      have HT := hid (take_one hy)
      have HKL := hid (show j = (us.take j).length from HO.out.len.1)
      have HWK := hid (show wrap64 (((j + 1 : Nat) : Int) + 1) = ((j + 1 + 1 : Nat) : Int) from by have h1 := HLM.out; have h2 := HVL.out; rw [List.length_cons] at h1; unfold wrap64; omega)
      have BN := hid (show j + 1 ≤ 17592186044416 from by have h1 := HLM.out; have h2 := HVL.out; rw [List.length_cons] at h1; omega)
      have S9 := hid (show w3.heap.size + 1 ≤ wr.heap.size from by have := HG.out.size; have := SZ4.out; omega)
      generalize us.take j = zs at HO HT HKL
      clear hcs hy hgl
      go_wp2_with (at_builtin; refine wpList_append_ow eI_len rfl (.tmp 55) (.tmp 61) _ 2 8 _ Try.underlying67 i64_info rfl (by omega) rfl (w3.heap.size + 1) _ zs rfl (HO.out.alloc _) _ _ [y] rfl (Ls.single wr y 2 #[.int .i64 y] rfl) (eI_one _) (j + 1) (by rw [← HKL.out]; rfl) (by have := BN.out; omega) (by unfold maxLen; have := BN.out; omega) (by simp; have := S9.out; omega) (zs ++ [y]) rfl ?_; intro ao5 cap5 w5 ow5 cw5 bl5; have O5 := hid ow5; have G5 := hid (show Gr W4 w5 from Ch.trans (show Ch NoB W4 _ from Gr.trans HG.out (show Gr wr (wr.alloc (.cells #[.int .i64 y] 2)) from Ch.alloc (Gr.refl wr) _)) cw5 (fun q hq => .inr (by have := (HO.out.blk hq).1; have := SZ4.out; omega))); clear ow5 cw5 bl5)
      go_roundg (gk - 1)
      case measure => omega
      case rel => exact ⟨j + 1, cap5, ao5, by omega, (by first | exact congrArg _ HWK.out | simp), rfl, by rw [HT.out]; exact O5.out, G5.out⟩
    · have jn : ¬ ((j + 1 : Nat) : Int) < (vn : Int) := by omega
      have HOU := hid (show Ow eI 1 2 (w3.heap.size + 1) wr (.slice a j c) us from by have := HO.out; rwa [List.take_of_length_le (by have := HVL.out; omega)] at this)
      have HLO := hid (show w.heap.size + 2 ≤ w3.heap.size from by have := lt_of_block X3.out; omega)
      have M5 := hid (gr_blk M4.out HG.out)
      have X5 := hid (gr_blk X3.out GW.out)
      have GT5 := hid (Gr.trans G3.out GW.out)
      obtain rfl : sn = 0 := by rw [HSN.out, HSS.out]; rfl
      obtain ⟨ce, fz, lg, nx⟩ := NA3.out.wv wr (.slice a j c) us (GW.out.any) (HOU.out.lower (by have := HLO.out; omega)) (fun q hq => .inr (Nat.le_of_succ_le (HOU.out.blk hq).1))
      rw [EV.out] at ce
      have NX := hid nx
      have LO := hid NA3.out.lo
      have LH := hid NA3.out.hi
      clear nx
      go_upto_region 22 with fail
      have K7 : Ch (Only gO) wr (wr.setCell ⟨gO, k * 5 + 1, none⟩ (.slice a j c)) := (Ch.refl _ _).own _ _
      have M7 := hid ((K7.block _ (lt_of_block M5.out) (fun e => by have e1 : w3.heap.size = gO := e; have := LH.out; omega)).trans M5.out)
      have X7 := hid ((K7.block _ (lt_of_block X5.out) (fun e => by have e1 : w.heap.size + 1 = gO := e; have := LO.out; omega)).trans X5.out)
      have GT7 := hid (show Gr w (wr.setCell ⟨gO, k * 5 + 1, none⟩ (.slice a j c)) from Ch.trans GT5.out K7 (fun q e => .inr (by have e1 : q = gO := e; have := LO.out; omega)))
      clear ce fz lg K7 p0 p1 p2 p3 p4 lC
      generalize wr.setCell ⟨gO, k * 5 + 1, none⟩ (.slice a j c) = w7 at NX M7 X7 GT7 ⊢
      have hS0 : Sm w3.heap.size #[.bool false, .int .i64 u, .bool true, .int .i64 0, .slice none 0 0] (World.drew w7) := ⟨M7.out⟩
      have XV := hid (gr_blk X7.out (Ch.drew (Gr.refl w7)))
      have NV := hid (NX.out.gr (Ch.drew (Gr.refl w7)))
      have GV := hid (Gr.trans GT7.out (Ch.drew (Gr.refl w7)))
      have OKV := hid (show Ow eK 6 114 (w.heap.size + 2) (World.drew w7) (.slice none 0 0) [] from Ow.nil _ _ _ _ _)
      have LOK := hid (show w.heap.size + 1 < w.heap.size + 2 from by omega)
      have HMB := hid (show w.heap.size + 1 < w3.heap.size from lt_of_block X3.out)
      generalize w3.heap.size = MB at hS0 HMB ⊢
      refine wp_region_held_drew (S := Sm MB #[.bool false, .int .i64 u, .bool true, .int .i64 0, .slice none 0 0]) (by kernel_rfl) (by exact hS0) (fun _ => ?_)
      generalize World.drew w7 = V0 at hS0 XV NV GV OKV ⊢
      refine takeS_on (i := 0) 96 (v := ?v1) rfl rfl (by kernel_rfl) (by kernel_rfl) (by kernel_rfl) (fun _ _ _ h => h) (by kernel_rfl) ?hy1 (by exact hS0) ?_
      case hy1 => (intro w' hSw; go_simp; try (with_reducible rfl))
      simp only [Act.put, List.setIfInBounds_toArray, List.set_cons_zero, List.set_cons_succ]
      refine takeS_on (i := 1) 97 (v := ?v2) rfl rfl (by kernel_rfl) (by kernel_rfl) (by kernel_rfl) (fun _ _ _ h => h) (by kernel_rfl) ?hy2 (by exact hS0) ?_
      case hy2 => (intro w' hSw; refine Eq.trans (exec_row 43 (.tmp 11) rfl _ rfl _ _ _ _ hSw.bx Try.underlying43 rfl mov_size) ?_; with_reducible rfl)
      simp only [Act.put, List.setIfInBounds_toArray, List.set_cons_zero, List.set_cons_succ]
      refine takeS_on (i := 2) 6 (v := ?v3) rfl rfl (by kernel_rfl) (by kernel_rfl) (by kernel_rfl) (fun _ _ _ h => h) (by kernel_rfl) ?hy3 (by exact hS0) ?_
      case hy3 => (intro w' hSw; go_simp; try (with_reducible rfl))
      simp only [Act.put, List.setIfInBounds_toArray, List.set_cons_zero, List.set_cons_succ]
      refine wpAnyH_ready (rs := [3]) (by kernel_rfl) (by simp) (AllReadyH.cons rfl (fun K hK => ?_) AllReadyH.nil)
      rw [if_pos (by kernel_rfl)]
      refine op_row 43 (.tmp 7) (.tmp 97) rfl (w.heap.size + 1) _ rfl rfl _ _ XV.out mov_size rfl (one_m _ _ _ _ _ _ _) ?_
      intro u4 b9 k9
      have hS4 : Sm MB #[.bool false, .int .i64 u, .bool true, .int .i64 0, .slice none 0 0] u4 := hS0.ch k9 (fun e => by have e1 : MB = w.heap.size + 1 := e; have := HMB.out; omega)
      have B9 := hid b9
      have K9 := hid k9
      clear b9 k9
      refine hK.out _ _ (by exact hS4) (fun _ => ?_)
      clear hK K
      refine takeS_on (i := 4) 8 (v := ?v4) rfl rfl (by kernel_rfl) (by kernel_rfl) (by kernel_rfl) (fun _ _ _ h => h) (by kernel_rfl) ?hy4 (by exact hS4) ?_
      case hy4 => (intro w' hSw; go_simp; try (with_reducible rfl))
      simp only [Act.put, List.setIfInBounds_toArray]
      refine wpAnyH_done (by kernel_rfl) ?_ _
      go_wp2_with fail
      refine bodyPost_ret (results_tct rfl _ _ _ _ rfl (run_loadVar_row _ _ _ _ _ _ _ B9.out Try.underlying43 rfl mov_size)) rfl ⟨_, _, _, _, rfl, (OKV.out.ch K9.out (fun q hq e => ?_)).lower (by have := LOK.out; omega), (NV.out.ch K9.out (fun q e => ?_)).lower (by omega), Ch.trans (show Ch NoB w V0 from GV.out) K9.out (fun q e => .inr (by have e1 : q = w.heap.size + 1 := e; omega))⟩
      · have e1 : q = w.heap.size + 1 := e
        have h1 := (OKV.out.blk hq).1
        have h2 := LOK.out
        omega
      · have e1 : q = w.heap.size + 1 := e
        omega
set_option maxHeartbeats 4000000 in
set_option maxRecDepth 20000 in
theorem rrecv_value1 (P : Nat → Prop) (w : World) (ao : Option Addr) (n cap : Nat) (cs : List Cn) (k : Nat) (d : Cn) (s g : Int) (h : Rds P w (.slice ao n cap) cs) (hb : Bd cs) (hn : cs.length ≤ 1024) (hnn : n = cs.length) (hk : cs[k]? = some d) (hp : decide (0 < pls cs s g) = false) (u : Int) (us : List Int) (hvs : d.vs = u :: us) (hlm : (u :: us).length ≤ 17592186044415) (r0 r1 r2 r3 : Int) (rr : List Wt) (hss : d.ss = ⟨r0, r1, r2, r3⟩ :: rr) : Calls Try.prog 41 #[.slice ao n cap, .int .i64 ((k + 1 : Nat) : Int), .agg #[.int .i64 s, .int .i64 g]] w (SdK w ((lvs cs r0 r1).set k ⟨d.cap, us ++ [r3], wo d.ss r0 r1, wo d.rs r0 r1, d.cl⟩) false u true 0 [⟨r0, r1, r2, 0, true, 0⟩]) := by
  have HBD := hid hb
  have HNB := hid hn
  have HVS := hid hvs
  have HSS := hid hss
  have HLM := hid hlm
  clear hvs hss hlm
  have hkn : k < n := by rw [hnn]; exact (List.getElem?_eq_some_iff.1 hk).1
  have hnb : n ≤ 1024 := by omega
  have HW := hid (fun (W : World) (p : Gr w W) => rwaits_any P W _ cs s g (h.gr p) hb (by omega))
  have HCP := hid (fun (W : World) (p : Gr w W) => copy_any P W _ cs (h.gr p) hb)
  have HI := hid ris_any
  have HP := hid hp
  have HNN := hid hnn
  have HCK := hid hk
  have hd : decide (1 ≤ ((k + 1 : Nat) : Int) ∧ ((k + 1 : Nat) : Int) ≤ (n : Int)) = true := decide_eq_true (by omega)
  have e0 : (((k + 1 : Nat) : Int) == 0) = false := by simp; omega
  have hw1 : wrap64 (((k + 1 : Nat) : Int) - 1) = (k : Int) := by unfold wrap64; omega
  have k0 : (0 : Int) ≤ (k : Int) := by omega
  have k1 : (k : Int) < (n : Int) := by omega
  obtain ⟨ch, hch⟩ : ∃ ch : Int, ch = ((k + 1 : Nat) : Int) := ⟨_, rfl⟩
  rw [← hch] at hd e0 hw1 ⊢
  have G0 := hid (show Gr w ((w.alloc (.cells #[.int .i64 s, .int .i64 g] 24)).alloc (.cells #[.bool false, .int .i64 0, .bool false, .int .i64 0, .slice none 0 0] 43)) from Ch.alloc (Ch.alloc (Gr.refl w) _) _)
  have X0 := hid (show ((w.alloc (.cells #[.int .i64 s, .int .i64 g] 24)).alloc (.cells #[.bool false, .int .i64 0, .bool false, .int .i64 0, .slice none 0 0] 43)).heap[w.heap.size + 1]? = some (.cells #[.bool false, .int .i64 0, .bool false, .int .i64 0, .slice none 0 0] 43 (0, 0)) from by simpa using (MapKept.heap_alloc (w.alloc (.cells #[.int .i64 s, .int .i64 g] 24)) (.cells #[.bool false, .int .i64 0, .bool false, .int .i64 0, .slice none 0 0] 43)).1)
  have Y0 := hid (show ((w.alloc (.cells #[.int .i64 s, .int .i64 g] 24)).alloc (.cells #[.bool false, .int .i64 0, .bool false, .int .i64 0, .slice none 0 0] 43)).heap[w.heap.size]? = some (.cells #[.int .i64 s, .int .i64 g] 24 (0, 0)) from al_blk (MapKept.heap_alloc w _).1 _)
  clear h hb hn hp hnn hk hch
  go_enter Try.func41, Try.ntmps41
  go_upto_region 7 with (first
    | (refine wpList_load_row rfl 24 (.tmp 5) rfl w.heap.size rfl _ _ _ _ Y0.out Try.underlying24 rfl gid_size ?_)
    | (go_at_call 38; refine (HW.out _ G0.out).mono ?_; rw [HP.out]; rintro e w1 ⟨rfl, g1⟩; have G1 := hid (Gr.trans G0.out g1); have X1 := hid (gr_blk X0.out g1); have Y1 := hid (gr_blk Y0.out g1); clear g1)
    | (go_at_call 57; refine (HI.out _ _ _ _ _).mono ?_; rw [hd]; rintro e w9 ⟨rfl, hw⟩; have hw := hw.symm; subst hw))
  go_upto_region 8 with (go_at_call 36; refine (HCP.out _ G1.out).mono ?_; rintro e w2 ⟨v2, t2, xs2, rfl, nl2, g2⟩; have N2 := hid (show Nx (w.heap.size + 2) w2 v2 cs from (show Nx w1.heap.size w2 v2 cs from ⟨t2, xs2, nl2⟩).lower (by have := lt_of_block X1.out; omega)); have X2 := hid (gr_blk X1.out g2); have Y2 := hid (gr_blk Y1.out g2); have G2 := hid (Gr.trans G1.out g2); clear nl2 g2; obtain ⟨a2, ca, rfl⟩ : ∃ a c, v2 = .slice a n c := (by obtain ⟨a, c, e⟩ := N2.out.form; exact ⟨a, c, by rw [e, HNN.out]⟩); obtain ⟨gO, ev⟩ : ∃ gO, a2 = some ⟨gO, 0, none⟩ := (by obtain ⟨t, xs, h⟩ := N2.out; obtain ⟨y, hy⟩ : ∃ y, xs[k]? = some y := ⟨_, List.getElem?_eq_getElem (by rw [h.n]; exact (List.getElem?_eq_some_iff.1 HCK.out).1)⟩; obtain ⟨g, ca', e, _⟩ := h.o.get eR_len hy; injection e with e _ _; exact ⟨g, e⟩); subst ev)
  obtain ⟨y, na⟩ := N2.out.at HCK.out
  obtain ⟨vo, vn, vc, ev⟩ : ∃ a n c, y.v = .slice a n c := by obtain ⟨a, c, e⟩ := na.v.form; exact ⟨a, _, c, e⟩
  obtain ⟨so, sn, sc, es⟩ : ∃ a n c, y.s = .slice a n c := by obtain ⟨a, c, e⟩ := na.s.form; exact ⟨a, _, c, e⟩
  obtain ⟨ro, rn, rc, er⟩ : ∃ a n c, y.r = .slice a n c := by obtain ⟨a, c, e⟩ := na.r.form; exact ⟨a, _, c, e⟩
  have c0 := na.c0
  have c1 := na.c1
  have c2 := na.c2
  have c3 := na.c3
  have c4 := na.c4
  rw [na.cap] at c0
  rw [ev] at c1
  rw [es] at c2
  rw [er] at c3
  rw [na.cl] at c4
  have HVN := hid (show vn = d.vs.length from by have := na.v; rw [ev] at this; exact this.len.1)
  have HSN := hid (show sn = d.ss.length from by have := na.s; rw [es] at this; exact this.len.1)
  have HRN := hid (show rn = d.rs.length from by have := na.r; rw [er] at this; exact this.len.1)
  have NA := hid na
  have EV := hid ev
  have ES := hid es
  have ER := hid er
  clear na ev es er HW HCP HI HP X0 Y0 G0 X1 Y1 G1
  go_upto_region 9 with (refine st_row rfl 70 (.tmp 10) (.tmp 37) rfl w2.heap.size _ rfl rfl _ _ (MapKept.heap_alloc w2 _).1 chn_size rfl (one5 _ _ _ _ _ _ _ _ _ _ _) ?_; intro w3 b3 k3; have G23 := hid (show Gr w2 w3 from Ch.trans (Ch.alloc (Gr.refl w2) _) k3 (fun q e => .inr (by have e1 : q = w2.heap.size := e; omega))); have HB := hid b3; clear b3 k3)
  clear c0 c1 c2 c3 c4
  obtain ⟨p0, p1, p2, p3, p4⟩ := five_cells HB.out
  have X3 := hid (gr_blk X2.out G23.out)
  have Y3 := hid (gr_blk Y2.out G23.out)
  have G3 := hid (Gr.trans G2.out G23.out)
  have NA3 := hid (NA.out.gr G23.out)
  clear X2 Y2 G2 NA
  generalize w2.heap.size = CB at HB p0 p1 p2 p3 p4 ⊢
  obtain ⟨gv, vcc, e9, -, hgv, -, hcs, -, -⟩ := NA3.out.v.get eI_len (i := 0) (by rw [HVS.out]; rfl)
  rw [EV.out] at e9
  injection e9 with e9 e10 e11
  subst e9
  clear e10 e11
  have d0 := hcs 0 _ rfl
  simp only [Nat.zero_mul, Nat.zero_add] at d0
  have vl : vn = us.length + 1 := by rw [HVN.out, HVS.out]; rfl
  have HVL := hid vl
  have vq : 0 < vn := by omega
  have vp : (0 : Int) < (vn : Int) := by omega
  clear hcs hgv vl
  obtain ⟨W4, hW4⟩ : ∃ W, W = w3.alloc (.cells #[.bool false, .int .i64 u, .bool true, .int .i64 0, .slice none 0 0] 43) := ⟨_, rfl⟩
  have G34 := hid (show Gr w3 W4 from by rw [hW4]; exact Ch.alloc (Gr.refl w3) _)
  have M4 := hid (show W4.heap[w3.heap.size]? = some (.cells #[.bool false, .int .i64 u, .bool true, .int .i64 0, .slice none 0 0] 43 (0, 0)) from by rw [hW4]; exact (MapKept.heap_alloc w3 _).1)
  have OE := hid (ow_empty 2 W4)
  have GE := hid (show Gr W4 (W4.alloc (.cells #[] 2)) from Ch.alloc (Gr.refl _) _)
  go_upto_region 12 with fail
  rw [← hW4]
  have SZ4 := hid (show W4.heap.size = w3.heap.size + 1 from by rw [hW4]; simp)
  rw [SZ4.out] at OE
  have LV3 := hid (show Ls eI (w.heap.size + 2 ≤ ·) w3 (.slice (some ⟨gv, 0, none⟩) vn vc) d.vs from by have := NA3.out.v; rw [EV.out] at this; exact this.lst)
  have HBC := hid HB.out
  clear hW4 d0 p0 p1 p2 p3 p4
  go_wp2_with fail
  go_loopg [12, 13] (vn - 1) (fun q v12 v13 wr => ∃ (j c : Nat) (a : Option Addr), j + 1 + q = vn ∧ v13 = .int .i64 ((j + 1 : Nat) : Int) ∧ v12 = .slice a j c ∧ Ow eI 1 2 (w3.heap.size + 1) wr (.slice a j c) (us.take j) ∧ Gr W4 wr)
  case atStart => exact ⟨0, 0, _, by omega, rfl, rfl, OE.out, GE.out⟩
  case round =>
    obtain ⟨j, c, a, hjq, rfl, rfl, hO, hG⟩ := hrel
    have HO := hid hO
    have HG := hid hG
    clear hO hG
    have GW := hid (Gr.trans G34.out HG.out)
    obtain ⟨p0, p1, p2, p3, p4⟩ := five_cells (gr_blk HBC.out GW.out)
    have lC := lt_of_block (gr_blk HBC.out GW.out)
    by_cases hj : j + 1 < vn
    · obtain ⟨y, hy⟩ : ∃ y, us[j]? = some y := ⟨_, List.getElem?_eq_getElem (by have := HVL.out; omega)⟩
      obtain ⟨g1, o1, cap', hv, _, hgl, _, hcs⟩ := (LV3.out.gr GW.out).get eI_len (i := j + 1) (a := y) (by rw [HVS.out, List.getElem?_cons_succ]; exact hy)
      injection hv with hv1 hv2 hv3
      injection hv1 with hv1
      injection hv1 with hv1 hv4 _
      subst hv1 hv4
      clear hv2 hv3
      have c0 := hcs 0 _ rfl
      simp only [Nat.mul_one, Nat.add_zero, Nat.zero_add] at c0
      have j0 : (0 : Int) ≤ ((j + 1 : Nat) : Int) := by omega
      have j1 : ((j + 1 : Nat) : Int) < (vn : Int) := by omega
      have HT := hid (take_one hy)
      have HKL := hid (show j = (us.take j).length from HO.out.len.1)
      have HWK := hid (show wrap64 (((j + 1 : Nat) : Int) + 1) = ((j + 1 + 1 : Nat) : Int) from by have h1 := HLM.out; have h2 := HVL.out; rw [List.length_cons] at h1; unfold wrap64; omega)
      have BN := hid (show j + 1 ≤ 17592186044416 from by have h1 := HLM.out; have h2 := HVL.out; rw [List.length_cons] at h1; omega)
      have S9 := hid (show w3.heap.size + 1 ≤ wr.heap.size from by have := HG.out.size; have := SZ4.out; omega)
      generalize us.take j = zs at HO HT HKL
      clear hcs hy hgl
      go_wp2_with (at_builtin; refine wpList_append_ow eI_len rfl (.tmp 55) (.tmp 61) _ 2 8 _ Try.underlying67 i64_info rfl (by omega) rfl (w3.heap.size + 1) _ zs rfl (HO.out.alloc _) _ _ [y] rfl (Ls.single wr y 2 #[.int .i64 y] rfl) (eI_one _) (j + 1) (by rw [← HKL.out]; rfl) (by have := BN.out; omega) (by unfold maxLen; have := BN.out; omega) (by simp; have := S9.out; omega) (zs ++ [y]) rfl ?_; intro ao5 cap5 w5 ow5 cw5 bl5; have O5 := hid ow5; have G5 := hid (show Gr W4 w5 from Ch.trans (show Ch NoB W4 _ from Gr.trans HG.out (show Gr wr (wr.alloc (.cells #[.int .i64 y] 2)) from Ch.alloc (Gr.refl wr) _)) cw5 (fun q hq => .inr (by have := (HO.out.blk hq).1; have := SZ4.out; omega))); clear ow5 cw5 bl5)
      go_roundg (gk - 1)
      case measure => omega
      case rel => exact ⟨j + 1, cap5, ao5, by omega, (by first | exact congrArg _ HWK.out | simp), rfl, by rw [HT.out]; exact O5.out, G5.out⟩
    · have jn : ¬ ((j + 1 : Nat) : Int) < (vn : Int) := by omega
      have HOU := hid (show Ow eI 1 2 (w3.heap.size + 1) wr (.slice a j c) us from by have := HO.out; rwa [List.take_of_length_le (by have := HVL.out; omega)] at this)
      have HLO := hid (show w.heap.size + 2 ≤ w3.heap.size from by have := lt_of_block X3.out; omega)
      have M5 := hid (gr_blk M4.out HG.out)
      have X5 := hid (gr_blk X3.out GW.out)
      have GT5 := hid (Gr.trans G3.out GW.out)
      obtain ⟨gs, scc, e9, -, hgs, -, hcs, -, -⟩ := (NA3.out.s.gr GW.out).get eW_len (i := 0) (by rw [HSS.out]; rfl)
      rw [ES.out] at e9
      injection e9 with e9 e10 e11
      subst e9
      clear e10 e11
      have d0 := hcs 0 _ rfl
      have d1 := hcs 1 _ rfl
      have d2 := hcs 2 _ rfl
      have d3 := hcs 3 _ rfl
      simp only [Nat.zero_mul, Nat.zero_add] at d0 d1 d2 d3
      have rq : 0 < sn := by rw [HSN.out, HSS.out]; simp
      have rp : (0 : Int) < (sn : Int) := by omega
      have HKL := hid HOU.out.len.1
      have BN := hid (show j + 1 ≤ 17592186044416 from by have h1 := HLM.out; have h2 := HVL.out; rw [List.length_cons] at h1; omega)
      have S9 := hid (show w3.heap.size + 1 ≤ wr.heap.size from by have := HG.out.size; have := SZ4.out; omega)
      obtain ⟨W7, hW7⟩ : ∃ W, W = wr.alloc (.cells #[.int .i64 r0, .int .i64 r1, .int .i64 r2, .int .i64 r3] 95) := ⟨_, rfl⟩
      have G7 := hid (show Gr wr W7 from by rw [hW7]; exact Ch.alloc (Gr.refl wr) _)
      have R7 := hid (show W7.heap[wr.heap.size]? = some (.cells #[.int .i64 r0, .int .i64 r1, .int .i64 r2, .int .i64 r3] 95 (0, 0)) from by rw [hW7]; exact (MapKept.heap_alloc wr _).1)
      clear hcs hgs
      go_upto_region 18 with fail
      rw [← hW7]
      clear hW7 d0 d1 d2 d3 rq rp p0 p1 p2 p3 p4 lC
      have rz := cell_of R7.out 3
      have lR := lt_of_block R7.out
      simp at rz
      have O7 := hid (HOU.out.gr G7.out)
      have S7 := hid (show w3.heap.size + 1 ≤ W7.heap.size from Nat.le_trans S9.out G7.out.size)
      go_upto_region 19 with (at_builtin; refine wpList_append_ow eI_len rfl (.tmp 71) (.tmp 74) _ 2 8 _ Try.underlying67 i64_info rfl (by omega) rfl (w3.heap.size + 1) _ us rfl (O7.out.alloc _) _ _ [r3] rfl (Ls.single W7 r3 2 #[.int .i64 r3] rfl) (eI_one _) (j + 1) (by rw [← HKL.out]; rfl) (by have := BN.out; omega) (by unfold maxLen; have := BN.out; omega) (by simp; have := S7.out; omega) (us ++ [r3]) rfl ?_; intro ao8 cap8 w8 ow8 cw8 bl8; have O8 := hid ow8; have C8 := hid cw8; clear ow8 cw8 bl8)
      have GB7 := (show Gr W7 (W7.alloc (.cells #[.int .i64 r3] 2)) from Ch.alloc (Gr.refl W7) _)
      have NB := hid (show ∀ q, q ≤ w3.heap.size → ¬ Blk (.slice a j c) q from fun q hq hb => by have := (O7.out.blk hb).1; omega)
      have LQ := hid (show ∀ q, Blk (.slice a j c) q → q < wr.heap.size from fun q hq => (HOU.out.blk hq).2)
      have G58 := hid (show Ch (fun q => w3.heap.size < q) W7 w8 from Ch.trans (GB7.any) C8.out (fun q hq => .inl (by have := (O7.out.blk hq).1; omega)))
      have M8 := hid ((C8.out.block _ (Nat.lt_of_lt_of_le (lt_of_block (gr_blk M5.out G7.out)) GB7.size) (NB.out _ (Nat.le_refl _))).trans (gr_blk (gr_blk M5.out G7.out) GB7))
      have R8 := hid ((C8.out.block _ (Nat.lt_of_lt_of_le (lt_of_block R7.out) GB7.size) (fun hb => by have := LQ.out _ hb; omega)).trans (gr_blk R7.out GB7))
      have X8 := hid ((C8.out.block _ (Nat.lt_of_lt_of_le (lt_of_block (gr_blk X5.out G7.out)) GB7.size) (NB.out _ (by have := lt_of_block X3.out; omega))).trans (gr_blk (gr_blk X5.out G7.out) GB7))
      have GT8 := hid (show Gr w w8 from Ch.trans (show Ch NoB w _ from Gr.trans (Gr.trans GT5.out G7.out) GB7) C8.out (fun q hq => .inr (by have := (O7.out.blk hq).1; have := HLO.out; omega)))
      have ra := cell_of (al_blk R8.out (.cells #[.int .i64 r0, .int .i64 r1, .int .i64 r2, .int .i64 0, .bool true, .int .i64 0] 114)) 0
      have z0 := cell_of R8.out 0
      have z1 := cell_of R8.out 1
      have z2 := cell_of R8.out 2
      have l8 := lt_of_block R8.out
      have mm := al_blk M8.out (.cells #[.int .i64 r0, .int .i64 r1, .int .i64 r2, .int .i64 0, .bool true, .int .i64 0] 114)
      have q4 := cell_of mm 4
      have f4 := frozen_of mm 4
      have lm := lt_of_block mm
      simp at z0 z1 z2 q4
      clear ra mm rz lR GB7
      go_upto_region 20 with fail
      have OKA := hid (ow_oneR (enc := eK) (K := 6) w8 (Wk.mk r0 r1 r2 0 true 0) 114 #[.int .i64 r0, .int .i64 r1, .int .i64 r2, .int .i64 0, .bool true, .int .i64 0] rfl rfl)
      have GA8 := (show Gr w8 (w8.alloc (.cells #[.int .i64 r0, .int .i64 r1, .int .i64 r2, .int .i64 0, .bool true, .int .i64 0] 114)) from Ch.alloc (Gr.refl w8) _)
      have K9 : Ch (Only w3.heap.size) (w8.alloc (.cells #[.int .i64 r0, .int .i64 r1, .int .i64 r2, .int .i64 0, .bool true, .int .i64 0] 114)) ((w8.alloc (.cells #[.int .i64 r0, .int .i64 r1, .int .i64 r2, .int .i64 0, .bool true, .int .i64 0] 114)).setCell ⟨w3.heap.size, 4, none⟩ (.slice (some ⟨w8.heap.size, 0, none⟩) 1 1)) := (Ch.refl _ _).own _ _
      have L3 := hid (lt_of_block M8.out)
      have M9 := hid (show ((w8.alloc (.cells #[.int .i64 r0, .int .i64 r1, .int .i64 r2, .int .i64 0, .bool true, .int .i64 0] 114)).setCell ⟨w3.heap.size, 4, none⟩ (.slice (some ⟨w8.heap.size, 0, none⟩) 1 1)).heap[w3.heap.size]? = some (.cells #[.bool false, .int .i64 u, .bool true, .int .i64 0, .slice (some ⟨w8.heap.size, 0, none⟩) 1 1] 43 (0, 0)) from by simpa using setCell_block (al_blk M8.out (.cells #[.int .i64 r0, .int .i64 r1, .int .i64 r2, .int .i64 0, .bool true, .int .i64 0] 114)) 4 (.slice (some ⟨w8.heap.size, 0, none⟩) 1 1))
      have R9 := hid ((K9.block _ (Nat.lt_of_lt_of_le (lt_of_block R8.out) GA8.size) (fun e => by have e1 : wr.heap.size = w3.heap.size := e; have := S9.out; omega)).trans (gr_blk R8.out GA8))
      have X9 := hid ((K9.block _ (Nat.lt_of_lt_of_le (lt_of_block X8.out) GA8.size) (fun e => by have e1 : w.heap.size + 1 = w3.heap.size := e; have := lt_of_block X3.out; omega)).trans (gr_blk X8.out GA8))
      have GT9 := hid (show Gr w ((w8.alloc (.cells #[.int .i64 r0, .int .i64 r1, .int .i64 r2, .int .i64 0, .bool true, .int .i64 0] 114)).setCell ⟨w3.heap.size, 4, none⟩ (.slice (some ⟨w8.heap.size, 0, none⟩) 1 1)) from Ch.trans (show Ch NoB w (w8.alloc (.cells #[.int .i64 r0, .int .i64 r1, .int .i64 r2, .int .i64 0, .bool true, .int .i64 0] 114)) from Gr.trans GT8.out GA8) K9 (fun q e => .inr (by have e1 : q = w3.heap.size := e; have := HLO.out; omega)))
      have N9 := hid (show Nx (w.heap.size + 2) ((w8.alloc (.cells #[.int .i64 r0, .int .i64 r1, .int .i64 r2, .int .i64 0, .bool true, .int .i64 0] 114)).setCell ⟨w3.heap.size, 4, none⟩ (.slice (some ⟨w8.heap.size, 0, none⟩) 1 1)) (.slice (some ⟨gO, 0, none⟩) n ca) cs from by
        obtain ⟨tt, xx, hnl⟩ := (N2.out.gr G23.out)
        have K : Ch (fun q => w3.heap.size ≤ q) w3 ((w8.alloc (.cells #[.int .i64 r0, .int .i64 r1, .int .i64 r2, .int .i64 0, .bool true, .int .i64 0] 114)).setCell ⟨w3.heap.size, 4, none⟩ (.slice (some ⟨w8.heap.size, 0, none⟩) 1 1)) := Ch.trans (Ch.trans (Ch.trans (Ch.any (S := fun q => w3.heap.size ≤ q) (Gr.trans GW.out G7.out)) G58.out (fun q hq => .inl (Nat.le_of_lt hq))) GA8 (fun q e => e.elim)) K9 (fun q e => .inl (by have e1 : q = w3.heap.size := e; omega))
        exact ⟨tt, xx, hnl.o.ch K (fun q hq hs => by have := (hnl.o.blk hq).2; omega), hnl.to, hnl.n, fun i x c hx hc => by
          have y := hnl.f i x c hx hc
          exact ⟨y.cap, y.cl, y.v.ch K (fun q hq hs => by have := (y.v.blk hq).2; omega), y.tv, y.s.ch K (fun q hq hs => by have := (y.s.blk hq).2; omega), y.ts, y.r.ch K (fun q hq hs => by have := (y.r.blk hq).2; omega), y.tr⟩⟩)
      have OK9 := hid (OKA.out.ch K9 (fun q hq e => by have e1 : q = w3.heap.size := e; have := (OKA.out.blk hq).1; have := L3.out; omega))
      have O9 := hid ((O8.out.gr GA8).ch K9 (fun q hq e => by have e1 : q = w3.heap.size := e; have := (O8.out.blk hq).1; omega))
      have LKB := hid (show w.heap.size + 2 ≤ w8.heap.size from by have := L3.out; have := HLO.out; omega)
      clear K9 GA8 z0 z1 z2 q4 f4 lm l8 M8 R8 X8 GT8 O8 OKA L3
      generalize ((w8.alloc (.cells #[.int .i64 r0, .int .i64 r1, .int .i64 r2, .int .i64 0, .bool true, .int .i64 0] 114)).setCell ⟨w3.heap.size, 4, none⟩ (.slice (some ⟨w8.heap.size, 0, none⟩) 1 1)) = w9 at M9 R9 X9 GT9 N9 OK9 O9 ⊢
      generalize w8.heap.size = KB at M9 OK9 LKB ⊢
      have z0 := cell_of R9.out 0
      have z1 := cell_of R9.out 1
      have l9 := lt_of_block R9.out
      simp at z0 z1
      have HLV := hid (rleave_any _ w9 _ cs r0 r1 N9.out.rds HBD.out HNB.out)
      go_upto_region 21 with (go_at_call 56; refine HLV.out.mono ?_; rintro e wa ⟨va, rfl, nxa, ga⟩; have NXA := hid nxa; have GA := hid ga; clear nxa ga)
      clear z0 z1 l9
      obtain ⟨gP, cP, xo, xn, xc, eva, hgP, lgP, ceP, fzP, nxP⟩ := NXA.out.setvL (lvs_getR HCK.out r0 r1) (base0 := w.heap.size + 2) (by have := lt_of_block X9.out; omega) ((O9.out.gr GA.out).lower (by have := HLO.out; omega)) (fun q hq => (O9.out.blk hq).2)
      rw [lvs_lenR, ← HNN.out] at eva
      subst eva
      have NX := hid nxP
      clear nxP
      go_upto_region 22 with fail
      have K7 : Ch (Only gP) wa (wa.setCell ⟨gP, k * 5 + 1, none⟩ (.slice ao8 (j + 1) cap8)) := (Ch.refl _ _).own _ _
      have M7 := hid ((K7.block _ (lt_of_block (gr_blk M9.out GA.out)) (fun e => by have e1 : w3.heap.size = gP := e; have := lt_of_block M9.out; omega)).trans (gr_blk M9.out GA.out))
      have X7 := hid ((K7.block _ (lt_of_block (gr_blk X9.out GA.out)) (fun e => by have e1 : w.heap.size + 1 = gP := e; have := lt_of_block X9.out; omega)).trans (gr_blk X9.out GA.out))
      have GT7 := hid (show Gr w (wa.setCell ⟨gP, k * 5 + 1, none⟩ (.slice ao8 (j + 1) cap8)) from Ch.trans (show Ch NoB w wa from Gr.trans GT9.out GA.out) K7 (fun q e => .inr (by have e1 : q = gP := e; have := lt_of_block X9.out; omega)))
      have OK7 := hid ((OK9.out.gr GA.out).ch K7 (fun q hq e => by have e1 : q = gP := e; have := (OK9.out.blk hq).2; omega))
      clear ceP fzP lgP K7
      generalize wa.setCell ⟨gP, k * 5 + 1, none⟩ (.slice ao8 (j + 1) cap8) = w7 at NX M7 X7 GT7 OK7 ⊢
      have hS0 : Sm w3.heap.size #[.bool false, .int .i64 u, .bool true, .int .i64 0, .slice (some ⟨KB, 0, none⟩) 1 1] (World.drew w7) := ⟨M7.out⟩
      have XV := hid (gr_blk X7.out (Ch.drew (Gr.refl w7)))
      have NV := hid (NX.out.gr (Ch.drew (Gr.refl w7)))
      have GV := hid (Gr.trans GT7.out (Ch.drew (Gr.refl w7)))
      have OKV := hid (OK7.out.gr (Ch.drew (Gr.refl w7)))
      have LOK := hid (show w.heap.size + 1 < KB from by have := LKB.out; omega)
      have HMB := hid (show w.heap.size + 1 < w3.heap.size from lt_of_block X3.out)
      generalize w3.heap.size = MB at hS0 HMB ⊢
      refine wp_region_held_drew (S := Sm MB #[.bool false, .int .i64 u, .bool true, .int .i64 0, .slice (some ⟨KB, 0, none⟩) 1 1]) (by kernel_rfl) (by exact hS0) (fun _ => ?_)
      generalize World.drew w7 = V0 at hS0 XV NV GV OKV ⊢
      refine takeS_on (i := 0) 96 (v := ?v5) rfl rfl (by kernel_rfl) (by kernel_rfl) (by kernel_rfl) (fun _ _ _ h => h) (by kernel_rfl) ?hy5 (by exact hS0) ?_
      case hy5 => (intro w' hSw; go_simp; try (with_reducible rfl))
      simp only [Act.put, List.setIfInBounds_toArray, List.set_cons_zero, List.set_cons_succ]
      refine takeS_on (i := 1) 97 (v := ?v6) rfl rfl (by kernel_rfl) (by kernel_rfl) (by kernel_rfl) (fun _ _ _ h => h) (by kernel_rfl) ?hy6 (by exact hS0) ?_
      case hy6 => (intro w' hSw; refine Eq.trans (exec_row 43 (.tmp 11) rfl _ rfl _ _ _ _ hSw.bx Try.underlying43 rfl mov_size) ?_; with_reducible rfl)
      simp only [Act.put, List.setIfInBounds_toArray, List.set_cons_zero, List.set_cons_succ]
      refine takeS_on (i := 2) 6 (v := ?v7) rfl rfl (by kernel_rfl) (by kernel_rfl) (by kernel_rfl) (fun _ _ _ h => h) (by kernel_rfl) ?hy7 (by exact hS0) ?_
      case hy7 => (intro w' hSw; go_simp; try (with_reducible rfl))
      simp only [Act.put, List.setIfInBounds_toArray, List.set_cons_zero, List.set_cons_succ]
      refine wpAnyH_ready (rs := [3]) (by kernel_rfl) (by simp) (AllReadyH.cons rfl (fun K hK => ?_) AllReadyH.nil)
      rw [if_pos (by kernel_rfl)]
      refine op_row 43 (.tmp 7) (.tmp 97) rfl (w.heap.size + 1) _ rfl rfl _ _ XV.out mov_size rfl (one_m _ _ _ _ _ _ _) ?_
      intro u4 b9 k9
      have hS4 : Sm MB #[.bool false, .int .i64 u, .bool true, .int .i64 0, .slice (some ⟨KB, 0, none⟩) 1 1] u4 := hS0.ch k9 (fun e => by have e1 : MB = w.heap.size + 1 := e; have := HMB.out; omega)
      have B9 := hid b9
      have K9 := hid k9
      clear b9 k9
      refine hK.out _ _ (by exact hS4) (fun _ => ?_)
      clear hK K
      refine takeS_on (i := 4) 8 (v := ?v8) rfl rfl (by kernel_rfl) (by kernel_rfl) (by kernel_rfl) (fun _ _ _ h => h) (by kernel_rfl) ?hy8 (by exact hS4) ?_
      case hy8 => (intro w' hSw; go_simp; try (with_reducible rfl))
      simp only [Act.put, List.setIfInBounds_toArray]
      refine wpAnyH_done (by kernel_rfl) ?_ _
      go_wp2_with fail
      refine bodyPost_ret (results_tct rfl _ _ _ _ rfl (run_loadVar_row _ _ _ _ _ _ _ B9.out Try.underlying43 rfl mov_size)) rfl ⟨_, _, _, _, rfl, (OKV.out.ch K9.out (fun q hq e => ?_)).lower (by have := LOK.out; omega), (NV.out.ch K9.out (fun q e => ?_)).lower (by omega), Ch.trans (show Ch NoB w V0 from GV.out) K9.out (fun q e => .inr (by have e1 : q = w.heap.size + 1 := e; omega))⟩
      · have e1 : q = w.heap.size + 1 := e
        have h1 := (OKV.out.blk hq).1
        have h2 := LOK.out
        omega
      · have e1 : q = w.heap.size + 1 := e
        omega
end Go.Proofs.Ytalmiphddgmfbab.Lt
