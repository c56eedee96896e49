/-
  What the document's Send of layer 11 answers where one waits to receive, and its Recv where one waits to send and no value is held. Conditions: the lists are not too long.
-/
import Derived.Test.YtalmiphddgmfbabCnRv
import Derived.Test.YtalmiphddgmfbabCnMoved
import Derived.Test.YtalmiphddgmfbabGnRegion
import Derived.Test.YtalmiphddgmfbabGnHeld
import Derived.Deep.Cut
namespace Go.Proofs.Ytalmiphddgmfbab.Lt
open Go.RowKit Wd
attribute [local go_sem ↓] Go.wp_at_zero Go.wp_at_succ

theorem ow_oneR {α : Type} {enc : α → List Value} {K : Nat} (w : World) (x : α) (T : TypeId) (c : Array Value) (hc : c.toList = enc x) (hK : (enc x).length = K) : Ow enc K T w.heap.size (w.alloc (.cells c T)) (.slice (some ⟨w.heap.size, 0, none⟩) 1 1) [x] := by
  refine ⟨by simp [hK], .inr ⟨w.heap.size, 1, c, rfl, Nat.le_refl _, (MapKept.heap_alloc w _).1, Nat.le_refl _, by unfold maxLen; omega, by rw [← Array.length_toList, hc, hK]; omega, ?_⟩⟩
  rw [hc]
  simp [List.take_of_length_le, hK]
/-- what a call tells that leaves other channels, with whom it woke -/
def SdK (w : World) (cs : List Cn) (wa : Bool) (va : Int) (ok : Bool) (tr : Int) (ks : List Wk) (e : Ending) (w' : World) : Prop := ∃ v mo mn mc, e = .returned (.tuple #[v, .agg #[.bool wa, .int .i64 va, .bool ok, .int .i64 tr, .slice mo mn mc], .int .i64 0]) ∧ Ow eK 6 114 w.heap.size w' (.slice mo mn mc) ks ∧ Nx w.heap.size w' v cs ∧ Gr w w'
/-- a block that holds one that waits -/
structure Sx (A : Nat) (R : Array Value) (W : World) : Prop where
  bx : W.heap[A]? = some (.cells R 95 (0, 0))
theorem Sx.gr {A : Nat} {R : Array Value} {W W' : World} (h : Sx A R W) (c : Gr W W') : Sx A R W' := ⟨gr_blk h.bx c⟩
theorem Sx.ch {A : Nat} {R : Array Value} {W W' : World} {S : Nat → Prop} (h : Sx A R W) (c : Ch S W W') (hn : ¬ S A) : Sx A R W' := ⟨(c.block _ (lt_of_block h.bx) hn).trans h.bx⟩
set_option maxHeartbeats 4000000 in
set_option maxRecDepth 20000 in
theorem rsend_wake (P : Nat → Prop) (w : World) (ao : Option Addr) (n cap : Nat) (cs : List Cn) (k : Nat) (d : Cn) (s g x : Int) (h : Rds P w (.slice ao n cap) cs) (hb : Bd cs) (hn : cs.length ≤ 1024) (hnn : n = cs.length) (hk : cs[k]? = some d) (hp : decide (0 < pls cs s g) = false) (hcl : d.cl = false) (r0 r1 r2 r3 : Int) (rr : List Wt) (hrs : d.rs = ⟨r0, r1, r2, r3⟩ :: rr) : Calls Try.prog 40 #[.slice ao n cap, .int .i64 ((k + 1 : Nat) : Int), .agg #[.int .i64 s, .int .i64 g], .int .i64 x] w (SdK w (lvs cs r0 r1) false 0 true 0 [⟨r0, r1, r2, x, true, 0⟩]) := by
  have HBD := hid hb
  have HNB := hid hn
  have HRS := hid hrs
  clear hrs
  have HCL := hid hcl
  clear hcl
  have hkn : k < n := by rw [hnn]; exact (List.getElem?_eq_some_iff.1 hk).1
  have hnb : n ≤ 1024 := by omega
  have HW := hid (fun (W : World) (p : Gr w W) => rwaits_any P W _ cs s g (h.gr p) hb (by omega))
  have HCP := hid (fun (W : World) (p : Gr w W) => copy_any P W _ cs (h.gr p) hb)
  have HI := hid ris_any
  have HP := hid hp
  have HNN := hid hnn
  have HCK := hid hk
  have hd : decide (1 ≤ ((k + 1 : Nat) : Int) ∧ ((k + 1 : Nat) : Int) ≤ (n : Int)) = true := decide_eq_true (by omega)
  have e0 : (((k + 1 : Nat) : Int) == 0) = false := by simp; omega
  have hw1 : wrap64 (((k + 1 : Nat) : Int) - 1) = (k : Int) := by unfold wrap64; omega
  have k0 : (0 : Int) ≤ (k : Int) := by omega
  have k1 : (k : Int) < (n : Int) := by omega
  obtain ⟨ch, hch⟩ : ∃ ch : Int, ch = ((k + 1 : Nat) : Int) := ⟨_, rfl⟩
  rw [← hch] at hd e0 hw1 ⊢
  have G0 := hid (show Gr w ((w.alloc (.cells #[.int .i64 s, .int .i64 g] 24)).alloc (.cells #[.bool false, .int .i64 0, .bool false, .int .i64 0, .slice none 0 0] 43)) from Ch.alloc (Ch.alloc (Gr.refl w) _) _)
  have X0 := hid (show ((w.alloc (.cells #[.int .i64 s, .int .i64 g] 24)).alloc (.cells #[.bool false, .int .i64 0, .bool false, .int .i64 0, .slice none 0 0] 43)).heap[w.heap.size + 1]? = some (.cells #[.bool false, .int .i64 0, .bool false, .int .i64 0, .slice none 0 0] 43 (0, 0)) from by simpa using (MapKept.heap_alloc (w.alloc (.cells #[.int .i64 s, .int .i64 g] 24)) (.cells #[.bool false, .int .i64 0, .bool false, .int .i64 0, .slice none 0 0] 43)).1)
  have Y0 := hid (show ((w.alloc (.cells #[.int .i64 s, .int .i64 g] 24)).alloc (.cells #[.bool false, .int .i64 0, .bool false, .int .i64 0, .slice none 0 0] 43)).heap[w.heap.size]? = some (.cells #[.int .i64 s, .int .i64 g] 24 (0, 0)) from al_blk (MapKept.heap_alloc w _).1 _)
  clear h hb hn hp hnn hk hch
  go_enter Try.func40, Try.ntmps40
  go_upto_region 7 with (first
    | (refine wpList_load_row rfl 24 (.tmp 6) rfl w.heap.size rfl _ _ _ _ Y0.out Try.underlying24 rfl gid_size ?_)
    | (go_at_call 38; refine (HW.out _ G0.out).mono ?_; rw [HP.out]; rintro e w1 ⟨rfl, g1⟩; have G1 := hid (Gr.trans G0.out g1); have X1 := hid (gr_blk X0.out g1); have Y1 := hid (gr_blk Y0.out g1); clear g1)
    | (go_at_call 57; refine (HI.out _ _ _ _ _).mono ?_; rw [hd]; rintro e w9 ⟨rfl, hw⟩; have hw := hw.symm; subst hw))
  go_upto_region 8 with (go_at_call 36; refine (HCP.out _ G1.out).mono ?_; rintro e w2 ⟨v2, t2, xs2, rfl, nl2, g2⟩; have N2 := hid (show Nx (w.heap.size + 2) w2 v2 cs from (show Nx w1.heap.size w2 v2 cs from ⟨t2, xs2, nl2⟩).lower (by have := lt_of_block X1.out; omega)); have X2 := hid (gr_blk X1.out g2); have Y2 := hid (gr_blk Y1.out g2); have G2 := hid (Gr.trans G1.out g2); clear nl2 g2; obtain ⟨a2, ca, rfl⟩ : ∃ a c, v2 = .slice a n c := (by obtain ⟨a, c, e⟩ := N2.out.form; exact ⟨a, c, by rw [e, HNN.out]⟩); obtain ⟨gO, ev⟩ : ∃ gO, a2 = some ⟨gO, 0, none⟩ := (by obtain ⟨t, xs, h⟩ := N2.out; obtain ⟨y, hy⟩ : ∃ y, xs[k]? = some y := ⟨_, List.getElem?_eq_getElem (by rw [h.n]; exact (List.getElem?_eq_some_iff.1 HCK.out).1)⟩; obtain ⟨g, ca', e, _⟩ := h.o.get eR_len hy; injection e with e _ _; exact ⟨g, e⟩); subst ev)
  obtain ⟨y, na⟩ := N2.out.at HCK.out
  obtain ⟨vo, vn, vc, ev⟩ : ∃ a n c, y.v = .slice a n c := by obtain ⟨a, c, e⟩ := na.v.form; exact ⟨a, _, c, e⟩
  obtain ⟨so, sn, sc, es⟩ : ∃ a n c, y.s = .slice a n c := by obtain ⟨a, c, e⟩ := na.s.form; exact ⟨a, _, c, e⟩
  obtain ⟨ro, rn, rc, er⟩ : ∃ a n c, y.r = .slice a n c := by obtain ⟨a, c, e⟩ := na.r.form; exact ⟨a, _, c, e⟩
  have c0 := na.c0
  have c1 := na.c1
  have c2 := na.c2
  have c3 := na.c3
  have c4 := na.c4
  rw [na.cap] at c0
  rw [ev] at c1
  rw [es] at c2
  rw [er] at c3
  rw [na.cl] at c4
  have HVN := hid (show vn = d.vs.length from by have := na.v; rw [ev] at this; exact this.len.1)
  have HSN := hid (show sn = d.ss.length from by have := na.s; rw [es] at this; exact this.len.1)
  have HRN := hid (show rn = d.rs.length from by have := na.r; rw [er] at this; exact this.len.1)
  have NA := hid na
  have EV := hid ev
  have ES := hid es
  have ER := hid er
  clear na ev es er HW HCP HI HP X0 Y0 G0 X1 Y1 G1
  go_upto_region 9 with (refine st_row rfl 70 (.tmp 12) (.tmp 35) rfl w2.heap.size _ rfl rfl _ _ (MapKept.heap_alloc w2 _).1 chn_size rfl (one5 _ _ _ _ _ _ _ _ _ _ _) ?_; intro w3 b3 k3; have G23 := hid (show Gr w2 w3 from Ch.trans (Ch.alloc (Gr.refl w2) _) k3 (fun q e => .inr (by have e1 : q = w2.heap.size := e; omega))); have HB := hid b3; clear b3 k3)
  clear c0 c1 c2 c3 c4
  obtain ⟨p0, p1, p2, p3, p4⟩ := five_cells HB.out
  have X3 := hid (gr_blk X2.out G23.out)
  have Y3 := hid (gr_blk Y2.out G23.out)
  have G3 := hid (Gr.trans G2.out G23.out)
  have NA3 := hid (NA.out.gr G23.out)
  clear X2 Y2 G2 NA
  generalize w2.heap.size = CB at HB p0 p1 p2 p3 p4 ⊢
  rw [HCL.out] at p4
  obtain ⟨gr, rcc, e9, -, hgr, -, hcs, -, -⟩ := NA3.out.r.get eW_len (i := 0) (by rw [HRS.out]; rfl)
  rw [ER.out] at e9
  injection e9 with e9 e10 e11
  subst e9
  clear e10 e11
  have d0 := hcs 0 _ rfl
  have d1 := hcs 1 _ rfl
  have d2 := hcs 2 _ rfl
  have d3 := hcs 3 _ rfl
  simp only [Nat.zero_mul, Nat.zero_add] at d0 d1 d2 d3
  have rq : 0 < rn := by rw [HRN.out, HRS.out]; simp
  have rp : (0 : Int) < (rn : Int) := by omega
  clear hcs hgr
  obtain ⟨W4, hW4⟩ : ∃ W, W = w3.alloc (.cells #[.int .i64 r0, .int .i64 r1, .int .i64 r2, .int .i64 r3] 95) := ⟨_, rfl⟩
  have G4 := hid (show Gr w3 W4 from by rw [hW4]; exact Ch.alloc (Gr.refl w3) _)
  have BX4 := hid (show W4.heap[w3.heap.size]? = some (.cells #[.int .i64 r0, .int .i64 r1, .int .i64 r2, .int .i64 r3] 95 (0, 0)) from by rw [hW4]; exact (MapKept.heap_alloc w3 _).1)
  have HLV := hid (rleave_any _ W4 _ cs r0 r1 ((N2.out.gr G23.out).gr G4.out).rds HBD.out HNB.out)
  rw [hW4] at HLV
  go_upto_region 14 with (go_at_call 56; refine HLV.out.mono ?_; rintro e w5 ⟨v5, rfl, nx5, g5⟩; rw [← hW4] at nx5 g5; have NX5 := hid nx5; have G5 := hid g5; clear nx5 g5)
  clear d0 d1 d2 d3 p0 p1 p2 p3 p4 rq rp hW4
  have hS0 : Sx w3.heap.size #[.int .i64 r0, .int .i64 r1, .int .i64 r2, .int .i64 r3] (World.drew w5) := ⟨gr_blk BX4.out (Ch.drew G5.out)⟩
  have XV := hid (gr_blk (gr_blk X3.out G4.out) (Ch.drew G5.out))
  have NV := hid (NX5.out.gr (Ch.drew (Gr.refl w5)))
  have GV := hid (Gr.trans (Gr.trans G3.out G4.out) (Ch.drew G5.out))
  have HLO := hid (show w.heap.size + 2 ≤ W4.heap.size from by have := lt_of_block (gr_blk X3.out G4.out); omega)
  obtain ⟨AA, hAA⟩ : ∃ A, A = w3.heap.size := ⟨_, rfl⟩
  have HAA := hid (show w.heap.size + 1 < AA from by rw [hAA]; exact lt_of_block X3.out)
  rw [← hAA] at hS0 ⊢
  clear hAA
  refine wp_region_held_drew (S := Sx AA #[.int .i64 r0, .int .i64 r1, .int .i64 r2, .int .i64 r3]) (by kernel_rfl) (by exact hS0) (fun _ => ?_)
  generalize World.drew w5 = V0 at hS0 XV NV GV ⊢
  refine takeS_on (i := 0) 55 (v := ?v1) rfl rfl (by kernel_rfl) (by kernel_rfl) (by kernel_rfl) (fun _ _ _ h => h) (by kernel_rfl) ?hy1 (by exact hS0) ?_
  case hy1 => (intro w' hSw; go_simp; try (with_reducible rfl))
  simp only [Act.put, List.setIfInBounds_toArray, List.set_cons_zero, List.set_cons_succ]
  refine takeS_on (i := 1) 56 (v := ?v2) rfl rfl (by kernel_rfl) (by kernel_rfl) (by kernel_rfl) (fun _ _ _ h => h) (by kernel_rfl) ?hy2 (by exact hS0) ?_
  case hy2 => (intro w' hSw; go_simp; try (with_reducible rfl))
  simp only [Act.put, List.setIfInBounds_toArray, List.set_cons_zero, List.set_cons_succ]
  refine takeS_on (i := 2) 57 (v := ?v3) rfl rfl (by kernel_rfl) (by kernel_rfl) (by kernel_rfl) (fun _ _ _ h => h) (by kernel_rfl) ?hy3 (by exact hS0) ?_
  case hy3 => (intro w' hSw; have c0 := cell_of hSw.bx 0; have c1 := cell_of hSw.bx 1; have c2 := cell_of hSw.bx 2; have c3 := cell_of hSw.bx 3; simp at c0 c1 c2 c3; go_simp; try (with_reducible rfl))
  simp only [Act.put, List.setIfInBounds_toArray, List.set_cons_zero, List.set_cons_succ]
  refine takeS_on (i := 3) 58 (v := ?v4) rfl rfl (by kernel_rfl) (by kernel_rfl) (by kernel_rfl) (fun _ _ _ h => h) (by kernel_rfl) ?hy4 (by exact hS0) ?_
  case hy4 => (intro w' hSw; go_simp; try (with_reducible rfl))
  simp only [Act.put, List.setIfInBounds_toArray, List.set_cons_zero, List.set_cons_succ]
  refine takeS_on (i := 4) 59 (v := ?v5) rfl rfl (by kernel_rfl) (by kernel_rfl) (by kernel_rfl) (fun _ _ _ h => h) (by kernel_rfl) ?hy5 (by exact hS0) ?_
  case hy5 => (intro w' hSw; have c0 := cell_of hSw.bx 0; have c1 := cell_of hSw.bx 1; have c2 := cell_of hSw.bx 2; have c3 := cell_of hSw.bx 3; simp at c0 c1 c2 c3; go_simp; try (with_reducible rfl))
  simp only [Act.put, List.setIfInBounds_toArray, List.set_cons_zero, List.set_cons_succ]
  refine takeS_on (i := 5) 60 (v := ?v6) rfl rfl (by kernel_rfl) (by kernel_rfl) (by kernel_rfl) (fun _ _ _ h => h) (by kernel_rfl) ?hy6 (by exact hS0) ?_
  case hy6 => (intro w' hSw; go_simp; try (with_reducible rfl))
  simp only [Act.put, List.setIfInBounds_toArray, List.set_cons_zero, List.set_cons_succ]
  refine takeS_on (i := 6) 61 (v := ?v7) rfl rfl (by kernel_rfl) (by kernel_rfl) (by kernel_rfl) (fun _ _ _ h => h) (by kernel_rfl) ?hy7 (by exact hS0) ?_
  case hy7 => (intro w' hSw; go_simp; try (with_reducible rfl))
  simp only [Act.put, List.setIfInBounds_toArray, List.set_cons_zero, List.set_cons_succ]
  refine takeS_on (i := 9) 8 (v := ?v8) rfl rfl (by kernel_rfl) (by kernel_rfl) (by kernel_rfl) (fun _ _ _ h => h) (by kernel_rfl) ?hy8 (by exact hS0) ?_
  case hy8 => (intro w' hSw; go_simp; try (with_reducible rfl))
  simp only [Act.put, List.setIfInBounds_toArray, List.set_cons_zero, List.set_cons_succ]
  refine wpAnyH_ready (rs := [7]) (by kernel_rfl) (by simp) (AllReadyH.cons rfl (fun K hK => ?_) AllReadyH.nil)
  go_simp
  have G6 : Gr V0 (V0.alloc (.cells #[.int .i64 r0, .int .i64 r1, .int .i64 r2, .int .i64 x, .bool true, .int .i64 0] 114)) := Ch.alloc (Gr.refl _) _
  have OK := hid (ow_oneR (enc := eK) (K := 6) V0 (Wk.mk r0 r1 r2 x true 0) 114 #[.int .i64 r0, .int .i64 r1, .int .i64 r2, .int .i64 x, .bool true, .int .i64 0] rfl rfl)
  have hS1 := hS0.gr G6
  have XA := hid (gr_blk XV.out G6)
  have NA1 := hid (NV.out.gr G6)
  have GA1 := hid (Gr.trans GV.out G6)
  clear G6
  generalize V0.alloc (.cells #[.int .i64 r0, .int .i64 r1, .int .i64 r2, .int .i64 x, .bool true, .int .i64 0] 114) = u1 at hS1 OK XA NA1 GA1 ⊢
  refine hK.out _ _ (by exact hS1) (fun _ => ?_)
  clear hK K
  refine takeS_on (i := 8) 63 (v := ?v9) rfl rfl (by kernel_rfl) (by kernel_rfl) (by kernel_rfl) (fun _ _ _ h => h) (by kernel_rfl) ?hy9 (by exact hS1) ?_
  case hy9 => (intro w' hSw; go_simp; try (with_reducible rfl))
  simp only [Act.put, List.setIfInBounds_toArray, List.set_cons_zero, List.set_cons_succ]
  refine wpAnyH_ready (rs := [10]) (by kernel_rfl) (by simp) (AllReadyH.cons rfl (fun K hK => ?_) AllReadyH.nil)
  rw [if_pos (by kernel_rfl)]
  refine op_row 43 (.tmp 9) (.tmp 63) rfl (w.heap.size + 1) _ rfl rfl _ _ XA.out mov_size rfl (one_m _ _ _ _ _ _ _) ?_
  intro u4 b9 k9
  have hS4 : Sx AA #[.int .i64 r0, .int .i64 r1, .int .i64 r2, .int .i64 r3] u4 := hS1.ch k9 (fun e => by have e1 : AA = w.heap.size + 1 := e; have := HAA.out; omega)
  have B9 := hid b9
  have K9 := hid k9
  clear b9 k9
  refine hK.out _ _ (by exact hS4) (fun _ => ?_)
  clear hK K
  refine takeS_on (i := 11) 10 (v := ?v10) rfl rfl (by kernel_rfl) (by kernel_rfl) (by kernel_rfl) (fun _ _ _ h => h) (by kernel_rfl) ?hy10 (by exact hS4) ?_
  case hy10 => (intro w' hSw; go_simp; try (with_reducible rfl))
  simp only [Act.put, List.setIfInBounds_toArray]
  refine wpAnyH_done (by kernel_rfl) ?_ _
  go_wp2_with fail
  refine bodyPost_ret (results_tct rfl _ _ _ _ rfl (run_loadVar_row _ _ _ _ _ _ _ B9.out Try.underlying43 rfl mov_size)) rfl ⟨v5, _, _, _, rfl, (OK.out.ch K9.out (fun q hq e => ?_)).lower (by have := GV.out.size; omega), (NA1.out.ch K9.out (fun q e => ?_)).lower (by have := HLO.out; omega), Ch.trans (show Ch NoB w u1 from GA1.out) K9.out (fun q e => .inr (by have e1 : q = w.heap.size + 1 := e; omega))⟩
  · have e1 : q = w.heap.size + 1 := e
    have h1 := (OK.out.blk hq).1
    have h2 := lt_of_block XV.out
    omega
  · have e1 : q = w.heap.size + 1 := e
    have := HLO.out
    omega
set_option maxHeartbeats 4000000 in
set_option maxRecDepth 20000 in
theorem rrecv_sender (P : Nat → Prop) (w : World) (ao : Option Addr) (n cap : Nat) (cs : List Cn) (k : Nat) (d : Cn) (s g : Int) (h : Rds P w (.slice ao n cap) cs) (hb : Bd cs) (hn : cs.length ≤ 1024) (hnn : n = cs.length) (hk : cs[k]? = some d) (hp : decide (0 < pls cs s g) = false) (hvs : d.vs = []) (r0 r1 r2 r3 : Int) (rr : List Wt) (hrs : d.ss = ⟨r0, r1, r2, r3⟩ :: rr) : Calls Try.prog 41 #[.slice ao n cap, .int .i64 ((k + 1 : Nat) : Int), .agg #[.int .i64 s, .int .i64 g]] w (SdK w (lvs cs r0 r1) false r3 true 0 [⟨r0, r1, r2, 0, true, 0⟩]) := by
  have HBD := hid hb
  have HNB := hid hn
  have HRS := hid hrs
  clear hrs
  have HVS := hid hvs
  clear hvs
  have hkn : k < n := by rw [hnn]; exact (List.getElem?_eq_some_iff.1 hk).1
  have hnb : n ≤ 1024 := by omega
  have HW := hid (fun (W : World) (p : Gr w W) => rwaits_any P W _ cs s g (h.gr p) hb (by omega))
  have HCP := hid (fun (W : World) (p : Gr w W) => copy_any P W _ cs (h.gr p) hb)
  have HI := hid ris_any
  have HP := hid hp
  have HNN := hid hnn
  have HCK := hid hk
  have hd : decide (1 ≤ ((k + 1 : Nat) : Int) ∧ ((k + 1 : Nat) : Int) ≤ (n : Int)) = true := decide_eq_true (by omega)
  have e0 : (((k + 1 : Nat) : Int) == 0) = false := by simp; omega
  have hw1 : wrap64 (((k + 1 : Nat) : Int) - 1) = (k : Int) := by unfold wrap64; omega
  have k0 : (0 : Int) ≤ (k : Int) := by omega
  have k1 : (k : Int) < (n : Int) := by omega
  obtain ⟨ch, hch⟩ : ∃ ch : Int, ch = ((k + 1 : Nat) : Int) := ⟨_, rfl⟩
  rw [← hch] at hd e0 hw1 ⊢
  have G0 := hid (show Gr w ((w.alloc (.cells #[.int .i64 s, .int .i64 g] 24)).alloc (.cells #[.bool false, .int .i64 0, .bool false, .int .i64 0, .slice none 0 0] 43)) from Ch.alloc (Ch.alloc (Gr.refl w) _) _)
  have X0 := hid (show ((w.alloc (.cells #[.int .i64 s, .int .i64 g] 24)).alloc (.cells #[.bool false, .int .i64 0, .bool false, .int .i64 0, .slice none 0 0] 43)).heap[w.heap.size + 1]? = some (.cells #[.bool false, .int .i64 0, .bool false, .int .i64 0, .slice none 0 0] 43 (0, 0)) from by simpa using (MapKept.heap_alloc (w.alloc (.cells #[.int .i64 s, .int .i64 g] 24)) (.cells #[.bool false, .int .i64 0, .bool false, .int .i64 0, .slice none 0 0] 43)).1)
  have Y0 := hid (show ((w.alloc (.cells #[.int .i64 s, .int .i64 g] 24)).alloc (.cells #[.bool false, .int .i64 0, .bool false, .int .i64 0, .slice none 0 0] 43)).heap[w.heap.size]? = some (.cells #[.int .i64 s, .int .i64 g] 24 (0, 0)) from al_blk (MapKept.heap_alloc w _).1 _)
  clear h hb hn hp hnn hk hch
  go_enter Try.func41, Try.ntmps41
  go_upto_region 7 with (first
    | (refine wpList_load_row rfl 24 (.tmp 5) rfl w.heap.size rfl _ _ _ _ Y0.out Try.underlying24 rfl gid_size ?_)
    | (go_at_call 38; refine (HW.out _ G0.out).mono ?_; rw [HP.out]; rintro e w1 ⟨rfl, g1⟩; have G1 := hid (Gr.trans G0.out g1); have X1 := hid (gr_blk X0.out g1); have Y1 := hid (gr_blk Y0.out g1); clear g1)
    | (go_at_call 57; refine (HI.out _ _ _ _ _).mono ?_; rw [hd]; rintro e w9 ⟨rfl, hw⟩; have hw := hw.symm; subst hw))
  go_upto_region 8 with (go_at_call 36; refine (HCP.out _ G1.out).mono ?_; rintro e w2 ⟨v2, t2, xs2, rfl, nl2, g2⟩; have N2 := hid (show Nx (w.heap.size + 2) w2 v2 cs from (show Nx w1.heap.size w2 v2 cs from ⟨t2, xs2, nl2⟩).lower (by have := lt_of_block X1.out; omega)); have X2 := hid (gr_blk X1.out g2); have Y2 := hid (gr_blk Y1.out g2); have G2 := hid (Gr.trans G1.out g2); clear nl2 g2; obtain ⟨a2, ca, rfl⟩ : ∃ a c, v2 = .slice a n c := (by obtain ⟨a, c, e⟩ := N2.out.form; exact ⟨a, c, by rw [e, HNN.out]⟩); obtain ⟨gO, ev⟩ : ∃ gO, a2 = some ⟨gO, 0, none⟩ := (by obtain ⟨t, xs, h⟩ := N2.out; obtain ⟨y, hy⟩ : ∃ y, xs[k]? = some y := ⟨_, List.getElem?_eq_getElem (by rw [h.n]; exact (List.getElem?_eq_some_iff.1 HCK.out).1)⟩; obtain ⟨g, ca', e, _⟩ := h.o.get eR_len hy; injection e with e _ _; exact ⟨g, e⟩); subst ev)
  obtain ⟨y, na⟩ := N2.out.at HCK.out
  obtain ⟨vo, vn, vc, ev⟩ : ∃ a n c, y.v = .slice a n c := by obtain ⟨a, c, e⟩ := na.v.form; exact ⟨a, _, c, e⟩
  obtain ⟨so, sn, sc, es⟩ : ∃ a n c, y.s = .slice a n c := by obtain ⟨a, c, e⟩ := na.s.form; exact ⟨a, _, c, e⟩
  obtain ⟨ro, rn, rc, er⟩ : ∃ a n c, y.r = .slice a n c := by obtain ⟨a, c, e⟩ := na.r.form; exact ⟨a, _, c, e⟩
  have c0 := na.c0
  have c1 := na.c1
  have c2 := na.c2
  have c3 := na.c3
  have c4 := na.c4
  rw [na.cap] at c0
  rw [ev] at c1
  rw [es] at c2
  rw [er] at c3
  rw [na.cl] at c4
  have HVN := hid (show vn = d.vs.length from by have := na.v; rw [ev] at this; exact this.len.1)
  have HSN := hid (show sn = d.ss.length from by have := na.s; rw [es] at this; exact this.len.1)
  have HRN := hid (show rn = d.rs.length from by have := na.r; rw [er] at this; exact this.len.1)
  have NA := hid na
  have EV := hid ev
  have ES := hid es
  have ER := hid er
  clear na ev es er HW HCP HI HP X0 Y0 G0 X1 Y1 G1
  go_upto_region 9 with (refine st_row rfl 70 (.tmp 10) (.tmp 37) rfl w2.heap.size _ rfl rfl _ _ (MapKept.heap_alloc w2 _).1 chn_size rfl (one5 _ _ _ _ _ _ _ _ _ _ _) ?_; intro w3 b3 k3; have G23 := hid (show Gr w2 w3 from Ch.trans (Ch.alloc (Gr.refl w2) _) k3 (fun q e => .inr (by have e1 : q = w2.heap.size := e; omega))); have HB := hid b3; clear b3 k3)
  clear c0 c1 c2 c3 c4
  obtain ⟨p0, p1, p2, p3, p4⟩ := five_cells HB.out
  have X3 := hid (gr_blk X2.out G23.out)
  have Y3 := hid (gr_blk Y2.out G23.out)
  have G3 := hid (Gr.trans G2.out G23.out)
  have NA3 := hid (NA.out.gr G23.out)
  clear X2 Y2 G2 NA
  generalize w2.heap.size = CB at HB p0 p1 p2 p3 p4 ⊢
  obtain rfl : vn = 0 := by rw [HVN.out, HVS.out]; rfl
  obtain ⟨gr, rcc, e9, -, hgr, -, hcs, -, -⟩ := NA3.out.s.get eW_len (i := 0) (by rw [HRS.out]; rfl)
  rw [ES.out] at e9
  injection e9 with e9 e10 e11
  subst e9
  clear e10 e11
  have d0 := hcs 0 _ rfl
  have d1 := hcs 1 _ rfl
  have d2 := hcs 2 _ rfl
  have d3 := hcs 3 _ rfl
  simp only [Nat.zero_mul, Nat.zero_add] at d0 d1 d2 d3
  have rq : 0 < sn := by rw [HSN.out, HRS.out]; simp
  have rp : (0 : Int) < (sn : Int) := by omega
  clear hcs hgr
  obtain ⟨W4, hW4⟩ : ∃ W, W = w3.alloc (.cells #[.int .i64 r0, .int .i64 r1, .int .i64 r2, .int .i64 r3] 95) := ⟨_, rfl⟩
  have G4 := hid (show Gr w3 W4 from by rw [hW4]; exact Ch.alloc (Gr.refl w3) _)
  have BX4 := hid (show W4.heap[w3.heap.size]? = some (.cells #[.int .i64 r0, .int .i64 r1, .int .i64 r2, .int .i64 r3] 95 (0, 0)) from by rw [hW4]; exact (MapKept.heap_alloc w3 _).1)
  have HLV := hid (rleave_any _ W4 _ cs r0 r1 ((N2.out.gr G23.out).gr G4.out).rds HBD.out HNB.out)
  rw [hW4] at HLV
  go_upto_region 26 with (go_at_call 56; refine HLV.out.mono ?_; rintro e w5 ⟨v5, rfl, nx5, g5⟩; rw [← hW4] at nx5 g5; have NX5 := hid nx5; have G5 := hid g5; clear nx5 g5)
  clear d0 d1 d2 d3 p0 p1 p2 p3 p4 rq rp hW4
  have hS0 : Sx w3.heap.size #[.int .i64 r0, .int .i64 r1, .int .i64 r2, .int .i64 r3] (World.drew w5) := ⟨gr_blk BX4.out (Ch.drew G5.out)⟩
  have XV := hid (gr_blk (gr_blk X3.out G4.out) (Ch.drew G5.out))
  have NV := hid (NX5.out.gr (Ch.drew (Gr.refl w5)))
  have GV := hid (Gr.trans (Gr.trans G3.out G4.out) (Ch.drew G5.out))
  have HLO := hid (show w.heap.size + 2 ≤ W4.heap.size from by have := lt_of_block (gr_blk X3.out G4.out); omega)
  obtain ⟨AA, hAA⟩ : ∃ A, A = w3.heap.size := ⟨_, rfl⟩
  have HAA := hid (show w.heap.size + 1 < AA from by rw [hAA]; exact lt_of_block X3.out)
  rw [← hAA] at hS0 ⊢
  clear hAA
  refine wp_region_held_drew (S := Sx AA #[.int .i64 r0, .int .i64 r1, .int .i64 r2, .int .i64 r3]) (by kernel_rfl) (by exact hS0) (fun _ => ?_)
  generalize World.drew w5 = V0 at hS0 XV NV GV ⊢
  refine takeS_on (i := 0) 113 (v := ?v11) rfl rfl (by kernel_rfl) (by kernel_rfl) (by kernel_rfl) (fun _ _ _ h => h) (by kernel_rfl) ?hy11 (by exact hS0) ?_
  case hy11 => (intro w' hSw; go_simp; try (with_reducible rfl))
  simp only [Act.put, List.setIfInBounds_toArray, List.set_cons_zero, List.set_cons_succ]
  refine takeS_on (i := 1) 114 (v := ?v12) rfl rfl (by kernel_rfl) (by kernel_rfl) (by kernel_rfl) (fun _ _ _ h => h) (by kernel_rfl) ?hy12 (by exact hS0) ?_
  case hy12 => (intro w' hSw; go_simp; try (with_reducible rfl))
  simp only [Act.put, List.setIfInBounds_toArray, List.set_cons_zero, List.set_cons_succ]
  refine takeS_on (i := 2) 115 (v := ?v13) rfl rfl (by kernel_rfl) (by kernel_rfl) (by kernel_rfl) (fun _ _ _ h => h) (by kernel_rfl) ?hy13 (by exact hS0) ?_
  case hy13 => (intro w' hSw; have c0 := cell_of hSw.bx 0; have c1 := cell_of hSw.bx 1; have c2 := cell_of hSw.bx 2; have c3 := cell_of hSw.bx 3; simp at c0 c1 c2 c3; go_simp; try (with_reducible rfl))
  simp only [Act.put, List.setIfInBounds_toArray, List.set_cons_zero, List.set_cons_succ]
  refine takeS_on (i := 3) 116 (v := ?v14) rfl rfl (by kernel_rfl) (by kernel_rfl) (by kernel_rfl) (fun _ _ _ h => h) (by kernel_rfl) ?hy14 (by exact hS0) ?_
  case hy14 => (intro w' hSw; go_simp; try (with_reducible rfl))
  simp only [Act.put, List.setIfInBounds_toArray, List.set_cons_zero, List.set_cons_succ]
  refine takeS_on (i := 4) 117 (v := ?v15) rfl rfl (by kernel_rfl) (by kernel_rfl) (by kernel_rfl) (fun _ _ _ h => h) (by kernel_rfl) ?hy15 (by exact hS0) ?_
  case hy15 => (intro w' hSw; have c0 := cell_of hSw.bx 0; have c1 := cell_of hSw.bx 1; have c2 := cell_of hSw.bx 2; have c3 := cell_of hSw.bx 3; simp at c0 c1 c2 c3; go_simp; try (with_reducible rfl))
  simp only [Act.put, List.setIfInBounds_toArray, List.set_cons_zero, List.set_cons_succ]
  refine takeS_on (i := 5) 118 (v := ?v16) rfl rfl (by kernel_rfl) (by kernel_rfl) (by kernel_rfl) (fun _ _ _ h => h) (by kernel_rfl) ?hy16 (by exact hS0) ?_
  case hy16 => (intro w' hSw; go_simp; try (with_reducible rfl))
  simp only [Act.put, List.setIfInBounds_toArray, List.set_cons_zero, List.set_cons_succ]
  refine takeS_on (i := 6) 119 (v := ?v17) rfl rfl (by kernel_rfl) (by kernel_rfl) (by kernel_rfl) (fun _ _ _ h => h) (by kernel_rfl) ?hy17 (by exact hS0) ?_
  case hy17 => (intro w' hSw; have c0 := cell_of hSw.bx 0; have c1 := cell_of hSw.bx 1; have c2 := cell_of hSw.bx 2; have c3 := cell_of hSw.bx 3; simp at c0 c1 c2 c3; go_simp; try (with_reducible rfl))
  simp only [Act.put, List.setIfInBounds_toArray, List.set_cons_zero, List.set_cons_succ]
  refine takeS_on (i := 7) 120 (v := ?v18) rfl rfl (by kernel_rfl) (by kernel_rfl) (by kernel_rfl) (fun _ _ _ h => h) (by kernel_rfl) ?hy18 (by exact hS0) ?_
  case hy18 => (intro w' hSw; go_simp; try (with_reducible rfl))
  simp only [Act.put, List.setIfInBounds_toArray, List.set_cons_zero, List.set_cons_succ]
  refine takeS_on (i := 10) 6 (v := ?v19) rfl rfl (by kernel_rfl) (by kernel_rfl) (by kernel_rfl) (fun _ _ _ h => h) (by kernel_rfl) ?hy19 (by exact hS0) ?_
  case hy19 => (intro w' hSw; go_simp; try (with_reducible rfl))
  simp only [Act.put, List.setIfInBounds_toArray, List.set_cons_zero, List.set_cons_succ]
  refine wpAnyH_ready (rs := [8]) (by kernel_rfl) (by simp) (AllReadyH.cons rfl (fun K hK => ?_) AllReadyH.nil)
  go_simp
  have G6 : Gr V0 (V0.alloc (.cells #[.int .i64 r0, .int .i64 r1, .int .i64 r2, .int .i64 0, .bool true, .int .i64 0] 114)) := Ch.alloc (Gr.refl _) _
  have OK := hid (ow_oneR (enc := eK) (K := 6) V0 (Wk.mk r0 r1 r2 0 true 0) 114 #[.int .i64 r0, .int .i64 r1, .int .i64 r2, .int .i64 0, .bool true, .int .i64 0] rfl rfl)
  have hS1 := hS0.gr G6
  have XA := hid (gr_blk XV.out G6)
  have NA1 := hid (NV.out.gr G6)
  have GA1 := hid (Gr.trans GV.out G6)
  clear G6
  generalize V0.alloc (.cells #[.int .i64 r0, .int .i64 r1, .int .i64 r2, .int .i64 0, .bool true, .int .i64 0] 114) = u1 at hS1 OK XA NA1 GA1 ⊢
  refine hK.out _ _ (by exact hS1) (fun _ => ?_)
  clear hK K
  refine takeS_on (i := 9) 122 (v := ?v20) rfl rfl (by kernel_rfl) (by kernel_rfl) (by kernel_rfl) (fun _ _ _ h => h) (by kernel_rfl) ?hy20 (by exact hS1) ?_
  case hy20 => (intro w' hSw; go_simp; try (with_reducible rfl))
  simp only [Act.put, List.setIfInBounds_toArray, List.set_cons_zero, List.set_cons_succ]
  refine wpAnyH_ready (rs := [11]) (by kernel_rfl) (by simp) (AllReadyH.cons rfl (fun K hK => ?_) AllReadyH.nil)
  rw [if_pos (by kernel_rfl)]
  refine op_row 43 (.tmp 7) (.tmp 122) rfl (w.heap.size + 1) _ rfl rfl _ _ XA.out mov_size rfl (one_m _ _ _ _ _ _ _) ?_
  intro u4 b9 k9
  have hS4 : Sx AA #[.int .i64 r0, .int .i64 r1, .int .i64 r2, .int .i64 r3] u4 := hS1.ch k9 (fun e => by have e1 : AA = w.heap.size + 1 := e; have := HAA.out; omega)
  have B9 := hid b9
  have K9 := hid k9
  clear b9 k9
  refine hK.out _ _ (by exact hS4) (fun _ => ?_)
  clear hK K
  refine takeS_on (i := 12) 8 (v := ?v21) rfl rfl (by kernel_rfl) (by kernel_rfl) (by kernel_rfl) (fun _ _ _ h => h) (by kernel_rfl) ?hy21 (by exact hS4) ?_
  case hy21 => (intro w' hSw; go_simp; try (with_reducible rfl))
  simp only [Act.put, List.setIfInBounds_toArray]
  refine wpAnyH_done (by kernel_rfl) ?_ _
  go_wp2_with fail
  refine bodyPost_ret (results_tct rfl _ _ _ _ rfl (run_loadVar_row _ _ _ _ _ _ _ B9.out Try.underlying43 rfl mov_size)) rfl ⟨v5, _, _, _, rfl, (OK.out.ch K9.out (fun q hq e => ?_)).lower (by have := GV.out.size; omega), (NA1.out.ch K9.out (fun q e => ?_)).lower (by have := HLO.out; omega), Ch.trans (show Ch NoB w u1 from GA1.out) K9.out (fun q e => .inr (by have e1 : q = w.heap.size + 1 := e; omega))⟩
  · have e1 : q = w.heap.size + 1 := e
    have h1 := (OK.out.blk hq).1
    have h2 := lt_of_block XV.out
    omega
  · have e1 : q = w.heap.size + 1 := e
    have := HLO.out
    omega
end Go.Proofs.Ytalmiphddgmfbab.Lt
