/-
  What the document's Recv of layer 11 answers where it is refused, where there is no channel, where the channel is closed and empty, and where it waits. Conditions: the lists are not too long.
-/
import Derived.Test.YtalmiphddgmfbabCnSend2
import Derived.Deep.Cut
namespace Go.Proofs.Ytalmiphddgmfbab.Lt
open Go.RowKit Wd

set_option maxHeartbeats 2000000 in
set_option maxRecDepth 20000 in
theorem rrecv_waits (P : Nat → Prop) (w : World) (ao : Option Addr) (n cap : Nat) (cs : List Cn) (s g : Int) (ch : Int) (h : Rds P w (.slice ao n cap) cs) (hb : Bd cs) (hn : cs.length ≤ 1024) (hp : decide (0 < pls cs s g) = true) :
    Calls Try.prog 41 #[.slice ao n cap, .int .i64 ch, .agg #[.int .i64 s, .int .i64 g]] w fun e w' => e = .returned (.tuple #[.slice ao n cap, .agg #[.bool false, .int .i64 0, .bool false, .int .i64 0, .slice none 0 0], .int .i64 111]) ∧ Gr w w' := by
  have HW := hid (fun (W : World) (p : Gr w W) => rwaits_any P W _ cs s g (h.gr p) hb (by omega))
  have HI := hid ris_any
  have HP := hid hp
  have G0 := hid (show Gr w ((w.alloc (.cells #[.int .i64 s, .int .i64 g] 24)).alloc (.cells #[.bool false, .int .i64 0, .bool false, .int .i64 0, .slice none 0 0] 43)) from Ch.alloc (Ch.alloc (Gr.refl w) _) _)
  have X0 := hid (show ((w.alloc (.cells #[.int .i64 s, .int .i64 g] 24)).alloc (.cells #[.bool false, .int .i64 0, .bool false, .int .i64 0, .slice none 0 0] 43)).heap[w.heap.size + 1]? = some (.cells #[.bool false, .int .i64 0, .bool false, .int .i64 0, .slice none 0 0] 43 (0, 0)) from by simpa using (MapKept.heap_alloc (w.alloc (.cells #[.int .i64 s, .int .i64 g] 24)) (.cells #[.bool false, .int .i64 0, .bool false, .int .i64 0, .slice none 0 0] 43)).1)
  have Y0 := hid (show ((w.alloc (.cells #[.int .i64 s, .int .i64 g] 24)).alloc (.cells #[.bool false, .int .i64 0, .bool false, .int .i64 0, .slice none 0 0] 43)).heap[w.heap.size]? = some (.cells #[.int .i64 s, .int .i64 g] 24 (0, 0)) from al_blk (MapKept.heap_alloc w _).1 _)
  clear h hb hn hp
  go_enter Try.func41, Try.ntmps41
  go_wp2_with (first
    | (refine wpList_load_row rfl 24 (.tmp 5) rfl w.heap.size rfl _ _ _ _ Y0.out Try.underlying24 rfl gid_size ?_)
    | (go_at_call 38; refine (HW.out _ G0.out).mono ?_; rw [HP.out]; rintro e w1 ⟨rfl, g1⟩; have G1 := hid (Gr.trans G0.out g1); have X1 := hid (gr_blk X0.out g1); clear g1)
    | (refine st_row rfl 43 (.tmp 7) (.tmp 20) rfl (w.heap.size + 1) _ rfl rfl _ _ X1.out mov_size rfl (one_m _ _ _ _ _ _ _) ?_; intro w2 b2 k2; have B2 := hid b2; have G2 := hid (show Gr w w2 from Ch.trans G1.out k2 (fun q e => .inr (by have e1 : q = w.heap.size + 1 := e; omega))); clear b2 k2))
  exact bodyPost_ret (results_tct rfl _ _ _ _ rfl (run_loadVar_row _ _ _ _ _ _ _ B2.out Try.underlying43 rfl mov_size)) rfl ⟨rfl, G2.out⟩
set_option maxHeartbeats 2000000 in
set_option maxRecDepth 20000 in
theorem rrecv_nil (P : Nat → Prop) (w : World) (ao : Option Addr) (n cap : Nat) (cs : List Cn) (s g : Int) (h : Rds P w (.slice ao n cap) cs) (hb : Bd cs) (hn : cs.length ≤ 1024) (hp : decide (0 < pls cs s g) = false) :
    Calls Try.prog 41 #[.slice ao n cap, .int .i64 0, .agg #[.int .i64 s, .int .i64 g]] w fun e w' => e = .returned (.tuple #[.slice ao n cap, .agg #[.bool true, .int .i64 0, .bool false, .int .i64 0, .slice none 0 0], .int .i64 0]) ∧ Gr w w' := by
  have HW := hid (fun (W : World) (p : Gr w W) => rwaits_any P W _ cs s g (h.gr p) hb (by omega))
  have HI := hid ris_any
  have HP := hid hp
  have G0 := hid (show Gr w ((w.alloc (.cells #[.int .i64 s, .int .i64 g] 24)).alloc (.cells #[.bool false, .int .i64 0, .bool false, .int .i64 0, .slice none 0 0] 43)) from Ch.alloc (Ch.alloc (Gr.refl w) _) _)
  have X0 := hid (show ((w.alloc (.cells #[.int .i64 s, .int .i64 g] 24)).alloc (.cells #[.bool false, .int .i64 0, .bool false, .int .i64 0, .slice none 0 0] 43)).heap[w.heap.size + 1]? = some (.cells #[.bool false, .int .i64 0, .bool false, .int .i64 0, .slice none 0 0] 43 (0, 0)) from by simpa using (MapKept.heap_alloc (w.alloc (.cells #[.int .i64 s, .int .i64 g] 24)) (.cells #[.bool false, .int .i64 0, .bool false, .int .i64 0, .slice none 0 0] 43)).1)
  have Y0 := hid (show ((w.alloc (.cells #[.int .i64 s, .int .i64 g] 24)).alloc (.cells #[.bool false, .int .i64 0, .bool false, .int .i64 0, .slice none 0 0] 43)).heap[w.heap.size]? = some (.cells #[.int .i64 s, .int .i64 g] 24 (0, 0)) from al_blk (MapKept.heap_alloc w _).1 _)
  clear h hb hn hp
  go_enter Try.func41, Try.ntmps41
  go_wp2_with (first
    | (refine wpList_load_row rfl 24 (.tmp 5) rfl w.heap.size rfl _ _ _ _ Y0.out Try.underlying24 rfl gid_size ?_)
    | (go_at_call 38; refine (HW.out _ G0.out).mono ?_; rw [HP.out]; rintro e w1 ⟨rfl, g1⟩; have G1 := hid (Gr.trans G0.out g1); have X1 := hid (gr_blk X0.out g1); clear g1)
    | (refine st_row rfl 43 (.tmp 7) (.tmp 24) rfl (w.heap.size + 1) _ rfl rfl _ _ X1.out mov_size rfl (one_m _ _ _ _ _ _ _) ?_; intro w2 b2 k2; have B2 := hid b2; have G2 := hid (show Gr w w2 from Ch.trans G1.out k2 (fun q e => .inr (by have e1 : q = w.heap.size + 1 := e; omega))); clear b2 k2))
  exact bodyPost_ret (results_tct rfl _ _ _ _ rfl (run_loadVar_row _ _ _ _ _ _ _ B2.out Try.underlying43 rfl mov_size)) rfl ⟨rfl, G2.out⟩
set_option maxHeartbeats 2000000 in
set_option maxRecDepth 20000 in
theorem rrecv_none (P : Nat → Prop) (w : World) (ao : Option Addr) (n cap : Nat) (cs : List Cn) (s g : Int) (ch : Int) (h0 : ch ≠ 0) (h1 : ¬ (1 ≤ ch ∧ ch ≤ (n : Int))) (h : Rds P w (.slice ao n cap) cs) (hb : Bd cs) (hn : cs.length ≤ 1024) (hp : decide (0 < pls cs s g) = false) :
    Calls Try.prog 41 #[.slice ao n cap, .int .i64 ch, .agg #[.int .i64 s, .int .i64 g]] w fun e w' => e = .returned (.tuple #[.slice ao n cap, .agg #[.bool false, .int .i64 0, .bool false, .int .i64 4, .slice none 0 0], .int .i64 0]) ∧ Gr w w' := by
  have HW := hid (fun (W : World) (p : Gr w W) => rwaits_any P W _ cs s g (h.gr p) hb (by omega))
  have HI := hid ris_any
  have HP := hid hp
  have G0 := hid (show Gr w ((w.alloc (.cells #[.int .i64 s, .int .i64 g] 24)).alloc (.cells #[.bool false, .int .i64 0, .bool false, .int .i64 0, .slice none 0 0] 43)) from Ch.alloc (Ch.alloc (Gr.refl w) _) _)
  have X0 := hid (show ((w.alloc (.cells #[.int .i64 s, .int .i64 g] 24)).alloc (.cells #[.bool false, .int .i64 0, .bool false, .int .i64 0, .slice none 0 0] 43)).heap[w.heap.size + 1]? = some (.cells #[.bool false, .int .i64 0, .bool false, .int .i64 0, .slice none 0 0] 43 (0, 0)) from by simpa using (MapKept.heap_alloc (w.alloc (.cells #[.int .i64 s, .int .i64 g] 24)) (.cells #[.bool false, .int .i64 0, .bool false, .int .i64 0, .slice none 0 0] 43)).1)
  have Y0 := hid (show ((w.alloc (.cells #[.int .i64 s, .int .i64 g] 24)).alloc (.cells #[.bool false, .int .i64 0, .bool false, .int .i64 0, .slice none 0 0] 43)).heap[w.heap.size]? = some (.cells #[.int .i64 s, .int .i64 g] 24 (0, 0)) from al_blk (MapKept.heap_alloc w _).1 _)
  have e0 : (ch == 0) = false := by simpa using h0
  have hd : decide (1 ≤ ch ∧ ch ≤ (n : Int)) = false := decide_eq_false h1
  clear h hb hn hp h0 h1
  go_enter Try.func41, Try.ntmps41
  go_wp2_with (first
    | (refine wpList_load_row rfl 24 (.tmp 5) rfl w.heap.size rfl _ _ _ _ Y0.out Try.underlying24 rfl gid_size ?_)
    | (go_at_call 38; refine (HW.out _ G0.out).mono ?_; rw [HP.out]; rintro e w1 ⟨rfl, g1⟩; have G1 := hid (Gr.trans G0.out g1); have X1 := hid (gr_blk X0.out g1); clear g1)
    | (go_at_call 57; refine (HI.out _ _ _ _ _).mono ?_; rw [hd]; rintro e w9 ⟨rfl, hw⟩; have hw := hw.symm; subst hw)
    | (refine st_row rfl 43 (.tmp 7) (.tmp 30) rfl (w.heap.size + 1) _ rfl rfl _ _ X1.out mov_size rfl (one_m _ _ _ _ _ _ _) ?_; intro w2 b2 k2; have B2 := hid b2; have G2 := hid (show Gr w w2 from Ch.trans G1.out k2 (fun q e => .inr (by have e1 : q = w.heap.size + 1 := e; omega))); clear b2 k2))
  exact bodyPost_ret (results_tct rfl _ _ _ _ rfl (run_loadVar_row _ _ _ _ _ _ _ B2.out Try.underlying43 rfl mov_size)) rfl ⟨rfl, G2.out⟩
set_option maxHeartbeats 4000000 in
set_option maxRecDepth 20000 in
theorem rrecv_closed (P : Nat → Prop) (w : World) (ao : Option Addr) (n cap : Nat) (cs : List Cn) (k : Nat) (d : Cn) (s g : Int) (h : Rds P w (.slice ao n cap) cs) (hb : Bd cs) (hn : cs.length ≤ 1024) (hnn : n = cs.length) (hk : cs[k]? = some d) (hp : decide (0 < pls cs s g) = false) (hcl : d.cl = true) (hvs : d.vs = []) (hss : d.ss = []) : Calls Try.prog 41 #[.slice ao n cap, .int .i64 ((k + 1 : Nat) : Int), .agg #[.int .i64 s, .int .i64 g]] w fun e w' => e = .returned (.tuple #[.slice ao n cap, .agg #[.bool false, .int .i64 0, .bool false, .int .i64 0, .slice none 0 0], .int .i64 0]) ∧ Gr w w' := by
  have HCL := hid hcl
  have HVS := hid hvs
  have HSS := hid hss
  clear hcl hvs hss
  have hkn : k < n := by rw [hnn]; exact (List.getElem?_eq_some_iff.1 hk).1
  have hnb : n ≤ 1024 := by omega
  have HW := hid (fun (W : World) (p : Gr w W) => rwaits_any P W _ cs s g (h.gr p) hb (by omega))
  have HCP := hid (fun (W : World) (p : Gr w W) => copy_any P W _ cs (h.gr p) hb)
  have HI := hid ris_any
  have HP := hid hp
  have HNN := hid hnn
  have HCK := hid hk
  have hd : decide (1 ≤ ((k + 1 : Nat) : Int) ∧ ((k + 1 : Nat) : Int) ≤ (n : Int)) = true := decide_eq_true (by omega)
  have e0 : (((k + 1 : Nat) : Int) == 0) = false := by simp; omega
  have hw1 : wrap64 (((k + 1 : Nat) : Int) - 1) = (k : Int) := by unfold wrap64; omega
  have k0 : (0 : Int) ≤ (k : Int) := by omega
  have k1 : (k : Int) < (n : Int) := by omega
  obtain ⟨ch, hch⟩ : ∃ ch : Int, ch = ((k + 1 : Nat) : Int) := ⟨_, rfl⟩
  rw [← hch] at hd e0 hw1 ⊢
  have G0 := hid (show Gr w ((w.alloc (.cells #[.int .i64 s, .int .i64 g] 24)).alloc (.cells #[.bool false, .int .i64 0, .bool false, .int .i64 0, .slice none 0 0] 43)) from Ch.alloc (Ch.alloc (Gr.refl w) _) _)
  have X0 := hid (show ((w.alloc (.cells #[.int .i64 s, .int .i64 g] 24)).alloc (.cells #[.bool false, .int .i64 0, .bool false, .int .i64 0, .slice none 0 0] 43)).heap[w.heap.size + 1]? = some (.cells #[.bool false, .int .i64 0, .bool false, .int .i64 0, .slice none 0 0] 43 (0, 0)) from by simpa using (MapKept.heap_alloc (w.alloc (.cells #[.int .i64 s, .int .i64 g] 24)) (.cells #[.bool false, .int .i64 0, .bool false, .int .i64 0, .slice none 0 0] 43)).1)
  have Y0 := hid (show ((w.alloc (.cells #[.int .i64 s, .int .i64 g] 24)).alloc (.cells #[.bool false, .int .i64 0, .bool false, .int .i64 0, .slice none 0 0] 43)).heap[w.heap.size]? = some (.cells #[.int .i64 s, .int .i64 g] 24 (0, 0)) from al_blk (MapKept.heap_alloc w _).1 _)
  clear h hb hn hp hnn hk hch
  go_enter Try.func41, Try.ntmps41
  go_upto_region 7 with (first
    | (refine wpList_load_row rfl 24 (.tmp 5) rfl w.heap.size rfl _ _ _ _ Y0.out Try.underlying24 rfl gid_size ?_)
    | (go_at_call 38; refine (HW.out _ G0.out).mono ?_; rw [HP.out]; rintro e w1 ⟨rfl, g1⟩; have G1 := hid (Gr.trans G0.out g1); have X1 := hid (gr_blk X0.out g1); have Y1 := hid (gr_blk Y0.out g1); clear g1)
    | (go_at_call 57; refine (HI.out _ _ _ _ _).mono ?_; rw [hd]; rintro e w9 ⟨rfl, hw⟩; have hw := hw.symm; subst hw))
  go_upto_region 8 with (go_at_call 36; refine (HCP.out _ G1.out).mono ?_; rintro e w2 ⟨v2, t2, xs2, rfl, nl2, g2⟩; have N2 := hid (show Nx (w.heap.size + 2) w2 v2 cs from (show Nx w1.heap.size w2 v2 cs from ⟨t2, xs2, nl2⟩).lower (by have := lt_of_block X1.out; omega)); have X2 := hid (gr_blk X1.out g2); have Y2 := hid (gr_blk Y1.out g2); have G2 := hid (Gr.trans G1.out g2); clear nl2 g2; obtain ⟨a2, ca, rfl⟩ : ∃ a c, v2 = .slice a n c := (by obtain ⟨a, c, e⟩ := N2.out.form; exact ⟨a, c, by rw [e, HNN.out]⟩); obtain ⟨gO, ev⟩ : ∃ gO, a2 = some ⟨gO, 0, none⟩ := (by obtain ⟨t, xs, h⟩ := N2.out; obtain ⟨y, hy⟩ : ∃ y, xs[k]? = some y := ⟨_, List.getElem?_eq_getElem (by rw [h.n]; exact (List.getElem?_eq_some_iff.1 HCK.out).1)⟩; obtain ⟨g, ca', e, _⟩ := h.o.get eR_len hy; injection e with e _ _; exact ⟨g, e⟩); subst ev)
  obtain ⟨y, na⟩ := N2.out.at HCK.out
  obtain ⟨vo, vn, vc, ev⟩ : ∃ a n c, y.v = .slice a n c := by obtain ⟨a, c, e⟩ := na.v.form; exact ⟨a, _, c, e⟩
  obtain ⟨so, sn, sc, es⟩ : ∃ a n c, y.s = .slice a n c := by obtain ⟨a, c, e⟩ := na.s.form; exact ⟨a, _, c, e⟩
  obtain ⟨ro, rn, rc, er⟩ : ∃ a n c, y.r = .slice a n c := by obtain ⟨a, c, e⟩ := na.r.form; exact ⟨a, _, c, e⟩
  have c0 := na.c0
  have c1 := na.c1
  have c2 := na.c2
  have c3 := na.c3
  have c4 := na.c4
  rw [na.cap] at c0
  rw [ev] at c1
  rw [es] at c2
  rw [er] at c3
  rw [na.cl] at c4
  have HVN := hid (show vn = d.vs.length from by have := na.v; rw [ev] at this; exact this.len.1)
  have HSN := hid (show sn = d.ss.length from by have := na.s; rw [es] at this; exact this.len.1)
  have HRN := hid (show rn = d.rs.length from by have := na.r; rw [er] at this; exact this.len.1)
  have NA := hid na
  have EV := hid ev
  have ES := hid es
  have ER := hid er
  clear na ev es er HW HCP HI HP X0 Y0 G0 X1 Y1 G1
  go_upto_region 9 with (refine st_row rfl 70 (.tmp 10) (.tmp 37) rfl w2.heap.size _ rfl rfl _ _ (MapKept.heap_alloc w2 _).1 chn_size rfl (one5 _ _ _ _ _ _ _ _ _ _ _) ?_; intro w3 b3 k3; have G23 := hid (show Gr w2 w3 from Ch.trans (Ch.alloc (Gr.refl w2) _) k3 (fun q e => .inr (by have e1 : q = w2.heap.size := e; omega))); have HB := hid b3; clear b3 k3)
  clear c0 c1 c2 c3 c4
  obtain ⟨p0, p1, p2, p3, p4⟩ := five_cells HB.out
  have X3 := hid (gr_blk X2.out G23.out)
  have Y3 := hid (gr_blk Y2.out G23.out)
  have G3 := hid (Gr.trans G2.out G23.out)
  have NA3 := hid (NA.out.gr G23.out)
  clear X2 Y2 G2 NA N2
  generalize w2.heap.size = CB at HB p0 p1 p2 p3 p4 ⊢
  rw [HCL.out] at p4
  obtain rfl : vn = 0 := by rw [HVN.out, HVS.out]; rfl
  obtain rfl : sn = 0 := by rw [HSN.out, HSS.out]; rfl
  go_wp2_with (refine st_row rfl 43 (.tmp 7) (.tmp 126) rfl (w.heap.size + 1) _ rfl rfl _ _ X3.out mov_size rfl (one_m _ _ _ _ _ _ _) ?_; intro w8 b8 k8; have B8 := hid b8; have K8 := hid k8; clear b8 k8)
  exact bodyPost_ret (results_tct rfl _ _ _ _ rfl (run_loadVar_row _ _ _ _ _ _ _ B8.out Try.underlying43 rfl mov_size)) rfl ⟨rfl, Ch.trans G3.out K8.out (fun q e => .inr (by have e1 : q = w.heap.size + 1 := e; omega))⟩
set_option maxHeartbeats 4000000 in
set_option maxRecDepth 20000 in
theorem rrecv_wait (P : Nat → Prop) (w : World) (ao : Option Addr) (n cap : Nat) (cs : List Cn) (k : Nat) (d : Cn) (s g : Int) (h : Rds P w (.slice ao n cap) cs) (hb : Bd cs) (hn : cs.length ≤ 1024) (hnn : n = cs.length) (hk : cs[k]? = some d) (hp : decide (0 < pls cs s g) = false) (hcl : d.cl = false) (hvs : d.vs = []) (hss : d.ss = []) (hlm : d.rs.length < 4398046511104) : Calls Try.prog 41 #[.slice ao n cap, .int .i64 ((k + 1 : Nat) : Int), .agg #[.int .i64 s, .int .i64 g]] w (SdR w (cs.set k ⟨d.cap, d.vs, d.ss, d.rs ++ [⟨s, g, 0, 0⟩], d.cl⟩) #[.bool true, .int .i64 0, .bool false, .int .i64 0, .slice none 0 0]) := by
  have HCL := hid hcl
  have HLM := hid hlm
  have HVS := hid hvs
  have HSS := hid hss
  clear hlm hcl hvs hss
  have hkn : k < n := by rw [hnn]; exact (List.getElem?_eq_some_iff.1 hk).1
  have hnb : n ≤ 1024 := by omega
  have HW := hid (fun (W : World) (p : Gr w W) => rwaits_any P W _ cs s g (h.gr p) hb (by omega))
  have HCP := hid (fun (W : World) (p : Gr w W) => copy_any P W _ cs (h.gr p) hb)
  have HI := hid ris_any
  have HP := hid hp
  have HNN := hid hnn
  have HCK := hid hk
  have hd : decide (1 ≤ ((k + 1 : Nat) : Int) ∧ ((k + 1 : Nat) : Int) ≤ (n : Int)) = true := decide_eq_true (by omega)
  have e0 : (((k + 1 : Nat) : Int) == 0) = false := by simp; omega
  have hw1 : wrap64 (((k + 1 : Nat) : Int) - 1) = (k : Int) := by unfold wrap64; omega
  have k0 : (0 : Int) ≤ (k : Int) := by omega
  have k1 : (k : Int) < (n : Int) := by omega
  obtain ⟨ch, hch⟩ : ∃ ch : Int, ch = ((k + 1 : Nat) : Int) := ⟨_, rfl⟩
  rw [← hch] at hd e0 hw1 ⊢
  have G0 := hid (show Gr w ((w.alloc (.cells #[.int .i64 s, .int .i64 g] 24)).alloc (.cells #[.bool false, .int .i64 0, .bool false, .int .i64 0, .slice none 0 0] 43)) from Ch.alloc (Ch.alloc (Gr.refl w) _) _)
  have X0 := hid (show ((w.alloc (.cells #[.int .i64 s, .int .i64 g] 24)).alloc (.cells #[.bool false, .int .i64 0, .bool false, .int .i64 0, .slice none 0 0] 43)).heap[w.heap.size + 1]? = some (.cells #[.bool false, .int .i64 0, .bool false, .int .i64 0, .slice none 0 0] 43 (0, 0)) from by simpa using (MapKept.heap_alloc (w.alloc (.cells #[.int .i64 s, .int .i64 g] 24)) (.cells #[.bool false, .int .i64 0, .bool false, .int .i64 0, .slice none 0 0] 43)).1)
  have Y0 := hid (show ((w.alloc (.cells #[.int .i64 s, .int .i64 g] 24)).alloc (.cells #[.bool false, .int .i64 0, .bool false, .int .i64 0, .slice none 0 0] 43)).heap[w.heap.size]? = some (.cells #[.int .i64 s, .int .i64 g] 24 (0, 0)) from al_blk (MapKept.heap_alloc w _).1 _)
  clear h hb hn hp hnn hk hch
  go_enter Try.func41, Try.ntmps41
  go_upto_region 7 with (first
    | (refine wpList_load_row rfl 24 (.tmp 5) rfl w.heap.size rfl _ _ _ _ Y0.out Try.underlying24 rfl gid_size ?_)
    | (go_at_call 38; refine (HW.out _ G0.out).mono ?_; rw [HP.out]; rintro e w1 ⟨rfl, g1⟩; have G1 := hid (Gr.trans G0.out g1); have X1 := hid (gr_blk X0.out g1); have Y1 := hid (gr_blk Y0.out g1); clear g1)
    | (go_at_call 57; refine (HI.out _ _ _ _ _).mono ?_; rw [hd]; rintro e w9 ⟨rfl, hw⟩; have hw := hw.symm; subst hw))
  go_upto_region 8 with (go_at_call 36; refine (HCP.out _ G1.out).mono ?_; rintro e w2 ⟨v2, t2, xs2, rfl, nl2, g2⟩; have N2 := hid (show Nx (w.heap.size + 2) w2 v2 cs from (show Nx w1.heap.size w2 v2 cs from ⟨t2, xs2, nl2⟩).lower (by have := lt_of_block X1.out; omega)); have X2 := hid (gr_blk X1.out g2); have Y2 := hid (gr_blk Y1.out g2); have G2 := hid (Gr.trans G1.out g2); clear nl2 g2; obtain ⟨a2, ca, rfl⟩ : ∃ a c, v2 = .slice a n c := (by obtain ⟨a, c, e⟩ := N2.out.form; exact ⟨a, c, by rw [e, HNN.out]⟩); obtain ⟨gO, ev⟩ : ∃ gO, a2 = some ⟨gO, 0, none⟩ := (by obtain ⟨t, xs, h⟩ := N2.out; obtain ⟨y, hy⟩ : ∃ y, xs[k]? = some y := ⟨_, List.getElem?_eq_getElem (by rw [h.n]; exact (List.getElem?_eq_some_iff.1 HCK.out).1)⟩; obtain ⟨g, ca', e, _⟩ := h.o.get eR_len hy; injection e with e _ _; exact ⟨g, e⟩); subst ev)
  obtain ⟨y, na⟩ := N2.out.at HCK.out
  obtain ⟨vo, vn, vc, ev⟩ : ∃ a n c, y.v = .slice a n c := by obtain ⟨a, c, e⟩ := na.v.form; exact ⟨a, _, c, e⟩
  obtain ⟨so, sn, sc, es⟩ : ∃ a n c, y.s = .slice a n c := by obtain ⟨a, c, e⟩ := na.s.form; exact ⟨a, _, c, e⟩
  obtain ⟨ro, rn, rc, er⟩ : ∃ a n c, y.r = .slice a n c := by obtain ⟨a, c, e⟩ := na.r.form; exact ⟨a, _, c, e⟩
  have c0 := na.c0
  have c1 := na.c1
  have c2 := na.c2
  have c3 := na.c3
  have c4 := na.c4
  rw [na.cap] at c0
  rw [ev] at c1
  rw [es] at c2
  rw [er] at c3
  rw [na.cl] at c4
  have HVN := hid (show vn = d.vs.length from by have := na.v; rw [ev] at this; exact this.len.1)
  have HSN := hid (show sn = d.ss.length from by have := na.s; rw [es] at this; exact this.len.1)
  have HRN := hid (show rn = d.rs.length from by have := na.r; rw [er] at this; exact this.len.1)
  have NA := hid na
  have EV := hid ev
  have ES := hid es
  have ER := hid er
  clear na ev es er HW HCP HI HP X0 Y0 G0 X1 Y1 G1
  go_upto_region 9 with (refine st_row rfl 70 (.tmp 10) (.tmp 37) rfl w2.heap.size _ rfl rfl _ _ (MapKept.heap_alloc w2 _).1 chn_size rfl (one5 _ _ _ _ _ _ _ _ _ _ _) ?_; intro w3 b3 k3; have G23 := hid (show Gr w2 w3 from Ch.trans (Ch.alloc (Gr.refl w2) _) k3 (fun q e => .inr (by have e1 : q = w2.heap.size := e; omega))); have HB := hid b3; clear b3 k3)
  clear c0 c1 c2 c3 c4
  obtain ⟨p0, p1, p2, p3, p4⟩ := five_cells HB.out
  have X3 := hid (gr_blk X2.out G23.out)
  have Y3 := hid (gr_blk Y2.out G23.out)
  have G3 := hid (Gr.trans G2.out G23.out)
  have NA3 := hid (NA.out.gr G23.out)
  clear X2 Y2 G2 NA N2
  generalize w2.heap.size = CB at HB p0 p1 p2 p3 p4 ⊢
  rw [HCL.out] at p4
  obtain rfl : vn = 0 := by rw [HVN.out, HVS.out]; rfl
  obtain rfl : sn = 0 := by rw [HSN.out, HSS.out]; rfl
  go_upto_region 30 with (first
    | (refine wpList_load_row rfl 24 (.tmp 5) rfl w.heap.size rfl _ _ _ _ Y3.out Try.underlying24 rfl gid_size ?_)
    | (at_builtin; refine wpList_append_ow eW_len rfl (.tmp 131) (.tmp 134) _ 95 32 _ Try.underlying68 wtr_info rfl (by omega) rfl (w.heap.size + 2) _ d.rs rfl (show Ow eW 4 95 (w.heap.size + 2) (w3.alloc (.cells #[.int .i64 s, .int .i64 g, .int .i64 0, .int .i64 0] 95)) (.slice ro rn rc) d.rs from by have := (NA3.out.gr (show Gr w3 (w3.alloc (.cells #[.int .i64 s, .int .i64 g, .int .i64 0, .int .i64 0] 95)) from Ch.alloc (Gr.refl w3) _)).r; rw [ER.out] at this; exact this) _ _ [Wt.mk s g 0 0] rfl (Ls.single w3 (Wt.mk s g 0 0) 95 #[.int .i64 s, .int .i64 g, .int .i64 0, .int .i64 0] rfl) (eW_one _) (rn + 1) (by rw [← HRN.out]; rfl) (by have := HLM.out; have := HRN.out; omega) (by unfold maxLen; have := HLM.out; have := HRN.out; omega) (by have := lt_of_block X3.out; simp; omega) (d.rs ++ [Wt.mk s g 0 0]) rfl ?_; intro a6 c6 w5 ow6 cw6 bl6; obtain ⟨ce, fz, lg, nx⟩ := (NA3.out.gr (show Gr w3 (w3.alloc (.cells #[.int .i64 s, .int .i64 g, .int .i64 0, .int .i64 0] 95)) from Ch.alloc (Gr.refl w3) _)).wr w5 (.slice a6 (rn + 1) c6) _ (by rw [ER.out]; exact cw6) ow6 (fun q hq => by rw [ER.out]; exact bl6 q hq); rw [ER.out] at ce; have NX5 := hid nx; have LO := hid NA3.out.lo; have k9 : Ch (Only gO) w5 (w5.setCell ⟨gO, k * 5 + 3, none⟩ (.slice a6 (rn + 1) c6)) := (Ch.refl _ _).own _ _; have HLOW := hid (fun (q : Nat) (hq : Blk (.slice ro rn rc) q) => (show Ow eW 4 95 (w.heap.size + 2) (w3.alloc (.cells #[.int .i64 s, .int .i64 g, .int .i64 0, .int .i64 0] 95)) (.slice ro rn rc) d.rs from by have := (NA3.out.gr (show Gr w3 (w3.alloc (.cells #[.int .i64 s, .int .i64 g, .int .i64 0, .int .i64 0] 95)) from Ch.alloc (Gr.refl w3) _)).r; rw [ER.out] at this; exact this).blk hq); have X5 := hid ((k9.block (w.heap.size + 1) (by have := lt_of_block (al_blk X3.out (.cells #[.int .i64 s, .int .i64 g, .int .i64 0, .int .i64 0] 95)); have := cw6.size; omega) (fun e => by have e1 : w.heap.size + 1 = gO := e; have := LO.out; omega)).trans ((cw6.block _ (lt_of_block (al_blk X3.out (.cells #[.int .i64 s, .int .i64 g, .int .i64 0, .int .i64 0] 95))) (fun hq => by have := (HLOW.out _ hq).1; omega)).trans (al_blk X3.out (.cells #[.int .i64 s, .int .i64 g, .int .i64 0, .int .i64 0] 95)))); have G5 := hid (show Gr w (w5.setCell ⟨gO, k * 5 + 3, none⟩ (.slice a6 (rn + 1) c6)) from Ch.trans (Ch.trans (Ch.alloc G3.out _) cw6 (fun q hq => .inr (by have := (HLOW.out _ hq).1; omega))) k9 (fun q e => .inr (by have e1 : q = gO := e; have := LO.out; omega))); clear ow6 cw6 bl6 nx k9 HLOW))
  clear ce fz lg
  generalize w5.setCell ⟨gO, k * 5 + 3, none⟩ (.slice a6 (rn + 1) c6) = w6 at NX5 X5 G5 ⊢
  go_wp2_with (refine st_row rfl 43 (.tmp 7) (.tmp 139) rfl (w.heap.size + 1) _ rfl rfl _ _ X5.out mov_size rfl (one_m _ _ _ _ _ _ _) ?_; intro w8 b8 k8; have B8 := hid b8; have K8 := hid k8; clear b8 k8)
  exact bodyPost_ret (results_tct rfl _ _ _ _ rfl (run_loadVar_row _ _ _ _ _ _ _ B8.out Try.underlying43 rfl mov_size)) rfl ⟨.slice (some ⟨gO, 0, none⟩) n ca, rfl, (show Nx (w.heap.size + 2) w8 _ _ from NX5.out.ch K8.out (fun q e => by have e1 : q = w.heap.size + 1 := e; omega)).lower (base' := w.heap.size) (by omega), Ch.trans (show Gr w w6 from G5.out) K8.out (fun q e => .inr (by have e1 : q = w.heap.size + 1 := e; rw [e1]; exact Nat.le_succ _))⟩
end Go.Proofs.Ytalmiphddgmfbab.Lt
