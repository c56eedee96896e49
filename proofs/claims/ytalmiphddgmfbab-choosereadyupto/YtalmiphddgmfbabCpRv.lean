/-
  What the program's Recv of layer 11 answers and leaves where there is a channel. Conditions: goroutines' numbers are ints, lists are not too long.
-/
import Derived.Test.YtalmiphddgmfbabCpAd
import Derived.Deep.Cut
namespace Go.Proofs.Ytalmiphddgmfbab.Lt
open Go.RowKit Wd
attribute [local go_sem ↓] Go.wp_at_zero Go.wp_at_succ

set_option maxRecDepth 20000 in
set_option maxHeartbeats 4000000 in
theorem recv_value {t : Nat → Tg} {w : World} {b i : Nat} {cs : List Cn} {c : Cn} {s g : Int} (h : Cs t w b cs) (hk : Gok s g) (hc : cs[i]? = some c) (hn : cs.length ≤ 1024) (hp : pls cs s g = 0) (cs' : List Cn) (ks : List Wk) (d : Cn) (u : Int) (us : List Int) (had : ∀ (W : World) (gO n ca k : Nat) (xs : List Rw) (M : List Me) (clock : Nat), Ca t W b k (.slice (some ⟨gO, 0, none⟩) n ca) xs M clock cs → Calls Try.prog 64 #[.pointer (some ⟨b, 0, none⟩), .pointer (some ⟨gO, i * 5, none⟩)] W (AdR t W b (.slice (some ⟨gO, 0, none⟩) n ca) cs' ks)) (hd : cs'[i]? = some d) (hv : d.vs = u :: us) (hl : (u :: us).length ≤ 4294967296) :
    Calls Try.prog 51 #[.pointer (some ⟨b, 0, none⟩), .int .i64 ((i : Int) + 1), .agg #[.int .i64 s, .int .i64 g]] w (MvR t w b (cs'.set i ⟨d.cap, us, d.ss, d.rs, d.cl⟩) false u true 0 ks 0) := by
  obtain ⟨W0, hW0⟩ : ∃ W0, W0 = (w.alloc (.cells #[.int .i64 s, .int .i64 g] 24)).alloc (.cells mz 43) := ⟨_, rfl⟩
  have g0 : Gr w W0 := by rw [hW0]; exact Ch.alloc (Ch.alloc (Gr.refl w) _) _
  have HRF := hid (by
    have := refuses_any (h.gr g0) hk
    rw [if_neg (by omega)] at this
    exact this)
  have hbx : W0.heap[w.heap.size]? = some (.cells #[.int .i64 s, .int .i64 g] 24 (0, 0)) := by rw [hW0]; exact al_blk (MapKept.heap_alloc w _).1 _
  have hmv : W0.heap[w.heap.size + 1]? = some (.cells mz 43 (0, 0)) := by rw [hW0]; exact al_at _ (by simp)
  have HMV := hid hmv
  have HBX := hid hbx
  have HCS := hid h
  have G0 := hid g0
  have HNO := hid (cs_hi h)
  have HK := hid hk
  have HC := hid hc
  have HN := hid hn
  have HD := hid hd
  have HV := hid hv
  have HL := hid hl
  have HAD := hid had
  clear h hk hmv g0 hp hc hn hd hv hl had
  rw [hW0] at HRF hbx
  go_enter Try.func51, Try.ntmps51
  go_upto_region 2 with (first
    | (refine wpList_load_row rfl 24 (.tmp 5) rfl w.heap.size rfl _ _ _ _ hbx Try.underlying24 rfl gid_size ?_)
    | (go_at_call 61; refine HRF.out.mono ?_; rintro e w1 ⟨rfl, g1⟩; rw [← hW0] at g1; have G1 := hid (Gr.trans G0.out g1); have M1 := hid (gr_blk HMV.out g1); have B1 := hid (gr_blk HBX.out g1); clear g1))
  obtain ⟨k, v, xs, M, clock, H⟩ := HCS.out.gr G1.out
  obtain ⟨gO, ca, x, rfl, -, hx, ho, h5⟩ := H.nl.at HC.out
  have HF := hid (find_yes H.me i (List.getElem?_eq_some_iff.1 HC.out).1 HN.out)
  have HA1 := hid (HAD.out w1 gO cs.length ca k xs M clock H)
  clear hx ho h5 H HAD
  go_upto_region 8 with (first
    | (go_at_call 26; refine HF.out.mono ?_; rintro e w2 ⟨rfl, hw⟩; obtain rfl := hw.symm; clear hw)
    | (go_at_call 64; refine HA1.out.mono ?_; rintro e w5 ⟨mo, mn, mc, rfl, ok5, t5, c5, n5, b5⟩; have OK5 := hid ok5; have C5 := hid c5; have N5 := hid n5; have B5 := hid b5; clear ok5 c5 n5 b5))
  have M5 := hid ((N5.out.c.block _ (lt_of_block M1.out) (fun q => q (HNO.out (w.heap.size + 1) (by omega)))).trans M1.out)
  have T5 := hid (N5.out.o _ (lt_of_block M1.out) (HNO.out (w.heap.size + 1) (by omega)))
  obtain ⟨k5, xs5, Mm, cl5, H5⟩ := C5.out
  obtain ⟨gO', ca', x5, ev5, tO5, hx5, ho5, h55⟩ := H5.nl.at HD.out
  injection ev5 with ev5 en ec
  injection ev5 with ev5
  injection ev5 with ev5 _ _
  subst ev5
  clear en ec
  obtain ⟨gv, vc, ee, -, hgv, -, hcs, -, -⟩ := ho5.v.get eI_len (i := 0) (by rw [HV.out]; rfl)
  have d0 := hcs 0 _ rfl
  simp only [Nat.zero_mul, Nat.zero_add] at d0
  have o5 := ho5.v
  rw [HV.out] at ee o5
  have p1 := h55.c1
  rw [ee] at p1 o5
  have EE := hid ee
  have HX5 := hid hx5
  have H55 := hid H5
  have hlb := HL.out
  have vp : (0 : Int) < (((u :: us).length : Nat) : Int) := by simp only [List.length_cons]; omega
  have vq : 0 < (u :: us).length := by simp
  have HDL := hid (fun (W : World) (p : Gr w5 W) => del0_any 0 gv _ vc u us W (o5.gr p) HL.out)
  generalize (u :: us).length = vn at p1 vp vq hlb HDL EE
  clear hx5 ho5 h55 hcs ee o5 H5 hgv tO5
  go_upto_region 11 with (go_at_call 65; refine (HDL.out _ (Gr.refl _)).mono ?_; rintro e w6 ⟨rfl, o6, k6⟩; obtain ⟨gO'', ca'', t7, e7, l7, p7, f7, b7, n7, -, -⟩ := H55.out.setv HX5.out HD.out (by rw [EE.out]; exact k6.mono (fun q e => .inl (by have e1 : q = gv := e; subst e1; rfl))) o6 (by rw [EE.out]; exact fun q hq => .inl (hq.len _)); injection e7 with e7 _ _; injection e7 with e7; injection e7 with e7 _ _; subst e7; rw [EE.out] at p7; have B7 := hid b7; have N7 := hid n7; clear o6 k6 b7 n7)
  generalize World.setCell w6 _ _ = w7 at B7 N7 ⊢
  clear p7 f7 l7 p1 d0
  have M7 := hid ((N7.out.c.block _ (lt_of_block M5.out) (fun q => q T5.out)).trans M5.out)
  have T7 := hid (N7.out.o _ (lt_of_block M5.out) T5.out)
  obtain ⟨mao, man, mac, emm⟩ : ∃ a n c, Value.slice mo mn mc = .slice a n c := ⟨_, _, _, rfl⟩
  clear emm
  go_wp2_with (refine st_row rfl 43 (.tmp 6) (.tmp 56) rfl (w.heap.size + 1) _ rfl rfl _ _ M7.out mov_size rfl (one_mov _ _ _ _ _ _ _) ?_; intro w9 b9 k9; have M9 := hid b9; have K9 := hid k9; clear b9 k9)
  have hle : w.heap.size + 1 < w1.heap.size := lt_of_block M1.out
  refine bodyPost_ret (results_cell_tmp2 rfl _ _ (w.heap.size + 1) _ rfl (run_loadVar_row _ _ _ _ _ _ _ M9.out Try.underlying43 rfl mov_size)) rfl ⟨mo, mn, mc, rfl, (((OK5.out.ch N7.out.c (fun q hq hs => hs (B5.out q hq))).ch K9.out (fun q hq e => ?_)).lower (by omega)), t7, ⟨_, _, _, _, _, (B7.out.a (fun s' g' => plA_set (c := d) (d := ⟨d.cap, us, d.ss, d.rs, d.cl⟩) rfl _ _ _ HD.out)).ch K9.out (fun q e => by have e1 : q = w.heap.size + 1 := e; rw [e1]; exact T7.out)⟩, ((Tn.ahead G1.out N5.out).trans N7.out).own K9.out (by omega), fun q hq => N7.out.o q (OK5.out.blk hq).2 (B5.out q hq)⟩
  have e1 : q = w.heap.size + 1 := e
  have := (OK5.out.blk hq).1
  omega
set_option maxRecDepth 20000 in
set_option maxHeartbeats 4000000 in
theorem recv_closed {t : Nat → Tg} {w : World} {b i : Nat} {cs : List Cn} {c : Cn} {s g : Int} (h : Cs t w b cs) (hk : Gok s g) (hc : cs[i]? = some c) (hn : cs.length ≤ 1024) (hp : pls cs s g = 0) (hcl : c.cl = true) (hv : c.vs = []) (hs : c.ss = []) :
    Calls Try.prog 51 #[.pointer (some ⟨b, 0, none⟩), .int .i64 ((i : Int) + 1), .agg #[.int .i64 s, .int .i64 g]] w (SnR t w b cs mz 0) := by
  obtain ⟨W0, hW0⟩ : ∃ W0, W0 = (w.alloc (.cells #[.int .i64 s, .int .i64 g] 24)).alloc (.cells mz 43) := ⟨_, rfl⟩
  have g0 : Gr w W0 := by rw [hW0]; exact Ch.alloc (Ch.alloc (Gr.refl w) _) _
  have HRF := hid (by
    have := refuses_any (h.gr g0) hk
    rw [if_neg (by omega)] at this
    exact this)
  have hbx : W0.heap[w.heap.size]? = some (.cells #[.int .i64 s, .int .i64 g] 24 (0, 0)) := by rw [hW0]; exact al_blk (MapKept.heap_alloc w _).1 _
  have hmv : W0.heap[w.heap.size + 1]? = some (.cells mz 43 (0, 0)) := by rw [hW0]; exact al_at _ (by simp)
  have HMV := hid hmv
  have HBX := hid hbx
  have HCS := hid h
  have G0 := hid g0
  have HNO := hid (cs_hi h)
  have HK := hid hk
  have HC := hid hc
  have HN := hid hn
  have HCL := hid hcl
  have HV := hid hv
  have HS := hid hs
  clear h hk hmv g0 hp hc hn hcl hv hs
  rw [hW0] at HRF hbx
  go_enter Try.func51, Try.ntmps51
  go_upto_region 2 with (first
    | (refine wpList_load_row rfl 24 (.tmp 5) rfl w.heap.size rfl _ _ _ _ hbx Try.underlying24 rfl gid_size ?_)
    | (go_at_call 61; refine HRF.out.mono ?_; rintro e w1 ⟨rfl, g1⟩; rw [← hW0] at g1; have G1 := hid (Gr.trans G0.out g1); have M1 := hid (gr_blk HMV.out g1); have B1 := hid (gr_blk HBX.out g1); clear g1))
  obtain ⟨k, v, xs, M, clock, H⟩ := HCS.out.gr G1.out
  obtain ⟨gO, ca, x, rfl, -, hx, ho, h5⟩ := H.nl.at HC.out
  have HF := hid (find_yes H.me i (List.getElem?_eq_some_iff.1 HC.out).1 HN.out)
  obtain ⟨vo, vk, ev⟩ := ho.v.form
  have c1 := h5.c1
  have c4 := h5.c4
  rw [ev, HV.out] at c1
  rw [ho.cl, HCL.out] at c4
  simp only [List.length_nil] at c1
  have HA1 := hid (admit_none H HC.out HS.out)
  clear hx ev ho h5 H
  go_wp2_with (first
    | (go_at_call 26; refine HF.out.mono ?_; rintro e w2 ⟨rfl, hw⟩; obtain rfl := hw.symm; clear hw)
    | (go_at_call 64; refine HA1.out.mono ?_; rintro e w5 ⟨rfl, hw⟩; obtain rfl := hw.symm; clear hw)
    | (refine st_row rfl 43 (.tmp 6) (.tmp 62) rfl (w.heap.size + 1) _ rfl rfl _ _ M1.out mov_size rfl (one_mov _ _ _ _ _ _ _) ?_; intro w9 b9 k9; have M9 := hid b9; have K9 := hid k9; clear b9 k9))
  refine bodyPost_ret (results_cell_tmp2 rfl _ _ (w.heap.size + 1) _ rfl (run_loadVar_row _ _ _ _ _ _ _ M9.out Try.underlying43 rfl mov_size)) rfl ⟨rfl, t, (HCS.out.gr G1.out).ch K9.out (fun q e => by have e1 : q = w.heap.size + 1 := e; rw [e1]; exact HNO.out _ (by omega)), (Tn.gr G1.out).own K9.out (by omega)⟩
set_option maxRecDepth 20000 in
set_option maxHeartbeats 4000000 in
theorem recv_wait {t : Nat → Tg} {w : World} {b i : Nat} {cs : List Cn} {c : Cn} {s g : Int} (h : Cs t w b cs) (hk : Gok s g) (hc : cs[i]? = some c) (hn : cs.length ≤ 1024) (hp : pls cs s g = 0) (hcl : c.cl = false) (hv : c.vs = []) (hs : c.ss = []) (hl : c.rs.length < 4398046511104) :
    Calls Try.prog 51 #[.pointer (some ⟨b, 0, none⟩), .int .i64 ((i : Int) + 1), .agg #[.int .i64 s, .int .i64 g]] w (SnR t w b (cs.set i ⟨c.cap, c.vs, c.ss, c.rs ++ [Wt.mk s g 0 0], c.cl⟩) #[.bool true, .int .i64 0, .bool false, .int .i64 0, .slice none 0 0] 0) := by
  have HWT := hid (fun (W : World) (p : Gr w W) => wait_recv (cc := 0) (vv := 0) (h.gr p) hk hc hn hl (by omega))
  obtain ⟨W0, hW0⟩ : ∃ W0, W0 = (w.alloc (.cells #[.int .i64 s, .int .i64 g] 24)).alloc (.cells mz 43) := ⟨_, rfl⟩
  have g0 : Gr w W0 := by rw [hW0]; exact Ch.alloc (Ch.alloc (Gr.refl w) _) _
  have HRF := hid (by
    have := refuses_any (h.gr g0) hk
    rw [if_neg (by omega)] at this
    exact this)
  have hbx : W0.heap[w.heap.size]? = some (.cells #[.int .i64 s, .int .i64 g] 24 (0, 0)) := by rw [hW0]; exact al_blk (MapKept.heap_alloc w _).1 _
  have hmv : W0.heap[w.heap.size + 1]? = some (.cells mz 43 (0, 0)) := by rw [hW0]; exact al_at _ (by simp)
  have HMV := hid hmv
  have HBX := hid hbx
  have HCS := hid h
  have G0 := hid g0
  have HNO := hid (cs_hi h)
  have HK := hid hk
  have HC := hid hc
  have HN := hid hn
  have HCL := hid hcl
  have HV := hid hv
  have HS := hid hs
  clear h hk hmv g0 hp hc hn hcl hv hs hl
  rw [hW0] at HRF hbx
  go_enter Try.func51, Try.ntmps51
  go_upto_region 2 with (first
    | (refine wpList_load_row rfl 24 (.tmp 5) rfl w.heap.size rfl _ _ _ _ hbx Try.underlying24 rfl gid_size ?_)
    | (go_at_call 61; refine HRF.out.mono ?_; rintro e w1 ⟨rfl, g1⟩; rw [← hW0] at g1; have G1 := hid (Gr.trans G0.out g1); have M1 := hid (gr_blk HMV.out g1); have B1 := hid (gr_blk HBX.out g1); clear g1))
  obtain ⟨k, v, xs, M, clock, H⟩ := HCS.out.gr G1.out
  obtain ⟨gO, ca, x, rfl, -, hx, ho, h5⟩ := H.nl.at HC.out
  have HF := hid (find_yes H.me i (List.getElem?_eq_some_iff.1 HC.out).1 HN.out)
  obtain ⟨vo, vk, ev⟩ := ho.v.form
  have c1 := h5.c1
  have c4 := h5.c4
  rw [ev, HV.out] at c1
  rw [ho.cl, HCL.out] at c4
  simp only [List.length_nil] at c1
  have HA1 := hid (admit_none H HC.out HS.out)
  clear hx ev ho h5 H
  go_upto_region 15 with (first
    | (go_at_call 26; refine HF.out.mono ?_; rintro e w2 ⟨rfl, hw⟩; obtain rfl := hw.symm; clear hw)
    | (go_at_call 64; refine HA1.out.mono ?_; rintro e w5 ⟨rfl, hw⟩; obtain rfl := hw.symm; clear hw)
    | (refine wpList_load_row rfl 24 (.tmp 5) rfl w.heap.size rfl _ _ _ _ B1.out Try.underlying24 rfl gid_size ?_)
    | (go_at_call 52; refine (HWT.out _ G1.out).mono ?_; rintro e w5 ⟨rfl, t5, c5, n5⟩; have C5 := hid c5; have N5 := hid n5; clear c5 n5))
  have M5 := hid ((N5.out.c.block _ (lt_of_block M1.out) (fun q => q (HNO.out (w.heap.size + 1) (by omega)))).trans M1.out)
  have T5 := hid (N5.out.o _ (lt_of_block M1.out) (HNO.out (w.heap.size + 1) (by omega)))
  go_wp2_with (refine st_row rfl 43 (.tmp 6) (.tmp 68) rfl (w.heap.size + 1) _ rfl rfl _ _ M5.out mov_size rfl (one_mov _ _ _ _ _ _ _) ?_; intro w9 b9 k9; have M9 := hid b9; have K9 := hid k9; clear b9 k9)
  refine bodyPost_ret (results_cell_tmp2 rfl _ _ (w.heap.size + 1) _ rfl (run_loadVar_row _ _ _ _ _ _ _ M9.out Try.underlying43 rfl mov_size)) rfl ⟨rfl, t5, C5.out.ch K9.out (fun q e => by have e1 : q = w.heap.size + 1 := e; rw [e1]; exact T5.out), (Tn.ahead G1.out N5.out).own K9.out (by omega)⟩
end Go.Proofs.Ytalmiphddgmfbab.Lt
