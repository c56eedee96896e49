/-
  What the program's Send of layer 11 answers where it is refused, has no channel, a closed one, or waits, and its Recv where it is refused or has no channel. Conditions: goroutines' numbers are ints, lists are not too long.
-/
import Derived.Test.YtalmiphddgmfbabCpWk
import Derived.Deep.Cut
namespace Go.Proofs.Ytalmiphddgmfbab.Lt
open Go.RowKit Wd
attribute [local go_sem ↓] Go.wp_at_zero Go.wp_at_succ

theorem nowhere_any (tr : Int) (w : World) : Calls Try.prog 62 #[.int .i64 tr] w fun e w' => e = .returned (.agg #[.bool (tr == 0), .int .i64 0, .bool false, .int .i64 tr, .slice none 0 0]) ∧ Gr w w' := by
  go_enter Try.func62, Try.ntmps62
  go_wp2_with (refine st_row rfl 43 (.tmp 2) (.tmp 6) rfl w.heap.size _ rfl rfl _ _ (MapKept.heap_alloc w _).1 mov_size rfl (one_mov _ _ _ _ _ _ _) ?_; intro w9 b9 k9; have M9 := hid b9; have K9 := hid k9; clear b9 k9)
  exact bodyPost_ret (results_cell_row rfl _ _ w.heap.size _ _ _ _ rfl M9.out Try.underlying43 rfl mov_size) rfl ⟨rfl, ((Ch.refl NoB w).alloc _).trans K9.out (fun q e => .inr (by have e1 : q = w.heap.size := e; omega))⟩
set_option maxRecDepth 20000 in
set_option maxHeartbeats 4000000 in
theorem send_refused {t : Nat → Tg} {w : World} {b : Nat} {cs : List Cn} {s g : Int} (h : Cs t w b cs) (hk : Gok s g) (ch : Int) (vv : Int) (hp : 0 < pls cs s g) :
    Calls Try.prog 50 #[.pointer (some ⟨b, 0, none⟩), .int .i64 ch, .agg #[.int .i64 s, .int .i64 g], .int .i64 vv] w (SnR t w b cs mz 111) := by
  obtain ⟨W0, hW0⟩ : ∃ W0, W0 = (w.alloc (.cells #[.int .i64 s, .int .i64 g] 24)).alloc (.cells mz 43) := ⟨_, rfl⟩
  have g0 : Gr w W0 := by rw [hW0]; exact Ch.alloc (Ch.alloc (Gr.refl w) _) _
  have HRF := hid (by
    have := refuses_any (h.gr g0) hk
    rw [if_pos hp] at this
    exact this)
  have hbx : W0.heap[w.heap.size]? = some (.cells #[.int .i64 s, .int .i64 g] 24 (0, 0)) := by rw [hW0]; exact al_blk (MapKept.heap_alloc w _).1 _
  have hmv : W0.heap[w.heap.size + 1]? = some (.cells mz 43 (0, 0)) := by rw [hW0]; exact al_at _ (by simp)
  have HMV := hid hmv
  have HBX := hid hbx
  have HCS := hid h
  have G0 := hid g0
  have HNO := hid (cs_hi h)
  have HK := hid hk
  clear h hk hmv g0 hp
  rw [hW0] at HRF hbx
  go_enter Try.func50, Try.ntmps50
  go_wp2_with (first
    | (refine wpList_load_row rfl 24 (.tmp 6) rfl w.heap.size rfl _ _ _ _ hbx Try.underlying24 rfl gid_size ?_)
    | (go_at_call 61; refine HRF.out.mono ?_; rintro e w1 ⟨rfl, g1⟩; rw [← hW0] at g1; have G1 := hid (Gr.trans G0.out g1); have M1 := hid (gr_blk HMV.out g1); have B1 := hid (gr_blk HBX.out g1); clear g1)
    | (refine st_row rfl 43 (.tmp 8) (.tmp 19) rfl (w.heap.size + 1) _ rfl rfl _ _ M1.out mov_size rfl (one_mov _ _ _ _ _ _ _) ?_; intro w9 b9 k9; have M9 := hid b9; have K9 := hid k9; clear b9 k9))
  refine bodyPost_ret (results_cell_tmp2 rfl _ _ (w.heap.size + 1) _ rfl (run_loadVar_row _ _ _ _ _ _ _ M9.out Try.underlying43 rfl mov_size)) rfl ⟨rfl, t, (HCS.out.gr G1.out).ch K9.out (fun q e => by have e1 : q = w.heap.size + 1 := e; rw [e1]; exact HNO.out _ (by omega)), (Tn.gr G1.out).own K9.out (by omega)⟩
set_option maxRecDepth 20000 in
set_option maxHeartbeats 4000000 in
theorem send_not {t : Nat → Tg} {w : World} {b : Nat} {cs : List Cn} {s g : Int} (h : Cs t w b cs) (hk : Gok s g) (ch : Int) (vv : Int) (hp : pls cs s g = 0) (hc : ¬ (1 ≤ ch ∧ ch ≤ (cs.length : Int))) :
    Calls Try.prog 50 #[.pointer (some ⟨b, 0, none⟩), .int .i64 ch, .agg #[.int .i64 s, .int .i64 g], .int .i64 vv] w (SnR t w b cs #[.bool (decide (ch = 0)), .int .i64 0, .bool false, .int .i64 (if ch = 0 then 0 else 4), .slice none 0 0] 0) := by
  obtain ⟨tr, htr⟩ : ∃ x : Int, x = (if ch = 0 then 0 else 4) := ⟨_, rfl⟩
  have hd : decide (ch = 0) = (tr == 0) := by rw [htr]; by_cases e : ch = 0 <;> simp [e]
  have HFN := hid (fun (W : World) (p : Gr w W) => find_not (h.gr p) ch hc)
  rw [hd, ← htr]
  rw [← htr] at HFN
  clear hd htr
  obtain ⟨W0, hW0⟩ : ∃ W0, W0 = (w.alloc (.cells #[.int .i64 s, .int .i64 g] 24)).alloc (.cells mz 43) := ⟨_, rfl⟩
  have g0 : Gr w W0 := by rw [hW0]; exact Ch.alloc (Ch.alloc (Gr.refl w) _) _
  have HRF := hid (by
    have := refuses_any (h.gr g0) hk
    rw [if_neg (by omega)] at this
    exact this)
  have hbx : W0.heap[w.heap.size]? = some (.cells #[.int .i64 s, .int .i64 g] 24 (0, 0)) := by rw [hW0]; exact al_blk (MapKept.heap_alloc w _).1 _
  have hmv : W0.heap[w.heap.size + 1]? = some (.cells mz 43 (0, 0)) := by rw [hW0]; exact al_at _ (by simp)
  have HMV := hid hmv
  have HBX := hid hbx
  have HCS := hid h
  have G0 := hid g0
  have HNO := hid (cs_hi h)
  have HK := hid hk
  clear h hk hmv g0 hp hc
  rw [hW0] at HRF hbx
  go_enter Try.func50, Try.ntmps50
  go_wp2_with (first
    | (refine wpList_load_row rfl 24 (.tmp 6) rfl w.heap.size rfl _ _ _ _ hbx Try.underlying24 rfl gid_size ?_)
    | (go_at_call 61; refine HRF.out.mono ?_; rintro e w1 ⟨rfl, g1⟩; rw [← hW0] at g1; have G1 := hid (Gr.trans G0.out g1); have M1 := hid (gr_blk HMV.out g1); have B1 := hid (gr_blk HBX.out g1); clear g1)
    | (go_at_call 26; refine (HFN.out _ G1.out).mono ?_; rintro e w2 ⟨rfl, hw⟩; obtain rfl := hw.symm; clear hw)
    | (go_at_call 62; refine (nowhere_any _ _).mono ?_; rintro e w3 ⟨rfl, g3⟩; have M3 := hid (gr_blk M1.out g3); have G3 := hid (Gr.trans G1.out g3); clear g3)
    | (refine st_row rfl 43 (.tmp 8) (.tmp 31) rfl (w.heap.size + 1) _ rfl rfl _ _ M3.out mov_size rfl (one_mov _ _ _ _ _ _ _) ?_; intro w9 b9 k9; have M9 := hid b9; have K9 := hid k9; clear b9 k9))
  refine bodyPost_ret (results_cell_tmp2 rfl _ _ (w.heap.size + 1) _ rfl (run_loadVar_row _ _ _ _ _ _ _ M9.out Try.underlying43 rfl mov_size)) rfl ⟨rfl, t, (HCS.out.gr G3.out).ch K9.out (fun q e => by have e1 : q = w.heap.size + 1 := e; rw [e1]; exact HNO.out _ (by omega)), (Tn.gr G3.out).own K9.out (by omega)⟩
set_option maxRecDepth 20000 in
set_option maxHeartbeats 4000000 in
theorem send_closed {t : Nat → Tg} {w : World} {b i : Nat} {cs : List Cn} {c : Cn} {s g : Int} (h : Cs t w b cs) (hk : Gok s g) (hc : cs[i]? = some c) (hn : cs.length ≤ 1024) (vv : Int) (hp : pls cs s g = 0) (hcl : c.cl = true) :
    Calls Try.prog 50 #[.pointer (some ⟨b, 0, none⟩), .int .i64 ((i : Int) + 1), .agg #[.int .i64 s, .int .i64 g], .int .i64 vv] w (SnR t w b cs #[.bool false, .int .i64 0, .bool false, .int .i64 6, .slice none 0 0] 0) := by
  obtain ⟨W0, hW0⟩ : ∃ W0, W0 = (w.alloc (.cells #[.int .i64 s, .int .i64 g] 24)).alloc (.cells mz 43) := ⟨_, rfl⟩
  have g0 : Gr w W0 := by rw [hW0]; exact Ch.alloc (Ch.alloc (Gr.refl w) _) _
  have HRF := hid (by
    have := refuses_any (h.gr g0) hk
    rw [if_neg (by omega)] at this
    exact this)
  have hbx : W0.heap[w.heap.size]? = some (.cells #[.int .i64 s, .int .i64 g] 24 (0, 0)) := by rw [hW0]; exact al_blk (MapKept.heap_alloc w _).1 _
  have hmv : W0.heap[w.heap.size + 1]? = some (.cells mz 43 (0, 0)) := by rw [hW0]; exact al_at _ (by simp)
  have HMV := hid hmv
  have HBX := hid hbx
  have HCS := hid h
  have G0 := hid g0
  have HNO := hid (cs_hi h)
  have HK := hid hk
  have HC := hid hc
  have HN := hid hn
  have HCL := hid hcl
  clear h hk hmv g0 hp hc hn hcl
  rw [hW0] at HRF hbx
  go_enter Try.func50, Try.ntmps50
  go_upto_region 2 with (first
    | (refine wpList_load_row rfl 24 (.tmp 6) rfl w.heap.size rfl _ _ _ _ hbx Try.underlying24 rfl gid_size ?_)
    | (go_at_call 61; refine HRF.out.mono ?_; rintro e w1 ⟨rfl, g1⟩; rw [← hW0] at g1; have G1 := hid (Gr.trans G0.out g1); have M1 := hid (gr_blk HMV.out g1); have B1 := hid (gr_blk HBX.out g1); clear g1))
  obtain ⟨k, v, xs, M, clock, H⟩ := HCS.out.gr G1.out
  obtain ⟨gO, ca, x, rfl, -, hx, ho, h5⟩ := H.nl.at HC.out
  have HF := hid (find_yes H.me i (List.getElem?_eq_some_iff.1 HC.out).1 HN.out)
  obtain ⟨vo, vk, ev⟩ := ho.v.form
  obtain ⟨ro, rk, er⟩ := ho.r.form
  have c0 := h5.c0
  have c1 := h5.c1
  have c3 := h5.c3
  have c4 := h5.c4
  rw [ho.cap] at c0
  rw [ev] at c1
  rw [er] at c3
  rw [ho.cl, HCL.out] at c4
  clear hx ev er ho h5 H c0 c1 c3
  go_wp2_with (first
    | (go_at_call 26; refine HF.out.mono ?_; rintro e w2 ⟨rfl, hw⟩; obtain rfl := hw.symm; clear hw)
    | (refine st_row rfl 43 (.tmp 8) (.tmp 37) rfl (w.heap.size + 1) _ rfl rfl _ _ M1.out mov_size rfl (one_mov _ _ _ _ _ _ _) ?_; intro w9 b9 k9; have M9 := hid b9; have K9 := hid k9; clear b9 k9))
  refine bodyPost_ret (results_cell_tmp2 rfl _ _ (w.heap.size + 1) _ rfl (run_loadVar_row _ _ _ _ _ _ _ M9.out Try.underlying43 rfl mov_size)) rfl ⟨rfl, t, (HCS.out.gr G1.out).ch K9.out (fun q e => by have e1 : q = w.heap.size + 1 := e; rw [e1]; exact HNO.out _ (by omega)), (Tn.gr G1.out).own K9.out (by omega)⟩
set_option maxRecDepth 20000 in
set_option maxHeartbeats 4000000 in
theorem send_wait {t : Nat → Tg} {w : World} {b i : Nat} {cs : List Cn} {c : Cn} {s g : Int} (h : Cs t w b cs) (hk : Gok s g) (hc : cs[i]? = some c) (hn : cs.length ≤ 1024) (vv : Int) (hp : pls cs s g = 0) (hcl : c.cl = false) (hr : c.rs = []) (hv : ¬ (c.vs.length : Int) < c.cap) (hl : c.ss.length < 4398046511104) :
    Calls Try.prog 50 #[.pointer (some ⟨b, 0, none⟩), .int .i64 ((i : Int) + 1), .agg #[.int .i64 s, .int .i64 g], .int .i64 vv] w (SnR t w b (cs.set i ⟨c.cap, c.vs, c.ss ++ [Wt.mk s g 0 vv], c.rs, c.cl⟩) #[.bool true, .int .i64 0, .bool false, .int .i64 0, .slice none 0 0] 0) := by
  have HWT := hid (fun (W : World) (p : Gr w W) => wait_send (cc := 0) (vv := vv) (h.gr p) hk hc hn hl (by omega))
  obtain ⟨W0, hW0⟩ : ∃ W0, W0 = (w.alloc (.cells #[.int .i64 s, .int .i64 g] 24)).alloc (.cells mz 43) := ⟨_, rfl⟩
  have g0 : Gr w W0 := by rw [hW0]; exact Ch.alloc (Ch.alloc (Gr.refl w) _) _
  have HRF := hid (by
    have := refuses_any (h.gr g0) hk
    rw [if_neg (by omega)] at this
    exact this)
  have hbx : W0.heap[w.heap.size]? = some (.cells #[.int .i64 s, .int .i64 g] 24 (0, 0)) := by rw [hW0]; exact al_blk (MapKept.heap_alloc w _).1 _
  have hmv : W0.heap[w.heap.size + 1]? = some (.cells mz 43 (0, 0)) := by rw [hW0]; exact al_at _ (by simp)
  have HMV := hid hmv
  have HBX := hid hbx
  have HCS := hid h
  have G0 := hid g0
  have HNO := hid (cs_hi h)
  have HK := hid hk
  have HC := hid hc
  have HN := hid hn
  have HCL := hid hcl
  have HR := hid hr
  have HV := hid hv
  clear h hk hmv g0 hp hc hn hcl hr hv hl
  rw [hW0] at HRF hbx
  go_enter Try.func50, Try.ntmps50
  go_upto_region 2 with (first
    | (refine wpList_load_row rfl 24 (.tmp 6) rfl w.heap.size rfl _ _ _ _ hbx Try.underlying24 rfl gid_size ?_)
    | (go_at_call 61; refine HRF.out.mono ?_; rintro e w1 ⟨rfl, g1⟩; rw [← hW0] at g1; have G1 := hid (Gr.trans G0.out g1); have M1 := hid (gr_blk HMV.out g1); have B1 := hid (gr_blk HBX.out g1); clear g1))
  obtain ⟨k, v, xs, M, clock, H⟩ := HCS.out.gr G1.out
  obtain ⟨gO, ca, x, rfl, -, hx, ho, h5⟩ := H.nl.at HC.out
  have HF := hid (find_yes H.me i (List.getElem?_eq_some_iff.1 HC.out).1 HN.out)
  obtain ⟨vo, vk, ev⟩ := ho.v.form
  obtain ⟨ro, rk, er⟩ := ho.r.form
  have c0 := h5.c0
  have c1 := h5.c1
  have c3 := h5.c3
  have c4 := h5.c4
  rw [ho.cap] at c0
  rw [ev] at c1
  rw [er] at c3
  rw [ho.cl, HCL.out] at c4
  rw [HR.out] at c3
  have hvc := HV.out
  generalize c.vs.length = vn at c1 hvc
  generalize c.cap = cp at c0 hvc
  clear hx ev er ho h5 H
  go_wp2_with (go_at_call 26; refine HF.out.mono ?_; rintro e w2 ⟨rfl, hw⟩; obtain rfl := hw.symm; clear hw)
  go_region
  all_goals go_upto_region 16 with (first
    | (refine wpList_load_row rfl 24 (.tmp 6) rfl w.heap.size rfl _ _ _ _ B1.out Try.underlying24 rfl gid_size ?_)
    | (go_at_call 52; refine (HWT.out _ (Ch.drew G1.out)).mono ?_; rintro e w5 ⟨rfl, t5, c5, n5⟩; have C5 := hid c5; have N5 := hid n5; clear c5 n5))
  all_goals have M5 := hid ((N5.out.c.block _ (lt_of_block M1.out) (fun q => q (HNO.out (w.heap.size + 1) (by omega)))).trans M1.out)
  all_goals have T5 := hid (N5.out.o _ (lt_of_block M1.out) (HNO.out (w.heap.size + 1) (by omega)))
  all_goals go_wp2_with (refine st_row rfl 43 (.tmp 8) (.tmp 85) rfl (w.heap.size + 1) _ rfl rfl _ _ M5.out mov_size rfl (one_mov _ _ _ _ _ _ _) ?_; intro w9 b9 k9; have M9 := hid b9; have K9 := hid k9; clear b9 k9)
  all_goals refine bodyPost_ret (results_cell_tmp2 rfl _ _ (w.heap.size + 1) _ rfl (run_loadVar_row _ _ _ _ _ _ _ M9.out Try.underlying43 rfl mov_size)) rfl ⟨rfl, t5, C5.out.ch K9.out (fun q e => by have e1 : q = w.heap.size + 1 := e; rw [e1]; exact T5.out), (Tn.ahead (Ch.drew G1.out) N5.out).own K9.out (by omega)⟩
set_option maxRecDepth 20000 in
set_option maxHeartbeats 4000000 in
theorem recv_refused {t : Nat → Tg} {w : World} {b : Nat} {cs : List Cn} {s g : Int} (h : Cs t w b cs) (hk : Gok s g) (ch : Int) (hp : 0 < pls cs s g) :
    Calls Try.prog 51 #[.pointer (some ⟨b, 0, none⟩), .int .i64 ch, .agg #[.int .i64 s, .int .i64 g]] w (SnR t w b cs mz 111) := by
  obtain ⟨W0, hW0⟩ : ∃ W0, W0 = (w.alloc (.cells #[.int .i64 s, .int .i64 g] 24)).alloc (.cells mz 43) := ⟨_, rfl⟩
  have g0 : Gr w W0 := by rw [hW0]; exact Ch.alloc (Ch.alloc (Gr.refl w) _) _
  have HRF := hid (by
    have := refuses_any (h.gr g0) hk
    rw [if_pos hp] at this
    exact this)
  have hbx : W0.heap[w.heap.size]? = some (.cells #[.int .i64 s, .int .i64 g] 24 (0, 0)) := by rw [hW0]; exact al_blk (MapKept.heap_alloc w _).1 _
  have hmv : W0.heap[w.heap.size + 1]? = some (.cells mz 43 (0, 0)) := by rw [hW0]; exact al_at _ (by simp)
  have HMV := hid hmv
  have HBX := hid hbx
  have HCS := hid h
  have G0 := hid g0
  have HNO := hid (cs_hi h)
  have HK := hid hk
  clear h hk hmv g0 hp
  rw [hW0] at HRF hbx
  go_enter Try.func51, Try.ntmps51
  go_wp2_with (first
    | (refine wpList_load_row rfl 24 (.tmp 5) rfl w.heap.size rfl _ _ _ _ hbx Try.underlying24 rfl gid_size ?_)
    | (go_at_call 61; refine HRF.out.mono ?_; rintro e w1 ⟨rfl, g1⟩; rw [← hW0] at g1; have G1 := hid (Gr.trans G0.out g1); have M1 := hid (gr_blk HMV.out g1); have B1 := hid (gr_blk HBX.out g1); clear g1)
    | (refine st_row rfl 43 (.tmp 6) (.tmp 18) rfl (w.heap.size + 1) _ rfl rfl _ _ M1.out mov_size rfl (one_mov _ _ _ _ _ _ _) ?_; intro w9 b9 k9; have M9 := hid b9; have K9 := hid k9; clear b9 k9))
  refine bodyPost_ret (results_cell_tmp2 rfl _ _ (w.heap.size + 1) _ rfl (run_loadVar_row _ _ _ _ _ _ _ M9.out Try.underlying43 rfl mov_size)) rfl ⟨rfl, t, (HCS.out.gr G1.out).ch K9.out (fun q e => by have e1 : q = w.heap.size + 1 := e; rw [e1]; exact HNO.out _ (by omega)), (Tn.gr G1.out).own K9.out (by omega)⟩
set_option maxRecDepth 20000 in
set_option maxHeartbeats 4000000 in
theorem recv_not {t : Nat → Tg} {w : World} {b : Nat} {cs : List Cn} {s g : Int} (h : Cs t w b cs) (hk : Gok s g) (ch : Int) (hp : pls cs s g = 0) (hc : ¬ (1 ≤ ch ∧ ch ≤ (cs.length : Int))) :
    Calls Try.prog 51 #[.pointer (some ⟨b, 0, none⟩), .int .i64 ch, .agg #[.int .i64 s, .int .i64 g]] w (SnR t w b cs #[.bool (decide (ch = 0)), .int .i64 0, .bool false, .int .i64 (if ch = 0 then 0 else 4), .slice none 0 0] 0) := by
  obtain ⟨tr, htr⟩ : ∃ x : Int, x = (if ch = 0 then 0 else 4) := ⟨_, rfl⟩
  have hd : decide (ch = 0) = (tr == 0) := by rw [htr]; by_cases e : ch = 0 <;> simp [e]
  have HFN := hid (fun (W : World) (p : Gr w W) => find_not (h.gr p) ch hc)
  rw [hd, ← htr]
  rw [← htr] at HFN
  clear hd htr
  obtain ⟨W0, hW0⟩ : ∃ W0, W0 = (w.alloc (.cells #[.int .i64 s, .int .i64 g] 24)).alloc (.cells mz 43) := ⟨_, rfl⟩
  have g0 : Gr w W0 := by rw [hW0]; exact Ch.alloc (Ch.alloc (Gr.refl w) _) _
  have HRF := hid (by
    have := refuses_any (h.gr g0) hk
    rw [if_neg (by omega)] at this
    exact this)
  have hbx : W0.heap[w.heap.size]? = some (.cells #[.int .i64 s, .int .i64 g] 24 (0, 0)) := by rw [hW0]; exact al_blk (MapKept.heap_alloc w _).1 _
  have hmv : W0.heap[w.heap.size + 1]? = some (.cells mz 43 (0, 0)) := by rw [hW0]; exact al_at _ (by simp)
  have HMV := hid hmv
  have HBX := hid hbx
  have HCS := hid h
  have G0 := hid g0
  have HNO := hid (cs_hi h)
  have HK := hid hk
  clear h hk hmv g0 hp hc
  rw [hW0] at HRF hbx
  go_enter Try.func51, Try.ntmps51
  go_wp2_with (first
    | (refine wpList_load_row rfl 24 (.tmp 5) rfl w.heap.size rfl _ _ _ _ hbx Try.underlying24 rfl gid_size ?_)
    | (go_at_call 61; refine HRF.out.mono ?_; rintro e w1 ⟨rfl, g1⟩; rw [← hW0] at g1; have G1 := hid (Gr.trans G0.out g1); have M1 := hid (gr_blk HMV.out g1); have B1 := hid (gr_blk HBX.out g1); clear g1)
    | (go_at_call 26; refine (HFN.out _ G1.out).mono ?_; rintro e w2 ⟨rfl, hw⟩; obtain rfl := hw.symm; clear hw)
    | (go_at_call 62; refine (nowhere_any _ _).mono ?_; rintro e w3 ⟨rfl, g3⟩; have M3 := hid (gr_blk M1.out g3); have G3 := hid (Gr.trans G1.out g3); clear g3)
    | (refine st_row rfl 43 (.tmp 6) (.tmp 29) rfl (w.heap.size + 1) _ rfl rfl _ _ M3.out mov_size rfl (one_mov _ _ _ _ _ _ _) ?_; intro w9 b9 k9; have M9 := hid b9; have K9 := hid k9; clear b9 k9))
  refine bodyPost_ret (results_cell_tmp2 rfl _ _ (w.heap.size + 1) _ rfl (run_loadVar_row _ _ _ _ _ _ _ M9.out Try.underlying43 rfl mov_size)) rfl ⟨rfl, t, (HCS.out.gr G3.out).ch K9.out (fun q e => by have e1 : q = w.heap.size + 1 := e; rw [e1]; exact HNO.out _ (by omega)), (Tn.gr G3.out).own K9.out (by omega)⟩
end Go.Proofs.Ytalmiphddgmfbab.Lt
