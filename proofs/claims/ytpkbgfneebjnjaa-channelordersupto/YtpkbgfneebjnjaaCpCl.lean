/-
  What the program's Close of layer 11 answers and leaves. Conditions: goroutines' numbers are ints, lists are not too long.
-/
import Derived.Test.YtpkbgfneebjnjaaCpCl0
import Derived.Deep.Cut
import Derived.Deep.QuietTactic
import Derived.BigQuiet
namespace Go.Proofs.Ytpkbgfneebjnjaa.Lt
open Go.RowKit Wd
attribute [local go_sem ↓] Go.wp_at_zero Go.wp_at_succ

/-- what Close tells and leaves -/
def ClR (t : Nat → Tg) (w : World) (b : Nat) (cs : List Cn) (tr : Int) (ks : List Wk) (e : Ending) (w' : World) : Prop := ∃ mo mn mc, e = .returned (.agg #[.bool false, .int .i64 0, .bool false, .int .i64 tr, .slice mo mn mc]) ∧ Ow eK 6 54 w.heap.size w' (.slice mo mn mc) ks ∧ ∃ t', Cs t' w' b cs ∧ Tn t t' w w' ∧ ∀ q, Blk (.slice mo mn mc) q → t' q = .no
set_option maxRecDepth 20000 in
set_option maxHeartbeats 4000000 in
theorem close_not {t : Nat → Tg} {w : World} {b : Nat} {cs : List Cn} (h : Cs t w b cs) (ch : Int) (hc : ¬ (1 ≤ ch ∧ ch ≤ (cs.length : Int))) :
    Calls Try.prog 21 #[.pointer (some ⟨b, 0, none⟩), .int .i64 ch] w (ClR t w b cs (if ch = 0 then 8 else 4) []) := by
  obtain ⟨W0, hW0⟩ : ∃ W0, W0 = w.alloc (.cells mz 50) := ⟨_, rfl⟩
  have g0 : Gr w W0 := by rw [hW0]; exact Ch.alloc (Gr.refl w) _
  have M0 := hid (show W0.heap[w.heap.size]? = some (.cells mz 50 (0, 0)) from by rw [hW0]; exact (MapKept.heap_alloc w _).1)
  have HCS := hid h
  have G0 := hid g0
  have HNO := hid (cs_hi h)
  have HF := hid (find_not (h.gr g0) ch hc)
  clear h g0 hc
  rw [hW0] at HF
  by_cases e0 : ch = 0
  · rw [if_pos e0] at HF ⊢
    clear e0
    go_enter Try.func21, Try.ntmps21
    go_wp2_with (first
      | (go_at_call 48; refine HF.out.mono ?_; rintro e w2 ⟨rfl, hw⟩; rw [← hW0] at hw; obtain rfl := hw.symm; clear hw hW0)
      | (refine st_row rfl 50 (.tmp 4) (.tmp 24) rfl w.heap.size _ rfl rfl _ _ M0.out mov_size rfl (one_mov _ _ _ _ _ _ _) ?_; intro w9 b9 k9; have M9 := hid b9; have K9 := hid k9; clear b9 k9))
    refine bodyPost_ret (results_cell_row rfl _ _ w.heap.size _ _ _ _ rfl M9.out Try.underlying50 rfl mov_size) rfl ⟨none, 0, 0, rfl, Ow.nil _ _ _ _ _, t, (HCS.out.gr G0.out).ch K9.out (fun q e => by have e1 : q = w.heap.size := e; rw [e1]; exact HNO.out _ (Nat.le_refl _)), (Tn.gr G0.out).own K9.out (Nat.le_refl _), fun q hq => by cases hq⟩
  · rw [if_neg e0] at HF ⊢
    clear e0
    go_enter Try.func21, Try.ntmps21
    go_wp2_with (first
      | (go_at_call 48; refine HF.out.mono ?_; rintro e w2 ⟨rfl, hw⟩; rw [← hW0] at hw; obtain rfl := hw.symm; clear hw hW0)
      | (refine st_row rfl 50 (.tmp 4) (.tmp 20) rfl w.heap.size _ rfl rfl _ _ M0.out mov_size rfl (one_mov _ _ _ _ _ _ _) ?_; intro w9 b9 k9; have M9 := hid b9; have K9 := hid k9; clear b9 k9))
    refine bodyPost_ret (results_cell_row rfl _ _ w.heap.size _ _ _ _ rfl M9.out Try.underlying50 rfl mov_size) rfl ⟨none, 0, 0, rfl, Ow.nil _ _ _ _ _, t, (HCS.out.gr G0.out).ch K9.out (fun q e => by have e1 : q = w.heap.size := e; rw [e1]; exact HNO.out _ (Nat.le_refl _)), (Tn.gr G0.out).own K9.out (Nat.le_refl _), fun q hq => by cases hq⟩
set_option maxRecDepth 20000 in
set_option maxHeartbeats 4000000 in
theorem close_closed {t : Nat → Tg} {w : World} {b i : Nat} {cs : List Cn} {c : Cn} (h : Cs t w b cs) (hc : cs[i]? = some c) (hn : cs.length ≤ 1024) (hcl : c.cl = true) :
    Calls Try.prog 21 #[.pointer (some ⟨b, 0, none⟩), .int .i64 ((i : Int) + 1)] w (ClR t w b cs 7 []) := by
  obtain ⟨W0, hW0⟩ : ∃ W0, W0 = w.alloc (.cells mz 50) := ⟨_, rfl⟩
  have g0 : Gr w W0 := by rw [hW0]; exact Ch.alloc (Gr.refl w) _
  have M0 := hid (show W0.heap[w.heap.size]? = some (.cells mz 50 (0, 0)) from by rw [hW0]; exact (MapKept.heap_alloc w _).1)
  have HCS := hid h
  have G0 := hid g0
  have HNO := hid (cs_hi h)
  obtain ⟨k, v, xs, M, clock, H⟩ := h.gr g0
  obtain ⟨gO, ca, x, rfl, -, hx, ho, h5⟩ := H.nl.at hc
  have HF := hid (find_yes H.me i (List.getElem?_eq_some_iff.1 hc).1 hn)
  have c4 := h5.c4
  rw [ho.cl, hcl] at c4
  clear h g0 hc hn hx ho h5 H hcl
  rw [hW0] at HF
  go_enter Try.func21, Try.ntmps21
  go_wp2_with (first
    | (go_at_call 48; refine HF.out.mono ?_; rintro e w2 ⟨rfl, hw⟩; rw [← hW0] at hw; obtain rfl := hw.symm; clear hw hW0)
    | (refine st_row rfl 50 (.tmp 4) (.tmp 30) rfl w.heap.size _ rfl rfl _ _ M0.out mov_size rfl (one_mov _ _ _ _ _ _ _) ?_; intro w9 b9 k9; have M9 := hid b9; have K9 := hid k9; clear b9 k9))
  refine bodyPost_ret (results_cell_row rfl _ _ w.heap.size _ _ _ _ rfl M9.out Try.underlying50 rfl mov_size) rfl ⟨none, 0, 0, rfl, Ow.nil _ _ _ _ _, t, (HCS.out.gr G0.out).ch K9.out (fun q e => by have e1 : q = w.heap.size := e; rw [e1]; exact HNO.out _ (Nat.le_refl _)), (Tn.gr G0.out).own K9.out (Nat.le_refl _), fun q hq => by cases hq⟩
/-- whom a close wakes: those that wait to receive, then those that wait to send -/
def cw1 (cs : List Cn) (i : Nat) (c : Cn) : List Wt := wkF (sh2 cs i c) c.rs
def cw2 (cs : List Cn) (i : Nat) (c : Cn) : List Wt := wkF (lvl (cw1 cs i c) (sh2 cs i c)) c.ss
/-- what a close tells -/
def cwK (cs : List Cn) (i : Nat) (c : Cn) : List Wk := (cw1 cs i c).map (toK 0) ++ (cw2 cs i c).map (toK 6)
/-- the channels behind a close -/
def cwC (cs : List Cn) (i : Nat) (c : Cn) : List Cn := lvl (cw1 cs i c ++ cw2 cs i c) (sh2 cs i c)
theorem cw_same {cs : List Cn} {i : Nat} {c : Cn} (hc : cs[i]? = some c) : lvl (cw1 cs i c ++ cw2 cs i c) (sh1 cs i c) = cwC cs i c := by
  refine sh_same hc _ (fun x hx => ?_) (fun x hx => ?_)
  · rw [lvl_app]
    exact wkF_all _ _ x hx
  · rw [lvl_app]
    have h1 := wkF_all _ (sh2 cs i c) x hx
    have h2 := pls_lvl_le (cw2 cs i c) x.s x.g (lvl (cw1 cs i c) (sh2 cs i c))
    unfold cw1 at h2 ⊢
    omega
theorem Bw.sh1 {cs : List Cn} {i : Nat} {c : Cn} (h : Bw cs) : Bw (sh1 cs i c) := by
  intro d hd
  rcases List.mem_or_eq_of_mem_set hd with e | e
  · exact h d e
  · subst e
    exact ⟨Nat.zero_le _, Nat.zero_le _⟩
set_option maxRecDepth 20000 in
set_option maxHeartbeats 4000000 in
theorem close_yes {t : Nat → Tg} {w : World} {b i : Nat} {cs : List Cn} {c : Cn} (h : Cs t w b cs) (hc : cs[i]? = some c) (hn : cs.length ≤ 1024) (hcl : c.cl = false) (hb : Bw cs) (hw : ∀ x, x ∈ c.ss ∨ x ∈ c.rs → Gok x.s x.g ∧ pls cs x.s x.g ≤ 4398046511104) (hlen : c.ss.length + c.rs.length ≤ 2932031007402) :
    Calls Try.prog 21 #[.pointer (some ⟨b, 0, none⟩), .int .i64 ((i : Int) + 1)] w (ClR t w b (cwC cs i c) 0 (cwK cs i c)) := by
  obtain ⟨W0, hW0⟩ : ∃ W0, W0 = w.alloc (.cells mz 50) := ⟨_, rfl⟩
  have g0 : Gr w W0 := by rw [hW0]; exact Ch.alloc (Gr.refl w) _
  have M0 := hid (show W0.heap[w.heap.size]? = some (.cells mz 50 (0, 0)) from by rw [hW0]; exact (MapKept.heap_alloc w _).1)
  have HCS := hid h
  have G0 := hid g0
  have HNO := hid (cs_hi h)
  obtain ⟨k, v, xs, M, clock, H⟩ := h.gr g0
  obtain ⟨gO, ca, x, rfl, tO, hx, ho, h5⟩ := H.nl.at hc
  have HF := hid (by
    have := H.me
    exact find_yes (w := W0) this i (List.getElem?_eq_some_iff.1 hc).1 hn)
  have HSH := hid (fun (m : Nat) => (H.gr (Ch.drewN (Gr.refl W0) m)).shut hx hc)
  obtain ⟨so, sk, es⟩ := ho.s.form
  obtain ⟨ro, rk, er⟩ := ho.r.form
  have c2 := h5.c2
  have c3 := h5.c3
  have c4 := h5.c4
  have fz := h5.fz
  rw [es] at c2
  rw [er] at c3
  rw [ho.cl, hcl] at c4
  have HLR := hid (er ▸ ho.r.lstB)
  have HLS := hid (es ▸ ho.s.lstB)
  have ES := hid es
  have ER := hid er
  have HRL := hid (show ∀ q, Blk (.slice ro c.rs.length rk) q → q < W0.heap.size ∧ t q = .rs i from fun q hq => by rw [← er] at hq; exact ⟨(ho.r.blk hq).2, ho.tr q hq⟩)
  have HSL := hid (show ∀ q, Blk (.slice so c.ss.length sk) q → q < W0.heap.size ∧ t q = .ss i from fun q hq => by rw [← es] at hq; exact ⟨(ho.s.blk hq).2, ho.ts q hq⟩)
  have HC := hid hc
  have HN := hid hn
  have HBW := hid hb
  have HW := hid hw
  have HLEN := hid hlen
  have TO := hid tO
  have lO := h5.lt
  obtain ⟨rn, hrn⟩ : ∃ n, n = c.rs.length := ⟨_, rfl⟩
  obtain ⟨sn, hsn⟩ : ∃ n, n = c.ss.length := ⟨_, rfl⟩
  rw [← hrn] at c3 HLR HRL ER
  rw [← hsn] at c2 HLS HSL ES
  have HRN := hid hrn
  have HSN := hid hsn
  clear h g0 hc hn hx ho h5 H hcl hb hw hlen es er tO hrn hsn
  rw [hW0] at HF
  go_enter Try.func21, Try.ntmps21
  go_upto_region 8 with (go_at_call 48; refine HF.out.mono ?_; rintro e w2 ⟨rfl, hw⟩; rw [← hW0] at hw; obtain rfl := hw.symm; clear hw hW0)
  go_quiet (fail)
  go_upto_region 10 with fail
  obtain ⟨gO', ca', t1, e1, hg1, hfz1, C1, N1, T1, tO1⟩ := HSH.out nq
  injection e1 with e1 _ _
  injection e1 with e1
  injection e1 with e1 _ _
  subst e1
  have KO : Ch (Only gO) (W0.drewN nq) ((((W0.drewN nq).setCell ⟨gO, i * 5 + 4, none⟩ (.bool true)).setCell ⟨gO, i * 5 + 3, none⟩ (.slice none 0 0)).setCell ⟨gO, i * 5 + 2, none⟩ (.slice none 0 0)) := (((Ch.refl _ _).own _ _).own _ _).own _ _
  generalize ((((W0.drewN nq).setCell ⟨gO, i * 5 + 4, none⟩ (.bool true)).setCell ⟨gO, i * 5 + 3, none⟩ (.slice none 0 0)).setCell ⟨gO, i * 5 + 2, none⟩ (.slice none 0 0)) = W3 at C1 N1 KO ⊢
  have nG : ¬ (w.heap.size = gO) := fun e => by have e1 := HNO.out _ (Nat.le_refl w.heap.size); rw [e, tO1] at e1; cases e1
  have M3 := hid ((KO.block _ (lt_of_block M0.out) (fun e => nG e)).trans M0.out)
  have T3 := hid (N1.o _ (lt_of_block M0.out) (HNO.out _ (Nat.le_refl _)))
  have SZ3 := hid (show W0.heap.size ≤ W3.heap.size from KO.size)
  have LR := hid ((HLR.out.drewN nq).ch KO (fun q _ hq e => by have e1 : q = gO := e; have := (HRL.out q hq).2; rw [e1, tO1] at this; cases this))
  have LS := hid ((HLS.out.drewN nq).ch KO (fun q _ hq e => by have e1 : q = gO := e; have := (HSL.out q hq).2; rw [e1, tO1] at this; cases this))
  have T1' := hid T1
  have NW := hid (Tn.ahead (Ch.drewN G0.out nq) N1)
  have HW1 := hid (wakeAll_any C1 sh_cov (by unfold sh1; rw [List.length_set]; exact HN.out) HBW.out.sh1 c.rs (fun x hx => ⟨(HW.out x (.inr hx)).1, by rw [pls_sh2 HC.out]; exact (HW.out x (.inr hx)).2⟩) W3.heap.size (Nat.le_refl _) _ ro rn rk LR.out (fun q hq hp => ⟨T1'.out q (.inr (by rw [ER.out]; exact hp)), hq⟩) none 0 0 [] (Ow.nil _ _ _ _ _) (fun q hq => by cases hq) 0 (by have := HLEN.out; have := HRN.out; omega))
  have SM := hid (lt_of_block M3.out)
  clear C1 N1 KO nG T1 tO1 hg1 hfz1 c2 c3 c4 fz lO
  go_upto_region 11 with (go_at_call 53; refine HW1.out.mono ?_; rintro e w4 ⟨mo, mn, mc, rfl, o4, t4, c4, tb4, b4⟩; have O4 := hid o4; have C4 := hid c4; have TB4 := hid tb4; have B4 := hid b4; clear o4 c4 tb4 b4)
  rw [List.nil_append] at O4
  have HW2 := hid (wakeAll_any C4.out (sh_cov.lvl _) (by rw [lvl_len]; unfold sh1; rw [List.length_set]; exact HN.out) (HBW.out.sh1.lvl _) c.ss (fun x hx => ⟨(HW.out x (.inl hx)).1, Nat.le_trans (pls_lvl_le _ _ _ _) (by rw [pls_sh2 HC.out]; exact (HW.out x (.inl hx)).2)⟩) W3.heap.size TB4.out.c.size _ so sn sk (TB4.out.ls LS.out (fun q hq hp => ⟨T1'.out q (.inl (by rw [ES.out]; exact hp)), hq⟩)) (fun q _ hp => have h1 := Nat.lt_of_lt_of_le (HSL.out q hp).1 SZ3.out; ⟨TB4.out.o q h1 (T1'.out q (.inl (by rw [ES.out]; exact hp))), h1⟩) mo mn mc _ O4.out B4.out 6 (by have h1 := HLEN.out; have h2 := HSN.out; have h3 := O4.out.len.1; rw [List.length_map] at h3; have h4 := wkF_len c.rs (sh2 cs i c); omega))
  have M4 := hid ((TB4.out.c.block _ (lt_of_block M3.out) (fun q => q.elim (fun q => q T3.out) (fun q => by have := SM.out; omega))).trans M3.out)
  have T4 := hid (TB4.out.o _ (lt_of_block M3.out) T3.out)
  go_wp2_with (first
    | (go_at_call 53; refine HW2.out.mono ?_; rintro e w5 ⟨ko, kn, kc, rfl, o5, t5, c5, tb5, b5⟩; have O5 := hid o5; have C5 := hid c5; have TB5 := hid tb5; have B5 := hid b5; clear o5 c5 tb5 b5; have M5 := hid ((TB5.out.c.block _ (lt_of_block M4.out) (fun q => q.elim (fun q => q T4.out) (fun q => by have := SM.out; omega))).trans M4.out); have T5 := hid (TB5.out.o _ (lt_of_block M4.out) T4.out))
    | (refine st_row rfl 50 (.tmp 4) (.tmp 55) rfl w.heap.size _ rfl rfl _ _ M5.out mov_size rfl (one_mov _ _ _ _ _ _ _) ?_; intro w9 b9 k9; have M9 := hid b9; have K9 := hid k9; clear b9 k9))
  have c9 : Ct t5 w5 b _ (lvl (cw2 cs i c) (lvl (cw1 cs i c) (sh1 cs i c))) (lvl (cw2 cs i c) (lvl (cw1 cs i c) (sh2 cs i c))) := C5.out
  rw [← lvl_app, ← lvl_app, cw_same HC.out] at c9
  have hle := SM.out
  refine bodyPost_ret (results_cell_row rfl _ _ w.heap.size _ _ _ _ rfl M9.out Try.underlying50 rfl mov_size) rfl ⟨ko, kn, kc, rfl, (O5.out.ch K9.out (fun q hq e => ?_)).lower (by omega), t5, (c9.s (fun _ _ => rfl)).ch K9.out (fun q e => by have e1 : q = w.heap.size := e; rw [e1]; exact T5.out), ((NW.out.tb TB4.out (by omega)).tb TB5.out (by omega)).own K9.out (Nat.le_refl _), B5.out⟩
  have e1 : q = w.heap.size := e
  have := (O5.out.blk hq).1
  omega
end Go.Proofs.Ytpkbgfneebjnjaa.Lt
