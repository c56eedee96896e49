/-
  What the document's Close of layer 11 answers. Conditions: the lists are not too long.
-/
import Derived.Test.YtpkbgfneebjnjabCnRv2
import Derived.Test.YtpkbgfneebjnjabCpAny
import Derived.Deep.Cut
namespace Go.Proofs.Ytpkbgfneebjnjab.Lt
open Go.RowKit Wd
attribute [local go_sem ↓] Go.wp_at_zero Go.wp_at_succ

theorem results_tc {fn : Func} {p a : Tmp} {ty : TypeId} (h : fn.results = #[.tmp a, .cell p ty]) (tmps : Array Value) (w : World) (g : Nat) (cs : Array Value)
    (hp : tmps.getD p undef = .pointer (some ⟨g, 0, none⟩)) (hl : (loadVar ty ⟨g, 0, none⟩).run Try.prog w = .ok (.agg cs) w) :
    (results fn tmps).run Try.prog w = .ok (.tuple #[tmps.getD a undef, .agg cs]) w := by
  have hp' : tmps[p]?.getD undef = .pointer (some ⟨g, 0, none⟩) := by simpa using hp
  simp [results, h, hp', asAddr, hl]
/-- what Close tells that wakes -/
def ClK (w : World) (cs : List Cn) (ks : List Wk) (e : Ending) (w' : World) : Prop := ∃ v mo mn mc, e = .returned (.tuple #[v, .agg #[.bool false, .int .i64 0, .bool false, .int .i64 0, .slice mo mn mc]]) ∧ Ow eK 6 95 w.heap.size w' (.slice mo mn mc) ks ∧ Nx w.heap.size w' v cs ∧ Gr w w'
theorem Bd.lvs {cs : List Cn} (h : Bd cs) (s g : Int) : Bd (lvs cs s g) := by
  refine ⟨by rw [lvs_len]; exact h.n, ?_, ?_, ?_⟩
  · intro d hd
    obtain ⟨c, hc, rfl⟩ := List.mem_map.1 hd
    exact h.v c hc
  · intro d hd
    obtain ⟨c, hc, rfl⟩ := List.mem_map.1 hd
    exact Nat.le_trans (wo_le _ _ _) (h.s c hc)
  · intro d hd
    obtain ⟨c, hc, rfl⟩ := List.mem_map.1 hd
    exact Nat.le_trans (wo_le _ _ _) (h.r c hc)
theorem Bd.lvl {cs : List Cn} (h : Bd cs) (l : List Wt) : Bd (lvl l cs) := by
  induction l generalizing cs with
  | nil => exact h
  | cons x r ih => rw [lvl_cons]; exact ih (h.lvs _ _)
theorem Bd.sh2 {cs : List Cn} {i : Nat} {c : Cn} (h : Bd cs) {hc : cs[i]? = some c} : Bd (sh2 cs i c) := by
  have m := List.mem_of_getElem? hc
  refine ⟨by unfold Lt.sh2; rw [List.length_set]; exact h.n, ?_, ?_, ?_⟩ <;> intro d hd <;> rcases List.mem_or_eq_of_mem_set hd with e | e
  · exact h.v d e
  · subst e; exact h.v c m
  · exact h.s d e
  · subst e; exact h.s c m
  · exact h.r d e
  · subst e; exact h.r c m
theorem wo_cons_self (x : Wt) (r : List Wt) : wo (x :: r) x.s x.g = wo r x.s x.g := by unfold wo; rw [List.filter_cons]; simp
/-- who does not wait is not woken -/
theorem wkF_wo : ∀ (l : List Wt) (fs : List Cn) (s g : Int), pls fs s g = 0 → wkF fs l = wkF fs (wo l s g) := by
  intro l
  induction l with
  | nil => intro fs s g _; rfl
  | cons x r ih =>
    intro fs s g h
    have e1 : wo (x :: r) s g = if (x.s == s && x.g == g) = true then wo r s g else x :: wo r s g := by
      unfold wo
      rw [List.filter_cons]
      cases hb : (x.s == s && x.g == g) <;> simp
    rw [e1]
    by_cases hx : (x.s == s && x.g == g) = true
    · rw [if_pos hx]
      have : x.s = s ∧ x.g = g := by simpa using hx
      rw [wkF, if_neg (by rw [this.1, this.2]; omega)]
      exact ih fs s g h
    · rw [if_neg hx, wkF, wkF]
      split
      · rw [ih (lvs fs x.s x.g) s g (by have := pls_lvs_le fs x.s x.g s g; omega)]
      · exact ih fs s g h
theorem lvl_wk : ∀ (l : List Wt) (cs : List Cn) (k : Nat) (d f : Cn), cs[k]? = some d → (lvl l cs)[k]? = some f → ∀ fs : List Cn, (∀ x ∈ l, pls fs x.s x.g = 0) → wkF fs f.ss = wkF fs d.ss := by
  intro l
  induction l with
  | nil =>
    intro cs k d f h1 h2 fs _
    rw [lvl_nil, h1] at h2
    injection h2 with h2
    rw [h2]
  | cons x r ih =>
    intro cs k d f h1 h2 fs hx
    rw [lvl_cons] at h2
    rw [ih _ k (d.wo x.s x.g) f (lvs_get h1 _ _) h2 fs (fun y hy => hx y (List.mem_cons_of_mem _ hy))]
    exact (wkF_wo d.ss fs x.s x.g (hx x List.mem_cons_self)).symm
theorem wkF_sub : ∀ (l : List Wt) (fs : List Cn) (x : Wt), x ∈ wkF fs l → x ∈ l := by
  intro l
  induction l with
  | nil => intro fs x h; cases h
  | cons y r ih =>
    intro fs x h
    rw [wkF] at h
    split at h
    · rcases List.mem_cons.1 h with e | e
      · rw [e]; exact List.mem_cons_self
      · exact List.mem_cons_of_mem _ (ih _ x e)
    · exact List.mem_cons_of_mem _ (ih _ x h)
set_option maxHeartbeats 8000000 in
set_option maxRecDepth 40000 in
theorem rclose_nil (w : World) (ao : Option Addr) (n cap : Nat) : Calls Try.prog 26 #[.slice ao n cap, .int .i64 0] w fun e w' => e = .returned (.tuple #[.slice ao n cap, .agg #[.bool false, .int .i64 0, .bool false, .int .i64 8, .slice none 0 0]]) ∧ Gr w w' := by
  have G0 := hid (show Gr w (w.alloc (.cells #[.bool false, .int .i64 0, .bool false, .int .i64 0, .slice none 0 0] 60)) from Ch.alloc (Gr.refl w) _)
  have X0 := hid (show (w.alloc (.cells #[.bool false, .int .i64 0, .bool false, .int .i64 0, .slice none 0 0] 60)).heap[w.heap.size]? = some (.cells #[.bool false, .int .i64 0, .bool false, .int .i64 0, .slice none 0 0] 60 (0, 0)) from (MapKept.heap_alloc w _).1)
  go_enter Try.func26, Try.ntmps26
  go_wp2_with (first
    | (refine st_row rfl 60 (.tmp 5) (.tmp 13) rfl w.heap.size _ rfl rfl _ _ X0.out mov_size rfl (one_m _ _ _ _ _ _ _) ?_; intro w9 b9 k9; have B9 := hid b9; have K9 := hid k9; clear b9 k9))
  exact bodyPost_ret (results_tc rfl _ _ _ _ rfl (run_loadVar_row _ _ _ _ _ _ _ B9.out Try.underlying60 rfl mov_size)) rfl ⟨rfl, Ch.trans G0.out K9.out (fun q e => .inr (by have e1 : q = w.heap.size := e; omega))⟩
set_option maxHeartbeats 8000000 in
set_option maxRecDepth 40000 in
theorem rclose_none (w : World) (ao : Option Addr) (n cap : Nat) (ch : Int) (h0 : ch ≠ 0) (h1 : ¬ (1 ≤ ch ∧ ch ≤ (n : Int))) : Calls Try.prog 26 #[.slice ao n cap, .int .i64 ch] w fun e w' => e = .returned (.tuple #[.slice ao n cap, .agg #[.bool false, .int .i64 0, .bool false, .int .i64 4, .slice none 0 0]]) ∧ Gr w w' := by
  have G0 := hid (show Gr w (w.alloc (.cells #[.bool false, .int .i64 0, .bool false, .int .i64 0, .slice none 0 0] 60)) from Ch.alloc (Gr.refl w) _)
  have X0 := hid (show (w.alloc (.cells #[.bool false, .int .i64 0, .bool false, .int .i64 0, .slice none 0 0] 60)).heap[w.heap.size]? = some (.cells #[.bool false, .int .i64 0, .bool false, .int .i64 0, .slice none 0 0] 60 (0, 0)) from (MapKept.heap_alloc w _).1)
  have e0 : (ch == 0) = false := by simpa using h0
  have hd : decide (1 ≤ ch ∧ ch ≤ (n : Int)) = false := decide_eq_false h1
  have HI := hid ris_any
  go_enter Try.func26, Try.ntmps26
  go_wp2_with (first
    | (go_at_call 50; refine (HI.out _ _ _ _ _).mono ?_; rw [hd]; rintro e w9 ⟨rfl, hw⟩; have hw := hw.symm; subst hw)
    | (refine st_row rfl 60 (.tmp 5) (.tmp 19) rfl w.heap.size _ rfl rfl _ _ X0.out mov_size rfl (one_m _ _ _ _ _ _ _) ?_; intro w9 b9 k9; have B9 := hid b9; have K9 := hid k9; clear b9 k9))
  exact bodyPost_ret (results_tc rfl _ _ _ _ rfl (run_loadVar_row _ _ _ _ _ _ _ B9.out Try.underlying60 rfl mov_size)) rfl ⟨rfl, Ch.trans G0.out K9.out (fun q e => .inr (by have e1 : q = w.heap.size := e; omega))⟩
set_option maxHeartbeats 8000000 in
set_option maxRecDepth 40000 in
theorem rclose_closed (P : Nat → Prop) (w : World) (ao : Option Addr) (n cap : Nat) (cs : List Cn) (k : Nat) (d : Cn) (h : Rds P w (.slice ao n cap) cs) (hnn : n = cs.length) (hn : cs.length ≤ 1024) (hk : cs[k]? = some d) (hcl : d.cl = true) : Calls Try.prog 26 #[.slice ao n cap, .int .i64 ((k + 1 : Nat) : Int)] w fun e w' => e = .returned (.tuple #[.slice ao n cap, .agg #[.bool false, .int .i64 0, .bool false, .int .i64 7, .slice none 0 0]]) ∧ Gr w w' := by
  have G0 := hid (show Gr w (w.alloc (.cells #[.bool false, .int .i64 0, .bool false, .int .i64 0, .slice none 0 0] 60)) from Ch.alloc (Gr.refl w) _)
  have X0 := hid (show (w.alloc (.cells #[.bool false, .int .i64 0, .bool false, .int .i64 0, .slice none 0 0] 60)).heap[w.heap.size]? = some (.cells #[.bool false, .int .i64 0, .bool false, .int .i64 0, .slice none 0 0] 60 (0, 0)) from (MapKept.heap_alloc w _).1)
  obtain ⟨raws, hl, hnr, hf⟩ := h
  obtain ⟨x, hx⟩ : ∃ x, raws[k]? = some x := ⟨_, List.getElem?_eq_getElem (by rw [hnr]; exact (List.getElem?_eq_some_iff.1 hk).1)⟩
  have hrd := hf k x d hx hk
  obtain ⟨gg, oo, cap', hv, _, hgl, _, hcs⟩ := (hl.gr G0.out).get eR_len hx
  injection hv with hv1 hv2 hv3
  subst hv1
  clear hv2 hv3
  have c4 := hcs 4 _ rfl
  rw [hrd.cl, hcl] at c4
  have hkn : k < n := by rw [hnn]; exact (List.getElem?_eq_some_iff.1 hk).1
  have hd : decide (1 ≤ ((k + 1 : Nat) : Int) ∧ ((k + 1 : Nat) : Int) ≤ (n : Int)) = true := decide_eq_true (by omega)
  have HI := hid ris_any
  have e0 : (((k + 1 : Nat) : Int) == 0) = false := by simp; omega
  have hw1 : wrap64 (((k + 1 : Nat) : Int) - 1) = (k : Int) := by unfold wrap64; omega
  have k0 : (0 : Int) ≤ (k : Int) := by omega
  have k1 : (k : Int) < (n : Int) := by omega
  obtain ⟨ch, hch⟩ : ∃ ch : Int, ch = ((k + 1 : Nat) : Int) := ⟨_, rfl⟩
  rw [← hch] at hd e0 hw1 ⊢
  clear hl hnr hf hx hrd hgl hcs hnn hk hch hcl
  go_enter Try.func26, Try.ntmps26
  go_wp2_with (first
    | (go_at_call 50; refine (HI.out _ _ _ _ _).mono ?_; rw [hd]; rintro e w9 ⟨rfl, hw⟩; have hw := hw.symm; subst hw)
    | (refine st_row rfl 60 (.tmp 5) (.tmp 27) rfl w.heap.size _ rfl rfl _ _ X0.out mov_size rfl (one_m _ _ _ _ _ _ _) ?_; intro w9 b9 k9; have B9 := hid b9; have K9 := hid k9; clear b9 k9))
  exact bodyPost_ret (results_tc rfl _ _ _ _ rfl (run_loadVar_row _ _ _ _ _ _ _ B9.out Try.underlying60 rfl mov_size)) rfl ⟨rfl, Ch.trans G0.out K9.out (fun q e => .inr (by have e1 : q = w.heap.size := e; omega))⟩
set_option maxHeartbeats 8000000 in
set_option maxRecDepth 40000 in
theorem rclose_yes (P : Nat → Prop) (w : World) (ao : Option Addr) (n cap : Nat) (cs : List Cn) (k : Nat) (d : Cn) (h : Rds P w (.slice ao n cap) cs) (hb : Bd cs) (hn : cs.length ≤ 1024) (hnn : n = cs.length) (hk : cs[k]? = some d) (hcl : d.cl = false) (htot : d.ss.length + d.rs.length ≤ 2932031007402) : Calls Try.prog 26 #[.slice ao n cap, .int .i64 ((k + 1 : Nat) : Int)] w (ClK w (cwC cs k d) (cwK cs k d)) := by
  have G0 := hid (show Gr w (w.alloc (.cells #[.bool false, .int .i64 0, .bool false, .int .i64 0, .slice none 0 0] 60)) from Ch.alloc (Gr.refl w) _)
  have X0 := hid (show (w.alloc (.cells #[.bool false, .int .i64 0, .bool false, .int .i64 0, .slice none 0 0] 60)).heap[w.heap.size]? = some (.cells #[.bool false, .int .i64 0, .bool false, .int .i64 0, .slice none 0 0] 60 (0, 0)) from (MapKept.heap_alloc w _).1)
  have HCP := hid (copy_any P _ _ cs (h.gr G0.out) hb)
  have HBD := hid hb
  have HNB2 := hid (show (sh2 cs k d).length ≤ 1024 from by unfold sh2; rw [List.length_set]; exact hn)
  have HNB3 := hid (show (lvl (cw1 cs k d) (sh2 cs k d)).length ≤ 1024 from by rw [lvl_len]; unfold sh2; rw [List.length_set]; exact hn)
  have HNL := hid (show n = (sh2 cs k d).length from by unfold sh2; rw [List.length_set]; exact hnn)
  have HTOT := hid htot
  have HCK := hid hk
  have HNN := hid hnn
  obtain ⟨raws, hl, hnr, hf⟩ := h
  obtain ⟨x, hx⟩ : ∃ x, raws[k]? = some x := ⟨_, List.getElem?_eq_getElem (by rw [hnr]; exact (List.getElem?_eq_some_iff.1 hk).1)⟩
  have hrd := hf k x d hx hk
  obtain ⟨gg, oo, cap', hv, _, hgl, _, hcs⟩ := (hl.gr G0.out).get eR_len hx
  injection hv with hv1 hv2 hv3
  subst hv1
  clear hv2 hv3
  have c4 := hcs 4 _ rfl
  rw [hrd.cl, hcl] at c4
  have hkn : k < n := by rw [hnn]; exact (List.getElem?_eq_some_iff.1 hk).1
  have hd : decide (1 ≤ ((k + 1 : Nat) : Int) ∧ ((k + 1 : Nat) : Int) ≤ (n : Int)) = true := decide_eq_true (by omega)
  have HI := hid ris_any
  have e0 : (((k + 1 : Nat) : Int) == 0) = false := by simp; omega
  have hw1 : wrap64 (((k + 1 : Nat) : Int) - 1) = (k : Int) := by unfold wrap64; omega
  have k0 : (0 : Int) ≤ (k : Int) := by omega
  have k1 : (k : Int) < (n : Int) := by omega
  obtain ⟨ch, hch⟩ : ∃ ch : Int, ch = ((k + 1 : Nat) : Int) := ⟨_, rfl⟩
  rw [← hch] at hd e0 hw1 ⊢
  clear hl hnr hf hx hrd hgl hcs hb hn hnn hk hch htot hcl
  go_enter Try.func26, Try.ntmps26
  go_upto_region 8 with (first
    | (go_at_call 50; refine (HI.out _ _ _ _ _).mono ?_; rw [hd]; rintro e w9 ⟨rfl, hw⟩; have hw := hw.symm; subst hw)
    | (go_at_call 4; refine HCP.out.mono ?_; rintro e w2 ⟨v2, t2, xs2, rfl, nl2, g2⟩; have G2 := hid (Gr.trans G0.out g2); have X2 := hid (gr_blk X0.out g2); have NL2 := hid nl2; clear nl2 g2))
  obtain ⟨y2, hy2⟩ : ∃ y, xs2[k]? = some y := ⟨_, List.getElem?_eq_getElem (by rw [NL2.out.n, ← HNN.out]; exact hkn)⟩
  obtain ⟨gO, ca, ev, lgO, tgO, q4, f4, nl3⟩ := NL2.out.setc hy2 HCK.out true
  rw [NL2.out.n, ← HNN.out] at ev
  subst ev
  have NX3 := hid (show Nx (w.heap.size + 1) (w2.setCell ⟨gO, k * 5 + 4, none⟩ (.bool true)) (.slice (some ⟨gO, 0, none⟩) n ca) (sh2 cs k d) from (show Nx _ _ _ _ from ⟨t2, _, nl3⟩).lower (by simp))
  have LGO := hid (show w.heap.size + 1 ≤ gO from by have := (NL2.out.o.blk (q := gO) rfl).1; simpa using this)
  clear nl3 c4
  go_upto_region 9 with fail
  have K3 : Ch (Only gO) w2 (w2.setCell ⟨gO, k * 5 + 4, none⟩ (.bool true)) := (Ch.refl _ _).own _ _
  have X3 := hid ((K3.block _ (lt_of_block X2.out) (fun e => by have e1 : w.heap.size = gO := e; have := LGO.out; omega)).trans X2.out)
  have G3 := hid (show Gr w (w2.setCell ⟨gO, k * 5 + 4, none⟩ (.bool true)) from Ch.trans G2.out K3 (fun q e => .inr (by have e1 : q = gO := e; have := LGO.out; omega)))
  clear K3 q4 f4 lgO hy2 NL2 G2 X2
  generalize w2.setCell ⟨gO, k * 5 + 4, none⟩ (.bool true) = w3 at NX3 X3 G3 ⊢
  have M4 := hid (MapKept.heap_alloc w3 (.cells #[.bool false, .int .i64 0, .bool false, .int .i64 0, .slice none 0 0] 60)).1
  have GA := hid (show Gr w3 (w3.alloc (.cells #[.bool false, .int .i64 0, .bool false, .int .i64 0, .slice none 0 0] 60)) from Ch.alloc (Gr.refl w3) _)
  have HWM := hid (show w.heap.size + 1 ≤ w3.heap.size from lt_of_block X3.out)
  have NX4 := hid (NX3.out.gr GA.out)
  have X4 := hid (gr_blk X3.out GA.out)
  have G4 := hid (Gr.trans G3.out GA.out)
  have HF0 := hid (show (sh2 cs k d)[k]? = some ⟨d.cap, d.vs, d.ss, d.rs, true⟩ from by unfold sh2; simp [(List.getElem?_eq_some_iff.1 HCK.out).1])
  go_wp2_with fail
  try simp only [hw1]
  generalize w3.heap.size = MB at M4 HWM ⊢
  go_loopg [6] d.rs.length (fun q v6 wr => ∃ (done : List Wt) (f : Cn) (gP cP : Nat) (mo : Option Addr) (mn mc : Nat), v6 = .slice (some ⟨gP, 0, none⟩) n cP ∧ Nx (w.heap.size + 1) wr (.slice (some ⟨gP, 0, none⟩) n cP) (lvl done (sh2 cs k d)) ∧ (lvl done (sh2 cs k d))[k]? = some f ∧ done ++ wkF (lvl done (sh2 cs k d)) f.rs = cw1 cs k d ∧ f.rs.length ≤ q ∧ wr.heap[MB]? = some (.cells #[.bool false, .int .i64 0, .bool false, .int .i64 0, .slice mo mn mc] 60 (0, 0)) ∧ Ow eK 6 95 (MB + 1) wr (.slice mo mn mc) (done.map (toK 0)) ∧ Gr w wr ∧ wr.heap[w.heap.size]? = some (.cells #[.bool false, .int .i64 0, .bool false, .int .i64 0, .slice none 0 0] 60 (0, 0)))
  case atStart => exact ⟨[], _, gO, ca, none, 0, 0, rfl, NX4.out, HF0.out, rfl, Nat.le_refl _, M4.out, Ow.nil _ _ _ _ _, G4.out, X4.out⟩
  case round =>
    clear NX4 X4 G4 M4 HF0 NX3 X3 G3 GA
    obtain ⟨done, f, gP, cP, mo, mn, mc, rfl, hN, hf, hdn, hfl, hM, hO, hG, hX⟩ := hrel
    have RN := hid hN
    have RF := hid hf
    have RD := hid hdn
    have RM := hid hM
    have RO := hid hO
    have RG := hid hG
    have RX := hid hX
    clear hN hf hdn hM hO hG hX
    obtain ⟨y, na⟩ := RN.out.at RF.out
    obtain ⟨ro, rk, er⟩ := na.r.form
    have c3 := na.c3
    rw [er] at c3
    cases hrs : f.rs with
    | cons x rr =>
      obtain ⟨x0, x1, x2, x3⟩ := x
      rw [hrs] at er c3
      obtain ⟨gr, rc, e9, -, hgr, -, hcs, -, -⟩ := na.r.get eW_len (i := 0) (by rw [hrs]; rfl)
      rw [er] at e9
      injection e9 with e9 e10 e11
      subst e9
      clear e10 e11
      have d0 := hcs 0 _ rfl
      have d1 := hcs 1 _ rfl
      have d2 := hcs 2 _ rfl
      have d3 := hcs 3 _ rfl
      simp only [Nat.zero_mul, Nat.zero_add] at d0 d1 d2 d3
      have HPO := hid (show 0 < pls (lvl done (sh2 cs k d)) x0 x1 from pls_pos RF.out (pl_pos_rs (x := ⟨x0, x1, x2, x3⟩) (by rw [hrs]; exact List.mem_cons_self)))
      have HRS := hid hrs
      have HFL := hid (show rr.length + 1 ≤ gk from by rw [hrs] at hfl; exact hfl)
      have rq : 0 < ((Wt.mk x0 x1 x2 x3) :: rr).length := by simp
      have rp : (0 : Int) < ((((Wt.mk x0 x1 x2 x3) :: rr).length : Nat) : Int) := by simp only [List.length_cons]; omega
      generalize ((Wt.mk x0 x1 x2 x3) :: rr).length = rn at c3 rq rp
      obtain ⟨W5, hW5⟩ : ∃ W, W = wr.alloc (.cells #[.int .i64 x0, .int .i64 x1, .int .i64 x2, .int .i64 x3] 65) := ⟨_, rfl⟩
      have G5 := hid (show Gr wr W5 from by rw [hW5]; exact Ch.alloc (Gr.refl wr) _)
      have R5 := hid (show W5.heap[wr.heap.size]? = some (.cells #[.int .i64 x0, .int .i64 x1, .int .i64 x2, .int .i64 x3] 65 (0, 0)) from by rw [hW5]; exact (MapKept.heap_alloc wr _).1)
      have HLV := hid (rleave_any _ W5 _ (lvl done (sh2 cs k d)) x0 x1 (RN.out.gr G5.out).rds ((HBD.out.sh2 (hc := HCK.out)).lvl done) (by rw [lvl_len]; exact HNB2.out))
      rw [hW5] at HLV
      have HKL := hid RO.out.len.1
      clear hcs hgr na er hrs hfl
      go_upto_region 13 with (go_at_call 31; refine HLV.out.mono ?_; rintro e w6 ⟨v6, rfl, nx6, g6⟩; rw [← hW5] at nx6 g6; have NX6 := hid nx6; have G6 := hid g6; clear nx6 g6)
      clear hW5 c3 d0 d1 d2 d3 rq rp
      obtain ⟨gQ, cQ, rfl⟩ : ∃ gQ cQ, v6 = .slice (some ⟨gQ, 0, none⟩) n cQ := by
        obtain ⟨tt, xx, hnl⟩ := NX6.out
        obtain ⟨z, hz⟩ : ∃ z, xx[k]? = some z := ⟨_, List.getElem?_eq_getElem (by rw [hnl.n, lvs_len]; exact (List.getElem?_eq_some_iff.1 RF.out).1)⟩
        obtain ⟨g', c', e', _⟩ := hnl.o.get eR_len hz
        exact ⟨g', c', by rw [e', hnl.n, lvs_len, lvl_len]; rw [← HNL.out]⟩
      have G56 := hid (Gr.trans G5.out G6.out)
      have M6 := hid (gr_blk RM.out G56.out)
      have R6 := hid (gr_blk R5.out G6.out)
      have X6 := hid (gr_blk RX.out G56.out)
      have O6 := hid (RO.out.gr G56.out)
      have q4 := cell_of M6.out 4
      have z0 := cell_of R6.out 0
      have z1 := cell_of R6.out 1
      have z2 := cell_of R6.out 2
      have l6 := lt_of_block R6.out
      have l7 := lt_of_block M6.out
      simp at q4 z0 z1 z2
      have LW5 := hid (show wr.heap.size ≤ W5.heap.size from G5.out.size)
      have LMW := hid (lt_of_block RM.out)
      have LEN := hid (show mn + 1 ≤ 2932031007402 from by
        have h1 := RO.out.len.1
        have h2 := congrArg List.length RD.out
        have h3 := HTOT.out
        rw [HRS.out] at h2
        have h4 := wkF_len d.rs (sh2 cs k d)
        have h5 := wkF_len d.ss (lvl (cw1 cs k d) (sh2 cs k d))
        have h6 : 0 < (wkF (lvl done (sh2 cs k d)) (⟨x0, x1, x2, x3⟩ :: rr)).length := by unfold wkF; rw [if_pos HPO.out]; simp
        have e1 : cw1 cs k d = wkF (sh2 cs k d) d.rs := rfl
        have e2 : cw2 cs k d = wkF (lvl (cw1 cs k d) (sh2 cs k d)) d.ss := rfl
        rw [← e1] at h4
        rw [← e2] at h5
        simp only [List.length_append, List.length_map] at h1 h2
        omega)
      go_wp2_with (at_builtin; refine wpList_append_ow eK_len rfl (.tmp 60) (.tmp 66) _ 95 48 _ Try.underlying58 wok_info rfl (by omega) rfl (MB + 1) _ (done.map (toK 0)) rfl (O6.out.alloc _) _ _ [(Wk.mk x0 x1 x2 0 false 0)] rfl (Ls.single w6 (Wk.mk x0 x1 x2 0 false 0) 95 #[.int .i64 x0, .int .i64 x1, .int .i64 x2, .int .i64 0, .bool false, .int .i64 0] rfl) (eK_one _) (mn + 1) (by rw [← HKL.out]; rfl) (by have := LEN.out; omega) (by unfold maxLen; have := LEN.out; omega) (by have h1 := lt_of_block (al_blk M6.out (.cells #[.int .i64 x0, .int .i64 x1, .int .i64 x2, .int .i64 0, .bool false, .int .i64 0] 95)); omega) ((done.map (toK 0)) ++ [(Wk.mk x0 x1 x2 0 false 0)]) rfl ?_; intro ao7 cap7 w7 ow7 cw7 bl7; have O7 := hid ow7; have C7 := hid cw7; clear ow7 cw7 bl7; have B7 := hid ((C7.out.block _ (lt_of_block (al_blk M6.out (.cells #[.int .i64 x0, .int .i64 x1, .int .i64 x2, .int .i64 0, .bool false, .int .i64 0] 95))) (fun hq => by have := (O6.out.blk hq).1; omega)).trans (al_blk M6.out (.cells #[.int .i64 x0, .int .i64 x1, .int .i64 x2, .int .i64 0, .bool false, .int .i64 0] 95))); have q7 := cell_of B7.out 4; have f7 := frozen_of B7.out 4; have l8 := lt_of_block B7.out; simp at q7)
      have KS : Ch (Only MB) w7 (w7.setCell ⟨MB, 4, none⟩ (.slice ao7 (mn + 1) cap7)) := (Ch.refl _ _).own _ _
      have GA := (show Gr w6 (w6.alloc (.cells #[.int .i64 x0, .int .i64 x1, .int .i64 x2, .int .i64 0, .bool false, .int .i64 0] 95)) from Ch.alloc (Gr.refl w6) _)
      have NF := hid (show Nx (w.heap.size + 1) (w7.setCell ⟨MB, 4, none⟩ (.slice ao7 (mn + 1) cap7)) (.slice (some ⟨gQ, 0, none⟩) n cQ) (lvs (lvl done (sh2 cs k d)) x0 x1) from
        (((NX6.out.gr GA).ch C7.out (fun q hq => by have := (RO.out.blk hq).2; have := LW5.out; omega)).ch KS (fun q e => by have e1 : q = MB := e; have := LMW.out; have := LW5.out; omega)).lower (by have := lt_of_block RX.out; have := LW5.out; omega))
      have MF := hid (show (w7.setCell ⟨MB, 4, none⟩ (.slice ao7 (mn + 1) cap7)).heap[MB]? = some (.cells #[.bool false, .int .i64 0, .bool false, .int .i64 0, .slice ao7 (mn + 1) cap7] 60 (0, 0)) from by simpa using setCell_block B7.out 4 (.slice ao7 (mn + 1) cap7))
      have OF := hid (O7.out.ch KS (fun q hq e => by have e1 : q = MB := e; have := (O7.out.blk hq).1; omega))
      have GF := hid (show Gr w (w7.setCell ⟨MB, 4, none⟩ (.slice ao7 (mn + 1) cap7)) from Ch.trans (Ch.trans (show Ch NoB w (w6.alloc (.cells #[.int .i64 x0, .int .i64 x1, .int .i64 x2, .int .i64 0, .bool false, .int .i64 0] 95)) from Gr.trans (Gr.trans RG.out G56.out) GA) C7.out (fun q hq => .inr (by have := (O6.out.blk hq).1; have := HWM.out; omega))) KS (fun q e => .inr (by have e1 : q = MB := e; have := HWM.out; omega)))
      have XF := hid (show (w7.setCell ⟨MB, 4, none⟩ (.slice ao7 (mn + 1) cap7)).heap[w.heap.size]? = some (.cells #[.bool false, .int .i64 0, .bool false, .int .i64 0, .slice none 0 0] 60 (0, 0)) from (KS.block _ (Nat.lt_of_lt_of_le (lt_of_block (gr_blk X6.out GA)) C7.out.size) (fun e => by have e1 : w.heap.size = MB := e; have := HWM.out; omega)).trans ((C7.out.block _ (lt_of_block (gr_blk X6.out GA)) (fun hq => by have := (O6.out.blk hq).1; have := HWM.out; omega)).trans (gr_blk X6.out GA)))
      clear KS GA q4 z0 z1 z2 l6 l7 q7 f7 l8
      go_roundg (gk - 1)
      case measure => have := HFL.out; omega
      case rel =>
        have ez : lvl (done ++ [⟨x0, x1, x2, x3⟩]) (sh2 cs k d) = lvs (lvl done (sh2 cs k d)) x0 x1 := lvl_snoc _ _ _
        have ew : (f.wo x0 x1).rs = wo rr x0 x1 := by show wo f.rs x0 x1 = _; rw [HRS.out]; exact wo_cons_self _ _
        refine ⟨done ++ [⟨x0, x1, x2, x3⟩], f.wo x0 x1, gQ, cQ, ao7, mn + 1, cap7, ?_, ?_, ?_, ?_, ?_, MF.out, ?_, GF.out, XF.out⟩
        · with_reducible rfl
        · rw [ez]; exact NF.out
        · rw [ez]; exact lvs_get RF.out _ _
        · rw [ez, ew, ← wkF_wo rr _ x0 x1 (pls_lvs _ _ _), List.append_assoc, ← RD.out, HRS.out, wkF, if_pos HPO.out]
          rfl
        · rw [ew]
          have h1 := wo_le rr x0 x1
          have h2 := HFL.out
          omega
        · rw [List.map_append]
          exact OF.out
    | nil =>
      rw [hrs] at er c3
      simp only [List.length_nil] at c3
      have HDN := hid (show done = cw1 cs k d from by have := RD.out; rw [hrs] at this; simpa [wkF] using this)
      clear er hrs hfl na
      have HF2 := hid (show ∃ f2, (lvl (cw1 cs k d) (sh2 cs k d))[k]? = some f2 ∧ wkF (lvl (cw1 cs k d) (sh2 cs k d)) f2.ss = cw2 cs k d ∧ f2.ss.length ≤ d.ss.length from by
        obtain ⟨f2, h1, h2, h3, h4, h5, h6⟩ := lvl_get (cw1 cs k d) (sh2 cs k d) k ⟨d.cap, d.vs, d.ss, d.rs, true⟩ (by unfold sh2; simp [(List.getElem?_eq_some_iff.1 HCK.out).1])
        refine ⟨f2, h1, ?_, h5.length_le⟩
        exact lvl_wk (cw1 cs k d) (sh2 cs k d) k ⟨d.cap, d.vs, d.ss, d.rs, true⟩ f2 (by unfold sh2; simp [(List.getElem?_eq_some_iff.1 HCK.out).1]) h1 _ (fun x hx => by
          have q1 := wkF_sub d.rs (sh2 cs k d) x hx
          exact wkF_all d.rs (sh2 cs k d) x q1))
      have RN2 := hid (show Nx (w.heap.size + 1) wr (.slice (some ⟨gP, 0, none⟩) n cP) (lvl (cw1 cs k d) (sh2 cs k d)) from by have := RN.out; rwa [HDN.out] at this)
      have RO2 := hid (show Ow eK 6 95 (MB + 1) wr (.slice mo mn mc) ((cw1 cs k d).map (toK 0) ++ ([] : List Wt).map (toK 6)) from by have := RO.out; rw [HDN.out] at this; simpa using this)
      go_wp2_with fail
      try simp only [hw1]
      clear c3
      obtain ⟨f2, hf2, hw2, hl2⟩ := HF2.out
      go_loopg [6] d.ss.length (fun q v6 wr => ∃ (done : List Wt) (f : Cn) (gP cP : Nat) (mo : Option Addr) (mn mc : Nat), v6 = .slice (some ⟨gP, 0, none⟩) n cP ∧ Nx (w.heap.size + 1) wr (.slice (some ⟨gP, 0, none⟩) n cP) (lvl done (lvl (cw1 cs k d) (sh2 cs k d))) ∧ (lvl done (lvl (cw1 cs k d) (sh2 cs k d)))[k]? = some f ∧ done ++ wkF (lvl done (lvl (cw1 cs k d) (sh2 cs k d))) f.ss = cw2 cs k d ∧ f.ss.length ≤ q ∧ wr.heap[MB]? = some (.cells #[.bool false, .int .i64 0, .bool false, .int .i64 0, .slice mo mn mc] 60 (0, 0)) ∧ Ow eK 6 95 (MB + 1) wr (.slice mo mn mc) ((cw1 cs k d).map (toK 0) ++ done.map (toK 6)) ∧ Gr w wr ∧ wr.heap[w.heap.size]? = some (.cells #[.bool false, .int .i64 0, .bool false, .int .i64 0, .slice none 0 0] 60 (0, 0)))
      case atStart => exact ⟨[], f2, gP, cP, mo, mn, mc, rfl, RN2.out, hf2, hw2, hl2, RM.out, RO2.out, RG.out, RX.out⟩
      case round =>
        clear RN2 RO2 RN RF RD RM RO RG RX HF2 hf2 hw2 hl2 HDN
        obtain ⟨done, f, gP, cP, mo, mn, mc, rfl, hN, hf, hdn, hfl, hM, hO, hG, hX⟩ := hrel
        have RN := hid hN
        have RF := hid hf
        have RD := hid hdn
        have RM := hid hM
        have RO := hid hO
        have RG := hid hG
        have RX := hid hX
        clear hN hf hdn hM hO hG hX
        obtain ⟨y, na⟩ := RN.out.at RF.out
        obtain ⟨ro, rk, er⟩ := na.s.form
        have c3 := na.c2
        rw [er] at c3
        cases hrs : f.ss with
        | cons x rr =>
          obtain ⟨x0, x1, x2, x3⟩ := x
          rw [hrs] at er c3
          obtain ⟨gr, rc, e9, -, hgr, -, hcs, -, -⟩ := na.s.get eW_len (i := 0) (by rw [hrs]; rfl)
          rw [er] at e9
          injection e9 with e9 e10 e11
          subst e9
          clear e10 e11
          have d0 := hcs 0 _ rfl
          have d1 := hcs 1 _ rfl
          have d2 := hcs 2 _ rfl
          have d3 := hcs 3 _ rfl
          simp only [Nat.zero_mul, Nat.zero_add] at d0 d1 d2 d3
          have HPO := hid (show 0 < pls (lvl done (lvl (cw1 cs k d) (sh2 cs k d))) x0 x1 from pls_pos RF.out (pl_pos_ss (x := ⟨x0, x1, x2, x3⟩) (by rw [hrs]; exact List.mem_cons_self)))
          have HRS := hid hrs
          have HFL := hid (show rr.length + 1 ≤ gk from by rw [hrs] at hfl; exact hfl)
          have rq : 0 < ((Wt.mk x0 x1 x2 x3) :: rr).length := by simp
          have rp : (0 : Int) < ((((Wt.mk x0 x1 x2 x3) :: rr).length : Nat) : Int) := by simp only [List.length_cons]; omega
          generalize ((Wt.mk x0 x1 x2 x3) :: rr).length = rn at c3 rq rp
          obtain ⟨W5, hW5⟩ : ∃ W, W = wr.alloc (.cells #[.int .i64 x0, .int .i64 x1, .int .i64 x2, .int .i64 x3] 65) := ⟨_, rfl⟩
          have G5 := hid (show Gr wr W5 from by rw [hW5]; exact Ch.alloc (Gr.refl wr) _)
          have R5 := hid (show W5.heap[wr.heap.size]? = some (.cells #[.int .i64 x0, .int .i64 x1, .int .i64 x2, .int .i64 x3] 65 (0, 0)) from by rw [hW5]; exact (MapKept.heap_alloc wr _).1)
          have HLV := hid (rleave_any _ W5 _ (lvl done (lvl (cw1 cs k d) (sh2 cs k d))) x0 x1 (RN.out.gr G5.out).rds (((HBD.out.sh2 (hc := HCK.out)).lvl _).lvl done) (by rw [lvl_len]; exact HNB3.out))
          rw [hW5] at HLV
          have HKL := hid RO.out.len.1
          clear hcs hgr na er hrs hfl
          go_upto_region 17 with (go_at_call 31; refine HLV.out.mono ?_; rintro e w6 ⟨v6, rfl, nx6, g6⟩; rw [← hW5] at nx6 g6; have NX6 := hid nx6; have G6 := hid g6; clear nx6 g6)
          clear hW5 c3 d0 d1 d2 d3 rq rp
          obtain ⟨gQ, cQ, rfl⟩ : ∃ gQ cQ, v6 = .slice (some ⟨gQ, 0, none⟩) n cQ := by
            obtain ⟨tt, xx, hnl⟩ := NX6.out
            obtain ⟨z, hz⟩ : ∃ z, xx[k]? = some z := ⟨_, List.getElem?_eq_getElem (by rw [hnl.n, lvs_len]; exact (List.getElem?_eq_some_iff.1 RF.out).1)⟩
            obtain ⟨g', c', e', _⟩ := hnl.o.get eR_len hz
            exact ⟨g', c', by rw [e', hnl.n, lvs_len, lvl_len]; rw [lvl_len, ← HNL.out]⟩
          have G56 := hid (Gr.trans G5.out G6.out)
          have M6 := hid (gr_blk RM.out G56.out)
          have R6 := hid (gr_blk R5.out G6.out)
          have X6 := hid (gr_blk RX.out G56.out)
          have O6 := hid (RO.out.gr G56.out)
          have q4 := cell_of M6.out 4
          have z0 := cell_of R6.out 0
          have z1 := cell_of R6.out 1
          have z2 := cell_of R6.out 2
          have l6 := lt_of_block R6.out
          have l7 := lt_of_block M6.out
          simp at q4 z0 z1 z2
          have LW5 := hid (show wr.heap.size ≤ W5.heap.size from G5.out.size)
          have LMW := hid (lt_of_block RM.out)
          have LEN := hid (show mn + 1 ≤ 2932031007402 from by
            have h1 := RO.out.len.1
            have h2 := congrArg List.length RD.out
            have h3 := HTOT.out
            rw [HRS.out] at h2
            have h4 := wkF_len d.rs (sh2 cs k d)
            have h5 := wkF_len d.ss (lvl (cw1 cs k d) (sh2 cs k d))
            have h6 : 0 < (wkF (lvl done (lvl (cw1 cs k d) (sh2 cs k d))) (⟨x0, x1, x2, x3⟩ :: rr)).length := by unfold wkF; rw [if_pos HPO.out]; simp
            have e1 : cw1 cs k d = wkF (sh2 cs k d) d.rs := rfl
            have e2 : cw2 cs k d = wkF (lvl (cw1 cs k d) (sh2 cs k d)) d.ss := rfl
            rw [← e1] at h4
            rw [← e2] at h5
            simp only [List.length_append, List.length_map] at h1 h2
            omega)
          go_wp2_with (at_builtin; refine wpList_append_ow eK_len rfl (.tmp 93) (.tmp 99) _ 95 48 _ Try.underlying58 wok_info rfl (by omega) rfl (MB + 1) _ ((cw1 cs k d).map (toK 0) ++ done.map (toK 6)) rfl (O6.out.alloc _) _ _ [(Wk.mk x0 x1 x2 0 false 6)] rfl (Ls.single w6 (Wk.mk x0 x1 x2 0 false 6) 95 #[.int .i64 x0, .int .i64 x1, .int .i64 x2, .int .i64 0, .bool false, .int .i64 6] rfl) (eK_one _) (mn + 1) (by rw [← HKL.out]; rfl) (by have := LEN.out; omega) (by unfold maxLen; have := LEN.out; omega) (by have h1 := lt_of_block (al_blk M6.out (.cells #[.int .i64 x0, .int .i64 x1, .int .i64 x2, .int .i64 0, .bool false, .int .i64 6] 95)); omega) (((cw1 cs k d).map (toK 0) ++ done.map (toK 6)) ++ [(Wk.mk x0 x1 x2 0 false 6)]) rfl ?_; intro ao7 cap7 w7 ow7 cw7 bl7; have O7 := hid ow7; have C7 := hid cw7; clear ow7 cw7 bl7; have B7 := hid ((C7.out.block _ (lt_of_block (al_blk M6.out (.cells #[.int .i64 x0, .int .i64 x1, .int .i64 x2, .int .i64 0, .bool false, .int .i64 6] 95))) (fun hq => by have := (O6.out.blk hq).1; omega)).trans (al_blk M6.out (.cells #[.int .i64 x0, .int .i64 x1, .int .i64 x2, .int .i64 0, .bool false, .int .i64 6] 95))); have q7 := cell_of B7.out 4; have f7 := frozen_of B7.out 4; have l8 := lt_of_block B7.out; simp at q7)
          have KS : Ch (Only MB) w7 (w7.setCell ⟨MB, 4, none⟩ (.slice ao7 (mn + 1) cap7)) := (Ch.refl _ _).own _ _
          have GA := (show Gr w6 (w6.alloc (.cells #[.int .i64 x0, .int .i64 x1, .int .i64 x2, .int .i64 0, .bool false, .int .i64 6] 95)) from Ch.alloc (Gr.refl w6) _)
          have NF := hid (show Nx (w.heap.size + 1) (w7.setCell ⟨MB, 4, none⟩ (.slice ao7 (mn + 1) cap7)) (.slice (some ⟨gQ, 0, none⟩) n cQ) (lvs (lvl done (lvl (cw1 cs k d) (sh2 cs k d))) x0 x1) from
            (((NX6.out.gr GA).ch C7.out (fun q hq => by have := (RO.out.blk hq).2; have := LW5.out; omega)).ch KS (fun q e => by have e1 : q = MB := e; have := LMW.out; have := LW5.out; omega)).lower (by have := lt_of_block RX.out; have := LW5.out; omega))
          have MF := hid (show (w7.setCell ⟨MB, 4, none⟩ (.slice ao7 (mn + 1) cap7)).heap[MB]? = some (.cells #[.bool false, .int .i64 0, .bool false, .int .i64 0, .slice ao7 (mn + 1) cap7] 60 (0, 0)) from by simpa using setCell_block B7.out 4 (.slice ao7 (mn + 1) cap7))
          have OF := hid (O7.out.ch KS (fun q hq e => by have e1 : q = MB := e; have := (O7.out.blk hq).1; omega))
          have GF := hid (show Gr w (w7.setCell ⟨MB, 4, none⟩ (.slice ao7 (mn + 1) cap7)) from Ch.trans (Ch.trans (show Ch NoB w (w6.alloc (.cells #[.int .i64 x0, .int .i64 x1, .int .i64 x2, .int .i64 0, .bool false, .int .i64 6] 95)) from Gr.trans (Gr.trans RG.out G56.out) GA) C7.out (fun q hq => .inr (by have := (O6.out.blk hq).1; have := HWM.out; omega))) KS (fun q e => .inr (by have e1 : q = MB := e; have := HWM.out; omega)))
          have XF := hid (show (w7.setCell ⟨MB, 4, none⟩ (.slice ao7 (mn + 1) cap7)).heap[w.heap.size]? = some (.cells #[.bool false, .int .i64 0, .bool false, .int .i64 0, .slice none 0 0] 60 (0, 0)) from (KS.block _ (Nat.lt_of_lt_of_le (lt_of_block (gr_blk X6.out GA)) C7.out.size) (fun e => by have e1 : w.heap.size = MB := e; have := HWM.out; omega)).trans ((C7.out.block _ (lt_of_block (gr_blk X6.out GA)) (fun hq => by have := (O6.out.blk hq).1; have := HWM.out; omega)).trans (gr_blk X6.out GA)))
          clear KS GA q4 z0 z1 z2 l6 l7 q7 f7 l8
          go_roundg (gk - 1)
          case measure => have := HFL.out; omega
          case rel =>
            have ez : lvl (done ++ [⟨x0, x1, x2, x3⟩]) (lvl (cw1 cs k d) (sh2 cs k d)) = lvs (lvl done (lvl (cw1 cs k d) (sh2 cs k d))) x0 x1 := lvl_snoc _ _ _
            have ew : (f.wo x0 x1).ss = wo rr x0 x1 := by show wo f.ss x0 x1 = _; rw [HRS.out]; exact wo_cons_self _ _
            refine ⟨done ++ [⟨x0, x1, x2, x3⟩], f.wo x0 x1, gQ, cQ, ao7, mn + 1, cap7, ?_, ?_, ?_, ?_, ?_, MF.out, ?_, GF.out, XF.out⟩
            · with_reducible rfl
            · rw [ez]; exact NF.out
            · rw [ez]; exact lvs_get RF.out _ _
            · rw [ez, ew, ← wkF_wo rr _ x0 x1 (pls_lvs _ _ _), List.append_assoc, ← RD.out, HRS.out, wkF, if_pos HPO.out]
              rfl
            · rw [ew]
              have h1 := wo_le rr x0 x1
              have h2 := HFL.out
              omega
            · rw [List.map_append, ← List.append_assoc]
              exact OF.out
        | nil =>
          rw [hrs] at er c3
          simp only [List.length_nil] at c3
          have HDN := hid (show done = cw2 cs k d from by have := RD.out; rw [hrs] at this; simpa [wkF] using this)
          clear er hrs hfl na
          have NF := hid (show Nx (w.heap.size + 1) wr (.slice (some ⟨gP, 0, none⟩) n cP) (cwC cs k d) from by have := RN.out; rw [HDN.out, ← lvl_app] at this; exact this)
          have OF := hid (show Ow eK 6 95 (MB + 1) wr (.slice mo mn mc) (cwK cs k d) from by have := RO.out; rw [HDN.out] at this; exact this)
          go_upto_region 18 with fail
          clear c3
          have hS0 : Sm MB #[.bool false, .int .i64 0, .bool false, .int .i64 0, .slice mo mn mc] (World.drew wr) := ⟨RM.out⟩
          have XV := hid (gr_blk RX.out (Ch.drew (Gr.refl wr)))
          have NV := hid (NF.out.gr (Ch.drew (Gr.refl wr)))
          have GV := hid (Gr.trans RG.out (Ch.drew (Gr.refl wr)))
          have OKV := hid (OF.out.gr (Ch.drew (Gr.refl wr)))
          refine wp_region_held_drew (S := Sm MB #[.bool false, .int .i64 0, .bool false, .int .i64 0, .slice mo mn mc]) (by kernel_rfl) (by exact hS0) (fun _ => ?_)
          generalize World.drew wr = V0 at hS0 XV NV GV OKV ⊢
          refine takeS_on (i := 0) 102 (v := ?v1) rfl rfl (by kernel_rfl) (by kernel_rfl) (by kernel_rfl) (fun _ _ _ h => h) (by kernel_rfl) ?hy1 (by exact hS0) ?_
          case hy1 => (intro w' hSw; go_simp; try (with_reducible rfl))
          simp only [Act.put, List.setIfInBounds_toArray, List.set_cons_zero, List.set_cons_succ]
          refine takeS_on (i := 1) 103 (v := ?v2) rfl rfl (by kernel_rfl) (by kernel_rfl) (by kernel_rfl) (fun _ _ _ h => h) (by kernel_rfl) ?hy2 (by exact hS0) ?_
          case hy2 => (intro w' hSw; refine Eq.trans (exec_row 60 (.tmp 7) rfl _ rfl _ _ _ _ hSw.bx Try.underlying60 rfl mov_size) ?_; with_reducible rfl)
          simp only [Act.put, List.setIfInBounds_toArray, List.set_cons_zero, List.set_cons_succ]
          refine takeS_on (i := 2) 4 (v := ?v3) rfl rfl (by kernel_rfl) (by kernel_rfl) (by kernel_rfl) (fun _ _ _ h => h) (by kernel_rfl) ?hy3 (by exact hS0) ?_
          case hy3 => (intro w' hSw; go_simp; try (with_reducible rfl))
          simp only [Act.put, List.setIfInBounds_toArray, List.set_cons_zero, List.set_cons_succ]
          refine wpAnyH_ready (rs := [3]) (by kernel_rfl) (by simp) (AllReadyH.cons rfl (fun K hK => ?_) AllReadyH.nil)
          rw [if_pos (by kernel_rfl)]
          refine op_row 60 (.tmp 5) (.tmp 103) rfl w.heap.size _ rfl rfl _ _ XV.out mov_size rfl (one_m _ _ _ _ _ _ _) ?_
          intro u4 b9 k9
          have hS4 : Sm MB #[.bool false, .int .i64 0, .bool false, .int .i64 0, .slice mo mn mc] u4 := hS0.ch k9 (fun e => by have e1 : MB = w.heap.size := e; have := HWM.out; omega)
          have B9 := hid b9
          have K9 := hid k9
          clear b9 k9
          refine hK.out _ _ (by exact hS4) (fun _ => ?_)
          clear hK K
          refine wpAnyH_done (by kernel_rfl) ?_ _
          go_wp2_with fail
          refine bodyPost_ret (results_tc rfl _ _ _ _ rfl (run_loadVar_row _ _ _ _ _ _ _ B9.out Try.underlying60 rfl mov_size)) rfl ⟨_, _, _, _, rfl, (OKV.out.ch K9.out (fun q hq e => ?_)).lower (by have := HWM.out; omega), (NV.out.ch K9.out (fun q e => ?_)).lower (by omega), Ch.trans (show Ch NoB w V0 from GV.out) K9.out (fun q e => .inr (by have e1 : q = w.heap.size := e; omega))⟩
          · have e1 : q = w.heap.size := e
            have h1 := (OKV.out.blk hq).1
            have h2 := HWM.out
            omega
          · have e1 : q = w.heap.size := e
            omega
end Go.Proofs.Ytpkbgfneebjnjab.Lt
