/-
  What the document's New and Put answer. Condition: the lists have no more than 1048576 elements.
-/
import Derived.Test.YtnpbehcfbceclaaPdCopy
namespace Go.Proofs.Ytnpbehcfbceclaa.Lt
open Go.RowKit Wd
attribute [local go_sem ↓] Go.wp_at_zero Go.wp_at_succ
set_option maxRecDepth 20000

theorem rnew_no (q : Bool) (c : Int) (w : World) (h : capB q c = false) : Calls Try.prog 10 #[.bool q, .int .i64 c] w fun e w' => e = .returned (.tuple #[.agg #[.bool false, .int .i64 0, .slice none 0 0, .slice none 0 0, .int .i64 0], .int .i64 1]) ∧ Gr w w' := by
  unfold capB at h
  have B0 := hid (al_at (w := w) (.cells #[.bool false, .int .i64 0, .slice none 0 0, .slice none 0 0, .int .i64 0] 32) rfl)
  cases q
  · rw [if_neg Bool.false_ne_true] at h
    have h1 : ¬ (c = 1) := of_decide_eq_false h
    clear h
    go_enter Try.func10, Try.ntmps10
    by_cases h2 : c < 1
    · go_wp2_with fail
      exact bodyPost_ret (results_cell_tmp2 rfl _ _ w.heap.size _ rfl (run_loadVar_row _ _ _ _ _ _ _ B0.out Try.underlying32 rfl pst_size)) rfl ⟨rfl, Ch.alloc (Gr.refl w) _⟩
    · have h3 : 1 < c := by omega
      by_cases h4 : 1024 < c
      · go_wp2_with fail
        exact bodyPost_ret (results_cell_tmp2 rfl _ _ w.heap.size _ rfl (run_loadVar_row _ _ _ _ _ _ _ B0.out Try.underlying32 rfl pst_size)) rfl ⟨rfl, Ch.alloc (Gr.refl w) _⟩
      · go_wp2_with fail
        exact bodyPost_ret (results_cell_tmp2 rfl _ _ w.heap.size _ rfl (run_loadVar_row _ _ _ _ _ _ _ B0.out Try.underlying32 rfl pst_size)) rfl ⟨rfl, Ch.alloc (Gr.refl w) _⟩
  · rw [if_pos rfl] at h
    go_enter Try.func10, Try.ntmps10
    by_cases h2 : c < 1
    · clear h
      go_wp2_with fail
      exact bodyPost_ret (results_cell_tmp2 rfl _ _ w.heap.size _ rfl (run_loadVar_row _ _ _ _ _ _ _ B0.out Try.underlying32 rfl pst_size)) rfl ⟨rfl, Ch.alloc (Gr.refl w) _⟩
    · have h4 : 1024 < c := by
        rw [decide_eq_true (show 1 ≤ c by omega), Bool.true_and] at h
        have := of_decide_eq_false h
        omega
      clear h
      go_wp2_with fail
      exact bodyPost_ret (results_cell_tmp2 rfl _ _ w.heap.size _ rfl (run_loadVar_row _ _ _ _ _ _ _ B0.out Try.underlying32 rfl pst_size)) rfl ⟨rfl, Ch.alloc (Gr.refl w) _⟩
theorem rnew_yes (q : Bool) (n : Nat) (w : World) (h : capB q (n : Int) = true) : Calls Try.prog 10 #[.bool q, .int .i64 (n : Int)] w fun e w' => e = .returned (.tuple #[.agg #[.bool q, .int .i64 (n : Int), .slice none 0 0, .slice none 0 0, .int .i64 0], .int .i64 0]) ∧ Gr w w' := by
  have B0 := hid (al_at (w := w) (.cells #[.bool q, .int .i64 (n : Int), .slice none 0 0, .slice none 0 0, .int .i64 0] 32) rfl)
  unfold capB at h
  have h1 : ¬ ((n : Int) < 1) := by
    cases q
    · rw [if_neg Bool.false_ne_true] at h
      have := of_decide_eq_true h
      omega
    · rw [if_pos rfl, Bool.and_eq_true] at h
      have := of_decide_eq_true h.1
      omega
  have h2 : ¬ (1024 < (n : Int)) := by
    cases q
    · rw [if_neg Bool.false_ne_true] at h
      have := of_decide_eq_true h
      omega
    · rw [if_pos rfl, Bool.and_eq_true] at h
      have := of_decide_eq_true h.2
      omega
  cases q
  · have h3 : ¬ (1 < (n : Int)) := by
      rw [if_neg Bool.false_ne_true] at h
      have := of_decide_eq_true h
      omega
    clear h
    go_enter Try.func10, Try.ntmps10
    go_wp2_with fail
    exact bodyPost_ret (results_cell_tmp2 rfl _ _ w.heap.size _ rfl (run_loadVar_row _ _ _ _ _ _ _ B0.out Try.underlying32 rfl pst_size)) rfl ⟨rfl, Ch.alloc (Gr.refl w) _⟩
  · clear h
    go_enter Try.func10, Try.ntmps10
    go_wp2_with fail
    exact bodyPost_ret (results_cell_tmp2 rfl _ _ w.heap.size _ rfl (run_loadVar_row _ _ _ _ _ _ _ B0.out Try.underlying32 rfl pst_size)) rfl ⟨rfl, Ch.alloc (Gr.refl w) _⟩
theorem single_at {w1 : World} {y : Array Value} (v : Int) : Ls eI (· = w1.heap.size + 1) ((w1.alloc (.cells y 32)).alloc (.cells #[.int .i64 v] 2)) (.slice (some ⟨w1.heap.size + 1, 0, none⟩) 1 1) [v] := by
  have h := Ls.single (enc := eI) (w1.alloc (.cells y 32)) v 2 #[.int .i64 v] rfl
  have e : (w1.alloc (.cells y 32)).heap.size = w1.heap.size + 1 := by simp
  rw [e] at h
  exact h
/-- what the document tells: a state whose lists are elder or new -/
def RdR (P Q : Nat → Prop) (w : World) (x : Pt) (v1 v2 : Value) (w' : World) : Prop := Ls eI (fun g => P g ∨ w.heap.size ≤ g) w' v1 x.out ∧ Ls eG (fun g => Q g ∨ w.heap.size ≤ g) w' v2 x.inn ∧ Gr w w'
set_option maxHeartbeats 16000000 in
theorem rput_any {P Q : Nat → Prop} (w : World) (x : Pt) (v : Int) (v1 v2 : Value) (h1 : Ls eI P w v1 x.out) (h2 : Ls eG Q w v2 x.inn) (hok : x.ok) :
    Calls Try.prog 25 #[stV x v1 v2, .int .i64 v] w fun e w' => ∃ u1 u2, e = .returned (.tuple #[stV (putP x v).1 u1 u2, .bool (putP x v).2]) ∧ RdR P Q w (putP x v).1 u1 u2 w' := by
  have H1 := hid h1
  have H2 := hid h2
  obtain ⟨q, cap, out, inn, lost⟩ := x
  have k1 : out.length ≤ cap := hok.o
  have k2 : inn.length ≤ cap := hok.i
  have k3 : cap ≤ 1024 := hok.c2
  have k4 : 1 ≤ cap := hok.c1
  obtain ⟨a1, c1, rfl⟩ := h1.form
  obtain ⟨a2, c2, rfl⟩ := h2.form
  unfold stV putP RdR
  dsimp only at H1 H2 ⊢
  clear h1 h2 hok
  obtain ⟨n1, hn1⟩ : ∃ n, n = out.length := ⟨_, rfl⟩
  obtain ⟨n2, hn2⟩ : ∃ n, n = inn.length := ⟨_, rfl⟩
  rw [← hn1] at H1 k1 ⊢
  rw [← hn2] at H2 k2 ⊢
  have HL1 := hid hn1
  have HL2 := hid hn2
  clear hn1 hn2
  cases q
  · rw [if_neg Bool.false_ne_true]
    dsimp only
    have HC := hid (copy_any ((w.alloc (.cells #[.bool false, .int .i64 (cap : Nat), .slice a1 n1 c1, .slice a2 n2 c2, .int .i64 (lost : Nat)] 32)).alloc (.cells #[.bool false, .int .i64 0, .slice none 0 0, .slice none 0 0, .int .i64 0] 32)) false cap lost a1 a2 n1 n2 c1 c2 out inn ((H1.out.alloc _).alloc _) ((H2.out.alloc _).alloc _) (by omega) (by omega))
    go_enter Try.func25, Try.ntmps25
    go_wp2_with (first
      | (go_at_call 16; refine HC.out.mono ?_; rintro e w1 ⟨v1, v2, rfl, o1, o2, g1⟩; obtain ⟨b1, d1, rfl⟩ := o1.form; obtain ⟨b2, d2, rfl⟩ := o2.form; rw [← HL1.out, ← HL2.out]
         have CZ1 := hid (Cz.at g1 #[.bool false, .int .i64 (cap : Nat), .slice none 0 0, .slice b2 n2 d2, .int .i64 (lost : Nat)]); have CV1 := hid (show Cv w1.heap.size #[.bool false, .int .i64 (cap : Nat), .slice none 0 0, .slice b2 n2 d2, .int .i64 (lost : Nat)] (w1.alloc (.cells #[.bool false, .int .i64 (cap : Nat), .slice none 0 0, .slice b2 n2 d2, .int .i64 (lost : Nat)] 32)) from al_at _ rfl)
         rw [← HL1.out] at o1; rw [← HL2.out] at o2
         have O1 := hid (o1.lower (show w.heap.size ≤ _ by simp; omega)); have O2 := hid (o2.lower (show w.heap.size ≤ _ by simp; omega))
         have s0 := cell_of (gr_blk (al_blk (al_at (w := w) (.cells #[.bool false, .int .i64 (cap : Nat), .slice a1 n1 c1, .slice a2 n2 c2, .int .i64 (lost : Nat)] 32) rfl) (.cells #[.bool false, .int .i64 0, .slice none 0 0, .slice none 0 0, .int .i64 0] 32)) g1) 0; simp at s0
         have sl := Nat.lt_of_lt_of_le (show w.heap.size < w.heap.size + 2 by omega) (show w.heap.size + 2 ≤ w1.heap.size by have := g1.size; simpa using this)
         clear o1 o2 g1)
      | (at_builtin; refine wpList_append_ow eI_len rfl (.tmp 25) (.tmp 27) 29 2 8 (.int .i64 0) Try.underlying29 i64_info rfl (by omega) rfl w.heap.size (.slice none 0 0) [] rfl (((Ow.nil _ _ _ _ _)).alloc _) _ _ [v] rfl (single_at v) (eI_one [v]) (0 + 1) (rfl) (by omega) (by unfold maxLen; omega) (by have := (CZ1.out.gr (Ch.alloc (Gr.refl _) (.cells #[.int .i64 v] 2))).g.size; exact this) ([] ++ [v]) rfl ?_
         intro a5 c5 w5 o5 k5 b5
         have OA := hid (show Ow eI 1 2 w.heap.size ((w1.alloc (.cells #[.bool false, .int .i64 (cap : Nat), .slice none 0 0, .slice b2 n2 d2, .int .i64 (lost : Nat)] 32)).alloc (.cells #[.int .i64 v] 2)) (.slice none 0 0) [] from ((Ow.nil _ _ _ _ _)).alloc _)
         have CZ2 := hid ((CZ1.out.gr (Ch.alloc (Gr.refl _) (.cells #[.int .i64 v] 2))).app OA.out (by decide) k5)
         have CV2 := hid ((Cv.gr CV1.out (Ch.alloc (Gr.refl _) (.cells #[.int .i64 v] 2))).app OA.out (by decide) k5)
         obtain ⟨t2, f2, l2⟩ := CV2.out.cell 2; simp at t2
         have OG := hid (show Ow eG 2 59 w.heap.size w5 (.slice b2 n2 d2) inn from ((O2.out.alloc _).alloc _).ch k5 (fun q e e' => ox_ne OA.out ((O2.out.alloc _).alloc _) e' e))
         have OB := hid o5
         clear o5 k5 b5)
      | (refine wpList_load_row rfl 32 (.tmp 6) rfl w1.heap.size rfl _ _ _ _ (CV2.out.st 2 (.slice a5 (0 + 1) c5)) Try.underlying32 rfl pst_size ?_)
      | (refine st_row rfl 32 (.tmp 4) (.tmp 30) rfl (w.heap.size + 1) #[.bool false, .int .i64 (cap : Nat), .slice a5 (0 + 1) c5, .slice b2 n2 d2, .int .i64 (lost : Nat)] rfl rfl _ _ (CZ2.out.st 2 (.slice a5 (0 + 1) c5)).r pst_size rfl (by simp [Value.oneCell']) ?_; intro w8 b8 k8; have B9 := hid b8; have K9 := hid k8; clear b8 k8))
    refine bodyPost_ret (results_cell_tmp2 rfl _ _ (w.heap.size + 1) _ rfl (run_loadVar_row _ _ _ _ _ _ _ B9.out Try.underlying32 rfl pst_size)) rfl ?_
    have CZ3 := CZ2.out.st 2 (.slice a5 (0 + 1) c5)
    have OB3 := OB.out.st (by decide) CV2.out 2 (.slice a5 (0 + 1) c5)
    have OG3 := OG.out.st (by decide) CV2.out 2 (.slice a5 (0 + 1) c5)
    refine ⟨_, _, rfl, (OB3.ch K9.out (fun q e e1 => not_blk OB3 (by decide) CZ3.r (by have e2 : q = w.heap.size + 1 := e1; rw [← e2]; exact e))).lst.mono (fun g _ e => .inr e), (OG3.ch K9.out (fun q e e1 => not_blk OG3 (by decide) CZ3.r (by have e2 : q = w.heap.size + 1 := e1; rw [← e2]; exact e))).lst.mono (fun g _ e => .inr e), Ch.trans CZ3.g K9.out (fun q e => .inr (by have e1 : q = w.heap.size + 1 := e; omega))⟩
  · rw [if_pos rfl]
    by_cases hf : n1 = cap
    · rw [if_pos hf]
      subst hf
      have BZ := hid (al_blk (al_at (w := w) (.cells #[.bool true, .int .i64 (n1 : Nat), .slice a1 n1 c1, .slice a2 n2 c2, .int .i64 (lost : Nat)] 32) rfl) (.cells #[.bool false, .int .i64 0, .slice none 0 0, .slice none 0 0, .int .i64 0] 32))
      have BR := hid (show ((w.alloc (.cells #[.bool true, .int .i64 (n1 : Nat), .slice a1 n1 c1, .slice a2 n2 c2, .int .i64 (lost : Nat)] 32)).alloc (.cells #[.bool false, .int .i64 0, .slice none 0 0, .slice none 0 0, .int .i64 0] 32)).heap[w.heap.size + 1]? = some (.cells #[.bool false, .int .i64 0, .slice none 0 0, .slice none 0 0, .int .i64 0] 32 (0, 0)) from al_at _ (by simp))
      have GG := hid (show Gr w ((w.alloc (.cells #[.bool true, .int .i64 (n1 : Nat), .slice a1 n1 c1, .slice a2 n2 c2, .int .i64 (lost : Nat)] 32)).alloc (.cells #[.bool false, .int .i64 0, .slice none 0 0, .slice none 0 0, .int .i64 0] 32)) from Ch.alloc (Ch.alloc (Gr.refl w) _) _)
      go_enter Try.func25, Try.ntmps25
      go_wp2_with (first
        | (refine wpList_load_row rfl 32 (.tmp 2) rfl w.heap.size rfl _ _ _ _ BZ.out Try.underlying32 rfl pst_size ?_)
        | (refine st_row rfl 32 (.tmp 4) (.tmp 17) rfl (w.heap.size + 1) #[.bool true, .int .i64 (n1 : Nat), .slice a1 n1 c1, .slice a2 n2 c2, .int .i64 (lost : Nat)] rfl rfl _ _ BR.out pst_size rfl (by simp [Value.oneCell']) ?_; intro w8 b8 k8; have B9 := hid b8; have K9 := hid k8; clear b8 k8))
      refine bodyPost_ret (results_cell_tmp2 rfl _ _ (w.heap.size + 1) _ rfl (run_loadVar_row _ _ _ _ _ _ _ B9.out Try.underlying32 rfl pst_size)) rfl ?_
      have GZ : Gr w w8 := Ch.trans GG.out K9.out (fun q e => .inr (by have e1 : q = w.heap.size + 1 := e; omega))
      exact ⟨_, _, rfl, (H1.out.gr GZ).mono (fun g _ e => .inl e), (H2.out.gr GZ).mono (fun g _ e => .inl e), GZ⟩
    rw [if_neg hf]
    have hf' : ¬ ((cap : Int) ≤ (n1 : Int)) := by omega
    dsimp only
    have HC := hid (copy_any ((w.alloc (.cells #[.bool true, .int .i64 (cap : Nat), .slice a1 n1 c1, .slice a2 n2 c2, .int .i64 (lost : Nat)] 32)).alloc (.cells #[.bool false, .int .i64 0, .slice none 0 0, .slice none 0 0, .int .i64 0] 32)) true cap lost a1 a2 n1 n2 c1 c2 out inn ((H1.out.alloc _).alloc _) ((H2.out.alloc _).alloc _) (by omega) (by omega))
    go_enter Try.func25, Try.ntmps25
    go_wp2_with (first
      | (go_at_call 16; refine HC.out.mono ?_; rintro e w1 ⟨v1, v2, rfl, o1, o2, g1⟩; obtain ⟨b1, d1, rfl⟩ := o1.form; obtain ⟨b2, d2, rfl⟩ := o2.form; rw [← HL1.out, ← HL2.out]
         have CZ1 := hid (Cz.at g1 #[.bool true, .int .i64 (cap : Nat), .slice b1 n1 d1, .slice b2 n2 d2, .int .i64 (lost : Nat)]); have CV1 := hid (show Cv w1.heap.size #[.bool true, .int .i64 (cap : Nat), .slice b1 n1 d1, .slice b2 n2 d2, .int .i64 (lost : Nat)] (w1.alloc (.cells #[.bool true, .int .i64 (cap : Nat), .slice b1 n1 d1, .slice b2 n2 d2, .int .i64 (lost : Nat)] 32)) from al_at _ rfl)
         rw [← HL1.out] at o1; rw [← HL2.out] at o2
         have O1 := hid (o1.lower (show w.heap.size ≤ _ by simp; omega)); have O2 := hid (o2.lower (show w.heap.size ≤ _ by simp; omega))
         have s0 := cell_of (gr_blk (al_blk (al_at (w := w) (.cells #[.bool true, .int .i64 (cap : Nat), .slice a1 n1 c1, .slice a2 n2 c2, .int .i64 (lost : Nat)] 32) rfl) (.cells #[.bool false, .int .i64 0, .slice none 0 0, .slice none 0 0, .int .i64 0] 32)) g1) 0; simp at s0
         have sl := Nat.lt_of_lt_of_le (show w.heap.size < w.heap.size + 2 by omega) (show w.heap.size + 2 ≤ w1.heap.size by have := g1.size; simpa using this)
         clear o1 o2 g1)
      | (at_builtin; refine wpList_append_ow eI_len rfl (.tmp 25) (.tmp 27) 29 2 8 (.int .i64 0) Try.underlying29 i64_info rfl (by omega) rfl w.heap.size (.slice b1 n1 d1) out rfl (((O1.out.alloc _)).alloc _) _ _ [v] rfl (single_at v) (eI_one [v]) (n1 + 1) (by rw [← HL1.out]; rfl) (by omega) (by unfold maxLen; omega) (by have := (CZ1.out.gr (Ch.alloc (Gr.refl _) (.cells #[.int .i64 v] 2))).g.size; exact this) (out ++ [v]) rfl ?_
         intro a5 c5 w5 o5 k5 b5
         have OA := hid (show Ow eI 1 2 w.heap.size ((w1.alloc (.cells #[.bool true, .int .i64 (cap : Nat), .slice b1 n1 d1, .slice b2 n2 d2, .int .i64 (lost : Nat)] 32)).alloc (.cells #[.int .i64 v] 2)) (.slice b1 n1 d1) out from ((O1.out.alloc _)).alloc _)
         have CZ2 := hid ((CZ1.out.gr (Ch.alloc (Gr.refl _) (.cells #[.int .i64 v] 2))).app OA.out (by decide) k5)
         have CV2 := hid ((Cv.gr CV1.out (Ch.alloc (Gr.refl _) (.cells #[.int .i64 v] 2))).app OA.out (by decide) k5)
         obtain ⟨t2, f2, l2⟩ := CV2.out.cell 2; simp at t2
         have OG := hid (show Ow eG 2 59 w.heap.size w5 (.slice b2 n2 d2) inn from ((O2.out.alloc _).alloc _).ch k5 (fun q e e' => ox_ne OA.out ((O2.out.alloc _).alloc _) e' e))
         have OB := hid o5
         clear o5 k5 b5)
      | (refine wpList_load_row rfl 32 (.tmp 6) rfl w1.heap.size rfl _ _ _ _ (CV2.out.st 2 (.slice a5 (n1 + 1) c5)) Try.underlying32 rfl pst_size ?_)
      | (refine st_row rfl 32 (.tmp 4) (.tmp 30) rfl (w.heap.size + 1) #[.bool true, .int .i64 (cap : Nat), .slice a5 (n1 + 1) c5, .slice b2 n2 d2, .int .i64 (lost : Nat)] rfl rfl _ _ (CZ2.out.st 2 (.slice a5 (n1 + 1) c5)).r pst_size rfl (by simp [Value.oneCell']) ?_; intro w8 b8 k8; have B9 := hid b8; have K9 := hid k8; clear b8 k8))
    refine bodyPost_ret (results_cell_tmp2 rfl _ _ (w.heap.size + 1) _ rfl (run_loadVar_row _ _ _ _ _ _ _ B9.out Try.underlying32 rfl pst_size)) rfl ?_
    have CZ3 := CZ2.out.st 2 (.slice a5 (n1 + 1) c5)
    have OB3 := OB.out.st (by decide) CV2.out 2 (.slice a5 (n1 + 1) c5)
    have OG3 := OG.out.st (by decide) CV2.out 2 (.slice a5 (n1 + 1) c5)
    refine ⟨_, _, rfl, (OB3.ch K9.out (fun q e e1 => not_blk OB3 (by decide) CZ3.r (by have e2 : q = w.heap.size + 1 := e1; rw [← e2]; exact e))).lst.mono (fun g _ e => .inr e), (OG3.ch K9.out (fun q e e1 => not_blk OG3 (by decide) CZ3.r (by have e2 : q = w.heap.size + 1 := e1; rw [← e2]; exact e))).lst.mono (fun g _ e => .inr e), Ch.trans CZ3.g K9.out (fun q e => .inr (by have e1 : q = w.heap.size + 1 := e; omega))⟩
end Go.Proofs.Ytnpbehcfbceclaa.Lt
