/-
  The slot that a tick is inside: the program's answer. Condition: the numbers are of their types.
-/
import Derived.Test.YtbghagpjkkmhpaaTbChk3
import Derived.Test.YtbghagpjkkmhpaaTbRow
namespace Go.Proofs.Ytbghagpjkkmhpaa.Lt
open Go.RowKit Wd
attribute [local go_sem ↓] Go.wp_at_zero Go.wp_at_succ
set_option maxRecDepth 20000

/-- a slot's window is inside just if something is left of it -/
theorem left_in {F t : Int} {x : Sl} (h : wOk F x) (hs : 0 ≤ x.s) : decide (0 < Tk.leN t F x.s x.l) = inT F t x := by
  have hm : Tk.mayE x.s x.l F = 0 := Tk.may_of hs h.1 h.2.1
  unfold Tk.leN inT Tk.insB
  rw [if_pos hm]
  split
  · rename_i h1
    rw [decide_eq_true h1]
    exact decide_eq_true (by omega)
  · rename_i h1
    rw [decide_eq_false h1]
    rfl
theorem inside_any (w : World) (pv : Value) (d s l p F t : Int) (hs : Tk.U s) (hl : Tk.U l) (hF : Tk.U F) (ht : Tk.U t) :
    Calls Try.prog 39 #[.agg #[.int .u64 F, pv], .int .u64 t, .agg #[.int .i64 d, .int .u64 s, .int .u64 l, .int .u64 p]] w fun e w' => e = .returned (.bool (decide (0 < Tk.leN t F s l))) ∧ Gr w w' := by
  have C := left16 t F s l ht hF hs hl
  generalize Tk.leN t F s l = R at C
  generalize Tk.mayE s l F = R2 at C
  clear hs hl hF ht
  go_enter Try.func39, Try.ntmps39
  go_wp2_with fail
  refine (C _).mono ?_
  rintro e w1 ⟨rfl, g1⟩
  have G1 := hide (Gr.trans (Ch.alloc (Gr.refl w) _) (box4 g1).2.2.2.2.2)
  clear g1
  go_wp2
  go_ret
  exact ⟨rfl, G1.out⟩
set_option maxHeartbeats 4000000 in
theorem at_any (w : World) (a : Option Addr) (n c : Nat) (L : List (List Sl)) (h : Rw w (.slice a n c) L) (hx : Rgs L) (F t p : Int) (hF : Tk.U F) (ht : Tk.U t) :
    Calls Try.prog 32 #[.agg #[.int .u64 F, .slice a n c], .int .u64 t, .int .i64 p] w fun e w' => e = atV (sat F L t p) (ownE F L p) ∧ Gr w w' := by
  have HX := hide (show ∀ W, Gr w W → Rw W (.slice a n c) L from fun W g => h.gr g)
  have HL := hide h.len
  have HRG := hide hx
  have HF := hide hF
  have HT := hide ht
  have CW := wrong_any _ a n c L ((h.gr (Ch.alloc (Gr.refl w) (.cells #[.int .u64 F, .slice a n c] 25))).gr (Ch.alloc (Gr.refl _) (.cells #[.int .i64 0, .int .u64 0, .int .u64 0, .int .u64 0] 54))) hx F hF
  obtain ⟨R, hR⟩ : ∃ R, R = (chk F L 16).2.2 := ⟨_, rfl⟩
  rw [← hR] at CW
  by_cases h0 : R = 0
  · by_cases hp0 : p < 0
    · have HE := hide (show ownE F L p = 1 by unfold ownE lkE; rw [← hR, if_pos h0, if_pos (.inl hp0)])
      have HS := hide (show sat F L t p = none by unfold sat; rw [if_neg (by rw [HE.out]; decide)])
      rw [h0] at CW
      clear hR h0 h hx hF ht
      go_enter Try.func32, Try.ntmps32
      go_wp2_with fail
      refine CW.mono ?_
      rintro e w1 ⟨rfl, g1⟩
      have r4 := gr_blk (al_at (x := w.heap.size + 1) (w := w.alloc (.cells #[.int .u64 F, .slice a n c] 25)) (.cells #[.int .i64 0, .int .u64 0, .int .u64 0, .int .u64 0] 54) (by simp)) g1
      obtain ⟨t0, t1, tb, gt⟩ := box2 (Gr.trans (Ch.alloc (Gr.refl (w.alloc (.cells #[.int .u64 F, .slice a n c] 25))) _) g1)
      have GT := hide gt
      clear g1 gt
      go_wp2_with (refine st_row rfl 54 (.tmp 6) (.tmp 27) rfl (w.heap.size + 1) #[.int .i64 0, .int .u64 0, .int .u64 0, .int .u64 0] rfl rfl _ _ r4 slot_size rfl (by simp [Value.oneCell']) ?_; intro w8 b8 k8; have B8 := hide b8; have K8 := hide k8; clear b8 k8)
      exact bodyPost_ret (results_cell_tmp2 rfl _ _ (w.heap.size + 1) _ rfl (run_loadVar_row _ _ _ _ _ _ _ B8.out Try.underlying54 rfl slot_size)) rfl ⟨by rw [HS.out, HE.out]; rfl, gr_own GT.out K8.out (by omega)⟩
    · by_cases hp1 : (n : Int) ≤ p
      · have HE := hide (show ownE F L p = 1 by unfold ownE lkE; rw [← hR, if_pos h0, if_pos (.inr (by rw [← HL.out]; exact hp1))])
        have HS := hide (show sat F L t p = none by unfold sat; rw [if_neg (by rw [HE.out]; decide)])
        rw [h0] at CW
        clear hR h0 h hx hF ht
        go_enter Try.func32, Try.ntmps32
        go_wp2_with fail
        refine CW.mono ?_
        rintro e w1 ⟨rfl, g1⟩
        have r4 := gr_blk (al_at (x := w.heap.size + 1) (w := w.alloc (.cells #[.int .u64 F, .slice a n c] 25)) (.cells #[.int .i64 0, .int .u64 0, .int .u64 0, .int .u64 0] 54) (by simp)) g1
        obtain ⟨t0, t1, tb, gt⟩ := box2 (Gr.trans (Ch.alloc (Gr.refl (w.alloc (.cells #[.int .u64 F, .slice a n c] 25))) _) g1)
        have GT := hide gt
        clear g1 gt
        go_wp2_with (refine st_row rfl 54 (.tmp 6) (.tmp 27) rfl (w.heap.size + 1) #[.int .i64 0, .int .u64 0, .int .u64 0, .int .u64 0] rfl rfl _ _ r4 slot_size rfl (by simp [Value.oneCell']) ?_; intro w8 b8 k8; have B8 := hide b8; have K8 := hide k8; clear b8 k8)
        exact bodyPost_ret (results_cell_tmp2 rfl _ _ (w.heap.size + 1) _ rfl (run_loadVar_row _ _ _ _ _ _ _ B8.out Try.underlying54 rfl slot_size)) rfl ⟨by rw [HS.out, HE.out]; rfl, gr_own GT.out K8.out (by omega)⟩
      · have HE := hide (show ownE F L p = 0 by unfold ownE lkE; rw [← hR, if_pos h0, if_neg (by rw [← HL.out]; omega)])
        have HG := hide (good_of hx (by rw [← hR]; exact h0))
        obtain ⟨P, rfl⟩ : ∃ P : Nat, p = (P : Int) := ⟨p.toNat, by omega⟩
        have hP : P < n := by omega
        have hpl : P < L.length := by rw [← HL.out]; exact hP
        have hl : L[P]? = some L[P] := List.getElem?_eq_getElem hpl
        have hlm : L[P] ∈ L := List.getElem_mem hpl
        have HS := hide (show sat F L t (P : Int) = slt F L[P] t by unfold sat rowAt; rw [if_pos HE.out, Int.toNat_natCast, hl]; rfl)
        generalize L[P] = l at hl HS hlm
        have HRL := hide hl
        have HLM := hide hlm
        have hm0 := HG.out.len l hlm
        obtain ⟨m, hm⟩ : ∃ m, m = l.length := ⟨_, rfl⟩
        have hm1 : m ≤ 1024 := by omega
        have HM := hide hm
        rw [h0] at CW
        have q1 : decide (n ≤ P) = false := decide_eq_false (by omega)
        have q2 : decide ((P : Int) < 0) = false := decide_eq_false (by omega)
        clear hR h0 h hx hF ht hl hlm hm0 hm
        go_enter Try.func32, Try.ntmps32
        go_wp2_with fail
        refine CW.mono ?_
        rintro e w1 ⟨rfl, g1⟩
        obtain ⟨t0, t1, tb, gt⟩ := box2 (Gr.trans (Ch.alloc (Gr.refl (w.alloc (.cells #[.int .u64 F, .slice a n c] 25))) _) g1)
        have GT := hide gt
        have G1 := hide g1
        obtain ⟨g, o, al, cl, e1, hgl, hcap, c0, hls⟩ := (HX.out _ gt).at HRL.out
        subst e1
        rw [← HM.out] at c0 hls
        have HLS := hide (show ∀ W, Gr w1 W → Ls eS AnyB W (.slice al m cl) l from fun W k => hls.gr k)
        clear gt g1 hls
        go_wp2_with fail
        go_loopg [34] m (fun k i wr => ∃ (j : Nat), j + k = m ∧ i = .int .i64 (j : Int) ∧ slt F l t = slt F (l.drop j) t ∧ Gr w1 wr)
        case atStart => exact ⟨0, by omega, rfl, rfl, Gr.refl _⟩
        case round =>
          obtain ⟨j, hjk, rfl, hr, hg⟩ := hrel
          obtain ⟨V, hV⟩ : ∃ W, W = wr := ⟨_, rfl⟩
          subst hV
          have G := hide hg
          have HH := hide hr
          have GZ := hide (Gr.trans G1.out hg)
          have r4 := gr_blk (al_at (x := w.heap.size + 1) (w := w.alloc (.cells #[.int .u64 F, .slice (some ⟨g, o, none⟩) n c] 25)) (.cells #[.int .i64 0, .int .u64 0, .int .u64 0, .int .u64 0] 54) (by simp)) GZ.out
          obtain ⟨t0, t1, tb, gt⟩ := box2 (Gr.trans (Ch.alloc (Gr.refl (w.alloc (.cells #[.int .u64 F, .slice (some ⟨g, o, none⟩) n c] 25))) _) GZ.out)
          have GT := hide gt
          clear hr gt
          by_cases hj : j < m
          · have hj' : (j : Int) < (m : Int) := by omega
            have hjl : j < l.length := by rw [← HM.out]; exact hj
            have hjx : l[j]? = some l[j] := List.getElem?_eq_getElem hjl
            have hd : l.drop j = l[j] :: l.drop (j + 1) := List.drop_eq_getElem_cons hjl
            have hjm : l[j] ∈ l := List.getElem_mem hjl
            generalize l[j] = x at hjx hd hjm
            have HD := hide hd
            have HRx := hide (HRG.out l HLM.out x hjm)
            have HOx := hide (HG.out.slot l HLM.out x hjm)
            obtain ⟨g2, o2, e1, hgl2, hcap2, c0, c1, c2, c3⟩ := slot_at (HLS.out _ hg) hjx
            subst e1
            clear hjx hd hjm
            have C := fun W => inside_any W (.slice (some ⟨g, o, none⟩) n c) x.d x.s x.l x.p F t HRx.out.2.1 HRx.out.2.2.1 HF.out HT.out
            rw [left_in HOx.out.1 HOx.out.2.2.2] at C
            cases hi : inT F t x
            · rw [hi] at C
              have HF' := hide (show slt F l t = slt F (l.drop (j + 1)) t by rw [HH.out, HD.out]; unfold slt; rw [List.find?_cons, hi])
              clear hi hg
              go_wp2_with fail
              refine (C _).mono ?_
              rintro e w2 ⟨rfl, g2⟩
              have G2 := hide (Gr.trans G.out (Gr.trans (Ch.alloc (Gr.refl _) _) g2))
              clear g2
              go_wp2
              go_roundg (gk - 1)
              case measure => omega
              case rel =>
                refine ⟨j + 1, by omega, ?_, HF'.out, G2.out⟩
                first | with_reducible rfl | simp
            · rw [hi] at C
              have HF' := hide (show slt F l t = some x by rw [HH.out, HD.out]; unfold slt; rw [List.find?_cons, hi])
              clear hi hg
              go_wp2_with fail
              refine (C _).mono ?_
              rintro e w2 ⟨rfl, g2⟩
              obtain ⟨d0, d1, d2, d3, db, gw⟩ := box4 g2
              have r5 := gr_blk r4 gw
              have GT2 := hide (Gr.trans GT.out gw)
              clear g2 gw
              go_wp2_with (refine st_row rfl 54 (.tmp 6) (.tmp 42) rfl (w.heap.size + 1) #[.int .i64 x.d, .int .u64 x.s, .int .u64 x.l, .int .u64 x.p] rfl rfl _ _ r5 slot_size rfl (by simp [Value.oneCell']) ?_; intro w8 b8 k8; have B8 := hide b8; have K8 := hide k8; clear b8 k8)
              exact bodyPost_ret (results_cell_tmp2 rfl _ _ (w.heap.size + 1) _ rfl (run_loadVar_row _ _ _ _ _ _ _ B8.out Try.underlying54 rfl slot_size)) rfl ⟨by rw [HS.out, HF'.out, HE.out]; rfl, gr_own GT2.out K8.out (by omega)⟩
          · have hj' : ¬ ((j : Int) < (m : Int)) := by omega
            have HF' := hide (show slt F l t = none by rw [HH.out, List.drop_of_length_le (by rw [← HM.out]; omega)]; rfl)
            clear hg
            go_wp2_with (refine st_row rfl 54 (.tmp 6) (.tmp 44) rfl (w.heap.size + 1) #[.int .i64 0, .int .u64 0, .int .u64 0, .int .u64 0] rfl rfl _ _ r4 slot_size rfl (by simp [Value.oneCell']) ?_; intro w8 b8 k8; have B8 := hide b8; have K8 := hide k8; clear b8 k8)
            exact bodyPost_ret (results_cell_tmp2 rfl _ _ (w.heap.size + 1) _ rfl (run_loadVar_row _ _ _ _ _ _ _ B8.out Try.underlying54 rfl slot_size)) rfl ⟨by rw [HS.out, HF'.out, HE.out]; rfl, gr_own GT.out K8.out (by omega)⟩
  · have HE := hide (show ownE F L p = R by unfold ownE lkE; rw [← hR, if_neg h0])
    have HS := hide (show sat F L t p = none by unfold sat; rw [if_neg (by rw [HE.out]; exact h0)])
    have hne : (R != 0) = true := by simpa using h0
    clear hR h0 h hx hF ht
    go_enter Try.func32, Try.ntmps32
    go_wp2_with fail
    refine CW.mono ?_
    rintro e w1 ⟨rfl, g1⟩
    have r4 := gr_blk (al_at (x := w.heap.size + 1) (w := w.alloc (.cells #[.int .u64 F, .slice a n c] 25)) (.cells #[.int .i64 0, .int .u64 0, .int .u64 0, .int .u64 0] 54) (by simp)) g1
    obtain ⟨t0, t1, tb, gt⟩ := box2 (Gr.trans (Ch.alloc (Gr.refl (w.alloc (.cells #[.int .u64 F, .slice a n c] 25))) _) g1)
    have GT := hide gt
    clear g1 gt
    go_wp2_with (refine st_row rfl 54 (.tmp 6) (.tmp 16) rfl (w.heap.size + 1) #[.int .i64 0, .int .u64 0, .int .u64 0, .int .u64 0] rfl rfl _ _ r4 slot_size rfl (by simp [Value.oneCell']) ?_; intro w8 b8 k8; have B8 := hide b8; have K8 := hide k8; clear b8 k8)
    exact bodyPost_ret (results_cell_tmp2 rfl _ _ (w.heap.size + 1) _ rfl (run_loadVar_row _ _ _ _ _ _ _ B8.out Try.underlying54 rfl slot_size)) rfl ⟨by rw [HS.out, HE.out]; rfl, gr_own GT.out K8.out (by omega)⟩
end Go.Proofs.Ytbghagpjkkmhpaa.Lt
