/-
  What the document asks ahead of all else, and the slot that a tick is inside: the document's answers. Condition: the numbers are of their types; where the slot is asked for, the table may be.
-/
import Derived.Test.YtbghagpjkkmhpaaTbRChk
import Derived.Test.YtbghagpjkkmhpaaTbRow
namespace Go.Proofs.Ytbghagpjkkmhpaa.Lt
open Go.RowKit Wd
attribute [local go_sem ↓] Go.wp_at_zero Go.wp_at_succ
set_option maxRecDepth 20000

theorem look_any (w : World) (a : Option Addr) (n c : Nat) (L : List (List Sl)) (h : Rw w (.slice a n c) L) (hx : Rgs L) (F q many : Int) (hF : Tk.U F) :
    Calls Try.prog 33 #[.agg #[.int .u64 F, .slice a n c], .int .i64 q, .int .i64 many] w fun e w' => e = .returned (.int .i64 (lkE F L q many)) ∧ Gr w w' := by
  have C := rcheck_any _ a n c L (h.gr (Ch.alloc (Gr.refl w) (.cells #[.int .u64 F, .slice a n c] 25))) hx F 16 hF
  obtain ⟨E, hE⟩ : ∃ E, E = lkE F L q many := ⟨_, rfl⟩
  rw [← hE]
  unfold lkE at hE
  unfold chkV at C
  generalize chk F L 16 = R at C hE
  by_cases h0 : R.2.2 = 0
  · rw [if_pos h0] at hE
    rw [h0] at C
    by_cases h1 : q < 0
    · rw [if_pos (.inl h1)] at hE
      have HE := hide hE
      clear hE h hx hF h0
      go_enter Try.func33, Try.ntmps33
      go_wp2_with fail
      refine C.mono ?_
      rintro e w1 ⟨rfl, g1⟩
      obtain ⟨c0, c1, cb, gw⟩ := box2 g1
      go_wp2
      go_ret
      exact ⟨by rw [HE.out]; rfl, gw⟩
    · by_cases h2 : many ≤ q
      · rw [if_pos (.inr h2)] at hE
        have HE := hide hE
        clear hE h hx hF h0
        go_enter Try.func33, Try.ntmps33
        go_wp2_with fail
        refine C.mono ?_
        rintro e w1 ⟨rfl, g1⟩
        obtain ⟨c0, c1, cb, gw⟩ := box2 g1
        go_wp2
        go_ret
        exact ⟨by rw [HE.out]; rfl, gw⟩
      · rw [if_neg (fun k => k.elim h1 h2)] at hE
        have HE := hide hE
        clear hE h hx hF h0
        go_enter Try.func33, Try.ntmps33
        go_wp2_with fail
        refine C.mono ?_
        rintro e w1 ⟨rfl, g1⟩
        obtain ⟨c0, c1, cb, gw⟩ := box2 g1
        go_wp2
        go_ret
        exact ⟨by rw [HE.out]; rfl, gw⟩
  · rw [if_neg h0] at hE
    have HE := hide hE
    have hne : (R.2.2 != 0) = true := by simpa using h0
    clear hE h hx hF h0
    go_enter Try.func33, Try.ntmps33
    go_wp2_with fail
    refine C.mono ?_
    rintro e w1 ⟨rfl, g1⟩
    obtain ⟨c0, c1, cb, gw⟩ := box2 g1
    go_wp2
    go_ret
    exact ⟨by rw [HE.out]; rfl, gw⟩
theorem inT_iff {F t : Int} {x : Sl} : inT F t x = true ↔ x.s ≤ t % F ∧ t % F < x.s + x.l := by
  unfold inT Tk.insB
  exact decide_eq_true_iff
set_option maxHeartbeats 4000000 in
theorem slot_any (w : World) (a : Option Addr) (n c : Nat) (L : List (List Sl)) (h : Rw w (.slice a n c) L) (F t : Int) (hg : Good F L) (ht : Tk.U t) (P : Nat) (l : List Sl) (hl : L[P]? = some l) :
    Calls Try.prog 34 #[.agg #[.int .u64 F, .slice a n c], .int .u64 t, .int .i64 (P : Int)] w fun e w' => e = slotE (slt F l t) ∧ Gr w w' := by
  obtain ⟨g, o, al, cl, e1, hgl, hcap, c0, hls⟩ := h.at hl
  subst e1
  have HLS := hide (show ∀ W, Gr w W → Ls eS AnyB W (.slice al l.length cl) l from fun W k => hls.gr k)
  have HC := hide (show ∀ W, Gr w W → W.cell? ⟨g, o + P, none⟩ = some (.slice al l.length cl) from fun W k => (k.cell hgl).trans c0)
  have HGL := hide hgl
  have HG := hide hg
  have hP : P < n := by rw [h.len]; exact (List.getElem?_eq_some_iff.1 hl).1
  have hP' : (P : Int) < (n : Int) := by omega
  have hP0 : (0 : Int) ≤ (P : Int) := by omega
  have hn64 : n ≤ 64 := by rw [h.len]; exact hg.n2
  have HLM := hide (List.mem_of_getElem? hl)
  have hm0 := hg.len l HLM.out
  obtain ⟨m, hm⟩ : ∃ m, m = l.length := ⟨_, rfl⟩
  have hm1 : m ≤ 1024 := by omega
  rw [← hm] at c0 HLS HC
  have HM := hide hm
  have hf1 := hg.f1
  have hf2 := hg.f2
  have t0' := ht.1
  have t1' := ht.2
  have hne : F ≠ 0 := by omega
  have htm : t.tmod F = t % F := Int.tmod_eq_emod_of_nonneg t0'
  obtain ⟨tm, htm2⟩ : ∃ tm, tm = t % F := ⟨_, rfl⟩
  have tm0 : 0 ≤ tm := by rw [htm2]; exact Int.emod_nonneg _ (by omega)
  have tm1 : tm < F := by rw [htm2]; exact Int.emod_lt_of_pos _ (by omega)
  have HTM := hide htm2
  rw [← htm2] at htm
  have htw : IntKind.u64.wrap (t.tmod F) = tm := by rw [htm]; exact IntWalk.u64_in _ ⟨tm0, by omega⟩
  clear hm0 hm h hl hg ht hls htm2
  go_enter Try.func34, Try.ntmps34
  go_wp2_with fail
  go_loopg [9] m (fun k i wr => ∃ (j : Nat), j + k = m ∧ i = .int .i64 (j : Int) ∧ slt F l t = slt F (l.drop j) t ∧ Gr ((w.alloc (.cells #[.int .u64 F, .slice (some ⟨g, o, none⟩) n c] 25)).alloc (.cells #[.int .i64 0, .int .u64 0, .int .u64 0, .int .u64 0] 54)) wr)
  case atStart => exact ⟨0, by omega, rfl, rfl, Gr.refl _⟩
  case round =>
    obtain ⟨j, hjk, rfl, hr, hg⟩ := hrel
    obtain ⟨V, hV⟩ : ∃ W, W = wr := ⟨_, rfl⟩
    subst hV
    have G := hide hg
    have HH := hide hr
    have r4 := gr_blk (al_at (x := w.heap.size + 1) (w := w.alloc (.cells #[.int .u64 F, .slice (some ⟨g, o, none⟩) n c] 25)) (.cells #[.int .i64 0, .int .u64 0, .int .u64 0, .int .u64 0] 54) (by simp)) hg
    obtain ⟨t0, t1, tb, gt⟩ := box2 (Gr.trans (Ch.alloc (Gr.refl (w.alloc (.cells #[.int .u64 F, .slice (some ⟨g, o, none⟩) n c] 25))) _) hg)
    have GT := hide gt
    have c0 := HC.out _ gt
    have hgl : g < V.heap.size := Nat.lt_of_lt_of_le HGL.out gt.size
    clear hr
    by_cases hj : j < m
    · have hj' : (j : Int) < (m : Int) := by omega
      have hjl : j < l.length := by rw [← HM.out]; exact hj
      have hjx : l[j]? = some l[j] := List.getElem?_eq_getElem hjl
      have hd : l.drop j = l[j] :: l.drop (j + 1) := List.drop_eq_getElem_cons hjl
      have hjm : l[j] ∈ l := List.getElem_mem hjl
      generalize l[j] = x at hjx hd hjm
      have HD := hide hd
      have HRx := hide (HG.out.rg l HLM.out x hjm)
      obtain ⟨⟨k1, k2, k3⟩, _, _, k0⟩ := HG.out.slot l HLM.out x hjm
      have k4 : x.s + x.l ≤ 65536 := by omega
      obtain ⟨g2, o2, e1, hgl2, hcap2, d0, d1, d2, d3⟩ := slot_at (HLS.out _ gt) hjx
      subst e1
      clear hjx hd hjm hg gt
      by_cases h1 : x.s ≤ tm
      · by_cases h2 : tm < x.s + x.l
        · have HF' := hide (show slt F l t = some x by rw [HH.out, HD.out]; unfold slt; rw [List.find?_cons, inT_iff.2 (by rw [← HTM.out]; exact ⟨h1, h2⟩)])
          have r5 := gr_blk r4 (Ch.alloc (Gr.refl V) (.cells #[.int .i64 x.d, .int .u64 x.s, .int .u64 x.l, .int .u64 x.p] 54))
          have GT2 := hide (Gr.trans GT.out (Ch.alloc (Gr.refl V) (.cells #[.int .i64 x.d, .int .u64 x.s, .int .u64 x.l, .int .u64 x.p] 54)))
          go_wp2_with (refine st_row rfl 54 (.tmp 6) (.tmp 49) rfl (w.heap.size + 1) #[.int .i64 x.d, .int .u64 x.s, .int .u64 x.l, .int .u64 x.p] rfl rfl _ _ r5 slot_size rfl (by simp [Value.oneCell']) ?_; intro w8 b8 k8; have B8 := hide b8; have K8 := hide k8; clear b8 k8)
          exact bodyPost_ret (results_cell_tmp1 rfl _ _ (w.heap.size + 1) _ rfl (run_loadVar_row _ _ _ _ _ _ _ B8.out Try.underlying54 rfl slot_size)) rfl ⟨by rw [HF'.out]; rfl, gr_own GT2.out K8.out (by omega)⟩
        · have HF' := hide (show slt F l t = slt F (l.drop (j + 1)) t by rw [HH.out, HD.out]; unfold slt; rw [List.find?_cons, show inT F t x = false from Bool.eq_false_iff.2 (fun q => h2 (by rw [HTM.out]; exact (inT_iff.1 q).2))])
          have G2 := hide (Gr.trans G.out (Ch.alloc (Gr.refl V) (.cells #[.int .i64 x.d, .int .u64 x.s, .int .u64 x.l, .int .u64 x.p] 54)))
          go_wp2
          go_roundg (gk - 1)
          case measure => omega
          case rel =>
            refine ⟨j + 1, by omega, ?_, HF'.out, G2.out⟩
            first | with_reducible rfl | simp
      · have HF' := hide (show slt F l t = slt F (l.drop (j + 1)) t by rw [HH.out, HD.out]; unfold slt; rw [List.find?_cons, show inT F t x = false from Bool.eq_false_iff.2 (fun q => h1 (by rw [HTM.out]; exact (inT_iff.1 q).1))])
        have G2 := hide (Gr.trans G.out (Ch.alloc (Gr.refl V) (.cells #[.int .i64 x.d, .int .u64 x.s, .int .u64 x.l, .int .u64 x.p] 54)))
        go_wp2
        go_roundg (gk - 1)
        case measure => omega
        case rel =>
          refine ⟨j + 1, by omega, ?_, HF'.out, G2.out⟩
          first | with_reducible rfl | simp
    · have hj' : ¬ ((j : Int) < (m : Int)) := by omega
      have HF' := hide (show slt F l t = none by rw [HH.out, List.drop_of_length_le (by rw [← HM.out]; omega)]; rfl)
      clear hg gt
      go_wp2_with (refine st_row rfl 54 (.tmp 6) (.tmp 50) rfl (w.heap.size + 1) #[.int .i64 0, .int .u64 0, .int .u64 0, .int .u64 0] rfl rfl _ _ r4 slot_size rfl (by simp [Value.oneCell']) ?_; intro w8 b8 k8; have B8 := hide b8; have K8 := hide k8; clear b8 k8)
      exact bodyPost_ret (results_cell_tmp1 rfl _ _ (w.heap.size + 1) _ rfl (run_loadVar_row _ _ _ _ _ _ _ B8.out Try.underlying54 rfl slot_size)) rfl ⟨by rw [HF'.out]; rfl, gr_own GT.out K8.out (by omega)⟩
end Go.Proofs.Ytbghagpjkkmhpaa.Lt
