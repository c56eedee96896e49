/-
  What the program's wakeAll of layer 11 answers and leaves. Conditions: goroutines' numbers are ints, lists are not too long.
-/
import Derived.Test.YtpkbgfneebjnjaaCpWl0
import Derived.Deep.Cut
namespace Go.Proofs.Ytpkbgfneebjnjaa.Lt
open Go.RowKit Wd
attribute [local go_sem ↓] Go.wp_at_zero Go.wp_at_succ

/-- what wakeAll tells and leaves -/
def WlR (t : Nat → Tg) (w : World) (b : Nat) (v : Value) (cs fs : List Cn) (B : Nat) (ks : List Wk) (wk : List Wt) (e : Ending) (w' : World) : Prop := ∃ mo mn mc, e = .returned (.slice mo mn mc) ∧ Ow eK 6 54 B w' (.slice mo mn mc) ks ∧ ∃ t', Ct t' w' b v (lvl wk cs) (lvl wk fs) ∧ Tb B t t' w w' ∧ ∀ q, Blk (.slice mo mn mc) q → t' q = .no
set_option maxRecDepth 40000 in
set_option maxHeartbeats 8000000 in
theorem wakeAll_any {t : Nat → Tg} {w : World} {b : Nat} {v : Value} {cs fs : List Cn} (h : Ct t w b v cs fs) (hcv : Cov cs fs) (hn : cs.length ≤ 1024) (hb : Bw cs) (ws : List Wt) (hw : ∀ x ∈ ws, Gok x.s x.g ∧ pls fs x.s x.g ≤ 4398046511104) (B : Nat) (hB : B ≤ w.heap.size) (P : Nat → Prop) (ao : Option Addr) (n cap : Nat) (hl : Ls eW P w (.slice ao n cap) ws) (hP : ∀ q, q < w.heap.size → P q → t q = .no ∧ q < B) (mo : Option Addr) (mn mc : Nat) (ks : List Wk) (ho : Ow eK 6 54 B w (.slice mo mn mc) ks) (hto : ∀ q, Blk (.slice mo mn mc) q → t q = .no) (tr : Int) (hlen : mn + n ≤ 2932031007402) :
    Calls Try.prog 53 #[.pointer (some ⟨b, 0, none⟩), .slice mo mn mc, .slice ao n cap, .int .i64 tr] w (WlR t w b v cs fs B (ks ++ (wkF fs ws).map (toK tr)) (wkF fs ws)) := by
  have HL := hid hl.len.1
  have HKL := hid ho.len.1
  have HLS := hid hl
  have HP := hid hP
  have HW := hid hw
  have HN := hid hn
  have HBW := hid hb
  have HCV := hid hcv
  have HBB := hid hB
  have HC := hid h
  have HO := hid ho
  have HTO := hid hto
  have HLN := hid hlen
  have hnb : n ≤ 2932031007402 := by omega
  clear h hcv hn hb hw hB hl hP ho hto hlen
  go_enter Try.func53, Try.ntmps53
  go_wp2_with fail
  go_loopg [1, 13] n (fun q v1 v13 wr => ∃ (j mm : Nat) (done : List Wt) (t1 : Nat → Tg) (ma : Option Addr) (mcc : Nat), j + q = n ∧ v13 = .int .i64 (j : Int) ∧ v1 = .slice ma mm mcc ∧ done ++ wkF (lvl done fs) (ws.drop j) = wkF fs ws ∧ done.length ≤ j ∧ Ct t1 wr b v (lvl done cs) (lvl done fs) ∧ Ow eK 6 54 B wr (.slice ma mm mcc) (ks ++ done.map (toK tr)) ∧ (∀ q, Blk (.slice ma mm mcc) q → t1 q = .no) ∧ Tb B t t1 w wr)
  case atStart => exact ⟨0, mn, [], t, mo, mc, by omega, rfl, rfl, rfl, Nat.le_refl _, HC.out, by rw [List.map_nil, List.append_nil]; exact HO.out, HTO.out, Tb.refl _ _ _⟩
  case round =>
    obtain ⟨j, mm, done, t1, ma, mcc, hjq, rfl, rfl, hdn, hdl, hC, hO, hT, hTb⟩ := hrel
    have RD := hid hdn
    have RL := hid hdl
    have RC := hid hC
    have RO := hid hO
    have RT := hid hT
    have RB := hid hTb
    clear hdn hdl hC hO hT hTb
    by_cases hj : j < n
    · obtain ⟨⟨x0, x1, x2, x3⟩, hx⟩ : ∃ x, ws[j]? = some x := ⟨_, List.getElem?_eq_getElem (by rw [← HL.out]; exact hj)⟩
      obtain ⟨gg, oo, cap', hv, _, hgl, _, hcs⟩ := (RB.out.ls HLS.out HP.out).get eW_len hx
      injection hv with hv1 hv2 hv3
      subst hv1
      have c0 := hcs 0 _ rfl
      have c1 := hcs 1 _ rfl
      have c2 := hcs 2 _ rfl
      have c3 := hcs 3 _ rfl
      dsimp only [Nat.add_zero] at c0 c1 c2 c3
      have j0 : (0 : Int) ≤ (j : Int) := by omega
      have j1 : (j : Int) < (n : Int) := by omega
      obtain ⟨hkx, hpx⟩ := HW.out _ (List.mem_of_getElem? hx)
      dsimp only at hkx hpx
      obtain ⟨W1, hW1⟩ : ∃ W, W = wr.alloc (.cells #[.int .i64 x0, .int .i64 x1, .int .i64 x2, .int .i64 x3] 79) := ⟨_, rfl⟩
      have GA := hid (show Gr wr W1 from by rw [hW1]; exact Ch.alloc (Gr.refl wr) _)
      have BX := hid (show W1.heap[wr.heap.size]? = some (.cells #[.int .i64 x0, .int .i64 x1, .int .i64 x2, .int .i64 x3] 79 (0, 0)) from by rw [hW1]; exact (MapKept.heap_alloc wr _).1)
      have HST := hid (wkF_step (fs := lvl done fs) hx)
      dsimp only at HST
      have HK := hid hkx
      have HPX := hid (Nat.le_trans (pls_lvl_le done x0 x1 fs) hpx)
      have HWT := hid (by
        obtain ⟨k1, xs1, M1, cl1, H1⟩ := RC.out.gr GA.out
        exact waits_core H1.me H1.mp hkx)
      rw [hW1] at HWT
      clear hcs hv2 hv3 hx hgl hkx hpx
      by_cases hwt : 0 < pls (lvl done fs) x0 x1
      · rw [decide_eq_true hwt] at HWT
        rw [if_pos hwt] at HST
        clear hwt
        go_upto_region 5 with (go_at_call 22; refine HWT.out.mono ?_; rintro e w2 ⟨rfl, g2⟩; rw [← hW1] at g2; have G2 := hid (Gr.trans GA.out g2); have B2 := hid (gr_blk BX.out g2); clear g2)
        have HWK := hid (wakeB_any (s := x0) (g := x1) x2 x3 0 false tr (RC.out.gr G2.out) (HCV.out.lvl done).1 ((HCV.out.lvl done).cv x0 x1) HK.out (by rw [lvl_len]; exact HN.out) (HBW.out.lvl done) HPX.out)
        clear c0 c1 c2 c3
        go_wp2_with (first
          | (refine wpList_load_row rfl 79 (.tmp 10) rfl wr.heap.size rfl _ _ _ _ B2.out Try.underlying79 rfl wtr_size ?_)
          | (go_at_call 50; refine HWK.out.mono ?_; rintro e w3 ⟨rfl, t3, c3, n3⟩; have C3 := hid c3; have N3 := hid n3; have TB3 := hid ((RB.out.gr G2.out).tn n3); have O3 := hid (show Ow eK 6 54 B w3 (.slice ma mm mcc) (ks ++ done.map (toK tr)) from (RO.out.gr G2.out).ch n3.c (fun q hq hs => hs (RT.out q hq))); clear c3 n3)
          | (at_builtin; refine wpList_append_ow eK_len rfl (.tmp 21) (.tmp 26) _ 54 48 _ Try.underlying48 wok_info rfl (by omega) rfl B _ (ks ++ done.map (toK tr)) rfl (O3.out.alloc _) _ _ [(Wk.mk x0 x1 x2 0 false tr)] rfl (Ls.single w3 (Wk.mk x0 x1 x2 0 false tr) 54 #[.int .i64 x0, .int .i64 x1, .int .i64 x2, .int .i64 0, .bool false, .int .i64 tr] rfl) (eK_one _) (mm + 1) (by rw [← O3.out.len.1]; rfl) (by have := O3.out.len.1; have := RL.out; have := HLN.out; have := HKL.out; simp only [List.length_append, List.length_map] at *; omega) (by unfold maxLen; have := O3.out.len.1; have := RL.out; have := HLN.out; have := HKL.out; simp only [List.length_append, List.length_map] at *; omega) (by have := HBB.out; have := TB3.out.c.size; have := (Ch.alloc (Gr.refl w3) (.cells #[.int .i64 x0, .int .i64 x1, .int .i64 x2, .int .i64 0, .bool false, .int .i64 tr] 54)).size; omega) ((ks ++ done.map (toK tr)) ++ [(Wk.mk x0 x1 x2 0 false tr)]) rfl ?_; intro ao5 cap5 w5 ow5 cw5 bl5; have O5 := hid ow5; have K5 := hid cw5; have L5 := hid bl5; clear ow5 cw5 bl5))
        go_roundg (gk - 1)
        case measure => omega
        case rel =>
          have GB := (show Gr w3 (w3.alloc (.cells #[.int .i64 x0, .int .i64 x1, .int .i64 x2, .int .i64 0, .bool false, .int .i64 tr] 54)) from Ch.alloc (Gr.refl w3) _)
          have hno : ∀ q, Blk (.slice ma mm mcc) q → t3 q = .no := fun q hq => N3.out.o q (Nat.lt_of_lt_of_le (RO.out.blk hq).2 G2.out.size) (RT.out q hq)
          refine ⟨j + 1, mm + 1, done ++ [⟨x0, x1, x2, x3⟩], t3, ao5, cap5, by omega, by simp, rfl, ?_, by simp; exact RL.out, ?_, ?_, ?_, ?_⟩
          · rw [lvl_snoc, List.append_assoc]
            rw [← RD.out, HST.out]
            rfl
          · rw [lvl_snoc, lvl_snoc]
            exact (C3.out.gr GB).ch K5.out hno
          · rw [List.map_append, ← List.append_assoc]
            exact O5.out
          · intro q hq
            rcases L5.out q hq with h1 | h1
            · exact hno q h1
            · exact C3.out.hi q (Nat.le_trans GB.size h1)
          · exact (TB3.out.gr GB).bl K5.out (fun q hq => (O3.out.blk hq).1)
      · rw [decide_eq_false hwt] at HWT
        rw [if_neg hwt] at HST
        clear hwt
        go_wp2_with (go_at_call 22; refine HWT.out.mono ?_; rintro e w2 ⟨rfl, g2⟩; rw [← hW1] at g2; have G2 := hid (Gr.trans GA.out g2); have B2 := hid (gr_blk BX.out g2); clear g2)
        go_roundg (gk - 1)
        case measure => omega
        case rel => exact ⟨j + 1, mm, done, t1, ma, mcc, by omega, by simp, rfl, by rw [← HST.out]; exact RD.out, Nat.le_succ_of_le RL.out, RC.out.gr G2.out, RO.out.gr G2.out, RT.out, RB.out.gr G2.out⟩
    · have jn : ¬ (j : Int) < (n : Int) := by omega
      have HE := hid (show done = wkF fs ws from by
        have := RD.out
        rw [List.drop_of_length_le (by rw [← HL.out]; omega)] at this
        rw [← this]
        simp [wkF])
      go_wp2
      go_ret
      rw [← HE.out]
      exact ⟨_, _, _, rfl, RO.out, t1, RC.out, RB.out, RT.out⟩
end Go.Proofs.Ytpkbgfneebjnjaa.Lt
