/-
  What ChooseOther of the statements answers: true, at any draws. Conditions: lists are as long as memory lets them be, draws as great as they can be.
-/
import Derived.Test.YtalmiphddgmfbaaChLaw
namespace Go.Proofs.Ytalmiphddgmfbaa.Lt
open Go.RowKit Wd
attribute [local go_sem ↓] Go.wp_at_zero Go.wp_at_succ

/-- what orders of small draws are the same -/
theorem ord_same {a b : List Int} (ha : Sml a) (hb : Sml b) : decide (ord a = ord b) = decide (a = b) := by
  by_cases h : a = b
  · subst h; simp
  · rw [decide_eq_false h, decide_eq_false (fun e => h (ord_inj ha hb e))]
set_option maxRecDepth 20000 in
set_option maxHeartbeats 8000000 in
theorem other_law (P Q : Nat → Prop) (va : Value) (as_ : List Int) (vb : Value) (bs : List Int) (w : World) (h : Ls eU P w va as_) (k : Ls eU Q w vb bs) (ha : Dok as_) (hb : Dok bs) (hn : as_.length ≤ 17592186044416) (hm : bs.length ≤ 17592186044416) : Calls Try.prog 6 #[va, vb] w fun e w' => e = .returned (.bool true) ∧ Gr w w' := by
  obtain ⟨ao, cap, rfl⟩ := h.form
  obtain ⟨bo, cbp, rfl⟩ := k.form
  obtain ⟨n, hnn⟩ : ∃ n, n = as_.length := ⟨_, rfl⟩
  obtain ⟨m, hmm⟩ : ∃ n, n = bs.length := ⟨_, rfl⟩
  rw [← hnn] at h hn ⊢
  rw [← hmm] at k hm ⊢
  have HA := hid (fun (W : World) => awake_any W)
  have HDa := hid h
  have HDb := hid k
  have HOKa := hid ha
  have HOKb := hid hb
  have HNa := hid hnn
  have HNb := hid hmm
  clear h k ha hb hnn hmm
  go_enter Try.func6, Try.ntmps6
  go_wp2_with fail
  go_loopg [5, 6, 7] 16 (fun q v5 v6 v7 wr => ∃ (j : Nat) (a : Option Addr) (c : Nat) (b : Option Addr) (d : Nat), j + q = 16 ∧ j ≤ n ∧ j ≤ m ∧ v7 = .int .i64 (j : Int) ∧ v5 = .slice a j c ∧ v6 = .slice b j d ∧ Ow eU 1 34 w.heap.size wr (.slice a j c) (md (as_.take j)) ∧ Ow eU 1 34 w.heap.size wr (.slice b j d) (md (bs.take j)) ∧ (∀ q, Blk (.slice a j c) q → ¬ Blk (.slice b j d) q) ∧ Gr w wr)
  case atStart => exact ⟨0, none, 0, none, 0, by omega, by omega, by omega, rfl, rfl, rfl, Ow.nil _ _ _ _ _, Ow.nil _ _ _ _ _, fun q hq => (by cases hq), Gr.refl _⟩
  case round =>
    obtain ⟨j, a, c, b, cd, hjq, hjn, hjm, rfl, rfl, rfl, hOA, hOB, hN, hG⟩ := hrel
    have HOA := hid hOA
    have HOB := hid hOB
    have HN := hid hN
    have HG := hid hG
    clear hOA hOB hN hG
    by_cases hj : j < n ∧ j < m ∧ j < 16
    · obtain ⟨hj1, hj2, hj3⟩ := hj
      have j0 : (0 : Int) ≤ (j : Int) := by omega
      have j1 : (j : Int) < (n : Int) := by omega
      have j2 : (j : Int) < (m : Int) := by omega
      have j3 : (j : Int) < 16 := by omega
      have HS := hid HG.out.size
      obtain ⟨dA, hxA⟩ : ∃ x, as_[j]? = some x := ⟨_, List.getElem?_eq_getElem (by rw [← HNa.out]; omega)⟩
      obtain ⟨ggA, ooA, capA, hvA, _, hglA, _, hcsA⟩ := (HDa.out.gr HG.out).get eU_len hxA
      injection hvA with hv1A hv2A hv3A
      subst hv1A
      have cA := hcsA 0 _ rfl
      simp only [Nat.mul_one, Nat.add_zero] at cA
      have hddA := HOKa.out dA (List.mem_of_getElem? hxA)
      have dmA : dA.tmod ((j : Int) + 1) = dA % ((j : Int) + 1) := Int.tmod_eq_emod_of_nonneg hddA.1
      have hszA : (md (as_.take j)).length = j := by rw [md_len, List.length_take]; have := HNa.out; omega
      have HTA := hid (show md (as_.take (j + 1)) = md (as_.take j) ++ [dA % ((j : Int) + 1)] from by rw [take_one hxA, md_snoc, List.length_take, Nat.min_eq_left (by have := HNa.out; omega)])
      have HLLA := hid hszA
      generalize md (as_.take j) = zsA at HOA HTA HLLA
      generalize dA % ((j : Int) + 1) = rA at dmA HTA
      clear hcsA hv2A hv3A hxA hddA hszA hglA
      obtain ⟨dB, hxB⟩ : ∃ x, bs[j]? = some x := ⟨_, List.getElem?_eq_getElem (by rw [← HNb.out]; omega)⟩
      obtain ⟨ggB, ooB, capB, hvB, _, hglB0, _, hcsB⟩ := HDb.out.get eU_len hxB
      injection hvB with hv1B hv2B hv3B
      subst hv1B
      have cB0 := hcsB 0 _ rfl
      simp only [Nat.mul_one, Nat.add_zero] at cB0
      have cB := (HG.out.cell hglB0).trans cB0
      have hglB : ggB < wr.heap.size := Nat.lt_of_lt_of_le hglB0 HG.out.size
      have hblB : ¬ w.heap.size ≤ ggB := by omega
      have cB' : (wr.alloc (.cells #[.int .u64 rA] 34)).cell? ⟨ggB, ooB + j, none⟩ = some (.int .u64 dB) := (Ch.cell (Ch.alloc (Gr.refl wr) _) hglB (noB _)).trans cB
      clear cB0
      have hddB := HOKb.out dB (List.mem_of_getElem? hxB)
      have dmB : dB.tmod ((j : Int) + 1) = dB % ((j : Int) + 1) := Int.tmod_eq_emod_of_nonneg hddB.1
      have hszB : (md (bs.take j)).length = j := by rw [md_len, List.length_take]; have := HNb.out; omega
      have HTB := hid (show md (bs.take (j + 1)) = md (bs.take j) ++ [dB % ((j : Int) + 1)] from by rw [take_one hxB, md_snoc, List.length_take, Nat.min_eq_left (by have := HNb.out; omega)])
      have HLLB := hid hszB
      generalize md (bs.take j) = zsB at HOB HTB HLLB
      generalize dB % ((j : Int) + 1) = rB at dmB HTB
      clear hcsB hv2B hv3B hxB hddB hszB
      go_upto_region 7 with (at_builtin; refine wpList_append_ow eU_len rfl (.tmp 28) (.tmp 37) _ 34 8 _ Try.underlying22 u64_info rfl (by omega) rfl w.heap.size _ zsA rfl (HOA.out.alloc _) _ _ [rA] rfl (Ls.single wr rA 34 #[.int .u64 rA] rfl) (eU_one _) (j + 1) (by rw [HLLA.out]; rfl) (by omega) (by unfold maxLen; omega) (by simp; have := HS.out; omega) (zsA ++ [rA]) rfl ?_; intro ao5 cap5 w5 ow5 cw5 bl5; have O5 := hid ow5; have cB5 := (cw5.cell (b := ggB) (o := ooB + j) (by simp; omega) (fun q => hblB (HOA.out.blk q).1)).trans (show World.cell? _ _ = _ from cB'); have P5 := hid (show Ow eU 1 34 w.heap.size w5 (.slice b j cd) zsB from (HOB.out.alloc _).ch cw5 (fun q hq hq2 => HN.out q hq2 hq)); have N5 := hid (show ∀ q, Blk (.slice b j cd) q → ¬ Blk (.slice ao5 (j + 1) cap5) q from fun q hq hq2 => (bl5 q hq2).elim (fun h1 => HN.out q h1 hq) (fun h1 => by have := (HOB.out.blk hq).2; simp at h1; omega)); have G5 := hid (show Gr w w5 from Ch.trans (Ch.alloc HG.out _) cw5 (fun q h => .inr (HOA.out.blk h).1)); clear ow5 cw5 bl5)
      have S5 := hid G5.out.size
      clear cA cB cB'
      go_wp2_with (at_builtin; refine wpList_append_ow eU_len rfl (.tmp 39) (.tmp 48) _ 34 8 _ Try.underlying22 u64_info rfl (by omega) rfl w.heap.size _ zsB rfl (P5.out.alloc _) _ _ [rB] rfl (Ls.single w5 rB 34 #[.int .u64 rB] rfl) (eU_one _) (j + 1) (by rw [HLLB.out]; rfl) (by omega) (by unfold maxLen; omega) (by simp; have := S5.out; omega) (zsB ++ [rB]) rfl ?_; intro ao6 cap6 w6 ow6 cw6 bl6; have O6 := hid ow6; have Q6 := hid (show Ow eU 1 34 w.heap.size w6 (.slice ao5 (j + 1) cap5) (zsA ++ [rA]) from (O5.out.alloc _).ch cw6 (fun q hq hq2 => N5.out q hq2 hq)); have N6 := hid (show ∀ q, Blk (.slice ao5 (j + 1) cap5) q → ¬ Blk (.slice ao6 (j + 1) cap6) q from fun q hq hq2 => (bl6 q hq2).elim (fun h1 => N5.out q h1 hq) (fun h1 => by have := (O5.out.blk hq).2; simp at h1; omega)); have G6 := hid (show Gr w w6 from Ch.trans (Ch.alloc G5.out _) cw6 (fun q h => .inr (P5.out.blk h).1)); clear ow6 cw6 bl6)
      go_roundg (gk - 1)
      case measure => omega
      case rel => exact ⟨j + 1, ao5, cap5, ao6, cap6, by omega, by omega, by omega, by simp, rfl, rfl, by rw [HTA.out]; exact Q6.out, by rw [HTB.out]; exact O6.out, N6.out, G6.out⟩
    · have hjN : j ≤ 16 := by omega
      have HEQ := hid (ord_same (md_sml (as_.take j)) (md_sml (bs.take j)))
      have HOKA := hid (md_ok (ds := as_.take j) (by rw [List.length_take]; omega))
      have hszA : (md (as_.take j)).length = j := by rw [md_len, List.length_take]; have := HNa.out; omega
      have HLLA := hid hszA
      generalize md (as_.take j) = zsA at HOA HOKA HLLA HEQ
      clear hszA
      have HOrA := hid (by
        have := order_ok _ wr a j c zsA j HOA.out.lst HOKA.out hjN (Nat.le_refl _)
        rw [List.take_of_length_le (by rw [HLLA.out]; omega)] at this
        exact this)
      have HOKB := hid (md_ok (ds := bs.take j) (by rw [List.length_take]; omega))
      have hszB : (md (bs.take j)).length = j := by rw [md_len, List.length_take]; have := HNb.out; omega
      have HLLB := hid hszB
      generalize md (bs.take j) = zsB at HOB HOKB HLLB HEQ
      clear hszB
      have HOrB := hid (fun (W : World) (_ : Gr w W) (p : Ow eU 1 34 w.heap.size W (.slice b j cd) zsB) => by
        have := order_ok _ W b j cd zsB j p.lst HOKB.out hjN (Nat.le_refl _)
        rw [List.take_of_length_le (by rw [HLLB.out]; omega)] at this
        exact this)
      have HJ16 := hid hjN
      by_cases hj1 : j < n
      · have j1 : (j : Int) < (n : Int) := by omega
        by_cases hj2 : j < m
        · have j2 : (j : Int) < (m : Int) := by omega
          have j3 : ¬ (j : Int) < 16 := by omega
          clear hj hj1 hj2 hjN
          go_wp2_with (first
            | (go_at_call 9; refine (HOrB.out _ G6.out (S6.out)).mono ?_; rintro e w7 ⟨a7, c7, rfl, o7, g7⟩; have O7 := hid o7; have P7 := hid (O6.out.gr g7); have XA := hid (SA6.out.gr g7); have XB := hid (S6.out.gr g7); have G7 := hid (Gr.trans G6.out g7); clear o7 g7)
            | (go_at_call 9; refine HOrA.out.mono ?_; rintro e w6 ⟨a6, c6, rfl, o6, g6⟩; have O6 := hid o6; have G6 := hid (Gr.trans HG.out g6); have SA6 := hid (HOA.out.gr g6); have S6 := hid (HOB.out.gr g6); clear o6 g6)
            | (go_at_call 11; refine (sameI_any _ _ _ _ _ _ _ _ _ _ _ P7.out.lst O7.out.lst (by have := HJ16.out; omega) (by have := HJ16.out; omega)).mono ?_; rintro e w8 ⟨rfl, g8⟩; have YA := hid (XA.out.gr g8); have YB := hid (XB.out.gr g8); have G8 := hid (Gr.trans G7.out g8); clear g8)
            | (go_at_call 15; refine (sameU_any _ _ _ _ _ _ _ _ _ _ _ YA.out.lst YB.out.lst (by have := HJ16.out; omega) (by have := HJ16.out; omega)).mono ?_; rw [← HEQ.out]; rintro e w9 ⟨rfl, g9⟩; have G9 := hid (Gr.trans G8.out g9); clear g9)
            | (go_at_call 12; refine (HA.out _).mono ?_; rintro e w10 ⟨rfl, g10⟩; have G10 := hid (Gr.trans G9.out g10); clear g10))
          go_ret
          exact ⟨rfl, G10.out⟩
        · have j2 : ¬ (j : Int) < (m : Int) := by omega
          clear hj hj1 hj2 hjN
          go_wp2_with (first
            | (go_at_call 9; refine (HOrB.out _ G6.out (S6.out)).mono ?_; rintro e w7 ⟨a7, c7, rfl, o7, g7⟩; have O7 := hid o7; have P7 := hid (O6.out.gr g7); have XA := hid (SA6.out.gr g7); have XB := hid (S6.out.gr g7); have G7 := hid (Gr.trans G6.out g7); clear o7 g7)
            | (go_at_call 9; refine HOrA.out.mono ?_; rintro e w6 ⟨a6, c6, rfl, o6, g6⟩; have O6 := hid o6; have G6 := hid (Gr.trans HG.out g6); have SA6 := hid (HOA.out.gr g6); have S6 := hid (HOB.out.gr g6); clear o6 g6)
            | (go_at_call 11; refine (sameI_any _ _ _ _ _ _ _ _ _ _ _ P7.out.lst O7.out.lst (by have := HJ16.out; omega) (by have := HJ16.out; omega)).mono ?_; rintro e w8 ⟨rfl, g8⟩; have YA := hid (XA.out.gr g8); have YB := hid (XB.out.gr g8); have G8 := hid (Gr.trans G7.out g8); clear g8)
            | (go_at_call 15; refine (sameU_any _ _ _ _ _ _ _ _ _ _ _ YA.out.lst YB.out.lst (by have := HJ16.out; omega) (by have := HJ16.out; omega)).mono ?_; rw [← HEQ.out]; rintro e w9 ⟨rfl, g9⟩; have G9 := hid (Gr.trans G8.out g9); clear g9)
            | (go_at_call 12; refine (HA.out _).mono ?_; rintro e w10 ⟨rfl, g10⟩; have G10 := hid (Gr.trans G9.out g10); clear g10))
          go_ret
          exact ⟨rfl, G10.out⟩
      · have j1 : ¬ (j : Int) < (n : Int) := by omega
        clear hj hj1 hjN
        go_wp2_with (first
          | (go_at_call 9; refine (HOrB.out _ G6.out (S6.out)).mono ?_; rintro e w7 ⟨a7, c7, rfl, o7, g7⟩; have O7 := hid o7; have P7 := hid (O6.out.gr g7); have XA := hid (SA6.out.gr g7); have XB := hid (S6.out.gr g7); have G7 := hid (Gr.trans G6.out g7); clear o7 g7)
          | (go_at_call 9; refine HOrA.out.mono ?_; rintro e w6 ⟨a6, c6, rfl, o6, g6⟩; have O6 := hid o6; have G6 := hid (Gr.trans HG.out g6); have SA6 := hid (HOA.out.gr g6); have S6 := hid (HOB.out.gr g6); clear o6 g6)
          | (go_at_call 11; refine (sameI_any _ _ _ _ _ _ _ _ _ _ _ P7.out.lst O7.out.lst (by have := HJ16.out; omega) (by have := HJ16.out; omega)).mono ?_; rintro e w8 ⟨rfl, g8⟩; have YA := hid (XA.out.gr g8); have YB := hid (XB.out.gr g8); have G8 := hid (Gr.trans G7.out g8); clear g8)
          | (go_at_call 15; refine (sameU_any _ _ _ _ _ _ _ _ _ _ _ YA.out.lst YB.out.lst (by have := HJ16.out; omega) (by have := HJ16.out; omega)).mono ?_; rw [← HEQ.out]; rintro e w9 ⟨rfl, g9⟩; have G9 := hid (Gr.trans G8.out g9); clear g9)
          | (go_at_call 12; refine (HA.out _).mono ?_; rintro e w10 ⟨rfl, g10⟩; have G10 := hid (Gr.trans G9.out g10); clear g10))
        go_ret
        exact ⟨rfl, G10.out⟩
end Go.Proofs.Ytalmiphddgmfbaa.Lt
