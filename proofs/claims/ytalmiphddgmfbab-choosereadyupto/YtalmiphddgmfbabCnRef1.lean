/-
  What the document's waiters, without, is and trap of layer 11 answer. Conditions: a list is not too long.
-/
import Derived.Test.YtalmiphddgmfbabCnMem
import Derived.Test.YtalmiphddgmfbabGnRegion
namespace Go.Proofs.Ytalmiphddgmfbab.Lt
open Go.RowKit Wd
attribute [local go_sem ↓] Go.wp_at_zero Go.wp_at_succ

/-- a list of those that wait, told in new memory -/
def WsR (w : World) (ws : List Wt) (e : Ending) (w' : World) : Prop := ∃ v, e = .returned v ∧ Ow eW 4 95 w.heap.size w' v ws ∧ Gr w w'
set_option maxRecDepth 20000 in
theorem waiters_any (P : Nat → Prop) (w : World) (ao : Option Addr) (n cap : Nat) (ws : List Wt) (h : Ls eW P w (.slice ao n cap) ws) (hn : n ≤ 4398046511104) :
    Calls Try.prog 55 #[.slice ao n cap] w (WsR w ws) := by
  have HL := hid h.len.1
  have HB := hid h
  have HE := hid (ow_emptyW w)
  have K0 := hid (show Gr w (w.alloc (.cells #[] 95)) from Ch.alloc (Gr.refl w) _)
  clear h
  go_enter Try.func55, Try.ntmps55
  go_wp2_with fail
  go_loopg [3, 4] n (fun m o i wq => ∃ (j k c : Nat) (a : Option Addr), j + m = n ∧ i = .int .i64 ((j : Nat) : Int) ∧ o = .slice a k c ∧ k = j ∧ Ow eW 4 95 w.heap.size wq (.slice a k c) (ws.take j) ∧ Gr w wq)
  case atStart => exact ⟨0, 0, 0, _, by omega, rfl, rfl, rfl, HE.out, K0.out⟩
  case round =>
    obtain ⟨k, j, c, a, hjm, rfl, rfl, rfl, hO, hG⟩ := hrel
    have HO := hid hO
    have HG := hid hG
    clear hO hG
    by_cases hj : j < n
    · obtain ⟨⟨x0, x1, x2, x3⟩, hx⟩ : ∃ x, ws[j]? = some x := ⟨_, List.getElem?_eq_getElem (by rw [← HL.out]; exact hj)⟩
      obtain ⟨gg, oo, cap', hv, _, hgl, _, hcs⟩ := (HB.out.gr HG.out).get eW_len hx
      injection hv with hv1 hv2 hv3
      subst hv1
      have c0 := hcs 0 _ rfl
      have c1 := hcs 1 _ rfl
      have c2 := hcs 2 _ rfl
      have c3 := hcs 3 _ rfl
      dsimp only [Nat.add_zero] at c0 c1 c2 c3
      have j0 : (0 : Int) ≤ (j : Int) := by omega
      have j1 : (j : Int) < (n : Int) := by omega
      have HS := hid (show w.heap.size ≤ wr.heap.size from HG.out.size)
      have HT := hid (take_one hx)
      have HKL := hid (show j = (ws.take j).length from HO.out.len.1)
      generalize ws.take j = zs at HO HT HKL
      clear hcs hv2 hv3 hx hgl
      go_wp2_with (at_builtin; refine wpList_append_ow eW_len rfl (.tmp 12) (.tmp 17) _ 95 32 _ Try.underlying68 wtr_info rfl (by omega) rfl w.heap.size _ zs rfl (HO.out.alloc _) _ _ [(Wt.mk x0 x1 x2 x3)] rfl (Ls.single wr (Wt.mk x0 x1 x2 x3) 95 #[.int .i64 x0, .int .i64 x1, .int .i64 x2, .int .i64 x3] rfl) (eW_one _) (j + 1) (by rw [← HKL.out]; rfl) (by omega) (by unfold maxLen; omega) (by simp; have := HS.out; omega) (zs ++ [(Wt.mk x0 x1 x2 x3)]) rfl ?_; intro ao5 cap5 w5 ow5 cw5 bl5; have O5 := hid ow5; have G5 := hid (show Gr w w5 from Ch.trans (Ch.alloc HG.out _) cw5 (fun q h => .inr (HO.out.blk h).1)); clear ow5 cw5 bl5)
      clear c0 c1 c2 c3
      go_roundg (gk - 1)
      case measure => omega
      case rel => exact ⟨j + 1, j + 1, cap5, ao5, by omega, by simp, rfl, rfl, by rw [HT.out]; exact O5.out, G5.out⟩
    · have jn : ¬ (j : Int) < (n : Int) := by omega
      have HT := hid (show ws.take j = ws from List.take_of_length_le (by rw [← HL.out]; omega))
      rw [HT.out] at HO
      go_wp2
      go_ret
      exact ⟨_, rfl, HO.out, HG.out⟩
theorem wo_snoc (l : List Wt) (x : Wt) (s g : Int) : wo (l ++ [x]) s g = if (x.s == s && x.g == g) = true then wo l s g else wo l s g ++ [x] := by
  unfold wo
  rw [List.filter_append]
  by_cases h : (x.s == s && x.g == g) = true
  · rw [if_pos h]; simp [List.filter, h]
  · rw [if_neg h]; simp [List.filter, h]
theorem wo_len (l : List Wt) (s g : Int) : (wo l s g).length ≤ l.length := List.length_filter_le _ _
/-- what without tells: the others, how many were its -/
def WoR (w : World) (ws : List Wt) (s g : Int) (e : Ending) (w' : World) : Prop := ∃ v, e = .returned (.tuple #[v, .int .i64 ((ws.length - (wo ws s g).length : Nat) : Int)]) ∧ Ow eW 4 95 w.heap.size w' v (wo ws s g) ∧ Gr w w'
set_option maxHeartbeats 1000000 in
set_option maxRecDepth 20000 in
theorem rwithout_any (P : Nat → Prop) (w : World) (ao : Option Addr) (n cap : Nat) (ws : List Wt) (s g : Int) (h : Ls eW P w (.slice ao n cap) ws) (hn : n ≤ 4398046511104) :
    Calls Try.prog 66 #[.slice ao n cap, .agg #[.int .i64 s, .int .i64 g]] w (WoR w ws s g) := by
  have HL := hid h.len.1
  have HB := hid h
  have hbx : (w.alloc (.cells #[.int .i64 s, .int .i64 g] 24)).heap[w.heap.size]? = some (.cells #[.int .i64 s, .int .i64 g] 24 (0, 0)) := (MapKept.heap_alloc w _).1
  have HE := hid (show Ow eW 4 95 w.heap.size ((w.alloc (.cells #[.int .i64 s, .int .i64 g] 24)).alloc (.cells #[] 95)) (.slice (some ⟨w.heap.size + 1, 0, none⟩) 0 0) (wo (ws.take 0) s g) from by
    have h0 := (ow_emptyW (w.alloc (.cells #[.int .i64 s, .int .i64 g] 24))).lower (base' := w.heap.size) (by simp)
    have e0 : (w.alloc (.cells #[.int .i64 s, .int .i64 g] 24)).heap.size = w.heap.size + 1 := by simp
    rw [e0] at h0
    exact h0)
  have HBX := hid (al_blk hbx (.cells #[] 95))
  have K0 := hid (show Gr w ((w.alloc (.cells #[.int .i64 s, .int .i64 g] 24)).alloc (.cells #[] 95)) from Ch.alloc (Ch.alloc (Gr.refl w) _) _)
  clear h hbx
  go_enter Try.func66, Try.ntmps66
  go_wp2_with fail
  go_loopg [6, 7] n (fun m o i wq => ∃ (j k c : Nat) (a : Option Addr), j + m = n ∧ i = .int .i64 ((j : Nat) : Int) ∧ o = .slice a k c ∧ Ow eW 4 95 w.heap.size wq (.slice a k c) (wo (ws.take j) s g) ∧ (∀ q, Blk (.slice a k c) q → q ≠ w.heap.size) ∧ wq.heap[w.heap.size]? = some (.cells #[.int .i64 s, .int .i64 g] 24 (0, 0)) ∧ Gr w wq)
  case atStart => exact ⟨0, 0, 0, _, by omega, rfl, rfl, HE.out, (fun q hq e => by have e1 : some (w.heap.size + 1) = some q := hq; have e2 := Option.some.inj e1; omega), HBX.out, K0.out⟩
  case round =>
    obtain ⟨j, k, c, a, hjm, rfl, rfl, hO, hN, hX, hG⟩ := hrel
    have HO := hid hO
    have HN := hid hN
    have HX := hid hX
    have HG := hid hG
    have b0 := cell_of hX 0
    have b1 := cell_of hX 1
    simp at b0 b1
    clear hO hG hN hX
    by_cases hj : j < n
    · obtain ⟨⟨x0, x1, x2, x3⟩, hx⟩ : ∃ x, ws[j]? = some x := ⟨_, List.getElem?_eq_getElem (by rw [← HL.out]; exact hj)⟩
      obtain ⟨gg, oo, cap', hv, _, hgl, _, hcs⟩ := (HB.out.gr HG.out).get eW_len hx
      injection hv with hv1 hv2 hv3
      subst hv1
      have c0 := hcs 0 _ rfl
      have c1 := hcs 1 _ rfl
      have c2 := hcs 2 _ rfl
      have c3 := hcs 3 _ rfl
      dsimp only [Nat.add_zero] at c0 c1 c2 c3
      have j0 : (0 : Int) ≤ (j : Int) := by omega
      have j1 : (j : Int) < (n : Int) := by omega
      have HS := hid (show w.heap.size ≤ wr.heap.size from HG.out.size)
      have HT := hid (take_one hx)
      have HKL := hid (show k = (wo (ws.take j) s g).length from HO.out.len.1)
      have HKJ := hid (show k ≤ j from by rw [HKL.out]; exact Nat.le_trans (wo_len _ _ _) (by rw [List.length_take]; omega))
      have HW := hid (wo_snoc (ws.take j) (Wt.mk x0 x1 x2 x3) s g)
      rw [← HT.out] at HW
      clear HT
      generalize wo (ws.take j) s g = zs at HO HW HKL
      clear hcs hv2 hv3 hx hgl
      by_cases e1 : x0 = s
      · subst e1
        by_cases e2 : x1 = g
        · subst e2
          rw [if_pos (by simp)] at HW
          go_wp2_with fail
          go_region
          all_goals go_wp2
          all_goals go_roundg (gk - 1)
          all_goals first | omega | skip
          all_goals exact ⟨j + 1, k, c, a, by omega, by simp, rfl, by rw [HW.out]; exact HO.out, HN.out, HX.out, HG.out.drew⟩
        · rw [if_neg (by simp [e2])] at HW
          have HK3 := hid (show k + 1 ≤ 4398046511104 from by have := HKJ.out; omega)
          go_wp2_with fail
          go_region
          all_goals go_wp2_with (at_builtin; refine wpList_append_ow eW_len rfl (.tmp 22) (.tmp 27) _ 95 32 _ Try.underlying68 wtr_info rfl (by omega) rfl w.heap.size _ zs rfl (HO.out.alloc _).drew _ _ [(Wt.mk x0 x1 x2 x3)] rfl (Ls.single wr (Wt.mk x0 x1 x2 x3) 95 #[.int .i64 x0, .int .i64 x1, .int .i64 x2, .int .i64 x3] rfl).drew (eW_one _) (k + 1) (by rw [← HKL.out]; rfl) (by have := HK3.out; omega) (by unfold maxLen; have := HK3.out; omega) (by simp; have := HS.out; omega) (zs ++ [(Wt.mk x0 x1 x2 x3)]) rfl ?_; intro ao5 cap5 w5 ow5 cw5 bl5; have O5 := hid ow5; have G5 := hid (show Gr w w5 from Ch.trans (Ch.alloc HG.out _).drew cw5 (fun q h => .inr (HO.out.blk h).1)); have N5 := hid (show ∀ q, Blk (.slice ao5 (k + 1) cap5) q → q ≠ w.heap.size from fun q hq => (bl5 q hq).elim (HN.out q) (fun hs e => by have := HX.out; have := lt_of_block this; simp at hs; omega)); have X5 := hid ((cw5.block _ (lt_of_block (al_blk (w := wr) HX.out _)) (fun hq => HN.out _ hq rfl)).trans (al_blk (w := wr) HX.out _)); clear ow5 cw5 bl5)
          all_goals clear c0 c1 c2 c3 b0 b1
          all_goals go_roundg (gk - 1)
          all_goals first | omega | skip
          all_goals exact ⟨j + 1, k + 1, cap5, ao5, by omega, by simp, rfl, by rw [HW.out]; exact O5.out, N5.out, X5.out, G5.out⟩
      · rw [if_neg (by simp [e1])] at HW
        have HK3 := hid (show k + 1 ≤ 4398046511104 from by have := HKJ.out; omega)
        go_wp2_with fail
        go_region
        all_goals go_wp2_with (at_builtin; refine wpList_append_ow eW_len rfl (.tmp 22) (.tmp 27) _ 95 32 _ Try.underlying68 wtr_info rfl (by omega) rfl w.heap.size _ zs rfl (HO.out.alloc _).drew _ _ [(Wt.mk x0 x1 x2 x3)] rfl (Ls.single wr (Wt.mk x0 x1 x2 x3) 95 #[.int .i64 x0, .int .i64 x1, .int .i64 x2, .int .i64 x3] rfl).drew (eW_one _) (k + 1) (by rw [← HKL.out]; rfl) (by have := HK3.out; omega) (by unfold maxLen; have := HK3.out; omega) (by simp; have := HS.out; omega) (zs ++ [(Wt.mk x0 x1 x2 x3)]) rfl ?_; intro ao5 cap5 w5 ow5 cw5 bl5; have O5 := hid ow5; have G5 := hid (show Gr w w5 from Ch.trans (Ch.alloc HG.out _).drew cw5 (fun q h => .inr (HO.out.blk h).1)); have N5 := hid (show ∀ q, Blk (.slice ao5 (k + 1) cap5) q → q ≠ w.heap.size from fun q hq => (bl5 q hq).elim (HN.out q) (fun hs e => by have := HX.out; have := lt_of_block this; simp at hs; omega)); have X5 := hid ((cw5.block _ (lt_of_block (al_blk (w := wr) HX.out _)) (fun hq => HN.out _ hq rfl)).trans (al_blk (w := wr) HX.out _)); clear ow5 cw5 bl5)
        all_goals clear c0 c1 c2 c3 b0 b1
        all_goals go_roundg (gk - 1)
        all_goals first | omega | skip
        all_goals exact ⟨j + 1, k + 1, cap5, ao5, by omega, by simp, rfl, by rw [HW.out]; exact O5.out, N5.out, X5.out, G5.out⟩
    · have jn : ¬ (j : Int) < (n : Int) := by omega
      have HT := hid (show ws.take j = ws from List.take_of_length_le (by rw [← HL.out]; omega))
      rw [HT.out] at HO
      have HKL := hid (show k = (wo ws s g).length from HO.out.len.1)
      have HKN := hid (show k ≤ n from by rw [HKL.out, HL.out]; exact wo_len _ _ _)
      have hw : wrap64 ((n : Int) - (k : Int)) = ((n - k : Nat) : Int) := by
        have := HKN.out
        unfold wrap64
        omega
      go_wp2
      refine bodyPost_ret (v := .tuple #[.slice a k c, .int .i64 ((n - k : Nat) : Int)]) (by simp [results, Try.results66, go_sem]) rfl ⟨_, ?_, HO.out, HG.out⟩
      rw [← HKL.out, ← HL.out]
theorem ris_any (ao : Option Addr) (n cap : Nat) (i : Int) (w : World) : Calls Try.prog 57 #[.slice ao n cap, .int .i64 i] w fun e w' => e = .returned (.bool (decide (1 ≤ i ∧ i ≤ (n : Int)))) ∧ w' = w := by
  by_cases h0 : 1 ≤ i
  · have d0 : decide (1 ≤ i) = true := decide_eq_true h0
    by_cases h1 : i ≤ (n : Int)
    · have d1 : decide (i ≤ (n : Int)) = true := decide_eq_true h1
      rw [decide_eq_true (show 1 ≤ i ∧ i ≤ (n : Int) from ⟨h0, h1⟩)]
      go_enter Try.func57, Try.ntmps57
      go_wp2
      go_ret
      exact ⟨rfl, rfl⟩
    · have d1 : decide (i ≤ (n : Int)) = false := decide_eq_false h1
      rw [decide_eq_false (show ¬ (1 ≤ i ∧ i ≤ (n : Int)) from fun q => h1 q.2)]
      go_enter Try.func57, Try.ntmps57
      go_wp2
      go_ret
      exact ⟨rfl, rfl⟩
  · have d0 : decide (1 ≤ i) = false := decide_eq_false h0
    rw [decide_eq_false (show ¬ (1 ≤ i ∧ i ≤ (n : Int)) from fun q => h0 q.1)]
    go_enter Try.func57, Try.ntmps57
    go_wp2
    go_ret
    exact ⟨rfl, rfl⟩
end Go.Proofs.Ytalmiphddgmfbab.Lt
