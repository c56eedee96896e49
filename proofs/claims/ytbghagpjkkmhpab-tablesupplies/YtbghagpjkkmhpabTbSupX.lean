/-
  Supply's inner function: a slot's part in which its domain can run is appended to a list. Conditions: the slot may be, the list is not too long.
-/
import Derived.Test.YtbghagpjkkmhpabTbSupP
import Derived.Test.YtbghagpjkkmhpabTbNum
import Derived.Test.YtbghagpjkkmhpabTbSkip
import Derived.Test.YtbghagpjkkmhpabTbChk1
import Derived.Deep.RegionHeld3
namespace Go.Proofs.Ytbghagpjkkmhpab.Lt
open Go.RowKit Wd
attribute [local go_sem ↓] Go.wp_at_zero Go.wp_at_succ
set_option maxRecDepth 20000

/-- while a slot is appended: its box, and what may turn -/
def Sc (w : World) (lb base : Nat) (X : Array Value) (V : World) : Prop := V.heap[w.heap.size]? = some (.cells X 48 (0, 0)) ∧ Ch (Apd lb base) w V
theorem Sc.ch {w V W : World} {lb base : Nat} {X : Array Value} (h : Sc w lb base X V) (g : Ch (Apd lb base) V W) (b : W.heap[w.heap.size]? = some (.cells X 48 (0, 0))) : Sc w lb base X W := ⟨b, Ch.trans' h.2 g⟩
theorem Sc.gr {w V W : World} {lb base : Nat} {X : Array Value} (h : Sc w lb base X V) (g : Gr V W) : Sc w lb base X W := h.ch g.any (gr_blk h.1 g)
theorem Sc.sz {w V : World} {lb base : Nat} {X : Array Value} (h : Sc w lb base X V) (hb : base ≤ w.heap.size) : base ≤ V.heap.size := Nat.le_trans hb h.2.size
set_option maxHeartbeats 8000000 in
theorem supc_any (w : World) (P : Int) (x : Sl) (lb base : Nat) (hp : 0 ≤ x.p) (hpl : x.p ≤ x.l) (hl : x.l ≤ 18446744073709551615)
    (xs : List (Int × Int)) (hxl : xs.length ≤ 65536) (hb : LBox eW 2 46 71 lb base xs w) (h1 : lb < base) (h2 : base ≤ w.heap.size) :
    Calls Try.prog 34 #[.int .i64 P, .agg #[.int .i64 x.d, .int .u64 x.s, .int .u64 x.l, .int .u64 x.p], .pointer (some ⟨lb, 0, none⟩)] w fun e w' => e = .returned (.tuple #[]) ∧ LBox eW 2 46 71 lb base (xs ++ [wn x]) w' ∧ Ch (Apd lb base) w w' := by
  have HRUN := hide (run_any x.d x.s x.l x.p hp hpl hl)
  obtain ⟨ao, cap, b1, o1⟩ := hb.form
  have HBL := hide (fun q (hq : Blk (.slice ao xs.length cap) q) => o1.blk hq)
  have H1 := hide h1
  have H2 := hide h2
  obtain ⟨V, hV⟩ : ∃ W, W = w.alloc (.cells #[.int .i64 x.d, .int .u64 x.s, .int .u64 x.l, .int .u64 x.p] 48) := ⟨_, rfl⟩
  have hS0 : Sc w lb base #[.int .i64 x.d, .int .u64 x.s, .int .u64 x.l, .int .u64 x.p] V.drew := by rw [hV]; exact ⟨al_at _ rfl, Ch.drew (Ch.alloc (Ch.refl _ w) _)⟩
  have BV0 := hide (show V.drew.heap[lb]? = some (.cells #[.slice ao xs.length cap] 71 (0, 0)) by rw [hV]; exact gr_blk b1 (Ch.drew (Ch.alloc (Gr.refl w) _)))
  have OV0 := hide (show Ow eW 2 46 base V.drew (.slice ao xs.length cap) xs by rw [hV]; exact (o1.alloc _).drew)
  clear hp hpl hl hb b1 o1
  go_enter Try.func34, Try.ntmps34
  go_wp2_with fail
  rw [← hV]
  clear hV
  refine wp_region_held_drew (S := Sc w lb base #[.int .i64 x.d, .int .u64 x.s, .int .u64 x.l, .int .u64 x.p]) (by kernel_rfl) (by exact hS0) (fun _ => ?_)
  generalize World.drew V = V0 at hS0 BV0 OV0 ⊢
  refine takeS_on (i := 1) 6 (v := ?hv1) rfl rfl (by kernel_rfl) (by kernel_rfl) (by kernel_rfl) (fun _ _ _ h => h) (by kernel_rfl) ?hh1 (by exact hS0) ?_
  case hh1 => (intro w' hSw; have x0 := cell_of hSw.1 0; have x1 := cell_of hSw.1 1; have x2 := cell_of hSw.1 2; have x3 := cell_of hSw.1 3; have xl := lt_of_block hSw.1; simp at x0 x1 x2 x3; go_simp; try (with_reducible rfl))
  simp only [Act.put, List.setIfInBounds_toArray, List.set_cons_zero, List.set_cons_succ]
  refine wpAnyH_ready (rs := [0, 2]) (by kernel_rfl) (by simp) (AllReadyH.cons rfl (fun K hK => ?_) (AllReadyH.cons rfl (fun K hK => ?_) AllReadyH.nil))
  · have z0 := cell_of BV0.out 0
    have zl := lt_of_block BV0.out
    simp at z0
    go_simp
    refine hK.out _ _ (by exact hS0) (fun _ => ?_)
    clear hK K
    refine wpAnyH_ready (rs := [2]) (by kernel_rfl) (by simp) (AllReadyH.cons rfl (fun K hK => ?_) AllReadyH.nil)
    go_simp
    refine (HRUN.out V0).mono ?_
    rintro e w5 ⟨rfl, g5⟩
    have hS5 := hS0.gr g5
    have Bw5 := hide (gr_blk BV0.out g5)
    have Ow5 := hide (OV0.out.gr g5)
    clear g5
    refine hK.out _ _ (by exact hS5) (fun _ => ?_)
    clear hK K
    refine wpAnyH_ready (rs := [3]) (by kernel_rfl) (by simp) (AllReadyH.cons rfl (fun K hK => ?_) AllReadyH.nil)
    go_simp
    have hS1 := hS5.gr (Ch.alloc (Gr.refl w5) (.cells #[.int .u64 x.s, .int .u64 (x.l - x.p)] 46))
    have BV1 := hide (gr_blk Bw5.out (Ch.alloc (Gr.refl w5) (.cells #[.int .u64 x.s, .int .u64 (x.l - x.p)] 46)))
    have OV1 := hide (Ow5.out.alloc (.cells #[.int .u64 x.s, .int .u64 (x.l - x.p)] 46))
    have LS1 := hide (Ls.single (enc := eW) w5 (wn x) 46 #[.int .u64 x.s, .int .u64 (x.l - x.p)] rfl)
    have HB1 := hide (show base ≤ (w5.alloc (.cells #[.int .u64 x.s, .int .u64 (x.l - x.p)] 46)).heap.size from hS1.sz H2.out)
    generalize w5.alloc (.cells #[.int .u64 x.s, .int .u64 (x.l - x.p)] 46) = V1 at hS1 BV1 OV1 LS1 HB1 ⊢
    refine hK.out _ _ (by exact hS1) (fun _ => ?_)
    clear hK K
    refine wpAnyH_ready (rs := [4]) (by kernel_rfl) (by simp) (AllReadyH.cons rfl (fun K hK => ?_) AllReadyH.nil)
    refine step_append_ow eW_len rfl (.tmp 5) (.tmp 8) 71 46 16 (.agg #[.int .u64 0, .int .u64 0]) Try.underlying71 win_info rfl (by omega) rfl base (.slice ao xs.length cap) xs rfl OV1.out _ _ [wn x] rfl LS1.out (eW_one _) (xs.length + 1) (by simp) (by omega) (by unfold maxLen; omega) HB1.out (xs ++ [wn x]) rfl ?_
    intro a5 c5 w6 o6 k6 b6
    have HS6 := hide (LBox.set BV1.out H1.out (fun q hq => (HBL.out q hq).1) o6 k6 b6)
    have B6 := (k6.block lb (lt_of_block BV1.out) (fun q => by have := (HBL.out lb q).1; have := H1.out; omega)).trans BV1.out
    have hS6 := hS1.ch (k6.mono (T := Apd lb base) (fun q hq => .inl (.inr (HBL.out q hq).1))) ((k6.block _ (lt_of_block hS1.1) (fun q => by have := (HBL.out _ q).2; omega)).trans hS1.1)
    have z6 := cell_of B6 0
    have f6 := frozen_of B6 0
    have zl6 := lt_of_block B6
    simp at z6
    refine hK.out _ _ (by exact hS6) (fun _ => ?_)
    change wpAnyH _ _ _ _ _ _ _ (Act.put _ (some 9) _) _
    simp only [Act.put, List.setIfInBounds_toArray, List.set_cons_zero, List.set_cons_succ]
    clear hK K
    refine wpAnyH_ready (rs := [5]) (by kernel_rfl) (by simp) (AllReadyH.cons rfl (fun K hK => ?_) AllReadyH.nil)
    go_simp
    have hS7 := hS6.ch (Ch.setCell (Ch.refl (Apd lb base) w6) (p := ⟨lb, 0, none⟩) (.inl (.inl rfl)) (.slice a5 (xs.length + 1) c5)) (((Ch.own (b := lb) (Ch.refl _ w6) 0 (.slice a5 (xs.length + 1) c5)).block _ (lt_of_block hS6.1) (fun q => by have e1 : w.heap.size = lb := q; have := H1.out; have := H2.out; omega)).trans hS6.1)
    refine hK.out _ _ (by exact hS7) (fun _ => ?_)
    clear hK K
    refine wpAnyH_done (by kernel_rfl) ?_ _
    go_end0
    exact ⟨rfl, HS6.out.1, Ch.trans hS1.2 HS6.out.2 (fun q hq => .inl hq)⟩
  · go_simp
    refine (HRUN.out V0).mono ?_
    rintro e w5 ⟨rfl, g5⟩
    have hS5 := hS0.gr g5
    have Bw5 := hide (gr_blk BV0.out g5)
    have Ow5 := hide (OV0.out.gr g5)
    clear g5
    refine hK.out _ _ (by exact hS5) (fun _ => ?_)
    clear hK K
    refine wpAnyH_ready (rs := [0, 3]) (by kernel_rfl) (by simp) (AllReadyH.cons rfl (fun K hK => ?_) (AllReadyH.cons rfl (fun K hK => ?_) AllReadyH.nil))
    · have z0 := cell_of Bw5.out 0
      have zl := lt_of_block Bw5.out
      simp at z0
      go_simp
      refine hK.out _ _ (by exact hS5) (fun _ => ?_)
      clear hK K
      refine wpAnyH_ready (rs := [3]) (by kernel_rfl) (by simp) (AllReadyH.cons rfl (fun K hK => ?_) AllReadyH.nil)
      go_simp
      have hS1 := hS5.gr (Ch.alloc (Gr.refl w5) (.cells #[.int .u64 x.s, .int .u64 (x.l - x.p)] 46))
      have BV1 := hide (gr_blk Bw5.out (Ch.alloc (Gr.refl w5) (.cells #[.int .u64 x.s, .int .u64 (x.l - x.p)] 46)))
      have OV1 := hide (Ow5.out.alloc (.cells #[.int .u64 x.s, .int .u64 (x.l - x.p)] 46))
      have LS1 := hide (Ls.single (enc := eW) w5 (wn x) 46 #[.int .u64 x.s, .int .u64 (x.l - x.p)] rfl)
      have HB1 := hide (show base ≤ (w5.alloc (.cells #[.int .u64 x.s, .int .u64 (x.l - x.p)] 46)).heap.size from hS1.sz H2.out)
      generalize w5.alloc (.cells #[.int .u64 x.s, .int .u64 (x.l - x.p)] 46) = V1 at hS1 BV1 OV1 LS1 HB1 ⊢
      refine hK.out _ _ (by exact hS1) (fun _ => ?_)
      clear hK K
      refine wpAnyH_ready (rs := [4]) (by kernel_rfl) (by simp) (AllReadyH.cons rfl (fun K hK => ?_) AllReadyH.nil)
      refine step_append_ow eW_len rfl (.tmp 5) (.tmp 8) 71 46 16 (.agg #[.int .u64 0, .int .u64 0]) Try.underlying71 win_info rfl (by omega) rfl base (.slice ao xs.length cap) xs rfl OV1.out _ _ [wn x] rfl LS1.out (eW_one _) (xs.length + 1) (by simp) (by omega) (by unfold maxLen; omega) HB1.out (xs ++ [wn x]) rfl ?_
      intro a5 c5 w6 o6 k6 b6
      have HS6 := hide (LBox.set BV1.out H1.out (fun q hq => (HBL.out q hq).1) o6 k6 b6)
      have B6 := (k6.block lb (lt_of_block BV1.out) (fun q => by have := (HBL.out lb q).1; have := H1.out; omega)).trans BV1.out
      have hS6 := hS1.ch (k6.mono (T := Apd lb base) (fun q hq => .inl (.inr (HBL.out q hq).1))) ((k6.block _ (lt_of_block hS1.1) (fun q => by have := (HBL.out _ q).2; omega)).trans hS1.1)
      have z6 := cell_of B6 0
      have f6 := frozen_of B6 0
      have zl6 := lt_of_block B6
      simp at z6
      refine hK.out _ _ (by exact hS6) (fun _ => ?_)
      change wpAnyH _ _ _ _ _ _ _ (Act.put _ (some 9) _) _
      simp only [Act.put, List.setIfInBounds_toArray, List.set_cons_zero, List.set_cons_succ]
      clear hK K
      refine wpAnyH_ready (rs := [5]) (by kernel_rfl) (by simp) (AllReadyH.cons rfl (fun K hK => ?_) AllReadyH.nil)
      go_simp
      have hS7 := hS6.ch (Ch.setCell (Ch.refl (Apd lb base) w6) (p := ⟨lb, 0, none⟩) (.inl (.inl rfl)) (.slice a5 (xs.length + 1) c5)) (((Ch.own (b := lb) (Ch.refl _ w6) 0 (.slice a5 (xs.length + 1) c5)).block _ (lt_of_block hS6.1) (fun q => by have e1 : w.heap.size = lb := q; have := H1.out; have := H2.out; omega)).trans hS6.1)
      refine hK.out _ _ (by exact hS7) (fun _ => ?_)
      clear hK K
      refine wpAnyH_done (by kernel_rfl) ?_ _
      go_end0
      exact ⟨rfl, HS6.out.1, Ch.trans hS1.2 HS6.out.2 (fun q hq => .inl hq)⟩
    · go_simp
      have hS1 := hS5.gr (Ch.alloc (Gr.refl w5) (.cells #[.int .u64 x.s, .int .u64 (x.l - x.p)] 46))
      have BV1 := hide (gr_blk Bw5.out (Ch.alloc (Gr.refl w5) (.cells #[.int .u64 x.s, .int .u64 (x.l - x.p)] 46)))
      have OV1 := hide (Ow5.out.alloc (.cells #[.int .u64 x.s, .int .u64 (x.l - x.p)] 46))
      have LS1 := hide (Ls.single (enc := eW) w5 (wn x) 46 #[.int .u64 x.s, .int .u64 (x.l - x.p)] rfl)
      have HB1 := hide (show base ≤ (w5.alloc (.cells #[.int .u64 x.s, .int .u64 (x.l - x.p)] 46)).heap.size from hS1.sz H2.out)
      generalize w5.alloc (.cells #[.int .u64 x.s, .int .u64 (x.l - x.p)] 46) = V1 at hS1 BV1 OV1 LS1 HB1 ⊢
      refine hK.out _ _ (by exact hS1) (fun _ => ?_)
      clear hK K
      refine wpAnyH_ready (rs := [0]) (by kernel_rfl) (by simp) (AllReadyH.cons rfl (fun K hK => ?_) AllReadyH.nil)
      have z0 := cell_of BV1.out 0
      have zl := lt_of_block BV1.out
      simp at z0
      go_simp
      refine hK.out _ _ (by exact hS1) (fun _ => ?_)
      clear hK K
      refine wpAnyH_ready (rs := [4]) (by kernel_rfl) (by simp) (AllReadyH.cons rfl (fun K hK => ?_) AllReadyH.nil)
      refine step_append_ow eW_len rfl (.tmp 5) (.tmp 8) 71 46 16 (.agg #[.int .u64 0, .int .u64 0]) Try.underlying71 win_info rfl (by omega) rfl base (.slice ao xs.length cap) xs rfl OV1.out _ _ [wn x] rfl LS1.out (eW_one _) (xs.length + 1) (by simp) (by omega) (by unfold maxLen; omega) HB1.out (xs ++ [wn x]) rfl ?_
      intro a5 c5 w6 o6 k6 b6
      have HS6 := hide (LBox.set BV1.out H1.out (fun q hq => (HBL.out q hq).1) o6 k6 b6)
      have B6 := (k6.block lb (lt_of_block BV1.out) (fun q => by have := (HBL.out lb q).1; have := H1.out; omega)).trans BV1.out
      have hS6 := hS1.ch (k6.mono (T := Apd lb base) (fun q hq => .inl (.inr (HBL.out q hq).1))) ((k6.block _ (lt_of_block hS1.1) (fun q => by have := (HBL.out _ q).2; omega)).trans hS1.1)
      have z6 := cell_of B6 0
      have f6 := frozen_of B6 0
      have zl6 := lt_of_block B6
      simp at z6
      refine hK.out _ _ (by exact hS6) (fun _ => ?_)
      change wpAnyH _ _ _ _ _ _ _ (Act.put _ (some 9) _) _
      simp only [Act.put, List.setIfInBounds_toArray, List.set_cons_zero, List.set_cons_succ]
      clear hK K
      refine wpAnyH_ready (rs := [5]) (by kernel_rfl) (by simp) (AllReadyH.cons rfl (fun K hK => ?_) AllReadyH.nil)
      go_simp
      have hS7 := hS6.ch (Ch.setCell (Ch.refl (Apd lb base) w6) (p := ⟨lb, 0, none⟩) (.inl (.inl rfl)) (.slice a5 (xs.length + 1) c5)) (((Ch.own (b := lb) (Ch.refl _ w6) 0 (.slice a5 (xs.length + 1) c5)).block _ (lt_of_block hS6.1) (fun q => by have e1 : w.heap.size = lb := q; have := H1.out; have := H2.out; omega)).trans hS6.1)
      refine hK.out _ _ (by exact hS7) (fun _ => ?_)
      clear hK K
      refine wpAnyH_done (by kernel_rfl) ?_ _
      go_end0
      exact ⟨rfl, HS6.out.1, Ch.trans hS1.2 HS6.out.2 (fun q hq => .inl hq)⟩
end Go.Proofs.Ytbghagpjkkmhpab.Lt
