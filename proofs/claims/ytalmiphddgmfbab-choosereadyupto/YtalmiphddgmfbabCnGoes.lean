/-
  What the document's Goes of layer 11 answers where there is a channel. Condition: there is.
-/
import Derived.Test.YtalmiphddgmfbabCnRef2
import Derived.Test.YtalmiphddgmfbabCnSame2
namespace Go.Proofs.Ytalmiphddgmfbab.Lt
open Go.RowKit Wd
attribute [local go_sem ↓] Go.wp_at_zero Go.wp_at_succ

set_option maxHeartbeats 2000000 in
theorem rgoes_yes (P : Nat → Prop) (ao : Option Addr) (n cap : Nat) (cs : List Cn) (k : Nat) (c : Cn) (sd : Bool) (w : World) (h : Rds P w (.slice ao n cap) cs) (hc : cs[k]? = some c) (hb : n ≤ 1599289640400) : Calls Try.prog 39 #[.slice ao n cap, .int .i64 ((k + 1 : Nat) : Int), .bool sd] w fun e w' => e = .returned (.tuple #[.bool (goes c sd), .int .i64 0]) ∧ Gr w w' := by
  obtain ⟨raws, hl, hn, hf⟩ := h
  obtain ⟨x, hx⟩ : ∃ x, raws[k]? = some x := ⟨_, List.getElem?_eq_getElem (by rw [hn]; exact (List.getElem?_eq_some_iff.1 hc).1)⟩
  have hrd := hf k x c hx hc
  obtain ⟨gg, oo, cap', hv, _, hgl, _, hcs⟩ := hl.get eR_len hx
  injection hv with hv1 hv2 hv3
  subst hv1
  have hkn : k < n := by rw [hv2, hn]; exact (List.getElem?_eq_some_iff.1 hc).1
  have hd : decide (1 ≤ ((k + 1 : Nat) : Int) ∧ ((k + 1 : Nat) : Int) ≤ (n : Int)) = true := decide_eq_true (by omega)
  have HI := hid ris_any
  have hw1 : wrap64 (((k + 1 : Nat) : Int) - 1) = (k : Int) := by unfold wrap64; omega
  have k0 : (0 : Int) ≤ (k : Int) := by omega
  have k1 : (k : Int) < (n : Int) := by omega
  obtain ⟨ch, hch⟩ : ∃ ch : Int, ch = ((k + 1 : Nat) : Int) := ⟨_, rfl⟩
  rw [← hch] at hd hw1 ⊢
  clear hch
  obtain ⟨vo, vk, ev⟩ := hrd.v.form
  obtain ⟨so, sk, es⟩ := hrd.s.form
  obtain ⟨ro, rk, er⟩ := hrd.r.form
  have c0 := hcs 0 _ rfl
  have c1 := hcs 1 _ rfl
  have c2 := hcs 2 _ rfl
  have c3 := hcs 3 _ rfl
  have c4 := hcs 4 _ rfl
  simp only [Nat.add_zero] at c0
  rw [hrd.cap] at c0
  rw [ev] at c1
  rw [es] at c2
  rw [er] at c3
  rw [hrd.cl] at c4
  unfold goes
  generalize c.vs.length = vn at c1 ⊢
  generalize c.ss.length = sn at c2 ⊢
  generalize c.rs.length = rn at c3 ⊢
  generalize c.cap = cp at c0 ⊢
  generalize c.cl = cl at c4 ⊢
  clear hcs hv2 hv3 hx hrd hf hl hn hc ev es er
  cases cl with
  | true =>
    rw [if_pos rfl]
    go_enter Try.func39, Try.ntmps39
    go_wp2_with (first
      | (go_at_call 57; refine (HI.out _ _ _ _ _).mono ?_; rw [hd]; rintro e w1 ⟨rfl, hw⟩; have hw := hw.symm; subst hw)
      | (refine st_row rfl 70 (.tmp 8) (.tmp 20) rfl w.heap.size _ rfl rfl _ _ (MapKept.heap_alloc w _).1 chn_size rfl (one5 _ _ _ _ _ _ _ _ _ _ _) ?_; intro w3 b3 k3; have G3 := hid (show Gr w w3 from Ch.trans (Ch.alloc (Gr.refl w) _) k3 (fun q e => .inr (by have e1 : q = w.heap.size := e; omega))); obtain ⟨p0, p1, p2, p3, p4⟩ := five_cells b3; clear b3 k3))
    exact bodyPost_ret (v := .tuple #[.bool true, .int .i64 0]) (by simp [results, Try.results39, go_sem]) rfl ⟨rfl, G3.out⟩
  | false =>
    rw [if_neg (by simp)]
    cases sd with
    | true =>
      rw [if_pos rfl]
      by_cases hr : 0 < rn
      · rw [decide_eq_true hr, Bool.true_or]
        have hr' : (0 : Int) < (rn : Int) := by omega
        clear hr
        go_enter Try.func39, Try.ntmps39
        go_wp2_with (first
          | (go_at_call 57; refine (HI.out _ _ _ _ _).mono ?_; rw [hd]; rintro e w1 ⟨rfl, hw⟩; have hw := hw.symm; subst hw)
          | (refine st_row rfl 70 (.tmp 8) (.tmp 20) rfl w.heap.size _ rfl rfl _ _ (MapKept.heap_alloc w _).1 chn_size rfl (one5 _ _ _ _ _ _ _ _ _ _ _) ?_; intro w3 b3 k3; have G3 := hid (show Gr w w3 from Ch.trans (Ch.alloc (Gr.refl w) _) k3 (fun q e => .inr (by have e1 : q = w.heap.size := e; omega))); obtain ⟨p0, p1, p2, p3, p4⟩ := five_cells b3; clear b3 k3))
        exact bodyPost_ret (v := .tuple #[.bool true, .int .i64 0]) (by simp [results, Try.results39, go_sem]) rfl ⟨rfl, G3.out⟩
      · rw [decide_eq_false hr, Bool.false_or]
        have hr' : ¬ (0 : Int) < (rn : Int) := by omega
        clear hr
        go_enter Try.func39, Try.ntmps39
        go_wp2_with (first
          | (go_at_call 57; refine (HI.out _ _ _ _ _).mono ?_; rw [hd]; rintro e w1 ⟨rfl, hw⟩; have hw := hw.symm; subst hw)
          | (refine st_row rfl 70 (.tmp 8) (.tmp 20) rfl w.heap.size _ rfl rfl _ _ (MapKept.heap_alloc w _).1 chn_size rfl (one5 _ _ _ _ _ _ _ _ _ _ _) ?_; intro w3 b3 k3; have G3 := hid (show Gr w w3 from Ch.trans (Ch.alloc (Gr.refl w) _) k3 (fun q e => .inr (by have e1 : q = w.heap.size := e; omega))); obtain ⟨p0, p1, p2, p3, p4⟩ := five_cells b3; clear b3 k3))
        exact bodyPost_ret (v := .tuple #[.bool (decide ((vn : Int) < cp)), .int .i64 0]) (by simp [results, Try.results39, go_sem]) rfl ⟨rfl, G3.out⟩
    | false =>
      rw [if_neg (by simp)]
      by_cases hr : 0 < vn
      · rw [decide_eq_true hr, Bool.true_or]
        have hr' : (0 : Int) < (vn : Int) := by omega
        clear hr
        go_enter Try.func39, Try.ntmps39
        go_wp2_with (first
          | (go_at_call 57; refine (HI.out _ _ _ _ _).mono ?_; rw [hd]; rintro e w1 ⟨rfl, hw⟩; have hw := hw.symm; subst hw)
          | (refine st_row rfl 70 (.tmp 8) (.tmp 20) rfl w.heap.size _ rfl rfl _ _ (MapKept.heap_alloc w _).1 chn_size rfl (one5 _ _ _ _ _ _ _ _ _ _ _) ?_; intro w3 b3 k3; have G3 := hid (show Gr w w3 from Ch.trans (Ch.alloc (Gr.refl w) _) k3 (fun q e => .inr (by have e1 : q = w.heap.size := e; omega))); obtain ⟨p0, p1, p2, p3, p4⟩ := five_cells b3; clear b3 k3))
        exact bodyPost_ret (v := .tuple #[.bool true, .int .i64 0]) (by simp [results, Try.results39, go_sem]) rfl ⟨rfl, G3.out⟩
      · rw [decide_eq_false hr, Bool.false_or]
        have hr' : ¬ (0 : Int) < (vn : Int) := by omega
        clear hr
        go_enter Try.func39, Try.ntmps39
        go_wp2_with (first
          | (go_at_call 57; refine (HI.out _ _ _ _ _).mono ?_; rw [hd]; rintro e w1 ⟨rfl, hw⟩; have hw := hw.symm; subst hw)
          | (refine st_row rfl 70 (.tmp 8) (.tmp 20) rfl w.heap.size _ rfl rfl _ _ (MapKept.heap_alloc w _).1 chn_size rfl (one5 _ _ _ _ _ _ _ _ _ _ _) ?_; intro w3 b3 k3; have G3 := hid (show Gr w w3 from Ch.trans (Ch.alloc (Gr.refl w) _) k3 (fun q e => .inr (by have e1 : q = w.heap.size := e; omega))); obtain ⟨p0, p1, p2, p3, p4⟩ := five_cells b3; clear b3 k3))
        exact bodyPost_ret (v := .tuple #[.bool (decide (0 < sn)), .int .i64 0]) (by simp [results, Try.results39, go_sem]) rfl ⟨rfl, G3.out⟩
end Go.Proofs.Ytalmiphddgmfbab.Lt
