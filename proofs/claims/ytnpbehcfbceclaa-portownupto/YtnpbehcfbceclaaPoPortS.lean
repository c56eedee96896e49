/-
  What a port's State tells. Condition: the port is there, and may be.
-/
import Derived.Test.YtnpbehcfbceclaaPoTwo
import Derived.Test.YtnpbehcfbceclaaPoStateS
import Derived.Test.YtnpbehcfbceclaaPoStateQ
namespace Go.Proofs.Ytnpbehcfbceclaa.Lt
open Go.RowKit Wd
attribute [local go_sem ↓] Go.wp_at_zero Go.wp_at_succ
set_option maxRecDepth 20000

/-- what is told, copied into the result -/
theorem StR.copy {w W w1 w' : World} {x : Pt} {v1 v2 : Value} {z : Array Value} (g0 : Gr w W) (hz : W.heap[w.heap.size]? = some (.cells z 32 (0, 0))) (o1 : Ow eI 1 2 W.heap.size w1 v1 x.out) (o2 : Ow eG 2 59 W.heap.size w1 v2 x.inn) (g1 : Gr W w1) (c : Ch (Only w.heap.size) w1 w') : StR w x (.returned (stV x v1 v2)) w' := by
  have hl := lt_of_block hz
  refine ⟨v1, v2, rfl, (o1.ch c (fun q e e1 => ?_)).lower g0.size, (o2.ch c (fun q e e1 => ?_)).lower g0.size, Ch.trans (Gr.trans g0 g1) c (fun q e => .inr (by have e1 : q = w.heap.size := e; omega))⟩
  · have e2 : q = w.heap.size := e1
    have := (o1.blk e).1
    omega
  · have e2 : q = w.heap.size := e1
    have := (o2.blk e).1
    omega
theorem one_st {w1 w2 : World} {x : Pt} {v1 v2 : Value} {b1 b2 : Nat} (o1 : Ow eI 1 2 b1 w1 v1 x.out) (o2 : Ow eG 2 59 b2 w2 v2 x.inn) : (#[.bool x.q, .int .i64 (x.cap : Nat), v1, v2, .int .i64 (x.lost : Nat)] : Array Value).all (·.oneCell') = true := by
  obtain ⟨a, c, rfl⟩ := o1.form
  obtain ⟨a', c', rfl⟩ := o2.form
  simp [Value.oneCell']
theorem state_any {T : Nat → Prop} {w : World} {p : Nat} {x : Pt} (h : Pm T w p x) (hok : x.ok) : Calls Try.prog 14 #[.pointer (some ⟨p, 0, none⟩)] w fun e w' => StR w x e w' := by
  have HPM := hid h
  have HG := hid (fun (W : World) (g : Gr w W) => given_any (h.gr g))
  obtain ⟨h1, h2, k, vo, vi, h3, h4⟩ := h
  have c0 := cell_of h3 0
  simp at c0
  have bl := lt_of_block h3
  have H4 := hid h4
  have HOK := hid hok
  clear h1 h2 h3 h4 hok
  obtain ⟨q, hq⟩ : ∃ q, q = x.q := ⟨_, rfl⟩
  rw [← hq] at c0
  have HQ := hid hq
  clear hq
  have G0 := hid (Ch.alloc (Gr.refl w) (.cells #[.bool false, .int .i64 0, .slice none 0 0, .slice none 0 0, .int .i64 0] 32))
  have B0 := hid (al_at (w := w) (.cells #[.bool false, .int .i64 0, .slice none 0 0, .slice none 0 0, .int .i64 0] 32) rfl)
  cases q
  · unfold faceP at c0
    rw [if_neg Bool.false_ne_true] at c0
    go_enter Try.func14, Try.ntmps14
    go_wp2_with (first
      | (go_at_call 28; refine (HG.out _ G0.out).mono ?_; rintro e w1 ⟨rfl, hw⟩; subst hw)
      | (go_at_call 62; refine (sst_any _ k vo vi x (H4.out.kq.gr G0.out) HQ.out.symm HOK.out).mono ?_; rintro e w1 ⟨v1, v2, rfl, o1, o2, g1⟩; have O1 := hid o1; have O2 := hid o2; have G1 := hid g1; have B1 := hid (gr_blk B0.out g1); unfold stV; clear o1 o2 g1)
      | (refine st_row rfl 32 (.tmp 2) (.tmp 11) rfl w.heap.size _ rfl rfl _ _ B1.out pst_size rfl (one_st O1.out O2.out) ?_; intro w8 b8 k8; have B9 := hid b8; have K9 := hid k8; clear b8 k8))
    refine bodyPost_ret (results_cell_row rfl _ _ w.heap.size _ _ _ _ rfl B9.out Try.underlying32 rfl pst_size) rfl ?_
    exact StR.copy G0.out B0.out O1.out O2.out G1.out K9.out
  · unfold faceP at c0
    rw [if_pos rfl] at c0
    go_enter Try.func14, Try.ntmps14
    go_wp2_with (first
      | (go_at_call 28; refine (HG.out _ G0.out).mono ?_; rintro e w1 ⟨rfl, hw⟩; subst hw)
      | (go_at_call 55; refine (qst_any _ k vo vi x (H4.out.kq.gr G0.out) HQ.out.symm HOK.out).mono ?_; rintro e w1 ⟨v1, v2, rfl, o1, o2, g1⟩; have O1 := hid o1; have O2 := hid o2; have G1 := hid g1; have B1 := hid (gr_blk B0.out g1); unfold stV; clear o1 o2 g1)
      | (refine st_row rfl 32 (.tmp 2) (.tmp 11) rfl w.heap.size _ rfl rfl _ _ B1.out pst_size rfl (one_st O1.out O2.out) ?_; intro w8 b8 k8; have B9 := hid b8; have K9 := hid k8; clear b8 k8))
    refine bodyPost_ret (results_cell_row rfl _ _ w.heap.size _ _ _ _ rfl B9.out Try.underlying32 rfl pst_size) rfl ?_
    exact StR.copy G0.out B0.out O1.out O2.out G1.out K9.out
theorem nstate {w W : World} {p : Nat} {x : Pt} (h : Nw w W p x) : Calls Try.prog 14 #[.pointer (some ⟨p, 0, none⟩)] W fun e W' => StR W x e W' := by
  obtain ⟨g, k, T, h1, h2⟩ := h
  exact state_any h1 k
theorem tstate {w W : World} {p q : Nat} {x y : Pt} (h : N2 w W p x q y) : Calls Try.prog 14 #[.pointer (some ⟨p, 0, none⟩)] W fun e W' => StR W x e W' := by
  obtain ⟨g, k, b, T, U, h1, h2, h3, h4, h5⟩ := h
  exact state_any h1 k
end Go.Proofs.Ytnpbehcfbceclaa.Lt
