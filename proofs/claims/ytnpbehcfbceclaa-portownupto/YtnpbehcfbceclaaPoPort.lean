/-
  What a port's Put, Get and Deliver answer and leave. Condition: the port is there, and may be.
-/
import Derived.Test.YtnpbehcfbceclaaPoDlvQ
namespace Go.Proofs.Ytnpbehcfbceclaa.Lt
open Go.RowKit Wd
attribute [local go_sem ↓] Go.wp_at_zero Go.wp_at_succ
set_option maxRecDepth 20000

theorem putP_q (x : Pt) (v : Int) : (putP x v).1.q = x.q := by
  unfold putP
  split
  · split <;> rfl
  · rfl
theorem getP_q (x : Pt) : (getP x).q = x.q := by
  unfold getP
  split <;> rfl
theorem dlvP_q (x : Pt) : (dlvP x).q = x.q := by
  unfold dlvP
  split <;> rfl
theorem put_any {T : Nat → Prop} {w : World} {p : Nat} {x : Pt} (v : Int) (h : Pm T w p x) (hok : x.ok) : Calls Try.prog 19 #[.pointer (some ⟨p, 0, none⟩), .int .i64 v] w fun e w' => e = .returned (.bool (putP x v).2) ∧ PL T w w' p (putP x v).1 := by
  have HG := hid (given_any h)
  obtain ⟨h1, h2, k, vo, vi, h3, h4⟩ := h
  have H1 := hid h1
  have c0 := cell_of h3 0
  simp at c0
  have bl := lt_of_block h3
  have H3 := hid h3
  have H4 := hid h4
  have HOK := hid hok
  clear h1 h3 h4 hok
  obtain ⟨q, hq⟩ : ∃ q, q = x.q := ⟨_, rfl⟩
  rw [← hq] at c0
  have HQ := hid hq
  clear hq
  cases q
  · unfold faceP at c0
    rw [if_neg Bool.false_ne_true] at c0
    go_enter Try.func19, Try.ntmps19
    go_wp2_with (first
      | (go_at_call 28; refine HG.out.mono ?_; rintro e w1 ⟨rfl, hw⟩; subst hw)
      | (go_at_call 61; refine (sput_any w k vo vi x v H4.out.kq HQ.out.symm).mono ?_; rintro e w1 ⟨rfl, k1⟩; have K1 := hid k1; clear k1))
    go_ret
    exact ⟨rfl, PL.kl H1.out h2 H3.out H4.out (putP_q x v) K1.out⟩
  · unfold faceP at c0
    rw [if_pos rfl] at c0
    go_enter Try.func19, Try.ntmps19
    go_wp2_with (first
      | (go_at_call 28; refine HG.out.mono ?_; rintro e w1 ⟨rfl, hw⟩; subst hw)
      | (go_at_call 54; refine (qput_any w k vo vi x v H4.out.kq HQ.out.symm HOK.out).mono ?_; rintro e w1 ⟨rfl, k1⟩; have K1 := hid k1; clear k1))
    go_ret
    exact ⟨rfl, PL.kl H1.out h2 H3.out H4.out (putP_q x v) K1.out⟩
theorem get_any {T : Nat → Prop} {w : World} {p : Nat} {x : Pt} (h : Pm T w p x) (hok : x.ok) : Calls Try.prog 20 #[.pointer (some ⟨p, 0, none⟩)] w fun e w' => e = .returned (.tuple #[.int .i64 (firstG x.inn).1, .int .i64 (firstG x.inn).2]) ∧ PL T w w' p (getP x) := by
  have HG := hid (given_any h)
  obtain ⟨h1, h2, k, vo, vi, h3, h4⟩ := h
  have H1 := hid h1
  have c0 := cell_of h3 0
  simp at c0
  have bl := lt_of_block h3
  have H3 := hid h3
  have H4 := hid h4
  have HOK := hid hok
  clear h1 h3 h4 hok
  obtain ⟨q, hq⟩ : ∃ q, q = x.q := ⟨_, rfl⟩
  rw [← hq] at c0
  have HQ := hid hq
  clear hq
  cases q
  · unfold faceP at c0
    rw [if_neg Bool.false_ne_true] at c0
    go_enter Try.func20, Try.ntmps20
    go_wp2_with (first
      | (go_at_call 28; refine HG.out.mono ?_; rintro e w1 ⟨rfl, hw⟩; subst hw)
      | (go_at_call 60; refine (sget_any w k vo vi x H4.out.kq HQ.out.symm).mono ?_; rintro e w1 ⟨rfl, k1⟩; have K1 := hid k1; clear k1))
    exact bodyPost_ret (v := .tuple #[.int .i64 (firstG x.inn).1, .int .i64 (firstG x.inn).2]) (by simp [results, Try.results20, go_sem]) rfl ⟨rfl, PL.kl H1.out h2 H3.out H4.out (getP_q x) K1.out⟩
  · unfold faceP at c0
    rw [if_pos rfl] at c0
    go_enter Try.func20, Try.ntmps20
    go_wp2_with (first
      | (go_at_call 28; refine HG.out.mono ?_; rintro e w1 ⟨rfl, hw⟩; subst hw)
      | (go_at_call 53; refine (qget_any w k vo vi x H4.out.kq HQ.out.symm HOK.out).mono ?_; rintro e w1 ⟨rfl, k1⟩; have K1 := hid k1; clear k1))
    exact bodyPost_ret (v := .tuple #[.int .i64 (firstG x.inn).1, .int .i64 (firstG x.inn).2]) (by simp [results, Try.results20, go_sem]) rfl ⟨rfl, PL.kl H1.out h2 H3.out H4.out (getP_q x) K1.out⟩
theorem deliver_any {T : Nat → Prop} {w : World} {p : Nat} {x : Pt} (h : Pm T w p x) (hok : x.ok) : Calls Try.prog 21 #[.pointer (some ⟨p, 0, none⟩)] w fun e w' => e = .returned (.tuple #[]) ∧ PL T w w' p (dlvP x) := by
  have HG := hid (given_any h)
  obtain ⟨h1, h2, k, vo, vi, h3, h4⟩ := h
  have H1 := hid h1
  have c0 := cell_of h3 0
  simp at c0
  have bl := lt_of_block h3
  have H3 := hid h3
  have H4 := hid h4
  have HOK := hid hok
  clear h1 h3 h4 hok
  obtain ⟨q, hq⟩ : ∃ q, q = x.q := ⟨_, rfl⟩
  rw [← hq] at c0
  have HQ := hid hq
  clear hq
  cases q
  · unfold faceP at c0
    rw [if_neg Bool.false_ne_true] at c0
    go_enter Try.func21, Try.ntmps21
    go_wp2_with (first
      | (go_at_call 28; refine HG.out.mono ?_; rintro e w1 ⟨rfl, hw⟩; subst hw)
      | (go_at_call 59; refine (sdlv_any w k vo vi x H4.out.kq HQ.out.symm HOK.out).mono ?_; rintro e w1 ⟨rfl, k1⟩; have K1 := hid k1; clear k1))
    go_end0
    exact ⟨rfl, PL.kl H1.out h2 H3.out H4.out (dlvP_q x) K1.out⟩
  · unfold faceP at c0
    rw [if_pos rfl] at c0
    go_enter Try.func21, Try.ntmps21
    go_wp2_with (first
      | (go_at_call 28; refine HG.out.mono ?_; rintro e w1 ⟨rfl, hw⟩; subst hw)
      | (go_at_call 52; refine (qdlv_any w k vo vi x H4.out.kq HQ.out.symm HOK.out).mono ?_; rintro e w1 ⟨rfl, k1⟩; have K1 := hid k1; clear k1))
    go_end0
    exact ⟨rfl, PL.kl H1.out h2 H3.out H4.out (dlvP_q x) K1.out⟩
end Go.Proofs.Ytnpbehcfbceclaa.Lt
