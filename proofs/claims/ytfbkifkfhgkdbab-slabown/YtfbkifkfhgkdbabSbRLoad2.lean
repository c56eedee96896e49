/-
  What the document's Load answers of a state of which the slots may not be. Condition: the state is there, its numbers sized.
-/
import Derived.Test.YtfbkifkfhgkdbabSbRLoad1
namespace Go.Proofs.Ytfbkifkfhgkdbab.Sb
open Go.RowKit
open Classical
attribute [local go_sem ↓] Go.wp_at_zero Go.wp_at_succ

set_option maxHeartbeats 1000000 in
theorem rload_slots (P : Nat → Prop) (L : Int) (vg va vc vf : Value) (cv : List Value) (x : Sl) (w : World) (h : Rd P w vg va vc vf cv x) (hS : Sized L (x.C.length : Nat)) (hb : slotsB L x = false) :
    Calls Try.prog 18 #[.agg #[.int .i64 L, vg, va, vc, vf]] w fun e w' => e = .returned (.int .i64 40) ∧ Ch NoB w w' := by
  have hL2 : L ≤ 4096 := hS.1.2
  obtain ⟨ga, gc, rfl⟩ := h.g.form
  obtain ⟨aa, ac, rfl⟩ := h.a.form
  obtain ⟨ca, cc, rfl⟩ := h.c.form
  obtain ⟨fa, fc, rfl⟩ := h.f.form
  obtain ⟨nG, hnG⟩ : ∃ n, n = (iv x.G).length := ⟨_, rfl⟩
  obtain ⟨nA, hnA⟩ : ∃ n, n = (bv x.A).length := ⟨_, rfl⟩
  obtain ⟨nC, hnC⟩ : ∃ n, n = cv.length := ⟨_, rfl⟩
  obtain ⟨nF, hnF⟩ : ∃ n, n = (iv x.F).length := ⟨_, rfl⟩
  have hnc : nC = x.C.length := by rw [hnC]; exact h.e.1
  rw [← hnG, ← hnA, ← hnC, ← hnF] at h
  rw [← hnG, ← hnA, ← hnC, ← hnF]
  rw [← hnc] at hS
  have e1 : slotsB L x = (decide ((nG : Int) ≤ L) && (decide (nA = nG) && !(x.G.any badG))) := by
    unfold slotsB
    rw [hnG, hnA, iv_length, bv_length]
  rw [e1] at hb
  have HB := hid hb
  have HSz := hid hS
  have HN := hid (show nG = x.G.length by rw [hnG, iv_length])
  have HR := hid h
  obtain ⟨W0, hW0⟩ : ∃ W, W = w.alloc (.cells #[.int .i64 L, .slice ga nG gc, .slice aa nA ac, .slice ca nC cc, .slice fa nF fc] 45) := ⟨_, rfl⟩
  have g0 : Ch NoB w W0 := by rw [hW0]; exact (Ch.refl _ _).alloc _
  have f0 : Fv 45 W0 w.heap.size (.int .i64 L) (.slice ga nG gc) (.slice aa nA ac) (.slice ca nC cc) (.slice fa nF fc) := by rw [hW0]; exact Fv.new _ w _ _ _ _ _
  have HF0 := hid f0
  have HG0 := hid g0
  have hz : W0.heap.size = w.heap.size + 1 := by rw [hW0]; simp
  clear h hS hb e1 hnG hnA hnC hnF hnc f0 g0
  go_enter Try.func18, Try.ntmps18
  go_wp2_with fail
  rw [← hW0]
  refine (rnew_good L nC _ HSz.out).mono ?_
  rintro e w1 ⟨uv, rfl, ou, g1⟩
  obtain ⟨ua, uq, rfl⟩ := ou.form
  rw [List.length_replicate]
  clear ou
  obtain ⟨W1, hW1⟩ : ∃ W, W = w1.alloc (.cells #[.int .i64 L, .slice none 0 0, .slice none 0 0, .slice ua nC uq, .slice none 0 0] 45) := ⟨_, rfl⟩
  have g1' : Ch NoB W0 W1 := by rw [hW1]; exact g1.alloc _
  obtain ⟨c0, c1, c2, c3, c4⟩ := (HF0.out.ch g1 (noB _)).cells
  obtain ⟨d0, d1, d2, d3, d4⟩ := (HF0.out.ch g1' (noB _)).cells
  have l0 := (HF0.out.ch g1 (noB _)).lt
  have HG1 := hid (HG0.out.trans' g1')
  have HR1 := hid (HR.out.ch HG1.out (fun _ _ _ => noB _))
  clear g1 g1' hW0
  by_cases h1 : (nG : Int) ≤ L
  · have dd1 : decide (L < (nG : Int)) = false := decide_eq_false (by omega)
    by_cases h2 : nA = nG
    · subst h2
      have hany : x.G.any badG = true := by
        have := HB.out
        rw [decide_eq_true h1] at this
        simpa using this
      have HANY := hid hany
      clear hany
      go_wp2_with fail
      rw [← hW1]
      clear c0 c1 c2 c3 c4 hW1
      go_loopg [5] nA (fun k i wr => ∃ j : Nat, j + k = nA ∧ i = .int .i64 ((j : Nat) : Int) ∧ (∀ q z, q < j → x.G[q]? = some z → badG z = false) ∧ wr = W1)
      case atStart => exact ⟨0, by omega, rfl, fun q z a => by omega, rfl⟩
      case round =>
        obtain ⟨j, hjk, rfl, hno, rfl⟩ := hrel
        have HNO := hid hno
        clear hno
        by_cases hj : j < nA
        · obtain ⟨z, hz⟩ : ∃ z, x.G[j]? = some z := ⟨_, List.getElem?_eq_getElem (by rw [← HN.out]; exact hj)⟩
          obtain ⟨g, o, rfl, -, -, -, t0⟩ := HR1.out.g.get1 (iv_get hz)
          have j0 : (0 : Int) ≤ (j : Int) := by omega
          have j1 : (j : Int) < (nA : Int) := by omega
          have HZ := hid hz
          clear hz
          by_cases b1 : z < 1
          · have k1 : decide (z < 1) = true := decide_eq_true b1
            go_wp2
            go_ret
            exact ⟨rfl, HG1.out⟩
          · have k1 : decide (z < 1) = false := decide_eq_false b1
            by_cases b2 : 2147483647 < z
            · have k2 : decide (2147483647 < z) = true := decide_eq_true b2
              go_wp2
              go_ret
              exact ⟨rfl, HG1.out⟩
            · have k2 : decide (2147483647 < z) = false := decide_eq_false b2
              go_wp2
              go_roundg (gk - 1)
              case measure => omega
              case rel => exact ⟨j + 1, by omega, by simp, fun q y a hy => by
                by_cases e : q = j
                · rw [e, HZ.out] at hy
                  injection hy with hy
                  unfold badG
                  exact decide_eq_false (by omega)
                · exact HNO.out q y (by omega) hy, rfl⟩
        · exfalso
          obtain ⟨y, hy, hb⟩ := List.any_eq_true.1 HANY.out
          obtain ⟨q, hq, e⟩ := List.getElem_of_mem hy
          have := HNO.out q y (by have := HN.out; omega) (by rw [List.getElem?_eq_getElem hq, e])
          rw [this] at hb
          cases hb
    · have dd2 : ((nA : Int) == (nG : Int)) = false := by simp; omega
      have dd3 : ((nA : Int) != (nG : Int)) = true := by simp; omega
      go_wp2
      go_ret
      rw [← hW1]
      exact ⟨rfl, HG1.out⟩
  · have dd1 : decide (L < (nG : Int)) = true := decide_eq_true (by omega)
    go_wp2
    go_ret
    rw [← hW1]
    exact ⟨rfl, HG1.out⟩
end Go.Proofs.Ytfbkifkfhgkdbab.Sb
