/-
  What the document's Same and plain of the statements answer, of lists of timers. Condition: the lists are not too long.
-/
import Derived.Test.YtgkapopkjgljjaaTmMade
namespace Go.Proofs.Ytgkapopkjgljjaa.Lt
open Go.RowKit Wd
attribute [local go_sem ↓] Go.wp_at_zero Go.wp_at_succ
set_option maxRecDepth 20000

theorem neq_tmr (a b c d e f h : Int) (v : Bool) (w : World) : (binOp .neq 46 (.agg #[.int .i64 a, .int .i64 b, .int .i64 c, .int .i64 d, .int .i64 e, .int .u64 f, .bool v, .int .u64 h]) (.agg #[.int .i64 a, .int .i64 b, .int .i64 c, .int .i64 d, .int .i64 e, .int .u64 f, .bool v, .int .u64 h])).run Try.prog w = .ok (.bool false) w := by
  cases v <;> go_simp
set_option maxHeartbeats 8000000 in
theorem same_any {P Q : Nat → Prop} (w : World) (a1 a2 : Option Addr) (n c1 c2 : Nat) (xs : List Tk) (h1 : Ls eT P w (.slice a1 n c1) xs) (h2 : Ls eT Q w (.slice a2 n c2) xs) (hn : n ≤ 4611686018427387904) : Calls Try.prog 19 #[.slice a1 n c1, .slice a2 n c2] w fun e w' => e = .returned (.bool true) ∧ Gr w w' := by
  have H1 := hid (show ∀ W, Gr w W → Ls eT P W (.slice a1 n c1) xs from fun W k => h1.gr k)
  have H2 := hid (show ∀ W, Gr w W → Ls eT Q W (.slice a2 n c2) xs from fun W k => h2.gr k)
  have HL := hid h1.len.1
  have HN := hid hn
  clear h1 h2 hn
  go_enter Try.func19, Try.ntmps19
  go_wp2_with fail
  go_loopg [5] n (fun q i wr => ∃ j : Nat, j + q = n ∧ i = .int .i64 (j : Int) ∧ Gr w wr)
  case atStart => exact ⟨0, by omega, rfl, Gr.refl _⟩
  case round =>
    obtain ⟨j, hjq, rfl, hg⟩ := hrel
    obtain ⟨V, hV⟩ : ∃ W, W = wr := ⟨_, rfl⟩
    subst hV
    have G := hid hg
    by_cases hj : j < n
    · obtain ⟨t, ht⟩ : ∃ t, xs[j]? = some t := ⟨_, List.getElem?_eq_getElem (by rw [← HL.out]; exact hj)⟩
      obtain ⟨g1, o1, k1, hs1, _, l1, _, hc1⟩ := (H1.out _ hg).get eT_len ht
      obtain ⟨g2, o2, k2, hs2, _, l2, _, hc2⟩ := (H2.out _ hg).get eT_len ht
      injection hs1 with e1 e2 e3
      injection hs2 with e4 e5 e6
      subst e1 e4
      have z0 := hc1 0 _ rfl; have z1 := hc1 1 _ rfl; have z2 := hc1 2 _ rfl; have z3 := hc1 3 _ rfl; have z4 := hc1 4 _ rfl; have z5 := hc1 5 _ rfl; have z6 := hc1 6 _ rfl; have z7 := hc1 7 _ rfl
      have y0 := hc2 0 _ rfl; have y1 := hc2 1 _ rfl; have y2 := hc2 2 _ rfl; have y3 := hc2 3 _ rfl; have y4 := hc2 4 _ rfl; have y5 := hc2 5 _ rfl; have y6 := hc2 6 _ rfl; have y7 := hc2 7 _ rfl
      rw [Nat.add_zero] at z0 y0
      have jb : (j : Int) + 1 < 9223372036854775808 := by have := HN.out; omega
      have jm : (j : Int) < (n : Int) := Int.ofNat_lt.2 hj
      have j0 : (0 : Int) ≤ (j : Int) := Int.natCast_nonneg _
      have hE := neq_tmr t.id t.kind t.s t.g t.ch t.wh t.pd t.nv
      clear hg hc1 hc2 e2 e3 e5 e6 ht
      go_wp2_with fail
      go_quiet (fail)
      go_wp2
      go_roundg (gk - 1)
      case measure => omega
      case rel => exact ⟨j + 1, by omega, by first | with_reducible rfl | simp, G.out.drewN _⟩
    · have ej : j = n := by omega
      subst ej
      have jm : ¬ ((j : Int) < (j : Int)) := by omega
      clear hg
      go_wp2
      go_ret
      exact ⟨rfl, G.out⟩
end Go.Proofs.Ytgkapopkjgljjaa.Lt
