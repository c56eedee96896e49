/-
  What lives of the statements of layer 11 answers: true. No conditions.
-/
import Derived.Test.YtalmiphddgmfbabCpAny
namespace Go.Proofs.Ytalmiphddgmfbab.Lt
open Go.RowKit Wd
attribute [local go_sem ↓] Go.wp_at_zero Go.wp_at_succ

theorem Tn.base {t t' : Nat → Tg} {w w1 w2 : World} (hT : ∀ q, q < w.heap.size → t q = .no) (g : Gr w w1) (n : Tn t t' w1 w2) : Gr w w2 ∧ ∀ q, q < w.heap.size → t' q = .no :=
  ⟨Ch.trans g n.c (fun q hq => by
    by_cases h1 : q < w.heap.size
    · exact (hq (hT q h1)).elim
    · exact .inr (by omega)), fun q hq => n.o q (Nat.lt_of_lt_of_le hq g.size) (hT q hq)⟩
abbrev l0 : List Cn := [⟨1, [], [], [], false⟩]
abbrev l1 : List Cn := [⟨1, [8], [], [], false⟩]
theorem l0_gd : Gd 0 l0 := ⟨by decide, by intro c hc; simp at hc; subst hc; decide, by intro c hc; simp at hc; subst hc; decide, by decide, by intro c hc x hx; simp at hc; subst hc; simp at hx⟩
theorem l1_gd : Gd 0 l1 := ⟨by decide, by intro c hc; simp at hc; subst hc; decide, by intro c hc; simp at hc; subst hc; decide, by decide, by intro c hc x hx; simp at hc; subst hc; simp at hx⟩
theorem snd_l0 : sndF l0 1 1 0 8 = ⟨l1, false, 0, true, 0, [], 0⟩ := by kernel_rfl
theorem rcv_l1 : rcvF l1 1 2 0 = ⟨l0, false, 8, true, 0, [], 0⟩ := by kernel_rfl
end Go.Proofs.Ytalmiphddgmfbab.Lt
