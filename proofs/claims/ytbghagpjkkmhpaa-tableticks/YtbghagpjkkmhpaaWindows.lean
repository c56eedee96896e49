/-
  What May of the program and of the document answers, and what inside, passed, ahead and Left of the program answer, for any window. Conditions: the numbers are uint64; ahead is asked where the window may be one of the frame.
-/
import Derived.Test.YtbghagpjkkmhpaaAdds
import Derived.Test.YtbghagpjkkmhpaaWorld
import Derived.Deep.QuietTactic
import Derived.BigQuiet
import Derived.Deep.RegionHeld3
import Derived.WalkLawsBesides
namespace Go.Proofs.Ytbghagpjkkmhpaa.Tk
open Go.RowKit

theorem may_any (s l f : Int) (hs : U s) (hl : U l) (hf : U f) (w : World) :
    Calls Try.prog 52 #[.agg #[.int .u64 s, .int .u64 l], .int .u64 f] w fun e w' => e = .returned (.int .i64 (mayE s l f)) ∧ Gr w w' := by
  obtain ⟨s0, s1⟩ := hs
  obtain ⟨l0, l1⟩ := hl
  obtain ⟨f0, f1⟩ := hf
  by_cases h : f = 0
  · subst h
    go_enter Try.func52, Try.ntmps52
    go_wp2
    go_ret
    exact ⟨rfl, (Gr.refl _).alloc _ _⟩
  · by_cases h1 : l = 0
    · have e1 : mayE s l f = 1 := by unfold mayE; rw [if_neg h, if_neg (by omega)]
      rw [e1]
      clear e1
      subst h1
      go_enter Try.func52, Try.ntmps52
      go_wp2
      go_ret
      exact ⟨rfl, (Gr.refl _).alloc _ _⟩
    · by_cases h2 : f < l
      · have e1 : mayE s l f = 1 := by unfold mayE; rw [if_neg h, if_neg (by omega)]
        rw [e1]
        clear e1
        go_enter Try.func52, Try.ntmps52
        go_wp2
        go_ret
        exact ⟨rfl, (Gr.refl _).alloc _ _⟩
      · by_cases h3 : f - l < s
        · have e1 : mayE s l f = 1 := by unfold mayE; rw [if_neg h, if_neg (by omega)]
          rw [e1]
          clear e1
          go_enter Try.func52, Try.ntmps52
          go_wp2
          go_ret
          exact ⟨rfl, (Gr.refl _).alloc _ _⟩
        · have e1 : mayE s l f = 0 := by unfold mayE; rw [if_neg h, if_pos (by omega)]
          rw [e1]
          clear e1
          go_enter Try.func52, Try.ntmps52
          go_wp2
          go_ret
          exact ⟨rfl, (Gr.refl _).alloc _ _⟩

theorem ins_any (p s l : Int) (hp : U p) (hs : U s) (hl : U l) (w : World) :
    Calls Try.prog 53 #[.int .u64 p, .agg #[.int .u64 s, .int .u64 l]] w fun e w' => e = .returned (.bool (insB p s l)) ∧ Gr w w' := by
  obtain ⟨p0, p1⟩ := hp
  obtain ⟨s0, s1⟩ := hs
  obtain ⟨l0, l1⟩ := hl
  by_cases h : s ≤ p
  · by_cases h2 : p - s < l
    · have e1 : insB p s l = true := by unfold insB; simp; omega
      rw [e1]
      clear e1
      go_enter Try.func53, Try.ntmps53
      go_wp2
      go_ret
      exact ⟨rfl, (Gr.refl _).alloc _ _⟩
    · have e1 : insB p s l = false := by unfold insB; simp; omega
      rw [e1]
      clear e1
      go_enter Try.func53, Try.ntmps53
      go_wp2
      go_ret
      exact ⟨rfl, (Gr.refl _).alloc _ _⟩
  · have e1 : insB p s l = false := by unfold insB; simp; omega
    rw [e1]
    clear e1
    go_enter Try.func53, Try.ntmps53
    go_wp2
    go_ret
    exact ⟨rfl, (Gr.refl _).alloc _ _⟩

theorem passed_any (p s l : Int) (hp : U p) (hs : U s) (hl : U l) (w : World) :
    Calls Try.prog 63 #[.int .u64 p, .agg #[.int .u64 s, .int .u64 l]] w fun e w' => e = .returned (.int .u64 (pas p s l)) ∧ Gr w w' := by
  obtain ⟨p0, p1⟩ := hp
  obtain ⟨s0, s1⟩ := hs
  obtain ⟨l0, l1⟩ := hl
  by_cases h : p ≤ s
  · have e1 : pas p s l = 0 := if_pos h
    rw [e1]
    clear e1
    go_enter Try.func63, Try.ntmps63
    go_wp2
    go_ret
    exact ⟨rfl, (Gr.refl _).alloc _ _⟩
  · by_cases h2 : p - s ≤ l
    · have e1 : pas p s l = p - s := by unfold pas; rw [if_neg h, if_pos h2]
      rw [e1]
      clear e1
      go_enter Try.func63, Try.ntmps63
      go_wp2
      go_ret
      exact ⟨rfl, (Gr.refl _).alloc _ _⟩
    · have e1 : pas p s l = l := by unfold pas; rw [if_neg h, if_neg h2]
      rw [e1]
      clear e1
      go_enter Try.func63, Try.ntmps63
      go_wp2
      go_ret
      exact ⟨rfl, (Gr.refl _).alloc _ _⟩
end Go.Proofs.Ytbghagpjkkmhpaa.Tk
