/-
  What a step and an answer write: registers that the instruction names. Plain words without memory. No conditions.
-/
import Derived.Test.YtcdlhfodeckleabDoorStpFacts
import Derived.Test.YtcdlhfodeckleabDoorWdUses
namespace Go.Proofs.YtcdlhfodeckleabDoor.Lt
open Go.RowKit Wd

/-- operations that write register a, registers a and b, register c -/
abbrev WA (k : Nat) : Prop := (2 ≤ k ∧ k ≤ 16) ∨ k = 25 ∨ k = 26 ∨ k = 22 ∨ k = 28 ∨ k = 32 ∨ k = 33 ∨ k = 47 ∨ k = 49 ∨ k = 50 ∨ k = 55 ∨ k = 56 ∨ k = 57
abbrev WB (k : Nat) : Prop := k = 30 ∨ k = 51 ∨ k = 54
abbrev WC (k : Nat) : Prop := k = 53
theorem wr_says : ∀ k : Nat, 1 ≤ k → k < 59 → (WA k → wr k = { data := #[97] }) ∧ (WB k → wr k = { data := #[97, 98] }) ∧ (WC k → wr k = { data := #[99] })
  | 1, _, _ => ⟨fun h => absurd h (by decide), fun h => absurd h (by decide), fun h => absurd h (by decide)⟩
  | 2, _, _ => ⟨fun _ => rfl, fun h => absurd h (by decide), fun h => absurd h (by decide)⟩
  | 3, _, _ => ⟨fun _ => rfl, fun h => absurd h (by decide), fun h => absurd h (by decide)⟩
  | 4, _, _ => ⟨fun _ => rfl, fun h => absurd h (by decide), fun h => absurd h (by decide)⟩
  | 5, _, _ => ⟨fun _ => rfl, fun h => absurd h (by decide), fun h => absurd h (by decide)⟩
  | 6, _, _ => ⟨fun _ => rfl, fun h => absurd h (by decide), fun h => absurd h (by decide)⟩
  | 7, _, _ => ⟨fun _ => rfl, fun h => absurd h (by decide), fun h => absurd h (by decide)⟩
  | 8, _, _ => ⟨fun _ => rfl, fun h => absurd h (by decide), fun h => absurd h (by decide)⟩
  | 9, _, _ => ⟨fun _ => rfl, fun h => absurd h (by decide), fun h => absurd h (by decide)⟩
  | 10, _, _ => ⟨fun _ => rfl, fun h => absurd h (by decide), fun h => absurd h (by decide)⟩
  | 11, _, _ => ⟨fun _ => rfl, fun h => absurd h (by decide), fun h => absurd h (by decide)⟩
  | 12, _, _ => ⟨fun _ => rfl, fun h => absurd h (by decide), fun h => absurd h (by decide)⟩
  | 13, _, _ => ⟨fun _ => rfl, fun h => absurd h (by decide), fun h => absurd h (by decide)⟩
  | 14, _, _ => ⟨fun _ => rfl, fun h => absurd h (by decide), fun h => absurd h (by decide)⟩
  | 15, _, _ => ⟨fun _ => rfl, fun h => absurd h (by decide), fun h => absurd h (by decide)⟩
  | 16, _, _ => ⟨fun _ => rfl, fun h => absurd h (by decide), fun h => absurd h (by decide)⟩
  | 17, _, _ => ⟨fun h => absurd h (by decide), fun h => absurd h (by decide), fun h => absurd h (by decide)⟩
  | 18, _, _ => ⟨fun h => absurd h (by decide), fun h => absurd h (by decide), fun h => absurd h (by decide)⟩
  | 19, _, _ => ⟨fun h => absurd h (by decide), fun h => absurd h (by decide), fun h => absurd h (by decide)⟩
  | 20, _, _ => ⟨fun h => absurd h (by decide), fun h => absurd h (by decide), fun h => absurd h (by decide)⟩
  | 21, _, _ => ⟨fun h => absurd h (by decide), fun h => absurd h (by decide), fun h => absurd h (by decide)⟩
  | 22, _, _ => ⟨fun _ => rfl, fun h => absurd h (by decide), fun h => absurd h (by decide)⟩
  | 23, _, _ => ⟨fun h => absurd h (by decide), fun h => absurd h (by decide), fun h => absurd h (by decide)⟩
  | 24, _, _ => ⟨fun h => absurd h (by decide), fun h => absurd h (by decide), fun h => absurd h (by decide)⟩
  | 25, _, _ => ⟨fun _ => rfl, fun h => absurd h (by decide), fun h => absurd h (by decide)⟩
  | 26, _, _ => ⟨fun _ => rfl, fun h => absurd h (by decide), fun h => absurd h (by decide)⟩
  | 27, _, _ => ⟨fun h => absurd h (by decide), fun h => absurd h (by decide), fun h => absurd h (by decide)⟩
  | 28, _, _ => ⟨fun _ => rfl, fun h => absurd h (by decide), fun h => absurd h (by decide)⟩
  | 29, _, _ => ⟨fun h => absurd h (by decide), fun h => absurd h (by decide), fun h => absurd h (by decide)⟩
  | 30, _, _ => ⟨fun h => absurd h (by decide), fun _ => rfl, fun h => absurd h (by decide)⟩
  | 31, _, _ => ⟨fun h => absurd h (by decide), fun h => absurd h (by decide), fun h => absurd h (by decide)⟩
  | 32, _, _ => ⟨fun _ => rfl, fun h => absurd h (by decide), fun h => absurd h (by decide)⟩
  | 33, _, _ => ⟨fun _ => rfl, fun h => absurd h (by decide), fun h => absurd h (by decide)⟩
  | 34, _, _ => ⟨fun h => absurd h (by decide), fun h => absurd h (by decide), fun h => absurd h (by decide)⟩
  | 35, _, _ => ⟨fun h => absurd h (by decide), fun h => absurd h (by decide), fun h => absurd h (by decide)⟩
  | 36, _, _ => ⟨fun h => absurd h (by decide), fun h => absurd h (by decide), fun h => absurd h (by decide)⟩
  | 37, _, _ => ⟨fun h => absurd h (by decide), fun h => absurd h (by decide), fun h => absurd h (by decide)⟩
  | 38, _, _ => ⟨fun h => absurd h (by decide), fun h => absurd h (by decide), fun h => absurd h (by decide)⟩
  | 39, _, _ => ⟨fun h => absurd h (by decide), fun h => absurd h (by decide), fun h => absurd h (by decide)⟩
  | 40, _, _ => ⟨fun h => absurd h (by decide), fun h => absurd h (by decide), fun h => absurd h (by decide)⟩
  | 41, _, _ => ⟨fun h => absurd h (by decide), fun h => absurd h (by decide), fun h => absurd h (by decide)⟩
  | 42, _, _ => ⟨fun h => absurd h (by decide), fun h => absurd h (by decide), fun h => absurd h (by decide)⟩
  | 43, _, _ => ⟨fun h => absurd h (by decide), fun h => absurd h (by decide), fun h => absurd h (by decide)⟩
  | 44, _, _ => ⟨fun h => absurd h (by decide), fun h => absurd h (by decide), fun h => absurd h (by decide)⟩
  | 45, _, _ => ⟨fun h => absurd h (by decide), fun h => absurd h (by decide), fun h => absurd h (by decide)⟩
  | 46, _, _ => ⟨fun h => absurd h (by decide), fun h => absurd h (by decide), fun h => absurd h (by decide)⟩
  | 47, _, _ => ⟨fun _ => rfl, fun h => absurd h (by decide), fun h => absurd h (by decide)⟩
  | 48, _, _ => ⟨fun h => absurd h (by decide), fun h => absurd h (by decide), fun h => absurd h (by decide)⟩
  | 49, _, _ => ⟨fun _ => rfl, fun h => absurd h (by decide), fun h => absurd h (by decide)⟩
  | 50, _, _ => ⟨fun _ => rfl, fun h => absurd h (by decide), fun h => absurd h (by decide)⟩
  | 51, _, _ => ⟨fun h => absurd h (by decide), fun _ => rfl, fun h => absurd h (by decide)⟩
  | 52, _, _ => ⟨fun h => absurd h (by decide), fun h => absurd h (by decide), fun h => absurd h (by decide)⟩
  | 53, _, _ => ⟨fun h => absurd h (by decide), fun h => absurd h (by decide), fun _ => rfl⟩
  | 54, _, _ => ⟨fun h => absurd h (by decide), fun _ => rfl, fun h => absurd h (by decide)⟩
  | 55, _, _ => ⟨fun _ => rfl, fun h => absurd h (by decide), fun h => absurd h (by decide)⟩
  | 56, _, _ => ⟨fun _ => rfl, fun h => absurd h (by decide), fun h => absurd h (by decide)⟩
  | 57, _, _ => ⟨fun _ => rfl, fun h => absurd h (by decide), fun h => absurd h (by decide)⟩
  | 58, _, _ => ⟨fun h => absurd h (by decide), fun h => absurd h (by decide), fun h => absurd h (by decide)⟩
  | n + 59, _, h => absurd h (by omega)
  | 0, h, _ => absurd h (by omega)
/-- is a register not named? -/
def Bz (x : Int) (j : Nat) : Prop := bits .and .u16 (x / 2 ^ j) 1 = 0
theorem bit_one : ∀ (a j : Fin 16), bits .and .u16 (bits .or .u16 0 (IntKind.u16.wrap (2 ^ a.val)) / 2 ^ j.val) 1 = 0 → j ≠ a := by decide +kernel
theorem bit_all : ∀ (j : Fin 16), ¬ bits .and .u16 ((65535 : Int) / 2 ^ j.val) 1 = 0 := by decide +kernel
theorem bit_two : ∀ (a b j : Fin 16), bits .and .u16 (bits .or .u16 (bits .or .u16 0 (IntKind.u16.wrap (2 ^ a.val))) (IntKind.u16.wrap (2 ^ b.val)) / 2 ^ j.val) 1 = 0 → j ≠ a ∧ j ≠ b := by decide +kernel
/-- what is not named -/
structure Nn3 (k a b c j : Nat) : Prop where
  xa : WA k → j ≠ a
  xb : WB k → j ≠ a ∧ j ≠ b
  xc : WC k → j ≠ c
  xs : k ≠ 34
theorem named_no {k a b c j : Nat} (h1 : 1 ≤ k) (h2 : k < 59) (ha : a < 16) (hb : b < 16) (hc : c < 16) (hj : j < 16) (h : Bz (useV (wr k) (a : Int) (b : Int) (c : Int)) j) : Nn3 k a b c j := by
  obtain ⟨w1, w2, w3⟩ := wr_says k h1 h2
  refine ⟨fun e => ?_, fun e => ?_, fun e => ?_, fun e => ?_⟩
  · rw [w1 e, useV_a] at h
    intro q
    exact bit_one ⟨a, ha⟩ ⟨j, hj⟩ h (Fin.ext q)
  · rw [w2 e, useV_ab] at h
    have := bit_two ⟨a, ha⟩ ⟨b, hb⟩ ⟨j, hj⟩ h
    exact ⟨fun q => this.1 (Fin.ext q), fun q => this.2 (Fin.ext q)⟩
  · rw [w3 e, useV_c] at h
    intro q
    exact bit_one ⟨c, hc⟩ ⟨j, hj⟩ h (Fin.ext q)
  · subst e
    have e1 : wr 34 = { data := #[42] } := rfl
    rw [e1, useV_all] at h
    exact bit_all ⟨j, hj⟩ h
theorem rg_nat {a : Nat} (h : a < 16) : rg (a : Int) = a := by unfold rg; omega
theorem wt_inj {a0 a1 a2 a3 a4 a5 a6 a7 a8 a9 a10 b0 b1 b2 b3 b4 b5 b6 b7 b8 b9 b10 : Int} (h : wt a0 a1 a2 a3 a4 a5 a6 a7 a8 a9 a10 = wt b0 b1 b2 b3 b4 b5 b6 b7 b8 b9 b10) : a0 = b0 ∧ a1 = b1 ∧ a2 = b2 ∧ a3 = b3 ∧ a4 = b4 := by
  unfold wt at h
  simp at h
  exact ⟨h.1, h.2.1, h.2.2.1, h.2.2.2.1, h.2.2.2.2.1⟩
/-- a register stays: behind the step, and behind the answer -/
def SpW (r : List Int) (j : Nat) (s : Int × List Int × List Int × Array Value) : Prop := ∀ q0 q1 q2 q3 q4 q5 q6 q7 q8 q9 q10 : Int, s.2.2.2 = wt q0 q1 q2 q3 q4 q5 q6 q7 q8 q9 q10 → q0 ≠ 58 → s.2.1[j]? = r[j]? ∧ (ans q1 q2 q3 q4 11 12 s.2.1)[j]? = r[j]?
theorem ans_zero (a b c v k : Int) (r : List Int) : ans 0 a b c v k r = r := by unfold ans C1 C2; simp
theorem SpW.quiet {r r1 : List Int} {j : Nat} {pc : Int} {ks : List Int} {o : Int} (h : r1[j]? = r[j]?) : SpW r j (pc, r1, ks, wt o 0 0 0 0 0 0 0 0 0 0) := by
  intro q0 q1 q2 q3 q4 q5 q6 q7 q8 q9 q10 e _
  obtain ⟨-, rfl, rfl, rfl, rfl⟩ := wt_inj e
  exact ⟨h, by rw [ans_zero]; exact h⟩
theorem SpW.trap {r r1 : List Int} {j : Nat} {pc : Int} {ks : List Int} {t m : Int} : SpW r j (pc, r1, ks, wt 58 0 0 0 0 0 0 0 0 t m) := by
  intro q0 q1 q2 q3 q4 q5 q6 q7 q8 q9 q10 e n
  obtain ⟨e0, -⟩ := wt_inj e
  exact absurd e0.symm n
theorem ans_kept {k a b c j : Nat} {r : List Int} (ha : a < 16) (hb : b < 16) (hc : c < 16) (h : Nn3 k a b c j) (v u : Int) : (ans (k : Int) (a : Int) (b : Int) (c : Int) v u r)[j]? = r[j]? := by
  unfold ans
  rw [rg_nat ha, rg_nat hb, rg_nat hc]
  split
  · rename_i e
    exact List.getElem?_set_ne (fun q => h.xa (by have := h.xs; unfold C1 at e; unfold WA; omega) q.symm)
  · split
    · rename_i e
      have h2 := h.xb (by unfold C2 at e; unfold WB; omega)
      rw [List.getElem?_set_ne (fun q => h2.2 q.symm), List.getElem?_set_ne (fun q => h2.1 q.symm)]
    · split
      · rename_i e
        exact List.getElem?_set_ne (fun q => h.xc (by unfold WC; omega) q.symm)
      · rfl
theorem stp_writes {cs : List Int} {fs : List (Int × Int)} {pc : Int} {r ks : List Int} {ck sl gn : Int} {k a b c j : Nat} {m : Int} (hB : nB cs pc = true) (hI : nI cs pc = ((k : Int), (a : Int), (b : Int), (c : Int), m)) (ha : a < 16) (hb : b < 16) (hc : c < 16) (h : Nn3 k a b c j) : SpW r j (stp cs fs pc r ks ck sl gn) := by
  unfold stp
  rw [if_neg (by rw [hB]; simp), hI]
  dsimp only
  have hset : ∀ x : Int, WA k → (r.set (a : Int).toNat x)[j]? = r[j]? := fun x e => by rw [Int.toNat_natCast]; exact List.getElem?_set_ne (fun q => h.xa e q.symm)
  refine ite_all (fun _ => SpW.trap) (fun _ => ?_)
  refine ite_all (fun _ => SpW.trap) (fun _ => ?_)
  refine ite_all (fun _ => SpW.trap) (fun _ => ?_)
  refine ite_all (fun _ => SpW.trap) (fun _ => ?_)
  refine ite_all (fun _ => SpW.quiet rfl) (fun _ => ?_)
  refine ite_all (fun e => SpW.quiet (hset _ (by unfold WA; omega))) (fun _ => ?_)
  refine ite_all (fun _ => SpW.quiet rfl) (fun _ => ?_)
  refine ite_all (fun _ => SpW.quiet rfl) (fun _ => ?_)
  refine ite_all (fun _ => SpW.quiet rfl) (fun _ => ?_)
  refine ite_all (fun _ => SpW.quiet rfl) (fun _ => ?_)
  refine ite_all (fun _ => ite_all (fun _ => SpW.quiet rfl) (fun _ => SpW.quiet rfl)) (fun _ => ?_)
  refine ite_all (fun e => SpW.quiet (hset _ (by unfold WA; omega))) (fun _ => ?_)
  refine ite_all (fun e => SpW.quiet (hset _ (by unfold WA; omega))) (fun _ => ?_)
  refine ite_all (fun _ => SpW.quiet rfl) (fun _ => ?_)
  intro q0 q1 q2 q3 q4 q5 q6 q7 q8 q9 q10 e _
  obtain ⟨-, rfl, rfl, rfl, rfl⟩ := wt_inj e
  exact ⟨rfl, ans_kept ha hb hc h 11 12⟩
/-- a step that is none traps, and leaves all as it was; so does every trap -/
def SpT (pc : Int) (r ks : List Int) (s : Int × List Int × List Int × Array Value) : Prop := ∀ q0 q1 q2 q3 q4 q5 q6 q7 q8 q9 q10 : Int, s.2.2.2 = wt q0 q1 q2 q3 q4 q5 q6 q7 q8 q9 q10 → q0 = 58 → s.1 = pc ∧ s.2.1 = r ∧ s.2.2.1 = ks
theorem SpT.not {pc pc1 : Int} {r ks r1 ks1 : List Int} {a0 a1 a2 a3 a4 a5 a6 a7 a8 a9 a10 : Int} (h : a0 ≠ 58) : SpT pc r ks (pc1, r1, ks1, wt a0 a1 a2 a3 a4 a5 a6 a7 a8 a9 a10) := by
  intro q0 q1 q2 q3 q4 q5 q6 q7 q8 q9 q10 e e0
  exact absurd ((wt_inj e).1.trans e0) h
theorem SpT.same {pc : Int} {r ks : List Int} {x : Array Value} : SpT pc r ks (pc, r, ks, x) := fun _ _ _ _ _ _ _ _ _ _ _ _ _ => ⟨rfl, rfl, rfl⟩
theorem stp_traps (cs : List Int) (fs : List (Int × Int)) (pc : Int) (r ks : List Int) (ck sl gn : Int) : SpT pc r ks (stp cs fs pc r ks ck sl gn) := by
  unfold stp
  refine ite_all (fun _ => SpT.same) (fun hB => ?_)
  dsimp only
  refine ite_all (fun _ => SpT.same) (fun n58 => ?_)
  refine ite_all (fun _ => SpT.same) (fun _ => ?_)
  refine ite_all (fun _ => SpT.same) (fun _ => ?_)
  refine ite_all (fun _ => SpT.same) (fun _ => ?_)
  refine ite_all (fun _ => SpT.not (by omega)) (fun _ => ?_)
  refine ite_all (fun _ => SpT.not (by omega)) (fun _ => ?_)
  refine ite_all (fun _ => SpT.not (by omega)) (fun _ => ?_)
  refine ite_all (fun _ => SpT.not (by omega)) (fun _ => ?_)
  refine ite_all (fun _ => SpT.not (by omega)) (fun _ => ?_)
  refine ite_all (fun _ => SpT.not (by omega)) (fun _ => ?_)
  refine ite_all (fun _ => ite_all (fun _ => SpT.not (by omega)) (fun _ => SpT.not (by omega))) (fun _ => ?_)
  refine ite_all (fun _ => SpT.not (by omega)) (fun _ => ?_)
  refine ite_all (fun _ => SpT.not (by omega)) (fun _ => ?_)
  exact ite_all (fun _ => SpT.not n58) (fun _ => SpT.not n58)
theorem stp_none {cs : List Int} (fs : List (Int × Int)) {pc : Int} (r ks : List Int) (ck sl gn : Int) (h : nB cs pc = false) : stp cs fs pc r ks ck sl gn = (pc, r, ks, wt 58 0 0 0 0 0 0 0 0 1 0) := by
  unfold stp
  rw [if_pos h]
end Go.Proofs.YtcdlhfodeckleabDoor.Lt
