/-
  What the program's Load answers. Condition: the state is there, its lists in blocks that were there, none of them too long.
-/
import Derived.Test.YtfbkifkfhgkdbabSbLoad3
namespace Go.Proofs.Ytfbkifkfhgkdbab.Sb
open Go.RowKit
open Classical
attribute [local go_sem ↓] Go.wp_at_zero Go.wp_at_succ

theorem load_arg (P : Nat → Prop) (L : Int) (vg va vc vf : Value) (cv : List Value) (x : Sl) (w : World) (h : Rd P w vg va vc vf cv x) (hS : ¬ Sized L (x.C.length : Nat)) :
    Calls Try.prog 14 #[.agg #[.int .i64 L, vg, va, vc, vf]] w fun e w' => e = .returned (.tuple #[.pointer none, .int .i64 1]) ∧ Ch NoB w w' := by
  obtain ⟨ga, gc, rfl⟩ := h.g.form
  obtain ⟨aa, ac, rfl⟩ := h.a.form
  obtain ⟨ca, cc, rfl⟩ := h.c.form
  obtain ⟨fa, fc, rfl⟩ := h.f.form
  rw [h.e.1]
  have HS := hid (decide_eq_false hS)
  clear h hS
  go_enter Try.func14, Try.ntmps14
  go_wp2_with fail
  refine (sized_any L _ _).mono ?_
  rw [HS.out]
  rintro e w1 ⟨rfl, m, rfl⟩
  go_wp2
  go_ret2
  exact ⟨rfl, ((Ch.refl _ _).alloc _).drewN _⟩

/-- what strike leaves -/
theorem strikeL_spec : ∀ (l : List Int) (M M' : List Bool), strikeL M l = some M' → ∀ s : Int, l.count s ≤ 1 ∧ (0 < l.count s → ∃ k : Nat, s = (k : Int) ∧ M[k]? = some true ∧ M'[k]? = some false) ∧ (l.count s = 0 → ∀ k : Nat, s = (k : Int) → M'[k]? = M[k]?)
  | [], M, M', h, s => by
    simp only [strikeL, Option.some.injEq] at h
    subst h
    exact ⟨by simp, fun h => by simp at h, fun _ _ _ => rfl⟩
  | z :: l, M, M', h, s => by
    unfold strikeL at h
    split at h
    · rename_i hz
      obtain ⟨z0, z1⟩ := hz
      obtain ⟨r1, r2, r3⟩ := strikeL_spec l _ M' h s
      have hlt : z.toNat < M.length := (List.getElem?_eq_some_iff.1 z1).1
      by_cases e : s = z
      · subst e
        have hz0 : l.count s = 0 := by
          rcases Nat.eq_zero_or_pos (l.count s) with a | a
          · exact a
          · obtain ⟨k, hk, hk1, _⟩ := r2 a
            subst hk
            rw [Int.toNat_natCast, List.getElem?_set_self (by simpa using hlt)] at hk1
            cases hk1
        have hc : (s :: l).count s = 1 := by rw [List.count_cons_self, hz0]
        refine ⟨by omega, fun _ => ⟨s.toNat, by omega, z1, ?_⟩, fun a => by omega⟩
        rw [r3 hz0 s.toNat (by omega), List.getElem?_set_self hlt]
      · have hc : (z :: l).count s = l.count s := by rw [List.count_cons_of_ne (Ne.symm e)]
        rw [hc]
        have hne : ∀ k : Nat, s = (k : Int) → (M.set z.toNat false)[k]? = M[k]? := fun k hk => by
          rw [List.getElem?_set_ne (by omega)]
        refine ⟨r1, fun a => ?_, fun a k hk => by rw [r3 a k hk, hne k hk]⟩
        obtain ⟨k, hk, hk1, hk2⟩ := r2 a
        exact ⟨k, hk, by rw [← hne k hk]; exact hk1, hk2⟩
    · cases h
/-- what the caches leave -/
theorem cachesL_spec : ∀ (C : List (List Int)) (M M' : List Bool), cachesL M C = some M' → (∀ (i : Nat) c, C[i]? = some c → c.length < 64) ∧ ∀ s : Int, (C.map (·.count s)).sum ≤ 1 ∧ (0 < (C.map (·.count s)).sum → ∃ k : Nat, s = (k : Int) ∧ M[k]? = some true ∧ M'[k]? = some false) ∧ ((C.map (·.count s)).sum = 0 → ∀ k : Nat, s = (k : Int) → M'[k]? = M[k]?)
  | [], M, M', h => by
    simp only [cachesL, Option.some.injEq] at h
    subst h
    exact ⟨fun i c hc => by simp at hc, fun s => ⟨by simp, fun h => by simp at h, fun _ _ _ => rfl⟩⟩
  | c :: C, M, M', h => by
    unfold cachesL at h
    split at h
    · cases h
    · rename_i h64
      obtain ⟨M1, k1, k2⟩ := Option.bind_eq_some_iff.1 h
      obtain ⟨q1, q2⟩ := cachesL_spec C M1 M' k2
      refine ⟨fun i d hd => ?_, fun s => ?_⟩
      · cases i with
        | zero =>
          simp only [List.getElem?_cons_zero, Option.some.injEq] at hd
          subst hd
          omega
        | succ i => exact q1 i d (by simpa using hd)
      · obtain ⟨r1, r2, r3⟩ := strikeL_spec c M M1 k1 s
        obtain ⟨t1, t2, t3⟩ := q2 s
        simp only [List.map_cons, List.sum_cons]
        rcases Nat.eq_zero_or_pos (c.count s) with a | a
        · rw [a, Nat.zero_add]
          refine ⟨t1, fun b => ?_, fun b k hk => by rw [t3 b k hk, r3 a k hk]⟩
          obtain ⟨k, hk, hk1, hk2⟩ := t2 b
          exact ⟨k, hk, by rw [← r3 a k hk]; exact hk1, hk2⟩
        · obtain ⟨k, hk, hk1, hk2⟩ := r2 a
          have hz : (C.map (·.count s)).sum = 0 := by
            rcases Nat.eq_zero_or_pos ((C.map (·.count s)).sum) with b | b
            · exact b
            · obtain ⟨k', hk', hk1', _⟩ := t2 b
              have e : k = k' := by omega
              subst e
              rw [hk2] at hk1'
              cases hk1'
          rw [hz]
          exact ⟨by omega, fun _ => ⟨k, hk, hk1, by rw [t3 hz k hk]; exact hk2⟩, fun b => by omega⟩
end Go.Proofs.Ytfbkifkfhgkdbab.Sb
