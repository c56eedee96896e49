/-
  What Take and Drain of the document's answer tell. Condition: the state's list is there, and has no more than 64 places.
-/
import Derived.Test.YtfodjkdioddbjabRgRef3
namespace Go.Proofs.Ytfodjkdioddbjab.Rg
open Go.RowKit
attribute [local go_sem ↓] Go.wp_at_zero Go.wp_at_succ

theorem rdrain_none (P : Nat → Prop) (sv : Value) (xs : List W3) (y : W3) (w : World) (hx : Lst P w sv xs) (hl : xs.length ≤ 64) :
    Calls Try.prog 22 #[.agg #[sv, .bool false, .int .i64 y.s, .int .i64 y.g, .int .u64 y.t]] w fun e w' => ∃ v, e = .returned v ∧ Lst (w.heap.size ≤ ·) w' v xs ∧ Ch NoB w w' := by
  obtain ⟨ao, cap, rfl⟩ := hx.form
  obtain ⟨n, hn⟩ : ∃ n, n = xs.length := ⟨_, rfl⟩
  rw [← hn] at hx hl ⊢
  have HX := hid hx
  have HN := hid hn
  have HF := hid (Five.new w (.slice ao n cap) (.bool false) (.int .i64 y.s) (.int .i64 y.g) (.int .u64 y.t))
  clear hx hn
  go_enter Try.func22, Try.ntmps22
  go_wp2_with (first
    | (at_builtin; refine wpList_append_lst rfl (.tmp 4) (.tmp 6) rfl (w.heap.size + 1) _ 0 [] rfl (World.ownsRow_nil _ _ _ _) P _ xs rfl (HX.out.alloc _) n (by rw [HN.out]; simp) (by omega) (by simp) ?_; intro ao2 cap2 w2 hown2 g2; obtain ⟨a0, a1, a2, a3, a4⟩ := (HF.out.ch g2 (by omega)).cells; have HO2 := hid hown2; have HG2 := hid g2; clear hown2 g2))
  go_ret
  exact ⟨_, rfl, (Lst.of_own HO2.out).mono (fun _ _ h => by omega), ((Ch.refl _ _).alloc _).trans HG2.out (fun _ h => .inr (by omega))⟩

theorem rdrain_some (P : Nat → Prop) (sv : Value) (xs : List W3) (y : W3) (w : World) (hx : Lst P w sv xs) (hl : xs.length ≤ 64) :
    Calls Try.prog 22 #[.agg #[sv, .bool true, .int .i64 y.s, .int .i64 y.g, .int .u64 y.t]] w fun e w' => ∃ v, e = .returned v ∧ Lst (w.heap.size ≤ ·) w' v (xs ++ [y]) ∧ Ch NoB w w' := by
  obtain ⟨ao, cap, rfl⟩ := hx.form
  obtain ⟨n, hn⟩ : ∃ n, n = xs.length := ⟨_, rfl⟩
  rw [← hn] at hx hl ⊢
  have HX := hid hx
  have HN := hid hn
  have HF := hid (Five.new w (.slice ao n cap) (.bool true) (.int .i64 y.s) (.int .i64 y.g) (.int .u64 y.t))
  clear hx hn
  obtain ⟨i0, hi, hz0, hz1, hz2⟩ := info_parts W_info
  go_enter Try.func22, Try.ntmps22
  go_wp2_with (first
    | (at_builtin; refine wpList_append_lst rfl (.tmp 4) (.tmp 6) rfl (w.heap.size + 1) _ 0 [] rfl (World.ownsRow_nil _ _ _ _) P _ xs rfl (HX.out.alloc _) n (by rw [HN.out]; simp) (by omega) (by simp) ?_; intro ao2 cap2 w2 hown2 g2; obtain ⟨a0, a1, a2, a3, a4⟩ := (HF.out.ch g2 (by omega)).cells; have hw2 := g2.size; simp only [World.size_alloc] at hw2; have HO2 := hid hown2; have HG2 := hid g2; clear hown2 g2)
    | (at_builtin; refine wpList_append_lies _ rfl (.tmp 10) (.tmp 13) 22 rfl (w.heap.size + 1) 27 i0 _ 3 24 Try.underlying22 hi hz0 hz1 hz2 rfl (by omega) _ n _ rfl (HO2.out.alloc _) ⟨w2.heap.size, 0, none⟩ 1 1 [.int .i64 y.s, .int .i64 y.g, .int .u64 y.t] rfl rfl (World.news_of_block (heap_alloc_new w2 _)) (rowOf_one [y]) (by omega) (by unfold maxLen; omega) (by omega) (by simp; omega) (w2.heap.size + 1) (by simp) ?_; intro g cap3 w3 hown3 hgrow3 hat hlt3; have D := ((Ch.refl (w.heap.size + 1 ≤ ·) _).alloc _).trans' (grow_ch hgrow3 (HO2.out.alloc _)); have HO3 := hid hown3; have HG3 := hid D; clear hown3 hgrow3 hat D))
  go_ret
  have R : w3.ownsRow (w.heap.size + 1) 27 3 (.slice (some ⟨g, 0, none⟩) (n + 1) cap3) (n + 1) (rowOf (xs ++ [y])) := by
    rw [rowOf_append]
    exact HO3.out
  exact ⟨_, rfl, (Lst.of_own R).mono (fun _ _ h => by omega), (((Ch.refl _ _).alloc _).trans HG2.out (fun _ h => .inr (by omega))).trans HG3.out (fun _ h => .inr (by omega))⟩

theorem rtake_some (P : Nat → Prop) (sv : Value) (xs : List W3) (y : W3) (w : World) (hx : Lst P w sv xs) :
    Calls Try.prog 36 #[.agg #[sv, .bool true, .int .i64 y.s, .int .i64 y.g, .int .u64 y.t]] w fun e w' =>
      e = .returned (.tuple #[.agg #[sv, .bool false, .int .i64 0, .int .i64 0, .int .u64 0], .agg #[.int .i64 y.s, .int .i64 y.g, .int .u64 y.t], .bool true, .int .i64 0]) ∧ Ch NoB w w' := by
  obtain ⟨ao, cap, rfl⟩ := hx.form
  clear hx
  go_enter Try.func36, Try.ntmps36
  go_wp2
  go_region
  all_goals go_wp2
  all_goals refine bodyPost_ret (v := .tuple #[.agg #[.slice ao xs.length cap, .bool false, .int .i64 0, .int .i64 0, .int .u64 0], .agg #[.int .i64 y.s, .int .i64 y.g, .int .u64 y.t], .bool true, .int .i64 0]) (by simp [results, Try.results36, go_sem]) rfl ⟨rfl, ?_⟩
  all_goals exact (((((Ch.refl _ _).alloc _).alloc _).alloc _).alloc _).drew

theorem rtake_none (P : Nat → Prop) (sv : Value) (y : W3) (w : World) (hx : Lst P w sv []) :
    Calls Try.prog 36 #[.agg #[sv, .bool false, .int .i64 y.s, .int .i64 y.g, .int .u64 y.t]] w fun e w' =>
      e = .returned (.tuple #[.agg #[sv, .bool false, .int .i64 y.s, .int .i64 y.g, .int .u64 y.t], .agg #[.int .i64 0, .int .i64 0, .int .u64 0], .bool false, .int .i64 21]) ∧ Ch NoB w w' := by
  obtain ⟨ao, cap, rfl⟩ := hx.form
  clear hx
  go_enter Try.func36, Try.ntmps36
  go_wp2
  refine bodyPost_ret (v := .tuple #[.agg #[.slice ao 0 cap, .bool false, .int .i64 y.s, .int .i64 y.g, .int .u64 y.t], .agg #[.int .i64 0, .int .i64 0, .int .u64 0], .bool false, .int .i64 21]) (by simp [results, Try.results36, go_sem]) rfl ⟨rfl, ?_⟩
  exact (((Ch.refl _ _).alloc _).alloc _).alloc _

theorem rtake_cons (P : Nat → Prop) (sv : Value) (q : W3) (r : List W3) (y : W3) (w : World) (hx : Lst P w sv (q :: r)) (hl : r.length < 64) :
    Calls Try.prog 36 #[.agg #[sv, .bool false, .int .i64 y.s, .int .i64 y.g, .int .u64 y.t]] w fun e w' =>
      ∃ v, e = .returned (.tuple #[.agg #[v, .bool false, .int .i64 y.s, .int .i64 y.g, .int .u64 y.t], .agg #[.int .i64 q.s, .int .i64 q.g, .int .u64 q.t], .bool false, .int .i64 0]) ∧ Lst (w.heap.size ≤ ·) w' v r ∧ Ch NoB w w' := by
  obtain ⟨ao, cap, rfl⟩ := hx.form
  obtain ⟨m, hm⟩ : ∃ m, r.length = m := ⟨_, rfl⟩
  have hlen : (q :: r).length = m + 1 := by simp [hm]
  rw [hlen] at hx ⊢
  rw [hm] at hl
  obtain ⟨g, o, rfl, hP, hg, k0, k1, k2⟩ := hx.get (i := 0) (x := q) rfl
  simp only [Nat.zero_mul, Nat.add_zero] at k0 k1 k2
  have hcap : m + 1 ≤ cap := by
    obtain ⟨_, _, he, ⟨hc, _⟩, _⟩ := hx
    injection he with h1 h2 h3
    omega
  have hD : ∀ w2, Lst P w2 (.slice (some ⟨g, o, none⟩) (m + 1) cap) (q :: r) → Lst P w2 (.slice (some (if cap = 1 then ⟨g, o, none⟩ else ⟨g, o + 3, none⟩)) m (cap - 1)) r := by
    intro w2 h2
    by_cases h1 : cap = 1
    · rw [if_pos h1]
      have hr : r = [] := List.eq_nil_of_length_eq_zero (by omega)
      subst hr
      have hm0 : m = 0 := by simpa using hm.symm
      subst hm0
      exact ⟨_, _, rfl, ⟨Nat.zero_le _, fun h => by cases h⟩, .inl rfl⟩
    · rw [if_neg h1]
      by_cases hm0 : m = 0
      · subst hm0
        have hr : r = [] := List.eq_nil_of_length_eq_zero hm
        subst hr
        exact ⟨_, _, rfl, ⟨Nat.zero_le _, fun h => by cases h⟩, .inl rfl⟩
      · obtain ⟨g', o', e, h⟩ := h2.drop 1 (by omega)
        injection e with e1 e2
        subst e1 e2
        exact h
  have j1 : (1 : Int) ≤ (m : Int) + 1 := by omega
  have j2 : (m : Int) + 1 ≤ (cap : Int) := by omega
  have j3 : (0 : Int) < (m : Int) + 1 := by omega
  have HX := hid hx
  have HD := hid hD
  have HM := hid hm
  have u0 : ∀ o1 o2 o3, (((w.alloc o1).alloc o2).alloc o3).cell? ⟨g, o, none⟩ = some (.int .i64 q.s) := fun o1 o2 o3 => (((((Ch.refl NoB w).alloc o1).alloc o2).alloc o3).cell hg id).trans k0
  have u1 : ∀ o1 o2 o3, (((w.alloc o1).alloc o2).alloc o3).cell? ⟨g, o + 1, none⟩ = some (.int .i64 q.g) := fun o1 o2 o3 => (((((Ch.refl NoB w).alloc o1).alloc o2).alloc o3).cell hg id).trans k1
  have u2 : ∀ o1 o2 o3, (((w.alloc o1).alloc o2).alloc o3).cell? ⟨g, o + 2, none⟩ = some (.int .u64 q.t) := fun o1 o2 o3 => (((((Ch.refl NoB w).alloc o1).alloc o2).alloc o3).cell hg id).trans k2
  have HF1 := hid ((((Five.new w (.slice (some ⟨g, o, none⟩) (m + 1) cap) (.bool false) (.int .i64 y.s) (.int .i64 y.g) (.int .u64 y.t)).alloc (.cells #[.slice none 0 0, .bool false, .int .i64 0, .int .i64 0, .int .u64 0] 29)).alloc (.cells #[.int .i64 0, .int .i64 0, .int .u64 0] 27)).alloc (.cells #[.int .i64 q.s, .int .i64 q.g, .int .u64 q.t] 27))
  have F2 := ((Five.new (w.alloc (.cells #[.slice (some ⟨g, o, none⟩) (m + 1) cap, .bool false, .int .i64 y.s, .int .i64 y.g, .int .u64 y.t] 29)) (.slice none 0 0) (.bool false) (.int .i64 0) (.int .i64 0) (.int .u64 0)).alloc (.cells #[.int .i64 0, .int .i64 0, .int .u64 0] 27)).alloc (.cells #[.int .i64 q.s, .int .i64 q.g, .int .u64 q.t] 27)
  have F3 := (Three.new ((w.alloc (.cells #[.slice (some ⟨g, o, none⟩) (m + 1) cap, .bool false, .int .i64 y.s, .int .i64 y.g, .int .u64 y.t] 29)).alloc (.cells #[.slice none 0 0, .bool false, .int .i64 0, .int .i64 0, .int .u64 0] 29)) W3.zero).alloc (.cells #[.int .i64 q.s, .int .i64 q.g, .int .u64 q.t] 27)
  have F4 := Three.new (((w.alloc (.cells #[.slice (some ⟨g, o, none⟩) (m + 1) cap, .bool false, .int .i64 y.s, .int .i64 y.g, .int .u64 y.t] 29)).alloc (.cells #[.slice none 0 0, .bool false, .int .i64 0, .int .i64 0, .int .u64 0] 29)).alloc (.cells #[.int .i64 0, .int .i64 0, .int .u64 0] 27)) q
  simp only [World.size_alloc] at F2 F3 F4
  have HF2 := hid F2
  have HF3 := hid F3
  have HF4 := hid F4
  clear F2 F3 F4
  clear hx hD hm hlen k0 k1 k2
  by_cases hm0 : m = 0
  · subst hm0
    by_cases hc1 : cap = 1
    · subst hc1
      go_enter Try.func36, Try.ntmps36
      go_wp2
      go_region
      all_goals go_wp2
      all_goals refine bodyPost_ret (v := .tuple #[.agg #[.slice none 0 0, .bool false, .int .i64 y.s, .int .i64 y.g, .int .u64 y.t], .agg #[.int .i64 q.s, .int .i64 q.g, .int .u64 q.t], .bool false, .int .i64 0]) (by simp [results, Try.results36, go_sem]) rfl ⟨_, rfl, ?_, ?_⟩
      all_goals first | exact (((((Ch.refl _ _).alloc _).alloc _).alloc _).alloc _).drew | (rw [List.eq_nil_of_length_eq_zero HM.out]; exact Lst.nil _ _)

    · go_enter Try.func36, Try.ntmps36
      go_wp2
      go_region
      all_goals go_wp2
      all_goals refine bodyPost_ret (v := .tuple #[.agg #[.slice none 0 0, .bool false, .int .i64 y.s, .int .i64 y.g, .int .u64 y.t], .agg #[.int .i64 q.s, .int .i64 q.g, .int .u64 q.t], .bool false, .int .i64 0]) (by simp [results, Try.results36, go_sem]) rfl ⟨_, rfl, ?_, ?_⟩
      all_goals first | exact (((((Ch.refl _ _).alloc _).alloc _).alloc _).alloc _).drew | (rw [List.eq_nil_of_length_eq_zero HM.out]; exact Lst.nil _ _)
  · have hc1 : ¬ (cap = 1) := by omega
    have hD2 : ∀ w2, Lst P w2 (.slice (some ⟨g, o, none⟩) (m + 1) cap) (q :: r) → Lst P w2 (.slice (some ⟨g, o + 3, none⟩) m (cap - 1)) r := by
      intro w2 h2
      have := HD.out w2 h2
      rw [if_neg hc1] at this
      exact this
    have HD2 := hid hD2
    clear hD2
    go_enter Try.func36, Try.ntmps36
    go_wp2_with (first
      | (at_builtin; refine wpList_append_lst rfl (.tmp 28) (.tmp 31) rfl (w.heap.size + 4) _ 0 [] rfl (World.ownsRow_nil _ _ _ _) P _ r rfl (HD2.out _ ((((HX.out.alloc _).alloc _).alloc _).alloc _)) m (by rw [HM.out]; simp) (by omega) (by simp) ?_; intro ao2 cap2 w2 hown2 g2; have A2 := HF1.out.ch g2 (by omega); obtain ⟨a0, a1, a2, a3, a4⟩ := A2.cells; obtain ⟨c0, c1, c2, c3, c4⟩ := A2.fz; have B2 := HF2.out.ch g2 (by omega); obtain ⟨b0, b1, b2, b3, b4⟩ := B2.cells; obtain ⟨d0, d1, d2, d3, d4⟩ := B2.fz; have C2 := HF3.out.ch g2 (by omega); obtain ⟨e0, e1, e2⟩ := C2.cells; obtain ⟨f0, f1, f2⟩ := C2.fz; obtain ⟨x0, x1, x2⟩ := (HF4.out.ch g2 (by omega)).cells; have HO2 := hid hown2; have HG2 := hid g2; clear hown2 g2 A2 B2 C2))
    go_region
    all_goals go_wp2
    refine bodyPost_ret (v := .tuple #[.agg #[.slice ao2 m cap2, .bool false, .int .i64 y.s, .int .i64 y.g, .int .u64 y.t], .agg #[.int .i64 q.s, .int .i64 q.g, .int .u64 q.t], .bool false, .int .i64 0]) (by simp [results, Try.results36, go_sem, b0, b1, b2, b3, b4, e0, e1, e2]) rfl ⟨_, rfl, ?_, ?_⟩
    · refine ((Lst.of_own HO2.out).ch (S := Upto (w.heap.size + 3)) ?_ (fun g _ h e => by have : g ≤ w.heap.size + 3 := e; omega)).mono (fun _ _ h => by omega)
      refine Ch.drew ?_
      repeat refine Ch.upto ?_ (by omega) _ _
      exact Ch.refl _ _
    · refine Ch.drew ?_
      repeat refine Ch.fresh ?_ (by omega) _ _
      exact ((((((Ch.refl _ _).alloc _).alloc _).alloc _).alloc _)).trans HG2.out (fun _ h => .inr (by omega))
end Go.Proofs.Ytfodjkdioddbjab.Rg
