/-
  What the program's Load answers of a state whose numbers are sized: it is taken just where its slots and its lists may be; and such a state may be. Condition: the state is there, its lists in blocks that were there, none of them too long.
-/
import Derived.Test.YtfbkifkfhgkdbabSbLoad4
namespace Go.Proofs.Ytfbkifkfhgkdbab.Sb
open Go.RowKit
open Classical
attribute [local go_sem ↓] Go.wp_at_zero Go.wp_at_succ

theorem freeL_true {x : Sl} {k : Nat} (h : (freeL x)[k]? = some true) : x.A[k]? = some false ∧ ∃ g, x.G[k]? = some g ∧ g < 2147483647 := by
  unfold freeL at h
  rw [List.getElem?_zipWith] at h
  cases hg : x.G[k]? with
  | none => rw [hg] at h; simp at h
  | some g =>
    cases ha : x.A[k]? with
    | none => rw [hg, ha] at h; simp at h
    | some a =>
      rw [hg, ha] at h
      simp only [Option.some.injEq] at h
      cases a with
      | true => simp at h
      | false => exact ⟨rfl, g, rfl, by simpa using h⟩
theorem listsB_some {x : Sl} (h : listsB x = true) : ∃ M M', cachesL (freeL x) x.C = some M ∧ strikeL M x.F = some M' ∧ M'.any id = false := by
  unfold listsB at h
  cases h1 : cachesL (freeL x) x.C with
  | none => rw [h1] at h; simp at h
  | some M =>
    cases h2 : strikeL M x.F with
    | none => rw [h1] at h; simp [h2] at h
    | some M' =>
      rw [h1] at h
      simp only [Option.bind_some, h2, Option.map_some, Option.getD_some, Bool.not_eq_true'] at h
      exact ⟨M, M', rfl, h2, h⟩
theorem may_load {L : Int} {x : Sl} (hs : Sized L (x.C.length : Nat)) (h1 : slotsB L x = true) (h2 : listsB x = true) : May L x := by
  obtain ⟨M, M', k1, k2, _⟩ := listsB_some h2
  obtain ⟨c1, c2⟩ := cachesL_spec _ _ _ k1
  have f := strikeL_spec _ _ _ k2
  simp only [slotsB, Bool.and_eq_true, decide_eq_true_eq, Bool.not_eq_true'] at h1
  obtain ⟨a1, a2, a3⟩ := h1
  have hcnt : ∀ s, fcnt x s = (x.C.map (·.count s)).sum + x.F.count s := fun s => by unfold fcnt; rw [List.count_flatten]
  have both : ∀ s, ¬ (0 < (x.C.map (·.count s)).sum ∧ 0 < x.F.count s) := fun s hh => by
    obtain ⟨k, hk, _, hk2⟩ := (c2 s).2.1 hh.1
    obtain ⟨k', hk', hk1', _⟩ := (f s).2.1 hh.2
    have e : k = k' := by omega
    subst e
    rw [hk2] at hk1'
    cases hk1'
  refine ⟨hs.1.1, hs.1.2, a1, a2, by have := hs.2.1; omega, by have := hs.2.2; omega, c1, fun i g hg => ?_, fun s hs0 => ?_, fun s => ?_⟩
  · have := List.any_eq_false.1 a3 g (List.mem_of_getElem? hg)
    simp only [badG, decide_eq_true_eq] at this
    omega
  · rw [hcnt] at hs0
    rcases Nat.eq_zero_or_pos ((x.C.map (·.count s)).sum) with a | a
    · obtain ⟨k, hk, hk1, _⟩ := (f s).2.1 (by omega)
      rw [(c2 s).2.2 a k hk] at hk1
      obtain ⟨r1, r2⟩ := freeL_true hk1
      exact ⟨k, hk, r1, r2⟩
    · obtain ⟨k, hk, hk1, _⟩ := (c2 s).2.1 a
      obtain ⟨r1, r2⟩ := freeL_true hk1
      exact ⟨k, hk, r1, r2⟩
  · rw [hcnt]
    have := (c2 s).1
    have := (f s).1
    have := both s
    omega

/-- what is known of a state that is handed in -/
structure Given (P : Nat → Prop) (w : World) (vg va vc vf : Value) (cv : List Value) (x : Sl) : Prop where
  r : Rd P w vg va vc vf cv x
  p : ∀ q, P q → q < w.heap.size
  c : ∀ (i : Nat) c, x.C[i]? = some c → c.length ≤ 140737488355328
  f : x.F.length ≤ 140737488355328
theorem Given.ch {P : Nat → Prop} {w w' : World} {vg va vc vf : Value} {cv : List Value} {x : Sl} (h : Given P w vg va vc vf cv x) (g : Ch NoB w w') : Given P w' vg va vc vf cv x :=
  ⟨h.r.ch g (fun _ _ _ => noB _), fun q a => Nat.lt_of_lt_of_le (h.p q a) g.size, h.c, h.f⟩

set_option maxHeartbeats 1000000 in
theorem load_sized (P : Nat → Prop) (L : Int) (vg va vc vf : Value) (cv : List Value) (x : Sl) (w : World) (h : Given P w vg va vc vf cv x) (hS : Sized L (x.C.length : Nat)) :
    Calls Try.prog 14 #[.agg #[.int .i64 L, vg, va, vc, vf]] w fun e w' =>
      ((slotsB L x && listsB x) = false ∧ e = .returned (.tuple #[.pointer none, .int .i64 40]) ∨ (slotsB L x && listsB x) = true ∧ ∃ b, e = .returned (.tuple #[.pointer (some ⟨b, 0, none⟩), .int .i64 0]) ∧ w.heap.size ≤ b ∧ SlabAt w.heap.size w' b L x) ∧ Ch NoB w w' := by
  have hL2 : L ≤ 4096 := hS.1.2
  have HG := hid h
  obtain ⟨ga, gc, rfl⟩ := h.r.g.form
  obtain ⟨aa, ac, rfl⟩ := h.r.a.form
  obtain ⟨ca, cc, rfl⟩ := h.r.c.form
  obtain ⟨fa, fc, rfl⟩ := h.r.f.form
  obtain ⟨nG, hnG⟩ : ∃ n, n = (iv x.G).length := ⟨_, rfl⟩
  obtain ⟨nA, hnA⟩ : ∃ n, n = (bv x.A).length := ⟨_, rfl⟩
  obtain ⟨nC, hnC⟩ : ∃ n, n = cv.length := ⟨_, rfl⟩
  obtain ⟨nF, hnF⟩ : ∃ n, n = (iv x.F).length := ⟨_, rfl⟩
  have hnc : nC = x.C.length := by rw [hnC]; exact h.r.e.1
  rw [← hnG, ← hnA, ← hnC, ← hnF] at HG
  rw [← hnG, ← hnA, ← hnC, ← hnF]
  have HSz := hid hS
  have HD := hid (show decide (Sized L (nC : Int)) = true by rw [hnc]; exact decide_eq_true hS)
  obtain ⟨W0, hW0⟩ : ∃ W, W = w.alloc (.cells #[.int .i64 L, .slice ga nG gc, .slice aa nA ac, .slice ca nC cc, .slice fa nF fc] 45) := ⟨_, rfl⟩
  have g0 : Ch NoB w W0 := by rw [hW0]; exact (Ch.refl _ _).alloc _
  have f0 : Fv 45 W0 w.heap.size (.int .i64 L) (.slice ga nG gc) (.slice aa nA ac) (.slice ca nC cc) (.slice fa nF fc) := by rw [hW0]; exact Fv.new _ w _ _ _ _ _
  have HF0 := hid f0
  have HG0 := hid g0
  have hz : W0.heap.size = w.heap.size + 1 := by rw [hW0]; simp
  clear h hS hnG hnA hnC hnF hnc f0 g0
  go_enter Try.func14, Try.ntmps14
  go_wp2_with fail
  rw [← hW0]
  refine (sized_any L _ _).mono ?_
  rw [HD.out]
  rintro e w1 ⟨rfl, m, rfl⟩
  have gd : Ch NoB W0 (W0.drewN m) := (Ch.refl _ _).drewN m
  obtain ⟨w1, hw1⟩ : ∃ W, W = W0.drewN m := ⟨_, rfl⟩
  rw [← hw1] at gd ⊢
  obtain ⟨c0, c1, c2, c3, c4⟩ := (HF0.out.ch gd (noB _)).cells
  have HG1 := hid (HG0.out.trans' gd)
  have HA := hid gd
  clear gd hw1 hW0
  go_wp2_with fail
  refine (slots_any P L _ _ _ _ cv x _ (HG.out.ch HG1.out).r (by omega)).mono ?_
  rintro e w2 ⟨rfl, g2⟩
  obtain ⟨d0, d1, d2, d3, d4⟩ := (HF0.out.ch (HA.out.trans' g2) (noB _)).cells
  have HG2 := hid (HG1.out.trans' g2)
  have HA2 := hid (HA.out.trans' g2)
  clear g2 c0 c1 c2 c3 c4
  cases hs : slotsB L x with
  | false =>
    have HS1 := hid hs
    clear hs
    go_wp2
    go_ret2
    exact ⟨.inl ⟨by rw [HS1.out]; rfl, rfl⟩, HG2.out⟩
  | true =>
    have hs' := hs
    simp only [slotsB, Bool.and_eq_true, decide_eq_true_eq, Bool.not_eq_true'] at hs'
    obtain ⟨s1, s2, _⟩ := hs'
    have HS1 := hid hs
    have hgl : x.G.length ≤ 4294967296 := by omega
    have HGL := hid hgl
    have HAG := hid s2
    clear hs s1 s2 hgl
    go_wp2_with fail
    refine (lists_any P L _ _ _ _ cv x _ (HG.out.ch HG2.out).r (HG.out.ch HG2.out).p HAG.out HGL.out HG.out.c HG.out.f (by have := HSz.out.2.2; omega)).mono ?_
    rintro e w3 ⟨rfl, g3⟩
    obtain ⟨c0, c1, c2, c3, c4⟩ := (HF0.out.ch (HA2.out.trans' g3) (noB _)).cells
    have HG3 := hid (HG2.out.trans' g3)
    clear g3 d0 d1 d2 d3 d4
    cases hb : listsB x with
    | false =>
      have HB1 := hid hb
      clear hb
      go_wp2
      go_ret2
      exact ⟨.inl ⟨by rw [HS1.out, HB1.out]; rfl, rfl⟩, HG3.out⟩
    | true =>
      have HM := hid (may_load HSz.out HS1.out hb)
      have HB1 := hid hb
      clear hb
      go_wp2_with fail
      refine (copied_any P L _ _ _ _ cv x _ (HG.out.ch HG3.out).r HM.out.fits).mono ?_
      rintro e w4 ⟨vg', va', vc', vf', cv', rfl, st4, g4⟩
      obtain ⟨a1, q1, rfl⟩ := st4.g.form
      obtain ⟨a2, q2, rfl⟩ := st4.a.form
      obtain ⟨a3, q3, rfl⟩ := st4.c.form
      obtain ⟨a4, q4, rfl⟩ := st4.f.form
      obtain ⟨n1, hn1⟩ : ∃ n, n = (iv x.G).length := ⟨_, rfl⟩
      obtain ⟨n2, hn2⟩ : ∃ n, n = (bv x.A).length := ⟨_, rfl⟩
      obtain ⟨n3, hn3⟩ : ∃ n, n = cv'.length := ⟨_, rfl⟩
      obtain ⟨n4, hn4⟩ : ∃ n, n = (iv x.F).length := ⟨_, rfl⟩
      rw [← hn1, ← hn2, ← hn3, ← hn4] at st4 ⊢
      have hs4 := HG3.out.size
      have HS4 := hid (st4.lower hs4)
      have HG4 := hid (HG3.out.trans' g4)
      clear st4 g4 hn1 hn2 hn3 hn4 c0 c1 c2 c3 c4
      go_wp2
      go_ret2
      refine ⟨.inr ⟨by rw [HS1.out, HB1.out]; rfl, _, rfl, HG4.out.size, ⟨_, _, _, _, _, Fv.new _ _ _ _ _ _ _, HS4.out.ch ((Ch.refl NoB _).alloc _) (fun _ _ => noB _), fun e => ?_⟩⟩, HG4.out.alloc _⟩
      have := (HS4.out.blk e).2
      omega
end Go.Proofs.Ytfbkifkfhgkdbab.Sb
