/-
  What behind and Kick of the document's answer tell. Condition: the state's list is there, and has no more than 64 places.
-/
import Derived.Test.YtfodjkdioddbjabRgRef1
namespace Go.Proofs.Ytfodjkdioddbjab.Rg
open Go.RowKit
attribute [local go_sem ↓] Go.wp_at_zero Go.wp_at_succ

/-- a part of a list from an element on -/
theorem Lst.drop {P : Nat → Prop} {w : World} {a : Addr} {cap n : Nat} {xs : List W3} (h : Lst P w (.slice (some a) n cap) xs) (k : Nat) (hk : k < n) : ∃ g o, a = ⟨g, o, none⟩ ∧ Lst P w (.slice (some ⟨g, o + k * 3, none⟩) (n - k) (cap - k)) (xs.drop k) := by
  obtain ⟨ao', cap', e, ⟨hc, _⟩, h⟩ := h
  injection e with e1 e2 e3
  subst e1 e3
  rcases h with rfl | ⟨g, o, h1, h2, h3, h4⟩
  · simp at e2
    omega
  · injection h1 with h1
    subst h1
    refine ⟨g, o, rfl, some ⟨g, o + k * 3, none⟩, cap - k, by rw [List.length_drop, e2], ⟨by rw [List.length_drop]; omega, fun h => by cases h⟩, .inr ⟨g, o + k * 3, rfl, h2, h3, fun i x hx => ?_⟩⟩
    rw [List.getElem?_drop] at hx
    have := h4 (k + i) x hx
    have e : o + (k + i) * 3 = o + k * 3 + i * 3 := by omega
    rw [e] at this
    exact this
/-- a part of a list up to an element -/
theorem Lst.take {P : Nat → Prop} {w : World} {a : Addr} {cap n : Nat} {xs : List W3} (h : Lst P w (.slice (some a) n cap) xs) (k : Nat) (hk : k ≤ n) : Lst P w (.slice (some a) k cap) (xs.take k) := by
  obtain ⟨ao', cap', e, ⟨hc, _⟩, h⟩ := h
  injection e with e1 e2 e3
  subst e1 e3
  refine ⟨_, cap, by rw [List.length_take]; congr 1; omega, ⟨by rw [List.length_take]; omega, fun h => by cases h⟩, ?_⟩
  rcases h with rfl | ⟨g, o, h1, h2, h3, h4⟩
  · exact .inl (by simp)
  · refine .inr ⟨g, o, h1, h2, h3, fun i x hx => ?_⟩
    rw [List.getElem?_take] at hx
    split at hx
    · exact h4 i x hx
    · cases hx

theorem rbehind_room (P : Nat → Prop) (sv : Value) (xs : List W3) (hs : Bool) (y x : W3) (w : World) (hx : Lst P w sv xs) (hl : xs.length < 64) :
    Calls Try.prog 39 #[.agg #[sv, .bool hs, .int .i64 y.s, .int .i64 y.g, .int .u64 y.t], .agg #[.int .i64 x.s, .int .i64 x.g, .int .u64 x.t]] w fun e w' =>
      ∃ v, e = .returned (.tuple #[.agg #[v, .bool hs, .int .i64 y.s, .int .i64 y.g, .int .u64 y.t], .slice none 0 0]) ∧ Lst (w.heap.size ≤ ·) w' v (xs ++ [x]) ∧ Ch NoB w w' := by
  obtain ⟨ao, cap, rfl⟩ := hx.form
  obtain ⟨n, hn⟩ : ∃ n, n = xs.length := ⟨_, rfl⟩
  rw [← hn] at hl hx ⊢
  have HX := hid hx
  have HN := hid hn
  clear hx hn
  have F1 := ((Five.new w (.slice ao n cap) (.bool hs) (.int .i64 y.s) (.int .i64 y.g) (.int .u64 y.t)).alloc (.cells #[.int .i64 x.s, .int .i64 x.g, .int .u64 x.t] 27)).alloc (.cells #[.slice none 0 0, .bool false, .int .i64 0, .int .i64 0, .int .u64 0] 29)
  have F2 := (Three.new (w.alloc (.cells #[.slice ao n cap, .bool hs, .int .i64 y.s, .int .i64 y.g, .int .u64 y.t] 29)) x).alloc (.cells #[.slice none 0 0, .bool false, .int .i64 0, .int .i64 0, .int .u64 0] 29)
  have F3 := Five.new ((w.alloc (.cells #[.slice ao n cap, .bool hs, .int .i64 y.s, .int .i64 y.g, .int .u64 y.t] 29)).alloc (.cells #[.int .i64 x.s, .int .i64 x.g, .int .u64 x.t] 27)) (.slice none 0 0) (.bool false) (.int .i64 0) (.int .i64 0) (.int .u64 0)
  simp only [World.size_alloc] at F1 F2 F3
  have HF1 := hid F1
  have HF2 := hid F2
  have HF3 := hid F3
  clear F1 F2 F3
  obtain ⟨i0, hi, hz0, hz1, hz2⟩ := info_parts W_info
  go_enter Try.func39, Try.ntmps39
  go_wp2_with (first
    | (at_builtin; refine wpList_append_lst rfl (.tmp 12) (.tmp 14) rfl (w.heap.size + 3) _ 0 [] rfl (World.ownsRow_nil _ _ _ _) P _ xs rfl (((HX.out.alloc _).alloc _).alloc _) n (by rw [HN.out]; simp) (by omega) (by simp) ?_; intro ao2 cap2 w2 hown2 g2; obtain ⟨a0, a1, a2, a3, a4⟩ := (HF1.out.ch g2 (by omega)).cells; obtain ⟨x0, x1, x2⟩ := (HF2.out.ch g2 (by omega)).cells; have hw2 := g2.size; simp only [World.size_alloc] at hw2; have HO2 := hid hown2; have HG2 := hid g2; clear hown2 g2)
    | (at_builtin; refine wpList_append_lies _ rfl (.tmp 16) (.tmp 18) 22 rfl (w.heap.size + 3) 27 i0 _ 3 24 Try.underlying22 hi hz0 hz1 hz2 rfl (by omega) _ n _ rfl (HO2.out.alloc _) ⟨w2.heap.size, 0, none⟩ 1 1 [.int .i64 x.s, .int .i64 x.g, .int .u64 x.t] rfl rfl (World.news_of_block (heap_alloc_new w2 _)) (rowOf_one [x]) (by omega) (by unfold maxLen; omega) (by omega) (by simp; omega) (w2.heap.size + 1) (by simp) ?_; intro g cap3 w3 hown3 hgrow3 hat hlt3; have C := grow_ch hgrow3 (HO2.out.alloc _); have D := ((Ch.refl (w.heap.size + 3 ≤ ·) _).alloc _).trans' C; have A3 := (HF1.out.ch HG2.out (by omega)).ch D (by omega); obtain ⟨d0, d1, d2, d3, d4⟩ := A3.cells; obtain ⟨e0, e1, e2, e3, e4⟩ := A3.fz; have B3 := (HF3.out.ch HG2.out (by omega)).ch D (by omega); obtain ⟨b0, b1, b2, b3, b4⟩ := B3.cells; obtain ⟨z0, z1, z2, z3, z4⟩ := B3.fz; have HO3 := hid hown3; have HG3 := hid D; clear hown3 hgrow3 hat C D A3 B3))
  refine bodyPost_ret (v := .tuple #[.agg #[.slice (some ⟨g, 0, none⟩) (n + 1) cap3, .bool hs, .int .i64 y.s, .int .i64 y.g, .int .u64 y.t], .slice none 0 0]) (by simp [results, Try.results39, go_sem, b0, b1, b2, b3, b4]) rfl ⟨_, rfl, ?_, ?_⟩
  · have R : w3.ownsRow (w.heap.size + 3) 27 3 (.slice (some ⟨g, 0, none⟩) (n + 1) cap3) (n + 1) (rowOf (xs ++ [x])) := by
      rw [rowOf_append]
      exact HO3.out
    refine ((Lst.of_own R).ch (S := Upto (w.heap.size + 2)) ?_ (fun g _ h e => by have : g ≤ w.heap.size + 2 := e; omega)).mono (fun _ _ h => by omega)
    repeat refine Ch.upto ?_ (by omega) _ _
    exact Ch.refl _ _
  · repeat refine Ch.fresh ?_ (by omega) _ _
    exact (((((Ch.refl _ _).alloc _).alloc _).alloc _).trans HG2.out (fun _ h => .inr (by omega))).trans HG3.out (fun _ h => .inr (by omega))

set_option maxHeartbeats 400000 in
theorem rbehind_full (P : Nat → Prop) (sv : Value) (xs : List W3) (hs : Bool) (y x : W3) (w : World) (hx : Lst P w sv xs) (hl : xs.length = 64) :
    Calls Try.prog 39 #[.agg #[sv, .bool hs, .int .i64 y.s, .int .i64 y.g, .int .u64 y.t], .agg #[.int .i64 x.s, .int .i64 x.g, .int .u64 x.t]] w fun e w' =>
      ∃ v l, e = .returned (.tuple #[.agg #[v, .bool hs, .int .i64 y.s, .int .i64 y.g, .int .u64 y.t], l]) ∧ Lst (w.heap.size ≤ ·) w' v (xs.drop 32) ∧ Lst (w.heap.size ≤ ·) w' l (xs.take 32 ++ [x]) ∧ Ch NoB w w' := by
  have hx' := hx
  obtain ⟨ao, cap, rfl, ⟨hcap, _⟩, hcase⟩ := hx'
  rcases hcase with h0 | ⟨g0, o0, rfl, _⟩
  · rw [h0] at hl
    simp at hl
  rw [hl] at hx hcap ⊢
  obtain ⟨n, hn⟩ : ∃ n, n = 64 := ⟨_, rfl⟩
  have hD : ∀ w2, Lst P w2 (.slice (some ⟨g0, o0, none⟩) 64 cap) xs → Lst P w2 (.slice (some ⟨g0, o0 + 96, none⟩) 32 (cap - 32)) (xs.drop 32) := by
    intro w2 h2
    obtain ⟨g, o, e, h⟩ := h2.drop 32 (by omega)
    injection e with e1 e2
    subst e1 e2
    exact h
  have HX := hid hx
  have HD := hid hD
  have HLT : Hid ((xs.take 32).length = 32) := by show _ = _; rw [List.length_take]; omega
  have HLD : Hid ((xs.drop 32).length = 32) := by show _ = _; rw [List.length_drop]; omega
  have k1 : (32 : Int) ≤ (cap : Int) := by omega
  have k2 : (64 : Int) ≤ (cap : Int) := by omega
  have k3 : ¬ (cap = 32) := by omega
  clear hx hl hD hn n
  have F1 := ((Five.new w (.slice (some ⟨g0, o0, none⟩) 64 cap) (.bool hs) (.int .i64 y.s) (.int .i64 y.g) (.int .u64 y.t)).alloc (.cells #[.int .i64 x.s, .int .i64 x.g, .int .u64 x.t] 27)).alloc (.cells #[.slice none 0 0, .bool false, .int .i64 0, .int .i64 0, .int .u64 0] 29)
  have F2 := (Three.new (w.alloc (.cells #[.slice (some ⟨g0, o0, none⟩) 64 cap, .bool hs, .int .i64 y.s, .int .i64 y.g, .int .u64 y.t] 29)) x).alloc (.cells #[.slice none 0 0, .bool false, .int .i64 0, .int .i64 0, .int .u64 0] 29)
  have F3 := Five.new ((w.alloc (.cells #[.slice (some ⟨g0, o0, none⟩) 64 cap, .bool hs, .int .i64 y.s, .int .i64 y.g, .int .u64 y.t] 29)).alloc (.cells #[.int .i64 x.s, .int .i64 x.g, .int .u64 x.t] 27)) (.slice none 0 0) (.bool false) (.int .i64 0) (.int .i64 0) (.int .u64 0)
  simp only [World.size_alloc] at F1 F2 F3
  have HF1 := hid F1
  have HF2 := hid F2
  have HF3 := hid F3
  clear F1 F2 F3
  obtain ⟨i0, hi, hz0, hz1, hz2⟩ := info_parts W_info
  go_enter Try.func39, Try.ntmps39
  go_wp2_with (first
    | (at_builtin; refine wpList_append_lst rfl (.tmp 23) (.tmp 26) rfl (w.heap.size + 3) _ 0 [] rfl (World.ownsRow_nil _ _ _ _) P _ (xs.take 32) rfl ((((HX.out.alloc _).alloc _).alloc _).take 32 (by omega)) 32 (by rw [HLT.out]) (by omega) (by simp) ?_; intro ao2 cap2 w2 hown2 g2; obtain ⟨a0, a1, a2, a3, a4⟩ := (HF1.out.ch g2 (by omega)).cells; obtain ⟨x0, x1, x2⟩ := (HF2.out.ch g2 (by omega)).cells; have hw2 := g2.size; simp only [World.size_alloc] at hw2; have HO2 := hid hown2; have HG2 := hid g2; clear hown2 g2)
    | (at_builtin; refine wpList_append_lies _ rfl (.tmp 28) (.tmp 30) 22 rfl (w.heap.size + 3) 27 i0 _ 3 24 Try.underlying22 hi hz0 hz1 hz2 rfl (by omega) _ 32 _ rfl (HO2.out.alloc _) ⟨w2.heap.size, 0, none⟩ 1 1 [.int .i64 x.s, .int .i64 x.g, .int .u64 x.t] rfl rfl (World.news_of_block (heap_alloc_new w2 _)) (rowOf_one [x]) (by omega) (by unfold maxLen; omega) (by omega) (by simp; omega) (w2.heap.size + 1) (by simp) ?_; intro g cap3 w3 hown3 hgrow3 hat hlt3; have C := grow_ch hgrow3 (HO2.out.alloc _); have D := ((Ch.refl (w.heap.size + 3 ≤ ·) _).alloc _).trans' C; have A3 := (HF1.out.ch HG2.out (by omega)).ch D (by omega); obtain ⟨d0, d1, d2, d3, d4⟩ := A3.cells; have hw3 := D.size; have HA3 := hid A3; have HO3 := hid hown3; have HG3 := hid D; have HG03 := hid ((((((Ch.refl NoB w).alloc _).alloc _).alloc _).trans HG2.out (fun _ h => .inr (by omega))).trans D (fun _ h => .inr (by omega))); clear hown3 hgrow3 hat C D A3)
    | (at_builtin; refine wpList_append_lst rfl (.tmp 32) (.tmp 35) rfl w3.heap.size _ 0 [] rfl (World.ownsRow_nil _ _ _ _) P _ (xs.drop 32) rfl (HD.out _ (HX.out.ch HG03.out (fun _ _ _ => noB _))) 32 (by rw [HLD.out]) (by omega) (by simp) ?_; intro ao4 cap4 w4 hown4 g4; have A4 := HA3.out.ch g4 (by omega); obtain ⟨l0, l1, l2, l3, l4⟩ := A4.cells; obtain ⟨e0, e1, e2, e3, e4⟩ := A4.fz; have B3 := ((HF3.out.ch HG2.out (by omega)).ch HG3.out (by omega)).ch g4 (by omega); obtain ⟨b0, b1, b2, b3, b4⟩ := B3.cells; obtain ⟨z0, z1, z2, z3, z4⟩ := B3.fz; have HO4 := hid hown4; have HG4 := hid g4; clear hown4 g4 A4 B3))
  refine bodyPost_ret (v := .tuple #[.agg #[.slice ao4 32 cap4, .bool hs, .int .i64 y.s, .int .i64 y.g, .int .u64 y.t], .slice (some ⟨g, 0, none⟩) 33 cap3]) (by simp [results, Try.results39, go_sem, b0, b1, b2, b3, b4]) rfl ⟨_, _, rfl, ?_, ?_, ?_⟩
  · refine ((Lst.of_own HO4.out).ch (S := Upto (w.heap.size + 2)) ?_ (fun g _ h e => by have : g ≤ w.heap.size + 2 := e; omega)).mono (fun _ _ h => by omega)
    repeat refine Ch.upto ?_ (by omega) _ _
    exact Ch.refl _ _
  · have R : w3.ownsRow (w.heap.size + 3) 27 3 (.slice (some ⟨g, 0, none⟩) 33 cap3) 33 (rowOf (xs.take 32 ++ [x])) := by
      rw [rowOf_append]
      exact HO3.out
    have L : Lst (w.heap.size + 3 ≤ ·) w4 (.slice (some ⟨g, 0, none⟩) 33 cap3) (xs.take 32 ++ [x]) := (Lst.of_own R).ch HG4.out (fun g h _ e => by omega)
    refine (L.ch (S := Upto (w.heap.size + 2)) ?_ (fun g _ h e => by have : g ≤ w.heap.size + 2 := e; omega)).mono (fun _ _ h => by omega)
    repeat refine Ch.upto ?_ (by omega) _ _
    exact Ch.refl _ _
  · repeat refine Ch.fresh ?_ (by omega) _ _
    exact HG03.out.trans HG4.out (fun _ h => .inr (by omega))

theorem rbehind_any (P : Nat → Prop) (sv : Value) (xs : List W3) (hs : Bool) (y x : W3) (w : World) (hx : Lst P w sv xs) (hl : xs.length ≤ 64) :
    Calls Try.prog 39 #[.agg #[sv, .bool hs, .int .i64 y.s, .int .i64 y.g, .int .u64 y.t], .agg #[.int .i64 x.s, .int .i64 x.g, .int .u64 x.t]] w fun e w' =>
      ∃ v l, e = .returned (.tuple #[.agg #[v, .bool hs, .int .i64 y.s, .int .i64 y.g, .int .u64 y.t], l]) ∧ Lst (w.heap.size ≤ ·) w' v (behindP xs x) ∧ Lst (w.heap.size ≤ ·) w' l (behindL xs x) ∧ Ch NoB w w' := by
  unfold behindP behindL
  by_cases h : xs.length < 64
  · rw [if_pos h, if_pos h]
    refine (rbehind_room P sv xs hs y x w hx h).mono ?_
    rintro e w1 ⟨v, rfl, l1, g1⟩
    exact ⟨v, _, rfl, l1, Lst.nil _ _, g1⟩
  · rw [if_neg h, if_neg h]
    exact rbehind_full P sv xs hs y x w hx (by omega)

theorem rkick_none (sv : Value) (P : Nat → Prop) (xs : List W3) (y : W3) (w : World) (hx : Lst P w sv xs) :
    Calls Try.prog 35 #[.agg #[sv, .bool false, .int .i64 y.s, .int .i64 y.g, .int .u64 y.t]] w fun e w' => e = .returned (.tuple #[.agg #[sv, .bool false, .int .i64 y.s, .int .i64 y.g, .int .u64 y.t], .slice none 0 0]) ∧ Ch NoB w w' := by
  obtain ⟨ao, cap, rfl⟩ := hx.form
  clear hx
  go_enter Try.func35, Try.ntmps35
  go_wp2
  refine bodyPost_ret (v := .tuple #[.agg #[.slice ao xs.length cap, .bool false, .int .i64 y.s, .int .i64 y.g, .int .u64 y.t], .slice none 0 0]) (by simp [results, Try.results35, go_sem]) rfl ⟨rfl, ?_⟩
  exact ((Ch.refl _ _).alloc _).alloc _

theorem rkick_some (P : Nat → Prop) (sv : Value) (xs : List W3) (y : W3) (w : World) (hx : Lst P w sv xs) (hl : xs.length ≤ 64) :
    Calls Try.prog 35 #[.agg #[sv, .bool true, .int .i64 y.s, .int .i64 y.g, .int .u64 y.t]] w fun e w' =>
      ∃ v l, e = .returned (.tuple #[.agg #[v, .bool false, .int .i64 0, .int .i64 0, .int .u64 0], l]) ∧ Lst (w.heap.size ≤ ·) w' v (behindP xs y) ∧ Lst (w.heap.size ≤ ·) w' l (behindL xs y) ∧ Ch NoB w w' := by
  obtain ⟨ao, cap, rfl⟩ := hx.form
  have hB := fun w2 (h2 : Lst P w2 (.slice ao xs.length cap) xs) => rbehind_any P _ xs false W3.zero y w2 h2 hl
  have HX := hid hx
  have HB := hid hB
  clear hx hB
  go_enter Try.func35, Try.ntmps35
  go_wp2_with fail
  refine (HB.out _ (((HX.out.alloc _).alloc _).alloc _)).mono ?_
  rintro e w1 ⟨v, l, rfl, l1, l2, g1⟩
  obtain ⟨va, vc, rfl⟩ := l1.form
  obtain ⟨la, lc, rfl⟩ := l2.form
  have F := ((Five.new (w.alloc (.cells #[.slice ao xs.length cap, .bool false, .int .i64 0, .int .i64 0, .int .u64 0] 29)) (.slice none 0 0) (.bool false) (.int .i64 0) (.int .i64 0) (.int .u64 0)).alloc (.cells #[.int .i64 y.s, .int .i64 y.g, .int .u64 y.t] 27)).ch g1 (noB _)
  simp only [World.size_alloc] at F l1 l2
  obtain ⟨f0, f1, f2, f3, f4⟩ := F.cells
  obtain ⟨z0, z1, z2, z3, z4⟩ := F.fz
  have HL1 := hid l1
  have HL2 := hid l2
  have HG := hid (((((Ch.refl NoB w).alloc _).alloc _).alloc _).trans' g1)
  clear F l1 l2 g1
  have e1 : W3.zero.s = 0 := rfl
  have e2 : W3.zero.g = 0 := rfl
  have e3 : W3.zero.t = 0 := rfl
  rw [e1, e2, e3]
  clear e1 e2 e3
  go_wp2
  refine bodyPost_ret (v := .tuple #[.agg #[.slice va (behindP xs y).length vc, .bool false, .int .i64 0, .int .i64 0, .int .u64 0], .slice la (behindL xs y).length lc]) (by simp [results, Try.results35, go_sem, f0, f1, f2, f3, f4]) rfl ⟨_, _, rfl, ?_, ?_, ?_⟩
  · refine (HL1.out.ch (S := Upto (w.heap.size + 2)) ?_ (fun g _ h e => by have : g ≤ w.heap.size + 2 := e; omega)).mono (fun _ _ h => by omega)
    repeat refine Ch.upto ?_ (by omega) _ _
    exact Ch.refl _ _
  · refine (HL2.out.ch (S := Upto (w.heap.size + 2)) ?_ (fun g _ h e => by have : g ≤ w.heap.size + 2 := e; omega)).mono (fun _ _ h => by omega)
    repeat refine Ch.upto ?_ (by omega) _ _
    exact Ch.refl _ _
  · repeat refine Ch.fresh ?_ (by omega) _ _
    exact HG.out
end Go.Proofs.Ytfodjkdioddbjab.Rg
