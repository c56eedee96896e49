/-
  What without, Take and Drop of the document's answer tell. Condition: the list is there.
-/
import Derived.Test.YtphohfafehjafaaFfRef1
namespace Go.Proofs.Ytphohfafehjafaa.Ff
open Go.RowKit
attribute [local go_sem ↓] Go.wp_at_zero Go.wp_at_succ

theorem Own.lit (w : World) : Own w.heap.size (w.alloc (.cells #[] 33)) (.slice (some ⟨w.heap.size, 0, none⟩) 0 0) [] :=
  ⟨rfl, .inr ⟨w.heap.size, 0, #[], rfl, Nat.le_refl _, (MapKept.heap_alloc w _).1, Nat.le_refl _, Nat.zero_le _, rfl, rfl⟩⟩
theorem erase_at {xs : List W3} {j k : Nat} {z : W3} (hz : xs[j]? = some z) (e : j = k) : (xs.take (j + 1)).eraseIdx k = (xs.take j).eraseIdx k := by
  obtain ⟨hj, h2⟩ := List.getElem?_eq_some_iff.1 hz
  have hl : (xs.take j).length = j := by rw [List.length_take]; omega
  rw [List.take_add_one, hz, Option.toList_some, List.eraseIdx_append_of_length_le (by omega), hl, e, Nat.sub_self, List.eraseIdx_of_length_le (l := xs.take k) (by rw [← e, hl]; exact Nat.le_refl _)]
  simp
theorem erase_not {xs : List W3} {j k : Nat} {z : W3} (hz : xs[j]? = some z) (e : ¬ j = k) : (xs.take (j + 1)).eraseIdx k = (xs.take j).eraseIdx k ++ [z] := by
  obtain ⟨hj, h2⟩ := List.getElem?_eq_some_iff.1 hz
  have hl : (xs.take j).length = j := by rw [List.length_take]; omega
  rw [List.take_add_one, hz, Option.toList_some]
  by_cases h : k < j
  · rw [List.eraseIdx_append_of_lt_length (by omega)]
  · rw [List.eraseIdx_append_of_length_le (by omega), hl, List.eraseIdx_of_length_le (l := xs.take j) (by omega), List.eraseIdx_of_length_le (l := [z]) (by simp; omega)]
theorem erase_le (xs : List W3) (j k : Nat) : ((xs.take j).eraseIdx k).length ≤ xs.length := by
  have := List.length_eraseIdx_le (xs.take j) k
  rw [List.length_take] at this
  omega
theorem erase_cut (xs : List W3) (k : Nat) : xs.eraseIdx k = cutOut k (k + 1) xs := List.eraseIdx_eq_take_drop_succ _ _

set_option maxHeartbeats 1000000 in
theorem without_any (P : Nat → Prop) (v : Value) (xs : List W3) (k : Nat) (w : World) (hx : Lst P w v xs) (hl : xs.length ≤ 4096) :
    Calls Try.prog 35 #[v, .int .i64 (k : Int)] w fun e w' => ∃ v', e = .returned v' ∧ Own w.heap.size w' v' (xs.eraseIdx k) ∧ Ch NoB w w' := by
  obtain ⟨ao, cap, rfl⟩ := hx.form
  obtain ⟨n, hn⟩ : ∃ n, n = xs.length := ⟨_, rfl⟩
  rw [← hn] at hl hx ⊢
  have HX := hid hx
  have HN := hid hn
  clear hx hn
  go_enter Try.func35, Try.ntmps35
  go_wp2_with fail
  go_loopg [5, 6] n (fun m o i wr => ∃ j l ao' c', j + m = n ∧ i = .int .i64 ((j : Nat) : Int) ∧ o = .slice ao' l c' ∧ l ≤ n ∧ Own w.heap.size wr (.slice ao' l c') ((xs.take j).eraseIdx k) ∧ Ch NoB w wr)
  case atStart => exact ⟨0, 0, _, _, by omega, rfl, rfl, Nat.zero_le _, by rw [List.take_zero, List.eraseIdx_nil]; exact Own.lit w, (Ch.refl _ _).alloc _⟩
  case round =>
    obtain ⟨j, l, ao', c', hjk, rfl, rfl, hll, ho, hg⟩ := hrel
    have hol : l = ((xs.take j).eraseIdx k).length := by
      obtain ⟨a1, a2, a3⟩ := ho.form
      injection a3 with a3 a4 a5
    have HO := hid ho
    have HG := hid hg
    have HOL := hid hol
    have hws := hg.size
    clear ho hol
    by_cases hj : j < n
    · obtain ⟨z, hz⟩ : ∃ z, xs[j]? = some z := ⟨_, List.getElem?_eq_getElem (by rw [← HN.out]; exact hj)⟩
      obtain ⟨gb, o, rfl, _, hgl, a0, a1, a2⟩ := (HX.out.ch hg (fun _ _ _ => noB _)).get hz
      have j0 : (0 : Int) ≤ (j : Int) := by omega
      have j1 : (j : Int) < (n : Int) := by omega
      have HZ := hid hz
      clear hz hg
      by_cases hk : j = k
      · have e1 : ((j : Int) == (k : Int)) = true := by simp; omega
        have e2 : (j : Int) = (k : Int) := by omega
        have HK := hid hk
        clear hk
        go_wp2
        go_roundg (gk - 1)
        case measure => omega
        case rel => exact ⟨j + 1, l, _, _, by omega, by have := HK.out; simp <;> omega, rfl, hll, by rw [erase_at HZ.out HK.out]; exact HO.out, HG.out⟩
      · have e1 : ((j : Int) == (k : Int)) = false := by simp; omega
        have e2 : ¬ ((j : Int) = (k : Int)) := by omega
        have hL := erase_not HZ.out hk
        have hle := erase_le xs (j + 1) k
        rw [hL, List.length_append, ← HOL.out, ← HN.out] at hle
        simp only [List.length_cons, List.length_nil] at hle
        obtain ⟨L, hLL⟩ : ∃ L, L = (xs.take (j + 1)).eraseIdx k := ⟨_, rfl⟩
        rw [← hLL] at hL
        have HL := hid hL
        have HLL := hid hLL
        clear hL hLL hk
        go_wp2_with (first | (at_builtin; refine wpList_append_own2 rfl (.tmp 17) (.tmp 22) rfl w.heap.size _ _ rfl (HO.out.alloc _) _ _ [z] rfl (lst_three (Three.new wr z)) (l + 1) (by rw [← HOL.out]; rfl) (by omega) (by simp; omega) L HL.out.symm ?_; intro ao2 cap2 w2 ow2 cw2 bl2; have HO2 := hid ow2; have HG2 := hid ((HG.out.alloc _).trans cw2 (fun q e => .inr (HO.out.blk e).1)); clear ow2 cw2 bl2))
        go_roundg (gk - 1)
        case measure => omega
        case rel => exact ⟨j + 1, l + 1, _, _, by omega, by simp, rfl, hle, by rw [← HLL.out]; exact HO2.out, HG2.out⟩
    · have hje : (xs.take j).eraseIdx k = xs.eraseIdx k := by rw [List.take_of_length_le (by rw [← HN.out]; omega)]
      rw [hje] at HO
      clear hg
      go_wp2
      go_ret
      exact ⟨_, rfl, HO.out, HG.out⟩

theorem rtake_none (v : Value) (w : World) (hx : ∃ ao cap, v = .slice ao 0 cap) :
    Calls Try.prog 25 #[v] w fun e w' => e = .returned (.tuple #[v, .agg #[.int .i64 0, .int .i64 0, .int .u64 0], .int .i64 31]) ∧ Ch NoB w w' := by
  obtain ⟨ao, cap, rfl⟩ := hx
  go_enter Try.func25, Try.ntmps25
  go_wp2
  exact bodyPost_ret (v := .tuple #[.slice ao 0 cap, .agg #[.int .i64 0, .int .i64 0, .int .u64 0], .int .i64 31]) (by simp [results, Try.results25, go_sem]) rfl ⟨rfl, (Ch.refl _ _).alloc _⟩

set_option maxHeartbeats 1000000 in
set_option maxRecDepth 20000 in
theorem rtake_some (P : Nat → Prop) (v : Value) (x : W3) (xs : List W3) (w : World) (hx : Lst P w v xs) (hz : xs[0]? = some x) (hl : xs.length ≤ 4096) :
    Calls Try.prog 25 #[v] w fun e w' => ∃ v', e = .returned (.tuple #[v', .agg #[.int .i64 x.s, .int .i64 x.g, .int .u64 x.t], .int .i64 0]) ∧ Own w.heap.size w' v' (xs.eraseIdx 0) ∧ Ch NoB w w' := by
  obtain ⟨ao, cap, rfl⟩ := hx.form
  obtain ⟨L, hL⟩ : ∃ L, L = xs.eraseIdx 0 := ⟨_, rfl⟩
  have hWO := fun W (h : Lst P W (.slice ao xs.length cap) xs) => without_any P (.slice ao xs.length cap) xs 0 W h hl
  rw [← hL] at hWO ⊢
  obtain ⟨n, hn⟩ : ∃ n, n = xs.length := ⟨_, rfl⟩
  have hnl := (List.getElem?_eq_some_iff.1 hz).1
  have hn0 : ¬ ((n : Int) = 0) := by omega
  have hn1 : (0 : Int) < (n : Int) := by omega
  have hn2 : ((n : Int) == 0) = false := by simp; omega
  have hn3 : 0 < n := by omega
  have HR := hid (Three.new w W3.zero)
  have HG := hid ((Ch.refl NoB w).alloc (.cells #[.int .i64 0, .int .i64 0, .int .u64 0] 33))
  have HWS := hid HG.out.size
  have HX1 := hid (hx.ch HG.out (fun _ _ _ => noB _))
  rw [← hn] at hWO HX1 ⊢
  obtain ⟨gb, o, rfl, _, hgl, a0, a1, a2⟩ := HX1.out.get hz
  simp only [Nat.zero_mul, Nat.add_zero] at a0 a1 a2
  have HWO := hid hWO
  clear hx hl hn hz hL hWO
  go_enter Try.func25, Try.ntmps25
  go_wp2_with fail
  refine wp_region_any (by kernel_rfl) ?_
  change wpAny _ _ _ _ _ _ _ (World.drew _)
  refine take_on (i := 0) 10 (v := ?v1) rfl rfl (by kernel_rfl) (by kernel_rfl) (by kernel_rfl) (fun _ _ _ h => h) (by kernel_rfl) ?hy1 ?_
  case hy1 => (intro w; go_simp; try (with_reducible rfl))
  simp only [Act.put, List.setIfInBounds_toArray, List.set_cons_zero, List.set_cons_succ]
  refine take_on (i := 2) 12 (v := ?v2) rfl rfl (by kernel_rfl) (by kernel_rfl) (by kernel_rfl) (fun _ _ _ h => h) (by kernel_rfl) ?hy2 ?_
  case hy2 => (intro w; go_simp; try (with_reducible rfl))
  simp only [Act.put, List.setIfInBounds_toArray, List.set_cons_zero, List.set_cons_succ]
  refine take_on (i := 3) 13 (v := ?v3) rfl rfl (by kernel_rfl) (by kernel_rfl) (by kernel_rfl) (fun _ _ _ h => h) (by kernel_rfl) ?hy3 ?_
  case hy3 => (intro w; go_simp; try (with_reducible rfl))
  simp only [Act.put, List.setIfInBounds_toArray, List.set_cons_zero, List.set_cons_succ]
  refine wpAny_ready (rs := [1, 4]) (by kernel_rfl) (by simp) (AllReady.cons rfl (fun K hK => ?_) (AllReady.cons rfl (fun K hK => ?_) AllReady.nil))
  · go_simp
    refine (HWO.out _ (HX1.out.drew)).mono ?_
    rintro e w2 ⟨v2, rfl, o2, g2⟩
    obtain ⟨ao2, c2, rfl⟩ := o2.form
    have HO2 := hid (show Own w.heap.size _ _ _ from ⟨o2.1, o2.2.imp id (fun ⟨g, cap, cur, h1, h2, h3⟩ => ⟨g, cap, cur, h1, Nat.le_trans HWS.out h2, h3⟩)⟩)
    have HG2 := hid (HG.out.drew.trans' g2)
    have HB2 := hid (fun q (h : Blk _ q) => (o2.blk h).1)
    have R2 := HR.out.drew.ch g2 (noB _)
    obtain ⟨r0, r1, r2⟩ := R2.cells
    have f0 := R2.frozen 0
    have f1 := R2.frozen 1
    have f2 := R2.frozen 2
    have l2 := R2.lt
    have gl2 : gb < w2.heap.size := Nat.lt_of_lt_of_le hgl g2.size
    have b0 := (g2.cell (o := o) hgl (noB _)).trans a0
    have b1 := (g2.cell (o := o + 1) hgl (noB _)).trans a1
    have b2 := (g2.cell (o := o + 2) hgl (noB _)).trans a2
    clear o2 g2 R2
    go_wp2_with fail
    refine take_on (i := 5) 2 (v := ?v4) rfl rfl (by kernel_rfl) (by kernel_rfl) (by kernel_rfl) (fun _ _ _ h => h) (by kernel_rfl) ?hy4 ?_
    case hy4 => (intro w; go_simp; try (with_reducible rfl))
    simp only [Act.put, List.setIfInBounds_toArray, List.set_cons_zero, List.set_cons_succ]
    refine wpAny_ready (rs := [4]) (by kernel_rfl) (by simp) (AllReady.cons rfl (fun K hK => ?_) AllReady.nil)
    go_simp
    refine hK _ _ ?_
    clear hK K
    refine wpAny_ready (rs := [6]) (by kernel_rfl) (by simp) (AllReady.cons rfl (fun K hK => ?_) AllReady.nil)
    go_simp
    refine hK _ _ ?_
    clear hK K
    refine take_on (i := 7) 4 (v := ?v5) rfl rfl (by kernel_rfl) (by kernel_rfl) (by kernel_rfl) (fun _ _ _ h => h) (by kernel_rfl) ?hy5 ?_
    case hy5 => (intro w; go_simp; try (with_reducible rfl))
    simp only [Act.put, List.setIfInBounds_toArray, List.set_cons_zero, List.set_cons_succ]
    refine wpAny_done (by kernel_rfl) ?_ _
    go_wp2
    refine bodyPost_ret (v := .tuple #[.slice ao2 L.length c2, .agg #[.int .i64 x.s, .int .i64 x.g, .int .u64 x.t], .int .i64 0]) (by simp [results, Try.results25, go_sem, r0, r1, r2]) rfl ⟨_, rfl, ?_, ?_⟩
    exact HO2.out.ch (S := Only w.heap.size) (Ch.own (Ch.own (Ch.own (Ch.refl _ _) _ _) _ _) _ _) (fun q h e => by have := HB2.out q h; have : q = w.heap.size := e; have := HR.out.lt; simp at *; omega)
    exact Ch.fresh (Ch.fresh (Ch.fresh HG2.out (by omega) _ _) (by omega) _ _) (by omega) _ _
  · go_simp
    refine hK _ _ ?_
    clear hK K
    refine wpAny_ready (rs := [1]) (by kernel_rfl) (by simp) (AllReady.cons rfl (fun K hK => ?_) AllReady.nil)
    go_simp
    refine (HWO.out _ (HX1.out.drew)).mono ?_
    rintro e w2 ⟨v2, rfl, o2, g2⟩
    obtain ⟨ao2, c2, rfl⟩ := o2.form
    have HO2 := hid (show Own w.heap.size _ _ _ from ⟨o2.1, o2.2.imp id (fun ⟨g, cap, cur, h1, h2, h3⟩ => ⟨g, cap, cur, h1, Nat.le_trans HWS.out h2, h3⟩)⟩)
    have HG2 := hid (HG.out.drew.trans' g2)
    have HB2 := hid (fun q (h : Blk _ q) => (o2.blk h).1)
    have R2 := HR.out.drew.ch g2 (noB _)
    obtain ⟨r0, r1, r2⟩ := R2.cells
    have f0 := R2.frozen 0
    have f1 := R2.frozen 1
    have f2 := R2.frozen 2
    have l2 := R2.lt
    have gl2 : gb < w2.heap.size := Nat.lt_of_lt_of_le hgl g2.size
    have b0 := (g2.cell (o := o) hgl (noB _)).trans a0
    have b1 := (g2.cell (o := o + 1) hgl (noB _)).trans a1
    have b2 := (g2.cell (o := o + 2) hgl (noB _)).trans a2
    clear o2 g2 R2
    go_wp2_with fail
    refine take_on (i := 5) 2 (v := ?v6) rfl rfl (by kernel_rfl) (by kernel_rfl) (by kernel_rfl) (fun _ _ _ h => h) (by kernel_rfl) ?hy6 ?_
    case hy6 => (intro w; go_simp; try (with_reducible rfl))
    simp only [Act.put, List.setIfInBounds_toArray, List.set_cons_zero, List.set_cons_succ]
    refine wpAny_ready (rs := [6]) (by kernel_rfl) (by simp) (AllReady.cons rfl (fun K hK => ?_) AllReady.nil)
    go_simp
    refine hK _ _ ?_
    clear hK K
    refine take_on (i := 7) 4 (v := ?v7) rfl rfl (by kernel_rfl) (by kernel_rfl) (by kernel_rfl) (fun _ _ _ h => h) (by kernel_rfl) ?hy7 ?_
    case hy7 => (intro w; go_simp; try (with_reducible rfl))
    simp only [Act.put, List.setIfInBounds_toArray, List.set_cons_zero, List.set_cons_succ]
    refine wpAny_done (by kernel_rfl) ?_ _
    go_wp2
    refine bodyPost_ret (v := .tuple #[.slice ao2 L.length c2, .agg #[.int .i64 x.s, .int .i64 x.g, .int .u64 x.t], .int .i64 0]) (by simp [results, Try.results25, go_sem, r0, r1, r2]) rfl ⟨_, rfl, ?_, ?_⟩
    exact HO2.out.ch (S := Only w.heap.size) (Ch.own (Ch.own (Ch.own (Ch.refl _ _) _ _) _ _) _ _) (fun q h e => by have := HB2.out q h; have : q = w.heap.size := e; have := HR.out.lt; simp at *; omega)
    exact Ch.fresh (Ch.fresh (Ch.fresh HG2.out (by omega) _ _) (by omega) _ _) (by omega) _ _

theorem rdrop_none (P : Nat → Prop) (v : Value) (xs : List W3) (s g : Int) (w : World) (hx : Lst P w v xs) (hl : xs.length ≤ 4096) (hat : atG s g xs = -1) :
    Calls Try.prog 26 #[v, .agg #[.int .i64 s, .int .i64 g]] w fun e w' => e = .returned (.tuple #[v, .agg #[.int .i64 0, .int .i64 0, .int .u64 0], .int .i64 31]) ∧ Ch NoB w w' := by
  have hF := at_any P v xs s g _ ((hx.alloc (.cells #[.int .i64 s, .int .i64 g] 30)).alloc (.cells #[.int .i64 0, .int .i64 0, .int .u64 0] 33)) (by omega)
  rw [hat] at hF
  obtain ⟨ao, cap, rfl⟩ := hx.form
  have HF := hid hF
  clear hF hx hat hl
  go_enter Try.func26, Try.ntmps26
  go_wp2_with fail
  refine HF.out.mono ?_
  rintro e w1 ⟨rfl, g1⟩
  have R0 := Three.new (w.alloc (.cells #[.int .i64 s, .int .i64 g] 30)) W3.zero
  simp only [World.size_alloc] at R0
  have R1 := R0.ch g1 (noB _)
  obtain ⟨r0, r1, r2⟩ := R1.cells
  have f0 := R1.frozen 0
  have f1 := R1.frozen 1
  have f2 := R1.frozen 2
  have hl1 := R1.lt
  have HG := hid ((((Ch.refl NoB w).alloc _).alloc _).trans' g1)
  clear R0 R1 g1
  go_wp2
  refine bodyPost_ret (v := .tuple #[.slice ao xs.length cap, .agg #[.int .i64 0, .int .i64 0, .int .u64 0], .int .i64 31]) (by simp [results, Try.results26, go_sem, r0, r1, r2]) rfl ⟨rfl, ?_⟩
  refine Ch.fresh (Ch.fresh (Ch.fresh HG.out ?_ _ _) ?_ _ _) ?_ _ _ <;> omega

set_option maxHeartbeats 1000000 in
set_option maxRecDepth 20000 in
theorem rdrop_some (P : Nat → Prop) (v : Value) (xs : List W3) (s g : Int) (k : Nat) (x : W3) (w : World) (hx : Lst P w v xs) (hl : xs.length ≤ 4096) (hat : atG s g xs = (k : Int)) (hz : xs[k]? = some x) :
    Calls Try.prog 26 #[v, .agg #[.int .i64 s, .int .i64 g]] w fun e w' => ∃ v', e = .returned (.tuple #[v', .agg #[.int .i64 x.s, .int .i64 x.g, .int .u64 x.t], .int .i64 0]) ∧ Own w.heap.size w' v' (xs.eraseIdx k) ∧ Ch NoB w w' := by
  have hF := at_any P v xs s g _ ((hx.alloc (.cells #[.int .i64 s, .int .i64 g] 30)).alloc (.cells #[.int .i64 0, .int .i64 0, .int .u64 0] 33)) (by omega)
  rw [hat] at hF
  obtain ⟨ao, cap, rfl⟩ := hx.form
  obtain ⟨L, hL⟩ : ∃ L, L = xs.eraseIdx k := ⟨_, rfl⟩
  have hWO := fun W (h : Lst P W (.slice ao xs.length cap) xs) => without_any P (.slice ao xs.length cap) xs k W h hl
  rw [← hL] at hWO ⊢
  obtain ⟨n, hn⟩ : ∃ n, n = xs.length := ⟨_, rfl⟩
  have hnl := (List.getElem?_eq_some_iff.1 hz).1
  have hn0 : (0 : Int) ≤ (k : Int) := by omega
  have hn1 : (k : Int) < (n : Int) := by omega
  have hn2 : ¬ ((k : Int) < 0) := by omega
  rw [← hn] at hF hx hWO ⊢
  have HF := hid hF
  have HX := hid hx
  have HWO := hid hWO
  have HZ := hid hz
  clear hF hx hat hl hn hz hL hWO
  go_enter Try.func26, Try.ntmps26
  go_wp2_with fail
  refine HF.out.mono ?_
  rintro e w1 ⟨rfl, g1⟩
  have R0 := Three.new (w.alloc (.cells #[.int .i64 s, .int .i64 g] 30)) W3.zero
  simp only [World.size_alloc] at R0
  have HR := hid (R0.ch g1 (noB _))
  have HG := hid ((((Ch.refl NoB w).alloc _).alloc _).trans' g1)
  have HWS := hid HG.out.size
  have HX1 := hid (HX.out.ch HG.out (fun _ _ _ => noB _))
  obtain ⟨gb, o, rfl, _, hgl, a0, a1, a2⟩ := HX1.out.get HZ.out
  clear R0 g1
  go_wp2_with fail
  refine wp_region_any (by kernel_rfl) ?_
  change wpAny _ _ _ _ _ _ _ (World.drew _)
  refine take_on (i := 0) 15 (v := ?v8) rfl rfl (by kernel_rfl) (by kernel_rfl) (by kernel_rfl) (fun _ _ _ h => h) (by kernel_rfl) ?hy8 ?_
  case hy8 => (intro w; go_simp; try (with_reducible rfl))
  simp only [Act.put, List.setIfInBounds_toArray, List.set_cons_zero, List.set_cons_succ]
  refine take_on (i := 1) 16 (v := ?v9) rfl rfl (by kernel_rfl) (by kernel_rfl) (by kernel_rfl) (fun _ _ _ h => h) (by kernel_rfl) ?hy9 ?_
  case hy9 => (intro w; go_simp; try (with_reducible rfl))
  simp only [Act.put, List.setIfInBounds_toArray, List.set_cons_zero, List.set_cons_succ]
  refine take_on (i := 3) 18 (v := ?v10) rfl rfl (by kernel_rfl) (by kernel_rfl) (by kernel_rfl) (fun _ _ _ h => h) (by kernel_rfl) ?hy10 ?_
  case hy10 => (intro w; go_simp; try (with_reducible rfl))
  simp only [Act.put, List.setIfInBounds_toArray, List.set_cons_zero, List.set_cons_succ]
  refine take_on (i := 4) 19 (v := ?v11) rfl rfl (by kernel_rfl) (by kernel_rfl) (by kernel_rfl) (fun _ _ _ h => h) (by kernel_rfl) ?hy11 ?_
  case hy11 => (intro w; go_simp; try (with_reducible rfl))
  simp only [Act.put, List.setIfInBounds_toArray, List.set_cons_zero, List.set_cons_succ]
  refine take_on (i := 5) 20 (v := ?v12) rfl rfl (by kernel_rfl) (by kernel_rfl) (by kernel_rfl) (fun _ _ _ h => h) (by kernel_rfl) ?hy12 ?_
  case hy12 => (intro w; go_simp; try (with_reducible rfl))
  simp only [Act.put, List.setIfInBounds_toArray, List.set_cons_zero, List.set_cons_succ]
  refine wpAny_ready (rs := [2, 6]) (by kernel_rfl) (by simp) (AllReady.cons rfl (fun K hK => ?_) (AllReady.cons rfl (fun K hK => ?_) AllReady.nil))
  · go_simp
    refine (HWO.out _ (HX1.out.drew)).mono ?_
    rintro e w2 ⟨v2, rfl, o2, g2⟩
    obtain ⟨ao2, c2, rfl⟩ := o2.form
    have HO2 := hid (show Own w.heap.size _ _ _ from ⟨o2.1, o2.2.imp id (fun ⟨g, cap, cur, h1, h2, h3⟩ => ⟨g, cap, cur, h1, Nat.le_trans HWS.out h2, h3⟩)⟩)
    have HG2 := hid (HG.out.drew.trans' g2)
    have HB2 := hid (fun q (h : Blk _ q) => (o2.blk h).1)
    have R2 := HR.out.drew.ch g2 (noB _)
    obtain ⟨r0, r1, r2⟩ := R2.cells
    have f0 := R2.frozen 0
    have f1 := R2.frozen 1
    have f2 := R2.frozen 2
    have l2 := R2.lt
    have gl2 : gb < w2.heap.size := Nat.lt_of_lt_of_le hgl g2.size
    have b0 := (g2.cell (o := o + k * 3) hgl (noB _)).trans a0
    have b1 := (g2.cell (o := o + k * 3 + 1) hgl (noB _)).trans a1
    have b2 := (g2.cell (o := o + k * 3 + 2) hgl (noB _)).trans a2
    clear o2 g2 R2
    go_wp2_with fail
    refine take_on (i := 7) 4 (v := ?v13) rfl rfl (by kernel_rfl) (by kernel_rfl) (by kernel_rfl) (fun _ _ _ h => h) (by kernel_rfl) ?hy13 ?_
    case hy13 => (intro w; go_simp; try (with_reducible rfl))
    simp only [Act.put, List.setIfInBounds_toArray, List.set_cons_zero, List.set_cons_succ]
    refine wpAny_ready (rs := [6]) (by kernel_rfl) (by simp) (AllReady.cons rfl (fun K hK => ?_) AllReady.nil)
    go_simp
    refine hK _ _ ?_
    clear hK K
    refine wpAny_ready (rs := [8]) (by kernel_rfl) (by simp) (AllReady.cons rfl (fun K hK => ?_) AllReady.nil)
    go_simp
    refine hK _ _ ?_
    clear hK K
    refine take_on (i := 9) 6 (v := ?v14) rfl rfl (by kernel_rfl) (by kernel_rfl) (by kernel_rfl) (fun _ _ _ h => h) (by kernel_rfl) ?hy14 ?_
    case hy14 => (intro w; go_simp; try (with_reducible rfl))
    simp only [Act.put, List.setIfInBounds_toArray, List.set_cons_zero, List.set_cons_succ]
    refine wpAny_done (by kernel_rfl) ?_ _
    go_wp2
    refine bodyPost_ret (v := .tuple #[.slice ao2 L.length c2, .agg #[.int .i64 x.s, .int .i64 x.g, .int .u64 x.t], .int .i64 0]) (by simp [results, Try.results26, go_sem, r0, r1, r2]) rfl ⟨_, rfl, ?_, ?_⟩
    exact HO2.out.ch (S := Only (w.heap.size + 1)) (Ch.own (Ch.own (Ch.own (Ch.refl _ _) _ _) _ _) _ _) (fun q h e => by have := HB2.out q h; have : q = w.heap.size + 1 := e; have := HR.out.lt; simp at *; omega)
    exact Ch.fresh (Ch.fresh (Ch.fresh HG2.out (by omega) _ _) (by omega) _ _) (by omega) _ _
  · go_simp
    refine hK _ _ ?_
    clear hK K
    refine wpAny_ready (rs := [2]) (by kernel_rfl) (by simp) (AllReady.cons rfl (fun K hK => ?_) AllReady.nil)
    go_simp
    refine (HWO.out _ (HX1.out.drew)).mono ?_
    rintro e w2 ⟨v2, rfl, o2, g2⟩
    obtain ⟨ao2, c2, rfl⟩ := o2.form
    have HO2 := hid (show Own w.heap.size _ _ _ from ⟨o2.1, o2.2.imp id (fun ⟨g, cap, cur, h1, h2, h3⟩ => ⟨g, cap, cur, h1, Nat.le_trans HWS.out h2, h3⟩)⟩)
    have HG2 := hid (HG.out.drew.trans' g2)
    have HB2 := hid (fun q (h : Blk _ q) => (o2.blk h).1)
    have R2 := HR.out.drew.ch g2 (noB _)
    obtain ⟨r0, r1, r2⟩ := R2.cells
    have f0 := R2.frozen 0
    have f1 := R2.frozen 1
    have f2 := R2.frozen 2
    have l2 := R2.lt
    have gl2 : gb < w2.heap.size := Nat.lt_of_lt_of_le hgl g2.size
    have b0 := (g2.cell (o := o + k * 3) hgl (noB _)).trans a0
    have b1 := (g2.cell (o := o + k * 3 + 1) hgl (noB _)).trans a1
    have b2 := (g2.cell (o := o + k * 3 + 2) hgl (noB _)).trans a2
    clear o2 g2 R2
    go_wp2_with fail
    refine take_on (i := 7) 4 (v := ?v15) rfl rfl (by kernel_rfl) (by kernel_rfl) (by kernel_rfl) (fun _ _ _ h => h) (by kernel_rfl) ?hy15 ?_
    case hy15 => (intro w; go_simp; try (with_reducible rfl))
    simp only [Act.put, List.setIfInBounds_toArray, List.set_cons_zero, List.set_cons_succ]
    refine wpAny_ready (rs := [8]) (by kernel_rfl) (by simp) (AllReady.cons rfl (fun K hK => ?_) AllReady.nil)
    go_simp
    refine hK _ _ ?_
    clear hK K
    refine take_on (i := 9) 6 (v := ?v16) rfl rfl (by kernel_rfl) (by kernel_rfl) (by kernel_rfl) (fun _ _ _ h => h) (by kernel_rfl) ?hy16 ?_
    case hy16 => (intro w; go_simp; try (with_reducible rfl))
    simp only [Act.put, List.setIfInBounds_toArray, List.set_cons_zero, List.set_cons_succ]
    refine wpAny_done (by kernel_rfl) ?_ _
    go_wp2
    refine bodyPost_ret (v := .tuple #[.slice ao2 L.length c2, .agg #[.int .i64 x.s, .int .i64 x.g, .int .u64 x.t], .int .i64 0]) (by simp [results, Try.results26, go_sem, r0, r1, r2]) rfl ⟨_, rfl, ?_, ?_⟩
    exact HO2.out.ch (S := Only (w.heap.size + 1)) (Ch.own (Ch.own (Ch.own (Ch.refl _ _) _ _) _ _) _ _) (fun q h e => by have := HB2.out q h; have : q = w.heap.size + 1 := e; have := HR.out.lt; simp at *; omega)
    exact Ch.fresh (Ch.fresh (Ch.fresh HG2.out (by omega) _ _) (by omega) _ _) (by omega) _ _
end Go.Proofs.Ytphohfafehjafaa.Ff
