/-
  What without and Push of the document's answer tell. Condition: the list is there, and at most 4294967296 long.
-/
import Derived.Test.YtkaeccmhfbjcmaaHpItems
import Derived.Handy
namespace Go.Proofs.Ytkaeccmhfbjcmaa.Hp
open Go.RowKit
attribute [local go_sem ↓] Go.wp_at_zero Go.wp_at_succ

set_option maxHeartbeats 2000000 in
theorem rwithout_any (P : Nat → Prop) (v : Value) (xs : List W3) (nx : Int) (k : Nat) (w : World) (hx : Lst P w v xs) (hl : xs.length ≤ 4294967296) :
    Calls Try.prog 33 #[.agg #[v, .int .i64 nx], .int .i64 (k : Int)] w fun e w' => ∃ v', e = .returned (.agg #[v', .int .i64 nx]) ∧ Lst (w.heap.size ≤ ·) w' v' (xs.eraseIdx k) ∧ Ch NoB w w' := by
  obtain ⟨ao, cap, rfl⟩ := hx.form
  obtain ⟨n, hn⟩ : ∃ n, n = xs.length := ⟨_, rfl⟩
  rw [← hn] at hl hx ⊢
  obtain ⟨W0, hW0⟩ : ∃ W, W = (w.alloc (.cells #[.slice ao n cap, .int .i64 nx] 28)).alloc (.cells #[.slice none 0 0, .int .i64 0] 28) := ⟨_, rfl⟩
  have g0 : Ch NoB w W0 := by rw [hW0]; exact ((Ch.refl NoB w).alloc _).alloc _
  have f0 : Tv W0 w.heap.size (.slice ao n cap) nx := by rw [hW0]; exact (Tv.new w _ _).alloc _
  have r0 : Tv W0 (w.heap.size + 1) (.slice none 0 0) 0 := by
    have z := Tv.new (w.alloc (.cells #[.slice ao n cap, .int .i64 nx] 28)) (.slice none 0 0) 0
    rw [World.size_alloc] at z
    rw [hW0]
    exact z
  obtain ⟨ks, hks⟩ : ∃ k, k = w.heap.size := ⟨_, rfl⟩
  obtain ⟨kr, hkr⟩ : ∃ k, k = w.heap.size + 1 := ⟨_, rfl⟩
  have hkr0 : kr < W0.heap.size := by rw [hkr]; exact r0.lt
  have HW0s := hid (show kr + 1 = W0.heap.size by rw [hW0, hkr]; simp)
  have hkr1 : w.heap.size ≤ kr := by omega
  have hks1 : ks < kr := by omega
  have HX := hid (hx.ch g0 (fun _ _ _ => noB _))
  have HN := hid hn
  have HG0 := hid g0
  have HF0 := hid (show Tv W0 ks (.slice ao n cap) nx by rw [hks]; exact f0)
  have HR0 := hid (show Tv W0 kr (.slice none 0 0) 0 by rw [hkr]; exact r0)
  clear hx hn g0 f0 r0
  go_enter Try.func33, Try.ntmps33
  go_wp2_with fail
  rw [← hW0, ← hkr, ← hks, HW0s.out]
  clear hW0 hks hkr
  go_loopg [5, 6] n (fun m o i wr => ∃ j l ao' c', j + m = n ∧ i = .int .i64 ((j : Nat) : Int) ∧ o = .slice ao' l c' ∧ l ≤ n ∧ OwnI W0.heap.size wr (.slice ao' l c') ((xs.take j).eraseIdx k) ∧ Ch NoB W0 wr)
  case atStart => exact ⟨0, 0, _, _, by omega, rfl, rfl, Nat.zero_le _, by rw [List.take_zero, List.eraseIdx_nil]; exact OwnI.lit W0, (Ch.refl _ _).alloc _⟩
  case round =>
    obtain ⟨j, l, ao', c', hjk, rfl, rfl, hll, ho, hg⟩ := hrel
    obtain ⟨V, hV⟩ : ∃ W, W = wr := ⟨_, rfl⟩
    subst hV
    have hol : l = ((xs.take j).eraseIdx k).length := ho.lst.len
    have HO := hid ho
    have HG := hid hg
    have HOL := hid hol
    have hws := hg.size
    have F1 := HF0.out.ch hg (noB _)
    obtain ⟨c0, c1⟩ := F1.cells
    have l1 := F1.lt
    clear ho hol F1
    by_cases hj : j < n
    · obtain ⟨z, hz⟩ : ∃ z, xs[j]? = some z := ⟨_, List.getElem?_eq_getElem (by rw [← HN.out]; exact hj)⟩
      obtain ⟨gb, o, rfl, _, hgl, a0, a1, a2⟩ := (HX.out.ch hg (fun _ _ _ => noB _)).get hz
      have j0 : (0 : Int) ≤ (j : Int) := by omega
      have j1 : (j : Int) < (n : Int) := by omega
      have HZ := hid hz
      clear hz hg
      by_cases hk : j = k
      · have e1 : ((j : Int) == (k : Int)) = true := by simp; omega
        have e2 : (j : Int) = (k : Int) := by omega
        have HK := hid hk
        clear hk
        go_wp2
        go_roundg (gk - 1)
        case measure => omega
        case rel => exact ⟨j + 1, l, _, _, by omega, by have := HK.out; simp <;> omega, rfl, hll, by rw [erase_at HZ.out HK.out]; exact HO.out, HG.out⟩
      · have e1 : ((j : Int) == (k : Int)) = false := by simp; omega
        have e2 : ¬ ((j : Int) = (k : Int)) := by omega
        have hL := erase_not HZ.out hk
        have hle := erase_le xs (j + 1) k
        rw [hL, List.length_append, ← HOL.out, ← HN.out] at hle
        simp only [List.length_cons, List.length_nil] at hle
        obtain ⟨L, hLL⟩ : ∃ L, L = (xs.take (j + 1)).eraseIdx k := ⟨_, rfl⟩
        rw [← hLL] at hL
        have HL := hid hL
        have HLL := hid hLL
        clear hL hLL hk
        go_wp2_with (first | (at_builtin; refine wpList_append_ownI rfl (.tmp 18) (.tmp 24) rfl W0.heap.size _ _ rfl (HO.out.alloc _) _ _ [z] rfl (lst_new3 V z _) (l + 1) (by rw [← HOL.out]; rfl) (by omega) (by simp; omega) L HL.out.symm ?_; intro ao2 cap2 w2 ow2 cw2 bl2; have HO2 := hid ow2; have HG2 := hid ((HG.out.alloc _).trans cw2 (fun q e => .inr (HO.out.blk e).1)); clear ow2 cw2 bl2))
        go_roundg (gk - 1)
        case measure => omega
        case rel => exact ⟨j + 1, l + 1, _, _, by omega, by simp, rfl, hle, by rw [← HLL.out]; exact HO2.out, HG2.out⟩
    · have hje : (xs.take j).eraseIdx k = xs.eraseIdx k := by rw [List.take_of_length_le (by rw [← HN.out]; omega)]
      rw [hje] at HO
      have R1 := HR0.out.ch hg (noB _)
      obtain ⟨z0, z1⟩ := R1.cells
      obtain ⟨y0, y1⟩ := R1.fz
      have l2 := R1.lt
      clear hg R1
      have C5 := ((Ch.refl (Only kr) V).own 0 (.slice ao' l c')).own 1 (.int .i64 nx)
      go_wp2
      exact bodyPost_ret (v := .agg #[.slice ao' l c', .int .i64 nx]) (by simp [results, Try.results33, go_sem, z0, z1]) rfl ⟨_, rfl, HO.out.lst.own C5 hkr0 HG0.out.size, (HG0.out.trans' HG.out).trans C5 (fun q e => .inr (by have e1 : q = kr := e; omega))⟩
set_option maxHeartbeats 2000000 in
theorem rpush_any (P : Nat → Prop) (v : Value) (xs : List W3) (nx wh va : Int) (w : World) (hx : Lst P w v xs) (hl : xs.length ≤ 4294967296) (h0 : 0 ≤ nx) (hnx : nx < 4294967296) :
    Calls Try.prog 22 #[.agg #[v, .int .i64 nx], .int .u64 wh, .int .i64 va] w fun e w' => ∃ v', e = .returned (.tuple #[.agg #[v', .int .i64 (nx + 1)], .int .i64 nx]) ∧ Lst (w.heap.size ≤ ·) w' v' (xs ++ [⟨wh, nx, va⟩]) ∧ Ch NoB w w' := by
  obtain ⟨ao, cap, rfl⟩ := hx.form
  obtain ⟨n, hn⟩ : ∃ n, n = xs.length := ⟨_, rfl⟩
  rw [← hn] at hl hx ⊢
  obtain ⟨W0, hW0⟩ : ∃ W, W = (w.alloc (.cells #[.slice ao n cap, .int .i64 nx] 28)).alloc (.cells #[.slice none 0 0, .int .i64 0] 28) := ⟨_, rfl⟩
  have g0 : Ch NoB w W0 := by rw [hW0]; exact ((Ch.refl NoB w).alloc _).alloc _
  have f0 : Tv W0 w.heap.size (.slice ao n cap) nx := by rw [hW0]; exact (Tv.new w _ _).alloc _
  have r0 : Tv W0 (w.heap.size + 1) (.slice none 0 0) 0 := by
    have z := Tv.new (w.alloc (.cells #[.slice ao n cap, .int .i64 nx] 28)) (.slice none 0 0) 0
    rw [World.size_alloc] at z
    rw [hW0]
    exact z
  obtain ⟨ks, hks⟩ : ∃ k, k = w.heap.size := ⟨_, rfl⟩
  obtain ⟨kr, hkr⟩ : ∃ k, k = w.heap.size + 1 := ⟨_, rfl⟩
  have hkr0 : kr < W0.heap.size := by rw [hkr]; exact r0.lt
  have HW0s := hid (show kr + 1 = W0.heap.size by rw [hW0, hkr]; simp)
  have hkr1 : w.heap.size ≤ kr := by omega
  have hks1 : ks < kr := by omega
  have HX := hid (hx.ch g0 (fun _ _ _ => noB _))
  have HN := hid hn
  have HG0 := hid g0
  have HF0 := hid (show Tv W0 ks (.slice ao n cap) nx by rw [hks]; exact f0)
  have HR0 := hid (show Tv W0 kr (.slice none 0 0) 0 by rw [hkr]; exact r0)
  clear hx hn g0 f0 r0
  go_enter Try.func22, Try.ntmps22
  go_wp2_with fail
  rw [← hW0, ← hkr, ← hks, HW0s.out]
  clear hW0 hks hkr
  go_loopg [8, 9] n (fun m o i wr => ∃ j ao' c', j + m = n ∧ i = .int .i64 ((j : Nat) : Int) ∧ o = .slice ao' j c' ∧ OwnI W0.heap.size wr (.slice ao' j c') (xs.take j) ∧ Ch NoB W0 wr)
  case atStart => exact ⟨0, _, _, by omega, rfl, rfl, by rw [List.take_zero]; exact OwnI.lit W0, (Ch.refl _ _).alloc _⟩
  case round =>
    obtain ⟨j, ao', c', hjk, rfl, rfl, ho, hg⟩ := hrel
    obtain ⟨V, hV⟩ : ∃ W, W = wr := ⟨_, rfl⟩
    subst hV
    have hol : j = (xs.take j).length := ho.lst.len
    have HO := hid ho
    have HG := hid hg
    have HOL := hid hol
    have hws := hg.size
    have F1 := HF0.out.ch hg (noB _)
    obtain ⟨c0, c1⟩ := F1.cells
    have l1 := F1.lt
    clear ho hol F1
    by_cases hj : j < n
    · obtain ⟨z, hz⟩ : ∃ z, xs[j]? = some z := ⟨_, List.getElem?_eq_getElem (by rw [← HN.out]; exact hj)⟩
      obtain ⟨gb, o, rfl, _, hgl, a0, a1, a2⟩ := (HX.out.ch hg (fun _ _ _ => noB _)).get hz
      have j0 : (0 : Int) ≤ (j : Int) := by omega
      have j1 : (j : Int) < (n : Int) := by omega
      have HL := hid (show xs.take (j + 1) = xs.take j ++ [z] by rw [List.take_add_one, hz]; rfl)
      clear hz hg
      go_wp2_with (first | (at_builtin; refine wpList_append_ownI rfl (.tmp 18) (.tmp 24) rfl W0.heap.size _ _ rfl (HO.out.alloc _) _ _ [z] rfl (lst_new3 V z _) (j + 1) (by rw [← HOL.out]; rfl) (by omega) (by simp; omega) (xs.take (j + 1)) HL.out.symm ?_; intro ao2 cap2 w2 ow2 cw2 bl2; have HO2 := hid ow2; have HG2 := hid ((HG.out.alloc _).trans cw2 (fun q e => .inr (HO.out.blk e).1)); clear ow2 cw2 bl2))
      go_roundg (gk - 1)
      case measure => omega
      case rel => exact ⟨j + 1, _, _, by omega, by simp, rfl, HO2.out, HG2.out⟩
    · have ej : j = n := by omega
      subst ej
      have hje : xs.take j = xs := List.take_of_length_le (by rw [← HN.out]; exact Nat.le_refl _)
      rw [hje] at HO
      have R1 := HR0.out.ch hg (noB _)
      have HR1 := hid R1
      have HF1 := hid (HF0.out.ch hg (noB _))
      clear hg R1
      go_wp2_with (first | (at_builtin; refine wpList_append_ownI rfl (.tmp 26) (.tmp 32) rfl W0.heap.size _ _ rfl (HO.out.alloc _) _ _ [⟨wh, nx, va⟩] rfl (lst_new3 V ⟨wh, nx, va⟩ _) (j + 1) (by rw [← HN.out]; rfl) (by omega) (by simp; omega) _ rfl ?_; intro ao2 cap2 w2 ow2 cw2 bl2; have HO2 := hid ow2; have HG2 := hid ((HG.out.alloc _).trans cw2 (fun q e => .inr (HO.out.blk e).1)); clear ow2 cw2 bl2))
      clear c0 c1 l1
      have F2 := HF0.out.ch HG2.out (noB _)
      obtain ⟨c0, c1⟩ := F2.cells
      have l1 := F2.lt
      have R2 := HR0.out.ch HG2.out (noB _)
      obtain ⟨z0, z1⟩ := R2.cells
      obtain ⟨y0, y1⟩ := R2.fz
      have l2 := R2.lt
      clear F2 R2
      obtain ⟨V2, hV2⟩ : ∃ W, W = w2.drew := ⟨_, rfl⟩
      have hSW := c1
      have g2 : Ch NoB w2 V2 := by rw [hV2]; exact (Ch.refl _ _).drew
      have R3 := HR0.out.ch (HG2.out.trans' g2) (noB _)
      have HO3 := hid (HO2.out.ch g2 (fun _ _ => noB _))
      have HG3 := hid (HG2.out.trans' g2)
      clear z0 z1 y0 y1 l2
      obtain ⟨z0, z1⟩ := R3.cells
      obtain ⟨y0, y1⟩ := R3.fz
      have l2 := R3.lt
      have hSV : V2.cell? ⟨ks, 1, none⟩ = some (.int .i64 nx) := by rw [hV2]; exact c1
      have C5 := ((Ch.refl (Only kr) V2).own 0 (.slice ao2 (j + 1) cap2)).own 1 (.int .i64 (nx + 1))
      have hS2 : ((V2.setCell ⟨kr, 0, none⟩ (.slice ao2 (j + 1) cap2)).setCell ⟨kr, 1, none⟩ (.int .i64 (nx + 1))).cell? ⟨ks, 1, none⟩ = some (.int .i64 nx) := (C5.cell (HF0.out.ch HG3.out (noB _)).lt (fun e => by have e1 : ks = kr := e; omega)).trans hSV
      have hwr : IntKind.i64.wrap (nx + 1) = nx + 1 := by simp [IntKind.wrap, IntKind.bits, IntKind.signed]; omega
      clear R3 g2
      refine wp_region_held_drew (S := fun w' => w'.cell? ⟨ks, 1, none⟩ = some (.int .i64 nx)) (by kernel_rfl) (by exact hSW) (fun _ => ?_)
      rw [← hV2]
      clear hV2
      refine takeS_on (i := 0) 34 (v := ?v81) rfl rfl (by kernel_rfl) (by kernel_rfl) (by kernel_rfl) (fun _ _ _ h => h) (by kernel_rfl) ?hy81 (by exact hSV) ?_
      case hy81 => (intro w' hSw; go_simp; try (with_reducible rfl))
      simp only [Act.put, List.setIfInBounds_toArray, List.set_cons_zero, List.set_cons_succ]
      refine takeS_on (i := 1) 35 (v := ?v82) rfl rfl (by kernel_rfl) (by kernel_rfl) (by kernel_rfl) (fun _ _ _ h => h) (by kernel_rfl) ?hy82 (by exact hSV) ?_
      case hy82 => (intro w' hSw; go_simp; try (with_reducible rfl))
      simp only [Act.put, List.setIfInBounds_toArray, List.set_cons_zero, List.set_cons_succ]
      refine takeS_on (i := 2) 36 (v := ?v83) rfl rfl (by kernel_rfl) (by kernel_rfl) (by kernel_rfl) (fun _ _ _ h => h) (by kernel_rfl) ?hy83 (by exact hSV) ?_
      case hy83 => (intro w' hSw; go_simp; try (with_reducible rfl))
      simp only [Act.put, List.setIfInBounds_toArray, List.set_cons_zero, List.set_cons_succ]
      refine takeS_on (i := 3) 37 (v := ?v84) rfl rfl (by kernel_rfl) (by kernel_rfl) (by kernel_rfl) (fun _ _ _ h => h) (by kernel_rfl) ?hy84 (by exact hSV) ?_
      case hy84 => (intro w' hSw; go_simp; try (with_reducible rfl))
      simp only [Act.put, List.setIfInBounds_toArray, List.set_cons_zero, List.set_cons_succ]
      refine takeS_on (i := 4) 38 (v := ?v85) rfl rfl (by kernel_rfl) (by kernel_rfl) (by kernel_rfl) (fun _ _ _ h => h) (by kernel_rfl) ?hy85 (by exact hSV) ?_
      case hy85 => (intro w' hSw; go_simp; try (with_reducible rfl))
      simp only [Act.put, List.setIfInBounds_toArray, List.set_cons_zero, List.set_cons_succ]
      refine takeS_on (i := 5) 39 (v := ?v86) rfl rfl (by kernel_rfl) (by kernel_rfl) (by kernel_rfl) (fun _ _ _ h => h) (by kernel_rfl) ?hy86 (by exact hSV) ?_
      case hy86 => (intro w' hSw; go_simp; try (with_reducible rfl))
      simp only [Act.put, List.setIfInBounds_toArray, List.set_cons_zero, List.set_cons_succ]
      refine takeS_on (i := 6) 40 (v := ?v87) rfl rfl (by kernel_rfl) (by kernel_rfl) (by kernel_rfl) (fun _ _ _ h => h) (by kernel_rfl) ?hy87 (by exact hSV) ?_
      case hy87 => (intro w' hSw; go_simp; try (with_reducible rfl))
      simp only [Act.put, List.setIfInBounds_toArray, List.set_cons_zero, List.set_cons_succ]
      refine wpAnyH_ready (rs := [7]) (by kernel_rfl) (by simp) (AllReadyH.cons rfl (fun K hK => ?_) AllReadyH.nil)
      go_simp
      refine hK.out _ _ (by exact hS2) (fun _ => ?_)
      clear hK K
      refine takeS_on (i := 8) 7 (v := ?v88) rfl rfl (by kernel_rfl) (by kernel_rfl) (by kernel_rfl) (fun _ _ _ h => h) (by kernel_rfl) ?hy88 (by exact hS2) ?_
      case hy88 => (intro w' hSw; go_simp; try (with_reducible rfl))
      simp only [Act.put, List.setIfInBounds_toArray, List.set_cons_zero, List.set_cons_succ]
      refine wpAnyH_done (by kernel_rfl) ?_ _
      go_wp2
      exact bodyPost_ret (v := .tuple #[.agg #[.slice ao2 (j + 1) cap2, .int .i64 (nx + 1)], .int .i64 nx]) (by simp [results, Try.results22, go_sem, z0, z1]) rfl ⟨_, rfl, HO3.out.lst.own C5 hkr0 HG0.out.size, (HG0.out.trans' HG3.out).trans C5 (fun q e => .inr (by have e1 : q = kr := e; omega))⟩
end Go.Proofs.Ytkaeccmhfbjcmaa.Hp
