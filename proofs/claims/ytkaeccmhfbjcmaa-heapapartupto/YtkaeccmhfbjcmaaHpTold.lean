/-
  What told answers. Condition: the heap and the document's list hold the same nodes, at most 4294967296.
-/
import Derived.Test.YtkaeccmhfbjcmaaHpRef4
import Derived.Handy
namespace Go.Proofs.Ytkaeccmhfbjcmaa.Hp
open Go.RowKit
attribute [local go_sem ↓] Go.wp_at_zero Go.wp_at_succ

/-- the program's heap beside the document's -/
structure Bo (T : Nat → Prop) (w : World) (b : Nat) (v : Value) (xs ys : List W3) (nx : Int) : Prop where
  h : Hh T w b xs nx
  p : xs.Perm ys
  l : Lst (fun q => ¬ T q) w v ys
theorem Bo.still {T : Nat → Prop} {w w' : World} {b : Nat} {v : Value} {xs ys : List W3} {nx : Int} (h : Bo T w b v xs ys nx) (g : Ch NoB w w') : Bo T w' b v xs ys nx := ⟨h.h.still g, h.p, h.l.ch g (fun _ _ _ => noB _)⟩
/-- was a number seen among the first j? -/
def seenB (ys : List W3) (a : Int) (j : Nat) : Bool := (ys.take j).any (fun y => y.n == a)
theorem seenB_next {ys : List W3} {a : Int} {j : Nat} {z : W3} (hz : ys[j]? = some z) : seenB ys a (j + 1) = (seenB ys a j || (z.n == a)) := by
  unfold seenB
  rw [List.take_add_one, hz, Option.toList_some, List.any_append]
  simp
set_option maxHeartbeats 4000000 in
theorem told_any (T : Nat → Prop) (b : Nat) (v : Value) (xs ys : List W3) (nx a : Int) (w : World) (h : Bo T w b v xs ys nx) (hl : ys.length ≤ 4294967296) :
    Calls Try.prog 10 #[.pointer (some ⟨b, 0, none⟩), .agg #[v, .int .i64 nx], .int .i64 a] w fun e w' => e = .returned (.bool true) ∧ Ch NoB w w' := by
  obtain ⟨hh, hp, hx⟩ := h
  obtain ⟨ao, cap, rfl⟩ := hx.form
  obtain ⟨n, hnn⟩ : ∃ n, n = ys.length := ⟨_, rfl⟩
  rw [← hnn] at hl hx ⊢
  obtain ⟨W0, hW0⟩ : ∃ W, W = w.alloc (.cells #[.slice ao n cap, .int .i64 nx] 28) := ⟨_, rfl⟩
  have g0 : Ch NoB w W0 := by rw [hW0]; exact (Ch.refl NoB w).alloc _
  have f0 : Tv W0 w.heap.size (.slice ao n cap) nx := by rw [hW0]; exact Tv.new w _ _
  obtain ⟨ks, hks⟩ : ∃ k, k = w.heap.size := ⟨_, rfl⟩
  have HL := hid (hx.ch g0 (fun _ _ _ => noB _))
  have HH := hid (hh.still g0)
  have HPM := hid hp
  have HN := hid hnn
  have HLN := hid (show xs.length = n by rw [hp.length_eq, hnn])
  have HNY := hid (hh.nn.perm hp.symm)
  have HG0 := hid g0
  have HF0 := hid (show Tv W0 ks (.slice ao n cap) nx by rw [hks]; exact f0)
  clear hx hnn g0 f0 hh hp
  go_enter Try.func10, Try.ntmps10
  go_wp2_with fail
  rw [← hW0, ← hks]
  clear hW0 hks
  go_loopg [7, 8] n (fun m t i wr => ∃ j, j + m = n ∧ i = .int .i64 ((j : Nat) : Int) ∧ t = .bool (seenB ys a j) ∧ wr = W0)
  case atStart => exact ⟨0, by omega, rfl, rfl, rfl⟩
  case round =>
    obtain ⟨j, hjk, rfl, rfl, hwr⟩ := hrel
    replace hwr := hwr.symm
    subst hwr
    obtain ⟨K1, hK1⟩ : ∃ k, k = gk := ⟨_, rfl⟩
    obtain ⟨c0, c1⟩ := HF0.out.cells
    have l1 := HF0.out.lt
    by_cases hj : j < n
    · obtain ⟨z, hz⟩ : ∃ z, ys[j]? = some z := ⟨_, List.getElem?_eq_getElem (by rw [← HN.out]; exact hj)⟩
      obtain ⟨gb, o, rfl, _, hgl, a0, a1, a2⟩ := HL.out.get hz
      have j0 : (0 : Int) ≤ (j : Int) := by omega
      have j1 : (j : Int) < (n : Int) := by omega
      have HZ := hid (seenB_next (a := a) hz)
      clear hz
      cases hs : seenB ys a j with
      | true =>
        rw [hs] at HZ
        go_wp2
        go_roundg (K1 - 1)
        case measure => omega
        case rel => exact ⟨j + 1, by omega, by simp, by rw [HZ.out]; rfl, rfl⟩
      | false =>
        rw [hs] at HZ
        cases hq : (z.n == a) with
        | true =>
          rw [hq] at HZ
          have hq2 : z.n = a := by simpa using hq
          go_wp2
          go_roundg (K1 - 1)
          case measure => omega
          case rel => exact ⟨j + 1, by omega, by simp, by rw [HZ.out]; simp, rfl⟩
        | false =>
          rw [hq] at HZ
          have hq2 : ¬ (z.n = a) := by simpa using hq
          go_wp2
          go_roundg (K1 - 1)
          case measure => omega
          case rel => exact ⟨j + 1, by omega, by simp, by rw [HZ.out]; simp, rfl⟩
    · have ej : n = j := by omega
      subst ej
      have hje : ys.take n = ys := List.take_of_length_le (by rw [← HN.out]; exact Nat.le_refl _)
      obtain ⟨V, hV⟩ : ∃ W, W = W0 := ⟨_, rfl⟩
      obtain ⟨V2, hV2⟩ : ∃ W, W = W0.drew := ⟨_, rfl⟩
      have HGV := hid (show Ch NoB W0 V2 by rw [hV2]; exact (Ch.refl _ _).drew)
      have hSV : V2.cell? ⟨ks, 0, none⟩ = some (.slice ao n cap) ∧ V2.cell? ⟨ks, 1, none⟩ = some (.int .i64 nx) := by rw [hV2]; exact ⟨c0, c1⟩
      have lks : ks < V2.heap.size := (HF0.out.ch HGV.out (noB _)).lt
      clear hV V
      cases hs : seenB ys a n with
      | true =>
        unfold seenB at hs
        rw [hje, List.any_eq_true] at hs
        obtain ⟨x, hxm, hxe⟩ := hs
        have hxe2 : x.n = a := by simpa using hxe
        subst hxe2
        obtain ⟨p, hpx⟩ := List.mem_iff_getElem?.1 (HPM.out.mem_iff.2 hxm)
        have HPX := hid hpx
        clear hpx hxm hxe hje
        · skip
          have hSW : W0.cell? ⟨ks, 0, none⟩ = some (.slice ao n cap) ∧ W0.cell? ⟨ks, 1, none⟩ = some (.int .i64 nx) := ⟨c0, c1⟩
          go_wp2_with fail
          refine wp_region_held_drew (S := fun w' => w'.cell? ⟨ks, 0, none⟩ = some (.slice ao n cap) ∧ w'.cell? ⟨ks, 1, none⟩ = some (.int .i64 nx)) (by kernel_rfl) (by exact hSW) (fun _ => ?_)
          rw [← hV2]
          clear hV2
          refine takeS_on (i := 0) 27 (v := ?v89) rfl rfl (by kernel_rfl) (by kernel_rfl) (by kernel_rfl) (fun _ _ _ h => h) (by kernel_rfl) ?hy89 (by exact hSV) ?_
          case hy89 => (intro w' hSw; go_simp; try (with_reducible rfl))
          simp only [Act.put, List.setIfInBounds_toArray, List.set_cons_zero, List.set_cons_succ]
          refine takeS_on (i := 2) 29 (v := ?v90) rfl rfl (by kernel_rfl) (by kernel_rfl) (by kernel_rfl) (fun _ _ _ h => h) (by kernel_rfl) ?hy90 (by exact hSV) ?_
          case hy90 => (intro w' hSw; go_simp; try (with_reducible rfl))
          simp only [Act.put, List.setIfInBounds_toArray, List.set_cons_zero, List.set_cons_succ]
          refine takeS_on (i := 3) 30 (v := ?v91) rfl rfl (by kernel_rfl) (by kernel_rfl) (by kernel_rfl) (fun _ _ _ h => h) (by kernel_rfl) ?hy91 (by exact hSV) ?_
          case hy91 => (intro w' hSw; go_simp; try (with_reducible rfl))
          simp only [Act.put, List.setIfInBounds_toArray, List.set_cons_zero, List.set_cons_succ]
          refine takeS_on (i := 4) 31 (v := ?v92) rfl rfl (by kernel_rfl) (by kernel_rfl) (by kernel_rfl) (fun _ _ _ h => h) (by kernel_rfl) ?hy92 (by exact hSV) ?_
          case hy92 => (intro w' hSw; go_simp; try (with_reducible rfl))
          simp only [Act.put, List.setIfInBounds_toArray, List.set_cons_zero, List.set_cons_succ]
          refine wpAnyH_ready (rs := [1]) (by kernel_rfl) (by simp) (AllReadyH.cons rfl (fun K hK => ?_) AllReadyH.nil)
          go_simp
          refine (len_any T b xs nx _ (HH.out.still HGV.out)).mono ?_
          rintro e v1 ⟨rfl, rfl⟩
          rw [HLN.out]
          refine hK.out _ _ (by exact hSV) (fun _ => ?_)
          clear hK K
          refine takeS_on (i := 5) 32 (v := ?v93) rfl rfl (by kernel_rfl) (by kernel_rfl) (by kernel_rfl) (fun _ _ _ h => h) (by kernel_rfl) ?hy93 (by exact hSV) ?_
          case hy93 => (intro w' hSw; go_simp; try (with_reducible rfl))
          simp only [Act.put, List.setIfInBounds_toArray, List.set_cons_zero, List.set_cons_succ]
          refine takeS_on (i := 6) 33 (v := ?v94) rfl rfl (by kernel_rfl) (by kernel_rfl) (by kernel_rfl) (fun _ _ _ h => h) (by kernel_rfl) ?hy94 (by exact hSV) ?_
          case hy94 => (intro w' hSw; go_simp; try (with_reducible rfl))
          simp only [Act.put, List.setIfInBounds_toArray, List.set_cons_zero, List.set_cons_succ]
          refine takeS_on (i := 7) 34 (v := ?v95) rfl rfl (by kernel_rfl) (by kernel_rfl) (by kernel_rfl) (fun _ _ _ h => h) (by kernel_rfl) ?hy95 (by exact hSV) ?_
          case hy95 => (intro w' hSw; go_simp; try (with_reducible rfl))
          simp only [Act.put, List.setIfInBounds_toArray, List.set_cons_zero, List.set_cons_succ]
          refine takeS_on (i := 8) 35 (v := ?v96) rfl rfl (by kernel_rfl) (by kernel_rfl) (by kernel_rfl) (fun _ _ _ h => h) (by kernel_rfl) ?hy96 (by exact hSV) ?_
          case hy96 => (intro w' hSw; go_simp; try (with_reducible rfl))
          simp only [Act.put, List.setIfInBounds_toArray, List.set_cons_zero, List.set_cons_succ]
          refine takeS_on (i := 10) 37 (v := ?v97) rfl rfl (by kernel_rfl) (by kernel_rfl) (by kernel_rfl) (fun _ _ _ h => h) (by kernel_rfl) ?hy97 (by exact hSV) ?_
          case hy97 => (intro w' hSw; go_simp; try (with_reducible rfl))
          simp only [Act.put, List.setIfInBounds_toArray, List.set_cons_zero, List.set_cons_succ]
          refine wpAnyH_ready (rs := [9]) (by kernel_rfl) (by simp) (AllReadyH.cons rfl (fun K hK => ?_) AllReadyH.nil)
          go_simp
          refine (has_yes T b xs nx p x _ (HH.out.still HGV.out) HPX.out).mono ?_
          rintro e v9 ⟨rfl, rfl⟩
          refine hK.out _ _ (by exact hSV) (fun _ => ?_)
          clear hK K
          refine takeS_on (i := 11) 38 (v := ?v98) rfl rfl (by kernel_rfl) (by kernel_rfl) (by kernel_rfl) (fun _ _ _ h => h) (by kernel_rfl) ?hy98 (by exact hSV) ?_
          case hy98 => (intro w' hSw; go_simp; try (with_reducible rfl))
          simp only [Act.put, List.setIfInBounds_toArray, List.set_cons_zero, List.set_cons_succ]
          refine takeS_on (i := 12) 39 (v := ?v99) rfl rfl (by kernel_rfl) (by kernel_rfl) (by kernel_rfl) (fun _ _ _ h => h) (by kernel_rfl) ?hy99 (by exact hSV) ?_
          case hy99 => (intro w' hSw; go_simp; try (with_reducible rfl))
          simp only [Act.put, List.setIfInBounds_toArray, List.set_cons_zero, List.set_cons_succ]
          refine takeS_on (i := 13) 40 (v := ?v100) rfl rfl (by kernel_rfl) (by kernel_rfl) (by kernel_rfl) (fun _ _ _ h => h) (by kernel_rfl) ?hy100 (by exact hSV) ?_
          case hy100 => (intro w' hSw; go_simp; try (with_reducible rfl))
          simp only [Act.put, List.setIfInBounds_toArray, List.set_cons_zero, List.set_cons_succ]
          refine takeS_on (i := 14) 41 (v := ?v101) rfl rfl (by kernel_rfl) (by kernel_rfl) (by kernel_rfl) (fun _ _ _ h => h) (by kernel_rfl) ?hy101 (by exact hSV) ?_
          case hy101 => (intro w' hSw; go_simp; try (with_reducible rfl))
          simp only [Act.put, List.setIfInBounds_toArray, List.set_cons_zero, List.set_cons_succ]
          refine takeS_on (i := 16) 43 (v := ?v102) rfl rfl (by kernel_rfl) (by kernel_rfl) (by kernel_rfl) (fun _ _ _ h => h) (by kernel_rfl) ?hy102 (by exact hSV) ?_
          case hy102 => (intro w' hSw; go_simp; try (with_reducible rfl))
          simp only [Act.put, List.setIfInBounds_toArray, List.set_cons_zero, List.set_cons_succ]
          refine wpAnyH_ready (rs := [15]) (by kernel_rfl) (by simp) (AllReadyH.cons rfl (fun K hK => ?_) AllReadyH.nil)
          go_simp
          refine (numbers_any T b xs nx _ (HH.out.still HGV.out) (by rw [HLN.out]; exact hl)).mono ?_
          rintro e w3 ⟨v3, zs3, rfl, p3, s3, o3, g3⟩
          have hS3 : w3.cell? ⟨ks, 0, none⟩ = some (.slice ao n cap) ∧ w3.cell? ⟨ks, 1, none⟩ = some (.int .i64 nx) := ⟨(g3.cell lks (noB _)).trans hSV.1, (g3.cell lks (noB _)).trans hSV.2⟩
          have HP3 := hid p3
          have HS3 := hid s3
          have HO3 := hid o3
          have HG3 := hid (HGV.out.trans' g3)
          clear p3 s3 o3 g3
          refine hK.out _ _ (by exact hS3) (fun _ => ?_)
          clear hK K
          refine wpAnyH_ready (rs := [17]) (by kernel_rfl) (by simp) (AllReadyH.cons rfl (fun K hK => ?_) AllReadyH.nil)
          go_simp
          refine (rnumbers_any _ _ ys nx w3 (HL.out.ch HG3.out (fun _ _ _ => noB _)) (by rw [← HN.out]; exact hl) HNY.out).mono ?_
          rintro e w4 ⟨v4, zs4, rfl, p4, s4, o4, g4⟩
          have ez : zs3 = zs4 := srt_uniq (HP3.out.trans (HPM.out.trans p4.symm)) HS3.out s4
          subst ez
          have lks3 : ks < w3.heap.size := (HF0.out.ch HG3.out (noB _)).lt
          have hS4 : w4.cell? ⟨ks, 0, none⟩ = some (.slice ao n cap) ∧ w4.cell? ⟨ks, 1, none⟩ = some (.int .i64 nx) := ⟨(g4.cell lks3 (noB _)).trans hS3.1, (g4.cell lks3 (noB _)).trans hS3.2⟩
          have HO4 := hid (HO3.out.ch g4 (fun _ _ => noB _))
          have HO5 := hid o4
          have HZL := hid (show (zs3.map (·.n)).length ≤ 4294967296 by rw [List.length_map, p4.length_eq, ← HN.out]; exact hl)
          have HG4 := hid (HG3.out.trans' g4)
          clear p4 s4 o4 g4
          refine hK.out _ _ (by exact hS4) (fun _ => ?_)
          clear hK K
          refine wpAnyH_ready (rs := [18]) (by kernel_rfl) (by simp) (AllReadyH.cons rfl (fun K hK => ?_) AllReadyH.nil)
          go_simp
          refine (same_eq _ _ _ _ (zs3.map (·.n)) w4 HO4.out.lst HO5.out.lst HZL.out).mono ?_
          rintro e w5 ⟨rfl, m5, hw5⟩
          have g5 : Ch NoB w4 w5 := by rw [hw5]; exact (Ch.refl _ _).drewN _
          have hS5 : w5.cell? ⟨ks, 0, none⟩ = some (.slice ao n cap) ∧ w5.cell? ⟨ks, 1, none⟩ = some (.int .i64 nx) := by rw [hw5]; exact hS4
          have HG5 := hid (HG4.out.trans' g5)
          clear g5 hw5
          refine hK.out _ _ (by exact hS5) (fun _ => ?_)
          clear hK K
          refine takeS_on (i := 19) 46 (v := ?v103) rfl rfl (by kernel_rfl) (by kernel_rfl) (by kernel_rfl) (fun _ _ _ h => h) (by kernel_rfl) ?hy103 (by exact hS5) ?_
          case hy103 => (intro w' hSw; go_simp; try (with_reducible rfl))
          simp only [Act.put, List.setIfInBounds_toArray, List.set_cons_zero, List.set_cons_succ]
          refine takeS_on (i := 20) 6 (v := ?v104) rfl rfl (by kernel_rfl) (by kernel_rfl) (by kernel_rfl) (fun _ _ _ h => h) (by kernel_rfl) ?hy104 (by exact hS5) ?_
          case hy104 => (intro w' hSw; go_simp; try (with_reducible rfl))
          simp only [Act.put, List.setIfInBounds_toArray, List.set_cons_zero, List.set_cons_succ]
          refine wpAnyH_done (by kernel_rfl) ?_ _
          go_wp2
          go_ret
          exact ⟨rfl, HG0.out.trans' HG5.out⟩
      | false =>
        have HNO := hid (show ∀ x ∈ xs, x.n ≠ a from fun x hx e => by
          unfold seenB at hs
          rw [hje, List.any_eq_false] at hs
          exact hs x (HPM.out.mem_iff.1 hx) (by simp [e]))
        clear hje
        · skip
          have hSW : W0.cell? ⟨ks, 0, none⟩ = some (.slice ao n cap) ∧ W0.cell? ⟨ks, 1, none⟩ = some (.int .i64 nx) := ⟨c0, c1⟩
          go_wp2_with fail
          refine wp_region_held_drew (S := fun w' => w'.cell? ⟨ks, 0, none⟩ = some (.slice ao n cap) ∧ w'.cell? ⟨ks, 1, none⟩ = some (.int .i64 nx)) (by kernel_rfl) (by exact hSW) (fun _ => ?_)
          rw [← hV2]
          clear hV2
          refine takeS_on (i := 0) 27 (v := ?v105) rfl rfl (by kernel_rfl) (by kernel_rfl) (by kernel_rfl) (fun _ _ _ h => h) (by kernel_rfl) ?hy105 (by exact hSV) ?_
          case hy105 => (intro w' hSw; go_simp; try (with_reducible rfl))
          simp only [Act.put, List.setIfInBounds_toArray, List.set_cons_zero, List.set_cons_succ]
          refine takeS_on (i := 2) 29 (v := ?v106) rfl rfl (by kernel_rfl) (by kernel_rfl) (by kernel_rfl) (fun _ _ _ h => h) (by kernel_rfl) ?hy106 (by exact hSV) ?_
          case hy106 => (intro w' hSw; go_simp; try (with_reducible rfl))
          simp only [Act.put, List.setIfInBounds_toArray, List.set_cons_zero, List.set_cons_succ]
          refine takeS_on (i := 3) 30 (v := ?v107) rfl rfl (by kernel_rfl) (by kernel_rfl) (by kernel_rfl) (fun _ _ _ h => h) (by kernel_rfl) ?hy107 (by exact hSV) ?_
          case hy107 => (intro w' hSw; go_simp; try (with_reducible rfl))
          simp only [Act.put, List.setIfInBounds_toArray, List.set_cons_zero, List.set_cons_succ]
          refine takeS_on (i := 4) 31 (v := ?v108) rfl rfl (by kernel_rfl) (by kernel_rfl) (by kernel_rfl) (fun _ _ _ h => h) (by kernel_rfl) ?hy108 (by exact hSV) ?_
          case hy108 => (intro w' hSw; go_simp; try (with_reducible rfl))
          simp only [Act.put, List.setIfInBounds_toArray, List.set_cons_zero, List.set_cons_succ]
          refine wpAnyH_ready (rs := [1]) (by kernel_rfl) (by simp) (AllReadyH.cons rfl (fun K hK => ?_) AllReadyH.nil)
          go_simp
          refine (len_any T b xs nx _ (HH.out.still HGV.out)).mono ?_
          rintro e v1 ⟨rfl, rfl⟩
          rw [HLN.out]
          refine hK.out _ _ (by exact hSV) (fun _ => ?_)
          clear hK K
          refine takeS_on (i := 5) 32 (v := ?v109) rfl rfl (by kernel_rfl) (by kernel_rfl) (by kernel_rfl) (fun _ _ _ h => h) (by kernel_rfl) ?hy109 (by exact hSV) ?_
          case hy109 => (intro w' hSw; go_simp; try (with_reducible rfl))
          simp only [Act.put, List.setIfInBounds_toArray, List.set_cons_zero, List.set_cons_succ]
          refine takeS_on (i := 6) 33 (v := ?v110) rfl rfl (by kernel_rfl) (by kernel_rfl) (by kernel_rfl) (fun _ _ _ h => h) (by kernel_rfl) ?hy110 (by exact hSV) ?_
          case hy110 => (intro w' hSw; go_simp; try (with_reducible rfl))
          simp only [Act.put, List.setIfInBounds_toArray, List.set_cons_zero, List.set_cons_succ]
          refine takeS_on (i := 7) 34 (v := ?v111) rfl rfl (by kernel_rfl) (by kernel_rfl) (by kernel_rfl) (fun _ _ _ h => h) (by kernel_rfl) ?hy111 (by exact hSV) ?_
          case hy111 => (intro w' hSw; go_simp; try (with_reducible rfl))
          simp only [Act.put, List.setIfInBounds_toArray, List.set_cons_zero, List.set_cons_succ]
          refine takeS_on (i := 8) 35 (v := ?v112) rfl rfl (by kernel_rfl) (by kernel_rfl) (by kernel_rfl) (fun _ _ _ h => h) (by kernel_rfl) ?hy112 (by exact hSV) ?_
          case hy112 => (intro w' hSw; go_simp; try (with_reducible rfl))
          simp only [Act.put, List.setIfInBounds_toArray, List.set_cons_zero, List.set_cons_succ]
          refine takeS_on (i := 10) 37 (v := ?v113) rfl rfl (by kernel_rfl) (by kernel_rfl) (by kernel_rfl) (fun _ _ _ h => h) (by kernel_rfl) ?hy113 (by exact hSV) ?_
          case hy113 => (intro w' hSw; go_simp; try (with_reducible rfl))
          simp only [Act.put, List.setIfInBounds_toArray, List.set_cons_zero, List.set_cons_succ]
          refine wpAnyH_ready (rs := [9]) (by kernel_rfl) (by simp) (AllReadyH.cons rfl (fun K hK => ?_) AllReadyH.nil)
          go_simp
          refine (has_no T b xs nx a _ (HH.out.still HGV.out) HNO.out).mono ?_
          rintro e v9 ⟨rfl, rfl⟩
          refine hK.out _ _ (by exact hSV) (fun _ => ?_)
          clear hK K
          refine takeS_on (i := 11) 38 (v := ?v114) rfl rfl (by kernel_rfl) (by kernel_rfl) (by kernel_rfl) (fun _ _ _ h => h) (by kernel_rfl) ?hy114 (by exact hSV) ?_
          case hy114 => (intro w' hSw; go_simp; try (with_reducible rfl))
          simp only [Act.put, List.setIfInBounds_toArray, List.set_cons_zero, List.set_cons_succ]
          refine takeS_on (i := 12) 39 (v := ?v115) rfl rfl (by kernel_rfl) (by kernel_rfl) (by kernel_rfl) (fun _ _ _ h => h) (by kernel_rfl) ?hy115 (by exact hSV) ?_
          case hy115 => (intro w' hSw; go_simp; try (with_reducible rfl))
          simp only [Act.put, List.setIfInBounds_toArray, List.set_cons_zero, List.set_cons_succ]
          refine takeS_on (i := 13) 40 (v := ?v116) rfl rfl (by kernel_rfl) (by kernel_rfl) (by kernel_rfl) (fun _ _ _ h => h) (by kernel_rfl) ?hy116 (by exact hSV) ?_
          case hy116 => (intro w' hSw; go_simp; try (with_reducible rfl))
          simp only [Act.put, List.setIfInBounds_toArray, List.set_cons_zero, List.set_cons_succ]
          refine takeS_on (i := 14) 41 (v := ?v117) rfl rfl (by kernel_rfl) (by kernel_rfl) (by kernel_rfl) (fun _ _ _ h => h) (by kernel_rfl) ?hy117 (by exact hSV) ?_
          case hy117 => (intro w' hSw; go_simp; try (with_reducible rfl))
          simp only [Act.put, List.setIfInBounds_toArray, List.set_cons_zero, List.set_cons_succ]
          refine takeS_on (i := 16) 43 (v := ?v118) rfl rfl (by kernel_rfl) (by kernel_rfl) (by kernel_rfl) (fun _ _ _ h => h) (by kernel_rfl) ?hy118 (by exact hSV) ?_
          case hy118 => (intro w' hSw; go_simp; try (with_reducible rfl))
          simp only [Act.put, List.setIfInBounds_toArray, List.set_cons_zero, List.set_cons_succ]
          refine wpAnyH_ready (rs := [15]) (by kernel_rfl) (by simp) (AllReadyH.cons rfl (fun K hK => ?_) AllReadyH.nil)
          go_simp
          refine (numbers_any T b xs nx _ (HH.out.still HGV.out) (by rw [HLN.out]; exact hl)).mono ?_
          rintro e w3 ⟨v3, zs3, rfl, p3, s3, o3, g3⟩
          have hS3 : w3.cell? ⟨ks, 0, none⟩ = some (.slice ao n cap) ∧ w3.cell? ⟨ks, 1, none⟩ = some (.int .i64 nx) := ⟨(g3.cell lks (noB _)).trans hSV.1, (g3.cell lks (noB _)).trans hSV.2⟩
          have HP3 := hid p3
          have HS3 := hid s3
          have HO3 := hid o3
          have HG3 := hid (HGV.out.trans' g3)
          clear p3 s3 o3 g3
          refine hK.out _ _ (by exact hS3) (fun _ => ?_)
          clear hK K
          refine wpAnyH_ready (rs := [17]) (by kernel_rfl) (by simp) (AllReadyH.cons rfl (fun K hK => ?_) AllReadyH.nil)
          go_simp
          refine (rnumbers_any _ _ ys nx w3 (HL.out.ch HG3.out (fun _ _ _ => noB _)) (by rw [← HN.out]; exact hl) HNY.out).mono ?_
          rintro e w4 ⟨v4, zs4, rfl, p4, s4, o4, g4⟩
          have ez : zs3 = zs4 := srt_uniq (HP3.out.trans (HPM.out.trans p4.symm)) HS3.out s4
          subst ez
          have lks3 : ks < w3.heap.size := (HF0.out.ch HG3.out (noB _)).lt
          have hS4 : w4.cell? ⟨ks, 0, none⟩ = some (.slice ao n cap) ∧ w4.cell? ⟨ks, 1, none⟩ = some (.int .i64 nx) := ⟨(g4.cell lks3 (noB _)).trans hS3.1, (g4.cell lks3 (noB _)).trans hS3.2⟩
          have HO4 := hid (HO3.out.ch g4 (fun _ _ => noB _))
          have HO5 := hid o4
          have HZL := hid (show (zs3.map (·.n)).length ≤ 4294967296 by rw [List.length_map, p4.length_eq, ← HN.out]; exact hl)
          have HG4 := hid (HG3.out.trans' g4)
          clear p4 s4 o4 g4
          refine hK.out _ _ (by exact hS4) (fun _ => ?_)
          clear hK K
          refine wpAnyH_ready (rs := [18]) (by kernel_rfl) (by simp) (AllReadyH.cons rfl (fun K hK => ?_) AllReadyH.nil)
          go_simp
          refine (same_eq _ _ _ _ (zs3.map (·.n)) w4 HO4.out.lst HO5.out.lst HZL.out).mono ?_
          rintro e w5 ⟨rfl, m5, hw5⟩
          have g5 : Ch NoB w4 w5 := by rw [hw5]; exact (Ch.refl _ _).drewN _
          have hS5 : w5.cell? ⟨ks, 0, none⟩ = some (.slice ao n cap) ∧ w5.cell? ⟨ks, 1, none⟩ = some (.int .i64 nx) := by rw [hw5]; exact hS4
          have HG5 := hid (HG4.out.trans' g5)
          clear g5 hw5
          refine hK.out _ _ (by exact hS5) (fun _ => ?_)
          clear hK K
          refine takeS_on (i := 19) 46 (v := ?v119) rfl rfl (by kernel_rfl) (by kernel_rfl) (by kernel_rfl) (fun _ _ _ h => h) (by kernel_rfl) ?hy119 (by exact hS5) ?_
          case hy119 => (intro w' hSw; go_simp; try (with_reducible rfl))
          simp only [Act.put, List.setIfInBounds_toArray, List.set_cons_zero, List.set_cons_succ]
          refine takeS_on (i := 20) 6 (v := ?v120) rfl rfl (by kernel_rfl) (by kernel_rfl) (by kernel_rfl) (fun _ _ _ h => h) (by kernel_rfl) ?hy120 (by exact hS5) ?_
          case hy120 => (intro w' hSw; go_simp; try (with_reducible rfl))
          simp only [Act.put, List.setIfInBounds_toArray, List.set_cons_zero, List.set_cons_succ]
          refine wpAnyH_done (by kernel_rfl) ?_ _
          go_wp2
          go_ret
          exact ⟨rfl, HG0.out.trans' HG5.out⟩
end Go.Proofs.Ytkaeccmhfbjcmaa.Hp
