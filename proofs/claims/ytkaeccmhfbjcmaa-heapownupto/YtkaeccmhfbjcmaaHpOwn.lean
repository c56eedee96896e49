/-
  HeapOwn's walk: the list of numbers that comes out is new memory. Condition: the script is there, and at most 1048576 long.
-/
import Derived.Test.YtkaeccmhfbjcmaaHpPlays
import Derived.Handy
namespace Go.Proofs.Ytkaeccmhfbjcmaa.Hp
open Go.RowKit
attribute [local go_sem ↓] Go.wp_at_zero Go.wp_at_succ

/-- the first j are -1, -2, .. -/
def spoil (ns : List Int) (j : Nat) : List Int := ((List.range j).map (fun i : Nat => -1 - (i : Int))) ++ ns.drop j
theorem spoil_len {ns : List Int} {j : Nat} (hj : j ≤ ns.length) : (spoil ns j).length = ns.length := by
  unfold spoil
  rw [List.length_append, List.length_map, List.length_range, List.length_drop]
  omega
theorem spoil_set {ns : List Int} {j : Nat} (hj : j < ns.length) : (spoil ns j).set j (-1 - (j : Int)) = spoil ns (j + 1) := by
  unfold spoil
  have hl : ((List.range j).map (fun i : Nat => -1 - (i : Int))).length = j := by rw [List.length_map, List.length_range]
  rw [List.set_append_right _ _ (by omega), hl, Nat.sub_self, List.drop_eq_getElem_cons hj, List.set_cons_zero, List.range_succ, List.map_append, List.append_assoc]
  rfl
theorem spoil_zero (ns : List Int) : spoil ns 0 = ns := by simp [spoil]
set_option maxHeartbeats 8000000 in
theorem own_law (vs : Value) (l : List (Int × Int × Int)) (w : World) (hA : ActS w vs l) (hl : l.length ≤ 1048576) : Calls Try.prog 6 #[vs] w fun e w' => e = .returned (.bool true) ∧ Ch NoB w w' := by
  obtain ⟨ao, cap, rfl⟩ : ∃ ao cap, vs = .slice ao l.length cap := by
    obtain ⟨ao, cap, e, _⟩ := hA
    exact ⟨ao, cap, e⟩
  obtain ⟨n, hn⟩ : ∃ n, n = l.length := ⟨_, rfl⟩
  rw [← hn] at hA ⊢
  have HA := hid hA
  have HN := hid hn
  have hmax : n ≤ 1048576 := by omega
  clear hA hn hl
  go_enter Try.func6, Try.ntmps6
  go_wp2_with fail
  refine (new_any _).mono ?_
  rintro e w1 ⟨b, rfl, hb, h1, g1⟩
  have H1 := hid h1
  have HG1 := hid g1
  clear h1 g1
  go_wp2_with fail
  refine (lives_any _).mono ?_
  rintro e w2 ⟨rfl, g2⟩
  have H2 := hid (H1.out.still g2)
  have HG2 := hid (HG1.out.trans' g2)
  clear g2
  go_wp2_with fail
  obtain ⟨W4, hW4⟩ : ∃ W, W = w2.alloc (.cells #[.slice none 0 0, .int .i64 0] 28) := ⟨_, rfl⟩
  obtain ⟨k4, hk4⟩ : ∃ k, k = w2.heap.size := ⟨_, rfl⟩
  have g4 : Ch NoB w2 W4 := by rw [hW4]; exact (Ch.refl NoB w2).alloc _
  have HT4 := hid (show Tv W4 k4 (.slice none 0 0) 0 by rw [hW4, hk4]; exact Tv.new w2 _ _)
  have HH4 := hid (H2.out.still g4)
  have HG4 := hid (HG2.out.trans' g4)
  have HK4 := hid (show b < k4 by rw [hk4]; exact H2.out.tl b rfl)
  have hk4w : w.heap.size ≤ k4 := by rw [hk4]; exact HG2.out.size
  rw [← hW4, ← hk4]
  clear hW4 hk4 g4
  go_loopg [5, 6] n (fun m ok i wr => ∃ (j : Nat) (T : Nat → Prop) (vv : Value) (xs ys : List W3) (nx : Int), j + m = n ∧ i = .int .i64 ((j : Nat) : Int) ∧ ok = .bool true ∧ Tv wr k4 vv nx ∧ Bo T wr b vv xs ys nx ∧ ¬ T k4 ∧ (∀ q, T q → w.heap.size ≤ q) ∧ Ch NoB w wr ∧ ys.length ≤ j ∧ 0 ≤ nx ∧ nx ≤ (j : Int))
  case atStart => exact ⟨0, Only b, _, _, _, _, by omega, rfl, rfl, HT4.out, Bo.start HH4.out, fun e => by have e1 : k4 = b := e; have := HK4.out; omega, fun q e => by have e1 : q = b := e; omega, HG4.out, by simp, by omega, by omega⟩
  case round =>
    obtain ⟨j, T, vv, xs, ys, nx, hjk, rfl, rfl, hTv, hB, ntk, hTW, hg, hyl, h0, hnx⟩ := hrel
    obtain ⟨V, hV⟩ : ∃ W, W = wr := ⟨_, rfl⟩
    subst hV
    obtain ⟨K1, hK1⟩ : ∃ k, k = gk := ⟨_, rfl⟩
    have HTv' := hid hTv
    have HB' := hid hB
    have HTW := hid hTW
    have HG := hid hg
    by_cases hj : j < n
    · obtain ⟨x, hx⟩ : ∃ x, l[j]? = some x := ⟨_, List.getElem?_eq_getElem (by rw [← HN.out]; exact hj)⟩
      obtain ⟨gs, os, rfl, hgs, b0, b1, b2⟩ := HA.out.get hx
      obtain ⟨av, cv, rfl⟩ := hB.l.form
      obtain ⟨nv, hnv⟩ : ∃ n, n = ys.length := ⟨_, rfl⟩
      rw [← hnv] at hB hTv
      have HB := hid hB
      have HTv := hid hTv
      have HNV := hid hnv
      have j0 : (0 : Int) ≤ (j : Int) := by omega
      have j1 : (j : Int) < (n : Int) := by omega
      have ntg : ¬ T gs := fun e => by have := HTW.out gs e; omega
      obtain ⟨V2, hV2⟩ : ∃ W, W = V.drew := ⟨_, rfl⟩
      have HGV := hid (show Ch NoB V V2 by rw [hV2]; exact (Ch.refl _ _).drew)
      obtain ⟨k0, k1⟩ := (hTv.ch HGV.out (noB _)).cells
      have lk0 := (hTv.ch HGV.out (noB _)).lt
      have ngk : ¬ (gs = k4) := by omega
      have hSW : V.cell? ⟨gs, os + j * 3, none⟩ = some (.int .i64 x.1) ∧ V.cell? ⟨gs, os + j * 3 + 1, none⟩ = some (.int .u64 x.2.1) ∧ V.cell? ⟨gs, os + j * 3 + 2, none⟩ = some (.int .i64 x.2.2) := ⟨(hg.cell hgs (noB _)).trans b0, (hg.cell hgs (noB _)).trans b1, (hg.cell hgs (noB _)).trans b2⟩
      have hSV : V2.cell? ⟨gs, os + j * 3, none⟩ = some (.int .i64 x.1) ∧ V2.cell? ⟨gs, os + j * 3 + 1, none⟩ = some (.int .u64 x.2.1) ∧ V2.cell? ⟨gs, os + j * 3 + 2, none⟩ = some (.int .i64 x.2.2) := by rw [hV2]; exact hSW
      have lgs : gs < V2.heap.size := by rw [hV2]; exact Nat.lt_of_lt_of_le hgs hg.size
      clear hx b0 b1 b2 hTv hB hTW hg hnv HTv' HB'
      go_wp2_with fail
      refine wp_region_held_drew (S := fun w' => w'.cell? ⟨gs, os + j * 3, none⟩ = some (.int .i64 x.1) ∧ w'.cell? ⟨gs, os + j * 3 + 1, none⟩ = some (.int .u64 x.2.1) ∧ w'.cell? ⟨gs, os + j * 3 + 2, none⟩ = some (.int .i64 x.2.2)) (by kernel_rfl) (by exact hSW) (fun _ => ?_)
      rw [← hV2]
      clear hV2
      refine takeS_on (i := 0) 27 (v := ?v98) rfl rfl (by kernel_rfl) (by kernel_rfl) (by kernel_rfl) (fun _ _ _ h => h) (by kernel_rfl) ?hy98 (by exact hSV) ?_
      case hy98 => (intro w' hSw; go_simp; try (with_reducible rfl))
      simp only [Act.put, List.setIfInBounds_toArray, List.set_cons_zero, List.set_cons_succ]
      refine takeS_on (i := 2) 29 (v := ?v99) rfl rfl (by kernel_rfl) (by kernel_rfl) (by kernel_rfl) (fun _ _ _ h => h) (by kernel_rfl) ?hy99 (by exact hSV) ?_
      case hy99 => (intro w' hSw; go_simp; try (with_reducible rfl))
      simp only [Act.put, List.setIfInBounds_toArray, List.set_cons_zero, List.set_cons_succ]
      refine takeS_on (i := 3) 30 (v := ?v100) rfl rfl (by kernel_rfl) (by kernel_rfl) (by kernel_rfl) (fun _ _ _ h => h) (by kernel_rfl) ?hy100 (by exact hSV) ?_
      case hy100 => (intro w' hSw; go_simp; try (with_reducible rfl))
      simp only [Act.put, List.setIfInBounds_toArray, List.set_cons_zero, List.set_cons_succ]
      refine takeS_on (i := 4) 31 (v := ?v101) rfl rfl (by kernel_rfl) (by kernel_rfl) (by kernel_rfl) (fun _ _ _ h => h) (by kernel_rfl) ?hy101 (by exact hSV) ?_
      case hy101 => (intro w' hSw; go_simp; try (with_reducible rfl))
      simp only [Act.put, List.setIfInBounds_toArray, List.set_cons_zero, List.set_cons_succ]
      refine takeS_on (i := 5) 32 (v := ?v102) rfl rfl (by kernel_rfl) (by kernel_rfl) (by kernel_rfl) (fun _ _ _ h => h) (by kernel_rfl) ?hy102 (by exact hSV) ?_
      case hy102 => (intro w' hSw; go_simp; try (with_reducible rfl))
      simp only [Act.put, List.setIfInBounds_toArray, List.set_cons_zero, List.set_cons_succ]
      refine wpAnyH_ready (rs := [1]) (by kernel_rfl) (by simp) (AllReadyH.cons rfl (fun K hK => ?_) AllReadyH.nil)
      go_simp
      refine hK.out _ _ (by exact hSV) (fun _ => ?_)
      clear hK K
      refine wpAnyH_ready (rs := [6]) (by kernel_rfl) (by simp) (AllReadyH.cons rfl (fun K hK => ?_) AllReadyH.nil)
      go_simp
      clear k0 k1 lk0
      refine (does_any T b _ xs ys nx x.1 x.2.1 x.2.2 V2 (HB.out.still HGV.out) (by omega) h0 (by omega)).mono ?_
      rintro e w3 ⟨T3, v3, xs3, ys3, nx3, rfl, hb3, g3, t3, hl3, hn3, hm3⟩
      obtain ⟨a3, q3, rfl⟩ := hb3.l.form
      obtain ⟨n3, hn3l⟩ : ∃ n, n = ys3.length := ⟨_, rfl⟩
      rw [← hn3l] at hb3 ⊢
      have K3 := (HTv.out.ch HGV.out (noB _)).ch g3 ntk
      obtain ⟨z0, z1⟩ := K3.cells
      obtain ⟨y0, y1⟩ := K3.fz
      have l3 := K3.lt
      have hS3 : w3.cell? ⟨gs, os + j * 3, none⟩ = some (.int .i64 x.1) ∧ w3.cell? ⟨gs, os + j * 3 + 1, none⟩ = some (.int .u64 x.2.1) ∧ w3.cell? ⟨gs, os + j * 3 + 2, none⟩ = some (.int .i64 x.2.2) := ⟨(g3.cell lgs ntg).trans hSV.1, (g3.cell lgs ntg).trans hSV.2.1, (g3.cell lgs ntg).trans hSV.2.2⟩
      have lgs3 := Nat.lt_of_lt_of_le lgs g3.size
      have C5 := hid (((Ch.refl (Only k4) w3).own 0 (.slice a3 n3 q3)).own 1 (.int .i64 nx3))
      have hS5 : ((w3.setCell ⟨k4, 0, none⟩ (.slice a3 n3 q3)).setCell ⟨k4, 1, none⟩ (.int .i64 nx3)).cell? ⟨gs, os + j * 3, none⟩ = some (.int .i64 x.1) ∧ ((w3.setCell ⟨k4, 0, none⟩ (.slice a3 n3 q3)).setCell ⟨k4, 1, none⟩ (.int .i64 nx3)).cell? ⟨gs, os + j * 3 + 1, none⟩ = some (.int .u64 x.2.1) ∧ ((w3.setCell ⟨k4, 0, none⟩ (.slice a3 n3 q3)).setCell ⟨k4, 1, none⟩ (.int .i64 nx3)).cell? ⟨gs, os + j * 3 + 2, none⟩ = some (.int .i64 x.2.2) := ⟨(C5.out.cell lgs3 (fun e => ngk e)).trans hS3.1, (C5.out.cell lgs3 (fun e => ngk e)).trans hS3.2.1, (C5.out.cell lgs3 (fun e => ngk e)).trans hS3.2.2⟩
      have nt3 : ¬ T3 k4 := fun e => (t3 k4 e).elim ntk (fun a => by have := (HTv.out.ch HGV.out (noB _)).lt; omega)
      have HB5 := hid (hb3.put K3 nt3 C5.out)
      have HT5 := hid (show Tv ((w3.setCell ⟨k4, 0, none⟩ (.slice a3 n3 q3)).setCell ⟨k4, 1, none⟩ (.int .i64 nx3)) k4 (.slice a3 n3 q3) nx3 from setCell_block (setCell_block K3 0 _) 1 _)
      have HG5 := hid (((HG.out.trans' HGV.out).trans g3 (fun q e => .inr (HTW.out q e))).trans C5.out (fun q e => .inr (by have e1 : q = k4 := e; omega)))
      have HTW5 := hid (show ∀ q, T3 q → w.heap.size ≤ q from fun q e => (t3 q e).elim (HTW.out q) (fun a => by have := HG.out.size; have := HGV.out.size; omega))
      have HL3 := hid (show ys3.length ≤ j + 1 by omega)
      have HN3 := hid (show nx3 ≤ (j : Int) + 1 by omega)
      clear hb3 g3 t3 hl3 hm3 hn3l K3
      refine hK.out _ _ (by exact hS3) (fun _ => ?_)
      clear hK K
      refine takeS_on (i := 7) 26 (v := ?v103) rfl rfl (by kernel_rfl) (by kernel_rfl) (by kernel_rfl) (fun _ _ _ h => h) (by kernel_rfl) ?hy103 (by exact hS3) ?_
      case hy103 => (intro w' hSw; go_simp; try (with_reducible rfl))
      simp only [Act.put, List.setIfInBounds_toArray, List.set_cons_zero, List.set_cons_succ]
      refine takeS_on (i := 8) 34 (v := ?v104) rfl rfl (by kernel_rfl) (by kernel_rfl) (by kernel_rfl) (fun _ _ _ h => h) (by kernel_rfl) ?hy104 (by exact hS3) ?_
      case hy104 => (intro w' hSw; go_simp; try (with_reducible rfl))
      simp only [Act.put, List.setIfInBounds_toArray, List.set_cons_zero, List.set_cons_succ]
      refine takeS_on (i := 9) 35 (v := ?v105) rfl rfl (by kernel_rfl) (by kernel_rfl) (by kernel_rfl) (fun _ _ _ h => h) (by kernel_rfl) ?hy105 (by exact hS3) ?_
      case hy105 => (intro w' hSw; go_simp; try (with_reducible rfl))
      simp only [Act.put, List.setIfInBounds_toArray, List.set_cons_zero, List.set_cons_succ]
      refine wpAnyH_ready (rs := [10]) (by kernel_rfl) (by simp) (AllReadyH.cons rfl (fun K hK => ?_) AllReadyH.nil)
      go_simp
      refine hK.out _ _ (by exact hS5) (fun _ => ?_)
      clear hK K
      refine takeS_on (i := 11) 5 (v := ?v106) rfl rfl (by kernel_rfl) (by kernel_rfl) (by kernel_rfl) (fun _ _ _ h => h) (by kernel_rfl) ?hy106 (by exact hS5) ?_
      case hy106 => (intro w' hSw; go_simp; try (with_reducible rfl))
      simp only [Act.put, List.setIfInBounds_toArray, List.set_cons_zero, List.set_cons_succ]
      refine wpAnyH_done (by kernel_rfl) ?_ _
      go_wp2
      go_roundg (K1 - 1)
      case measure => omega
      case rel => exact ⟨j + 1, T3, _, xs3, ys3, nx3, by omega, by simp, rfl, HT5.out, HB5.out, nt3, HTW5.out, HG5.out, HL3.out, hn3, by have := HN3.out; omega⟩
    · have ej : n = j := by omega
      subst ej
      have hH := hB.h
      have hxl : xs.length ≤ n := by rw [hB.p.length_eq]; exact hyl
      clear hTv hB hTW hg
      go_wp2_with fail
      refine (numbers_any T b xs nx V HB'.out.h (by omega)).mono ?_
      rintro e w5 ⟨v5, zs5, rfl, p5, s5, o5, g5⟩
      have HP5 := hid p5
      have HS5 := hid s5
      have HO5 := hid o5
      have HG5 := hid g5
      clear p5 s5 o5 g5 hH
      go_wp2_with fail
      refine (numbers_any T b xs nx w5 (HB'.out.h.still HG5.out) (by omega)).mono ?_
      rintro e w6 ⟨v6, zs6, rfl, p6, s6, o6, g6⟩
      have ez : zs5 = zs6 := srt_uniq (HP5.out.trans p6.symm) HS5.out s6
      subst ez
      have HO6 := hid o6
      have HG6 := hid g6
      have HO56 := hid (HO5.out.ch g6 (fun _ _ => noB _))
      obtain ⟨c0, c1⟩ := ((HTv'.out.ch HG5.out (noB _)).ch g6 (noB _)).cells
      have lk := ((HTv'.out.ch HG5.out (noB _)).ch g6 (noB _)).lt
      clear p6 s6 o6 g6
      go_wp2_with fail
      refine (rnumbers_any _ _ ys nx w6 ((HB'.out.l.ch HG5.out (fun _ _ _ => noB _)).ch HG6.out (fun _ _ _ => noB _)) (by omega) (HB'.out.h.nn.perm HB'.out.p.symm)).mono ?_
      rintro e w7 ⟨v7, zs7, rfl, p7, s7, o7, g7⟩
      have ez : zs5 = zs7 := srt_uniq (HP5.out.trans (HB'.out.p.trans p7.symm)) HS5.out s7
      subst ez
      obtain ⟨ns, hns⟩ : ∃ ns, ns = zs5.map (·.n) := ⟨_, rfl⟩
      have hnl : ns.length ≤ n := by rw [hns, List.length_map, HP5.out.length_eq]; exact hxl
      rw [← hns] at HO5 HO6 HO56 o7
      have HX7 := hid (HO56.out.ch g7 (fun _ _ => noB _))
      have HY7 := hid (HO6.out.ch g7 (fun _ _ => noB _))
      have HW7 := hid o7
      have HG7 := hid ((HG5.out.trans' HG6.out).trans' g7)
      have D1 := hid (show ∀ q, Blk v5 q → V.heap.size ≤ q ∧ q < w5.heap.size from fun q e => HO5.out.blk e)
      have D2 := hid (show ∀ q, Blk v6 q → w5.heap.size ≤ q from fun q e => (HO6.out.blk e).1)
      have D3 := hid (show ∀ q, Blk v7 q → w6.heap.size ≤ q from fun q e => (o7.blk e).1)
      have D4 := hid (show w5.heap.size ≤ w6.heap.size from HG6.out.size)
      clear p7 s7 o7 g7 c0 c1 lk hns
      go_wp2_with fail
      refine (same_eq _ _ _ _ ns w7 HX7.out.lst HW7.out.lst (by omega)).mono ?_
      rintro e w8 ⟨rfl, m8, hw8⟩
      have g8 : Ch NoB w7 w8 := by rw [hw8]; exact (Ch.refl _ _).drewN _
      have HG8 := hid g8
      clear hw8 g8
      go_wp2_with fail
      refine (same_eq _ _ _ _ ns w8 (HY7.out.ch HG8.out (fun _ _ => noB _)).lst (HW7.out.ch HG8.out (fun _ _ => noB _)).lst (by omega)).mono ?_
      rintro e w9 ⟨rfl, m9, hw9⟩
      have g9 : Ch NoB w8 w9 := by rw [hw9]; exact (Ch.refl _ _).drewN _
      have HX9 := hid ((HX7.out.ch HG8.out (fun _ _ => noB _)).ch g9 (fun _ _ => noB _))
      have HY9 := hid ((HY7.out.ch HG8.out (fun _ _ => noB _)).ch g9 (fun _ _ => noB _))
      have HW9 := hid ((HW7.out.ch HG8.out (fun _ _ => noB _)).ch g9 (fun _ _ => noB _))
      have HG9 := hid ((HG7.out.trans' HG8.out).trans' g9)
      obtain ⟨a5, c5, rfl⟩ := HX9.out.form
      obtain ⟨nn, hnn⟩ : ∃ k, k = (iv ns).length := ⟨_, rfl⟩
      rw [← hnn] at HX9 D1 ⊢
      rw [iv_length] at hnn
      have HNN := hid hnn
      have hnn2 : nn ≤ n := by omega
      clear hw9 g9 HO5 HO56 HX7 hnn
      go_wp2_with fail
      go_loopg [10] nn (fun m i wv => ∃ j : Nat, j + m = nn ∧ i = .int .i64 ((j : Nat) : Int) ∧ Ow 3 V.heap.size wv (.slice a5 nn c5) (iv (spoil ns j)) ∧ Ch (Blk (.slice a5 nn c5)) w9 wv)
      case atStart => exact ⟨0, by omega, rfl, by rw [spoil_zero]; exact HX9.out, Ch.refl _ _⟩
      case round =>
        obtain ⟨j, hjk2, rfl, hO, hg5⟩ := hrel
        obtain ⟨U, hU⟩ : ∃ W, W = wr := ⟨_, rfl⟩
        subst hU
        obtain ⟨K2, hK2⟩ : ∃ k, k = gk := ⟨_, rfl⟩
        have HO := hid hO
        have HGU := hid hg5
        by_cases hj2 : j < nn
        · obtain ⟨v0, hv0⟩ : ∃ v0, (spoil ns j)[j]? = some v0 := ⟨_, List.getElem?_eq_getElem (by rw [spoil_len (by rw [← HNN.out]; omega), ← HNN.out]; exact hj2)⟩
          obtain ⟨g6, rfl, _, gl6, _, o0, of0, _⟩ := hO.get1 (iv_get hv0)
          have st6 := hid (hO.get1 (iv_get hv0))
          have j0 : (0 : Int) ≤ (j : Int) := by omega
          have j1 : (j : Int) < (nn : Int) := by omega
          clear hO hg5 hv0
          go_wp2
          go_roundg (K2 - 1)
          case measure => omega
          case rel =>
            obtain ⟨g7, e7, _, _, _, _, _, st7⟩ := st6.out
            injection e7 with e7
            injection e7 with e7
            subst e7
            have st8 := st7 (.int .i64 (-1 - (j : Int)))
            rw [iv_set, spoil_set (by rw [← HNN.out]; exact hj2)] at st8
            exact ⟨j + 1, by omega, by simp, st8, HGU.out.setCell (p := ⟨g6, j, none⟩) (.inl rfl) _⟩
        · have HXU := hid (show Ow 3 V.heap.size U (.slice a5 nn c5) (iv (spoil ns j)) from hO)
          have hsl : (iv (spoil ns j)).length = nn := by rw [iv_length, spoil_len (by rw [← HNN.out]; omega), HNN.out]
          clear hO hg5
          go_wp2_with fail
          obtain ⟨X0, hX0⟩ : ∃ X : Nat → Prop, X = fun q => V.heap.size ≤ q ∧ q < w5.heap.size := ⟨_, rfl⟩
          have HX0 := hid (show ∀ q, X0 q → V.heap.size ≤ q ∧ q < w5.heap.size from fun q e => by rw [hX0] at e; exact e)
          have HX1 := hid (show ∀ q, V.heap.size ≤ q ∧ q < w5.heap.size → X0 q from fun q e => by rw [hX0]; exact e)
          have HGX := hid (show Ch X0 w9 U from HGU.out.mono (fun q e => .inl (HX1.out q (D1.out q e))))
          have HUs := hid (show w9.heap.size ≤ U.heap.size from HGU.out.size)
          have HV9 := hid (show V.heap.size ≤ w9.heap.size from HG9.out.size)
          clear hX0
          obtain ⟨a7, c7, rfl⟩ := HW9.out.form
          rw [iv_length, ← HNN.out] at HW9 D3 ⊢
          go_loopg [7, 11] 16 (fun m xv i wv => ∃ (j : Nat) (ls : List Int) (ao : Option Addr) (c : Nat), j + m = 16 ∧ i = .int .i64 ((j : Nat) : Int) ∧ xv = .slice ao (nn + j) c ∧ (iv ls).length = nn + j ∧ Ow 3 V.heap.size wv (.slice ao (nn + j) c) (iv ls) ∧ (∀ q, Blk (.slice ao (nn + j) c) q → X0 q ∨ w9.heap.size ≤ q) ∧ Ch X0 w9 wv)
          case atStart => exact ⟨0, spoil ns j, a5, c5, by omega, rfl, rfl, hsl, HXU.out, fun q e => .inl (HX1.out q (D1.out q e)), HGX.out⟩
          case round =>
            obtain ⟨i, ls, ax, cx, hik, rfl, rfl, hll, hOx, hBx, hgx⟩ := hrel
            obtain ⟨Y, hY⟩ : ∃ W, W = wr := ⟨_, rfl⟩
            subst hY
            obtain ⟨K3, hK3⟩ : ∃ k, k = gk := ⟨_, rfl⟩
            have HOx := hid hOx
            have HBx := hid hBx
            have HGx := hid hgx
            have HLL := hid hll
            have hV1 : V.heap.size ≤ Y.heap.size := Nat.le_trans HV9.out hgx.size
            clear hOx hBx hgx hll
            by_cases hi : i < 16
            · have i0 : (0 : Int) ≤ (i : Int) := by omega
              have i1 : (i : Int) < 16 := by omega
              go_wp2_with (first | (at_builtin; refine wpList_append_ow rfl (.tmp 69) (.tmp 72) 37 3 8 _ Try.underlying37 int_info rfl rfl V.heap.size _ _ rfl (HOx.out.alloc _) _ _ [.int .i64 (-100 - (i : Int))] rfl (ls_one1 Y (.int .i64 (-100 - (i : Int))) 3 Y.heap.size rfl) (fun u hu => by rw [List.mem_singleton.1 hu]; rfl) (nn + i + 1) (by rw [HLL.out]; rfl) (by omega) (by unfold maxLen; omega) (by rw [World.size_alloc]; omega) (iv (ls ++ [-100 - (i : Int)])) (by simp [iv]) ?_; intro ao2 cap2 w10 ow2 cw2 bl2))
              have HO10 := hid ow2
              have HL10 := hid (show (iv (ls ++ [-100 - (i : Int)])).length = nn + (i + 1) by have := HLL.out; rw [iv_length] at this ⊢; rw [List.length_append, this]; rfl)
              have HB10 := hid (show ∀ q, Blk (.slice ao2 (nn + i + 1) cap2) q → X0 q ∨ w9.heap.size ≤ q from fun q e => (bl2 q e).elim (HBx.out q) (fun a => .inr (by rw [World.size_alloc] at a; have := HGx.out.size; omega)))
              have HG10 := hid ((HGx.out.alloc (.cells #[.int .i64 (-100 - (i : Int))] 3)).trans cw2 (fun q e => HBx.out q e))
              clear ow2 cw2 bl2
              go_wp2
              go_roundg (K3 - 1)
              case measure => omega
              case rel => exact ⟨i + 1, _, _, _, by omega, by simp, rfl, HL10.out, HO10.out, HB10.out, HG10.out⟩
            · have ei : i = 16 := by omega
              subst ei
              have HY := hid (HY9.out.ch HGx.out (fun q e a => by have := HX0.out q a; have := D2.out q e; omega))
              have HW := hid (HW9.out.ch HGx.out (fun q e a => by have := HX0.out q a; have := D3.out q e; have := D4.out; omega))
              have B9 := HB'.out.still HG9.out
              have HBY := hid (show Bo T Y b vv xs ys nx from ⟨B9.h.ch HGx.out (fun q e a => by have := HX0.out q a; have := HB'.out.h.tl q e; omega), B9.p, (((HB'.out.l.mono (Q := fun q => ¬ T q ∧ q < V.heap.size) (fun q hq a => ⟨a, hq⟩)).ch HG9.out (fun _ _ _ => noB _)).ch HGx.out (fun q _ a e => by have := HX0.out q e; have := a.2; omega)).mono (fun _ _ a => a.1)⟩)
              have nk4 : ¬ X0 k4 := fun e => by have := HX0.out k4 e; have := HTv'.out.lt; omega
              obtain ⟨c0, c1⟩ := ((HTv'.out.ch HG9.out (noB _)).ch HGx.out nk4).cells
              have lk := ((HTv'.out.ch HG9.out (noB _)).ch HGx.out nk4).lt
              have HTY := hid ((HTv'.out.ch HG9.out (noB _)).ch HGx.out nk4)
              have HGY := hid ((HG.out.trans' HG9.out).trans HGx.out (fun q e => .inr (by have := HX0.out q e; have := HG.out.size; omega)))
              clear B9
              go_wp2_with fail
              refine (same_eq _ _ _ _ ns Y HY.out.lst HW.out.lst (by omega)).mono ?_
              rintro e y1 ⟨rfl, my, hy1⟩
              have gy : Ch NoB Y y1 := by rw [hy1]; exact (Ch.refl _ _).drewN _
              have HGy := hid gy
              clear hy1 gy c0 c1 lk
              obtain ⟨c0, c1⟩ := (HTY.out.ch HGy.out (noB _)).cells
              have lk := (HTY.out.ch HGy.out (noB _)).lt
              go_wp2_with fail
              refine (told_any T b vv xs ys nx 0 y1 (HBY.out.still HGy.out) (by omega)).mono ?_
              rintro e y2 ⟨rfl, g2⟩
              have HGz := hid g2
              clear c0 c1 lk g2
              go_wp2
              go_ret
              exact ⟨rfl, (HGY.out.trans' HGy.out).trans' HGz.out⟩
end Go.Proofs.Ytkaeccmhfbjcmaa.Hp
