/-
  HeapPlays' walk: every script of calls, answer by answer. Condition: the script is there, and at most 1048576 long.
-/
import Derived.Test.YtkaeccmhfbjcmaaHpDoes3
import Derived.Handy
namespace Go.Proofs.Ytkaeccmhfbjcmaa.Hp
open Go.RowKit
attribute [local go_sem ↓] Go.wp_at_zero Go.wp_at_succ

/-- a slice value that reads as a list of acts -/
def ActS (w : World) (v : Value) (l : List (Int × Int × Int)) : Prop :=
  ∃ ao cap, v = .slice ao l.length cap ∧ (l = [] ∨ ∃ g o, ao = some ⟨g, o, none⟩ ∧ g < w.heap.size ∧ ∀ (i : Nat) x, l[i]? = some x → w.cell? ⟨g, o + i * 3, none⟩ = some (.int .i64 x.1) ∧ w.cell? ⟨g, o + i * 3 + 1, none⟩ = some (.int .u64 x.2.1) ∧ w.cell? ⟨g, o + i * 3 + 2, none⟩ = some (.int .i64 x.2.2))
theorem ActS.get {w : World} {ao : Option Addr} {n cap : Nat} {l : List (Int × Int × Int)} (h : ActS w (.slice ao n cap) l) {i : Nat} {x : Int × Int × Int} (hx : l[i]? = some x) : ∃ g o, ao = some ⟨g, o, none⟩ ∧ g < w.heap.size ∧ w.cell? ⟨g, o + i * 3, none⟩ = some (.int .i64 x.1) ∧ w.cell? ⟨g, o + i * 3 + 1, none⟩ = some (.int .u64 x.2.1) ∧ w.cell? ⟨g, o + i * 3 + 2, none⟩ = some (.int .i64 x.2.2) := by
  obtain ⟨a, c, e, h⟩ := h
  injection e with e1 e2 e3
  subst e1 e3
  rcases h with rfl | ⟨g, o, rfl, h2, h3⟩
  · simp at hx
  · exact ⟨g, o, rfl, h2, h3 i x hx⟩
/-- a list of items does not lie where a state lies -/
theorem Lst.not_tv {P : Nat → Prop} {w : World} {v v' : Value} {ys : List W3} {k : Nat} {nx : Int} (h : Lst P w v ys) (t : Tv w k v' nx) : Lst (fun q => P q ∧ q ≠ k) w v ys := by
  obtain ⟨ao, cap, e, hc, h⟩ := h
  refine ⟨ao, cap, e, hc, ?_⟩
  cases ys with
  | nil => exact .inl rfl
  | cons y ys =>
    right
    rcases h with h | ⟨g, o, h1, h2, h3, h4⟩
    · cases h
    · refine ⟨g, o, h1, ⟨h2, fun e => ?_⟩, h3, h4⟩
      have h5 := (h4 0 y rfl).2.2
      rw [e, cell_of t] at h5
      rw [Array.getElem?_eq_none (by simp)] at h5
      cases h5
/-- the state is laid down anew -/
theorem Bo.put {T : Nat → Prop} {w w' : World} {b k : Nat} {v v' : Value} {xs ys : List W3} {nx nx' : Int} (h : Bo T w b v xs ys nx) (t : Tv w k v' nx') (hk : ¬ T k) (C : Ch (Only k) w w') : Bo T w' b v xs ys nx :=
  ⟨h.h.ch C (fun q hq e => by have e1 : q = k := e; rw [e1] at hq; exact hk hq), h.p, ((h.l.not_tv t).ch C (fun q _ hq e => hq.2 e)).mono (fun _ _ a => a.1)⟩
theorem Bo.start {w : World} {b : Nat} (h : Hh (Only b) w b [] 0) : Bo (Only b) w b (.slice none 0 0) [] [] 0 := ⟨h, List.Perm.refl _, Lst.nil _ _⟩
set_option maxHeartbeats 8000000 in
theorem plays_law (vs : Value) (l : List (Int × Int × Int)) (w : World) (hA : ActS w vs l) (hl : l.length ≤ 1048576) : Calls Try.prog 3 #[vs] w fun e w' => e = .returned (.bool true) ∧ Ch NoB w w' := by
  obtain ⟨ao, cap, rfl⟩ : ∃ ao cap, vs = .slice ao l.length cap := by
    obtain ⟨ao, cap, e, _⟩ := hA
    exact ⟨ao, cap, e⟩
  obtain ⟨n, hn⟩ : ∃ n, n = l.length := ⟨_, rfl⟩
  rw [← hn] at hA ⊢
  have HA := hid hA
  have HN := hid hn
  have hmax : n ≤ 1048576 := by omega
  clear hA hn hl
  go_enter Try.func3, Try.ntmps3
  go_wp2_with fail
  refine (new_any _).mono ?_
  rintro e w1 ⟨b, rfl, hb, h1, g1⟩
  have H1 := hid h1
  have HG1 := hid g1
  clear h1 g1
  go_wp2_with fail
  refine (lives_any _).mono ?_
  rintro e w2 ⟨rfl, g2⟩
  have H2 := hid (H1.out.still g2)
  have HG2 := hid (HG1.out.trans' g2)
  clear g2
  go_wp2_with fail
  obtain ⟨W4, hW4⟩ : ∃ W, W = w2.alloc (.cells #[.slice none 0 0, .int .i64 0] 28) := ⟨_, rfl⟩
  obtain ⟨k4, hk4⟩ : ∃ k, k = w2.heap.size := ⟨_, rfl⟩
  have g4 : Ch NoB w2 W4 := by rw [hW4]; exact (Ch.refl NoB w2).alloc _
  have HT4 := hid (show Tv W4 k4 (.slice none 0 0) 0 by rw [hW4, hk4]; exact Tv.new w2 _ _)
  have HH4 := hid (H2.out.still g4)
  have HG4 := hid (HG2.out.trans' g4)
  have HK4 := hid (show b < k4 by rw [hk4]; exact H2.out.tl b rfl)
  have hk4w : w.heap.size ≤ k4 := by rw [hk4]; exact HG2.out.size
  rw [← hW4, ← hk4]
  clear hW4 hk4 g4
  go_loopg [5, 6] n (fun m ok i wr => ∃ (j : Nat) (T : Nat → Prop) (vv : Value) (xs ys : List W3) (nx : Int), j + m = n ∧ i = .int .i64 ((j : Nat) : Int) ∧ ok = .bool true ∧ Tv wr k4 vv nx ∧ Bo T wr b vv xs ys nx ∧ ¬ T k4 ∧ (∀ q, T q → w.heap.size ≤ q) ∧ Ch NoB w wr ∧ ys.length ≤ j ∧ 0 ≤ nx ∧ nx ≤ (j : Int))
  case atStart => exact ⟨0, Only b, _, _, _, _, by omega, rfl, rfl, HT4.out, Bo.start HH4.out, fun e => by have e1 : k4 = b := e; have := HK4.out; omega, fun q e => by have e1 : q = b := e; omega, HG4.out, by simp, by omega, by omega⟩
  case round =>
    obtain ⟨j, T, vv, xs, ys, nx, hjk, rfl, rfl, hTv, hB, ntk, hTW, hg, hyl, h0, hnx⟩ := hrel
    obtain ⟨V, hV⟩ : ∃ W, W = wr := ⟨_, rfl⟩
    subst hV
    obtain ⟨K1, hK1⟩ : ∃ k, k = gk := ⟨_, rfl⟩
    have HTv' := hid hTv
    have HB' := hid hB
    have HTW := hid hTW
    have HG := hid hg
    by_cases hj : j < n
    · obtain ⟨x, hx⟩ : ∃ x, l[j]? = some x := ⟨_, List.getElem?_eq_getElem (by rw [← HN.out]; exact hj)⟩
      obtain ⟨gs, os, rfl, hgs, b0, b1, b2⟩ := HA.out.get hx
      obtain ⟨av, cv, rfl⟩ := hB.l.form
      obtain ⟨nv, hnv⟩ : ∃ n, n = ys.length := ⟨_, rfl⟩
      rw [← hnv] at hB hTv
      have HB := hid hB
      have HTv := hid hTv
      have HNV := hid hnv
      have j0 : (0 : Int) ≤ (j : Int) := by omega
      have j1 : (j : Int) < (n : Int) := by omega
      have ntg : ¬ T gs := fun e => by have := HTW.out gs e; omega
      obtain ⟨V2, hV2⟩ : ∃ W, W = V.drew := ⟨_, rfl⟩
      have HGV := hid (show Ch NoB V V2 by rw [hV2]; exact (Ch.refl _ _).drew)
      obtain ⟨k0, k1⟩ := (hTv.ch HGV.out (noB _)).cells
      have lk0 := (hTv.ch HGV.out (noB _)).lt
      have ngk : ¬ (gs = k4) := by omega
      have hSW : V.cell? ⟨gs, os + j * 3, none⟩ = some (.int .i64 x.1) ∧ V.cell? ⟨gs, os + j * 3 + 1, none⟩ = some (.int .u64 x.2.1) ∧ V.cell? ⟨gs, os + j * 3 + 2, none⟩ = some (.int .i64 x.2.2) := ⟨(hg.cell hgs (noB _)).trans b0, (hg.cell hgs (noB _)).trans b1, (hg.cell hgs (noB _)).trans b2⟩
      have hSV : V2.cell? ⟨gs, os + j * 3, none⟩ = some (.int .i64 x.1) ∧ V2.cell? ⟨gs, os + j * 3 + 1, none⟩ = some (.int .u64 x.2.1) ∧ V2.cell? ⟨gs, os + j * 3 + 2, none⟩ = some (.int .i64 x.2.2) := by rw [hV2]; exact hSW
      have lgs : gs < V2.heap.size := by rw [hV2]; exact Nat.lt_of_lt_of_le hgs hg.size
      clear hx b0 b1 b2 hTv hB hTW hg hnv HTv' HB'
      go_wp2_with fail
      refine wp_region_held_drew (S := fun w' => w'.cell? ⟨gs, os + j * 3, none⟩ = some (.int .i64 x.1) ∧ w'.cell? ⟨gs, os + j * 3 + 1, none⟩ = some (.int .u64 x.2.1) ∧ w'.cell? ⟨gs, os + j * 3 + 2, none⟩ = some (.int .i64 x.2.2)) (by kernel_rfl) (by exact hSW) (fun _ => ?_)
      rw [← hV2]
      clear hV2
      refine takeS_on (i := 0) 22 (v := ?v89) rfl rfl (by kernel_rfl) (by kernel_rfl) (by kernel_rfl) (fun _ _ _ h => h) (by kernel_rfl) ?hy89 (by exact hSV) ?_
      case hy89 => (intro w' hSw; go_simp; try (with_reducible rfl))
      simp only [Act.put, List.setIfInBounds_toArray, List.set_cons_zero, List.set_cons_succ]
      refine takeS_on (i := 2) 24 (v := ?v90) rfl rfl (by kernel_rfl) (by kernel_rfl) (by kernel_rfl) (fun _ _ _ h => h) (by kernel_rfl) ?hy90 (by exact hSV) ?_
      case hy90 => (intro w' hSw; go_simp; try (with_reducible rfl))
      simp only [Act.put, List.setIfInBounds_toArray, List.set_cons_zero, List.set_cons_succ]
      refine takeS_on (i := 3) 25 (v := ?v91) rfl rfl (by kernel_rfl) (by kernel_rfl) (by kernel_rfl) (fun _ _ _ h => h) (by kernel_rfl) ?hy91 (by exact hSV) ?_
      case hy91 => (intro w' hSw; go_simp; try (with_reducible rfl))
      simp only [Act.put, List.setIfInBounds_toArray, List.set_cons_zero, List.set_cons_succ]
      refine takeS_on (i := 4) 26 (v := ?v92) rfl rfl (by kernel_rfl) (by kernel_rfl) (by kernel_rfl) (fun _ _ _ h => h) (by kernel_rfl) ?hy92 (by exact hSV) ?_
      case hy92 => (intro w' hSw; go_simp; try (with_reducible rfl))
      simp only [Act.put, List.setIfInBounds_toArray, List.set_cons_zero, List.set_cons_succ]
      refine takeS_on (i := 5) 27 (v := ?v93) rfl rfl (by kernel_rfl) (by kernel_rfl) (by kernel_rfl) (fun _ _ _ h => h) (by kernel_rfl) ?hy93 (by exact hSV) ?_
      case hy93 => (intro w' hSw; go_simp; try (with_reducible rfl))
      simp only [Act.put, List.setIfInBounds_toArray, List.set_cons_zero, List.set_cons_succ]
      refine wpAnyH_ready (rs := [1]) (by kernel_rfl) (by simp) (AllReadyH.cons rfl (fun K hK => ?_) AllReadyH.nil)
      go_simp
      refine hK.out _ _ (by exact hSV) (fun _ => ?_)
      clear hK K
      refine wpAnyH_ready (rs := [6]) (by kernel_rfl) (by simp) (AllReadyH.cons rfl (fun K hK => ?_) AllReadyH.nil)
      go_simp
      clear k0 k1 lk0
      refine (does_any T b _ xs ys nx x.1 x.2.1 x.2.2 V2 (HB.out.still HGV.out) (by omega) h0 (by omega)).mono ?_
      rintro e w3 ⟨T3, v3, xs3, ys3, nx3, rfl, hb3, g3, t3, hl3, hn3, hm3, _⟩
      obtain ⟨a3, q3, rfl⟩ := hb3.l.form
      obtain ⟨n3, hn3l⟩ : ∃ n, n = ys3.length := ⟨_, rfl⟩
      rw [← hn3l] at hb3 ⊢
      have K3 := (HTv.out.ch HGV.out (noB _)).ch g3 ntk
      obtain ⟨z0, z1⟩ := K3.cells
      obtain ⟨y0, y1⟩ := K3.fz
      have l3 := K3.lt
      have hS3 : w3.cell? ⟨gs, os + j * 3, none⟩ = some (.int .i64 x.1) ∧ w3.cell? ⟨gs, os + j * 3 + 1, none⟩ = some (.int .u64 x.2.1) ∧ w3.cell? ⟨gs, os + j * 3 + 2, none⟩ = some (.int .i64 x.2.2) := ⟨(g3.cell lgs ntg).trans hSV.1, (g3.cell lgs ntg).trans hSV.2.1, (g3.cell lgs ntg).trans hSV.2.2⟩
      have lgs3 := Nat.lt_of_lt_of_le lgs g3.size
      have C5 := hid (((Ch.refl (Only k4) w3).own 0 (.slice a3 n3 q3)).own 1 (.int .i64 nx3))
      have hS5 : ((w3.setCell ⟨k4, 0, none⟩ (.slice a3 n3 q3)).setCell ⟨k4, 1, none⟩ (.int .i64 nx3)).cell? ⟨gs, os + j * 3, none⟩ = some (.int .i64 x.1) ∧ ((w3.setCell ⟨k4, 0, none⟩ (.slice a3 n3 q3)).setCell ⟨k4, 1, none⟩ (.int .i64 nx3)).cell? ⟨gs, os + j * 3 + 1, none⟩ = some (.int .u64 x.2.1) ∧ ((w3.setCell ⟨k4, 0, none⟩ (.slice a3 n3 q3)).setCell ⟨k4, 1, none⟩ (.int .i64 nx3)).cell? ⟨gs, os + j * 3 + 2, none⟩ = some (.int .i64 x.2.2) := ⟨(C5.out.cell lgs3 (fun e => ngk e)).trans hS3.1, (C5.out.cell lgs3 (fun e => ngk e)).trans hS3.2.1, (C5.out.cell lgs3 (fun e => ngk e)).trans hS3.2.2⟩
      have nt3 : ¬ T3 k4 := fun e => (t3 k4 e).elim ntk (fun a => by have := (HTv.out.ch HGV.out (noB _)).lt; omega)
      have HB5 := hid (hb3.put K3 nt3 C5.out)
      have HT5 := hid (show Tv ((w3.setCell ⟨k4, 0, none⟩ (.slice a3 n3 q3)).setCell ⟨k4, 1, none⟩ (.int .i64 nx3)) k4 (.slice a3 n3 q3) nx3 from setCell_block (setCell_block K3 0 _) 1 _)
      have HG5 := hid (((HG.out.trans' HGV.out).trans g3 (fun q e => .inr (HTW.out q e))).trans C5.out (fun q e => .inr (by have e1 : q = k4 := e; omega)))
      have HTW5 := hid (show ∀ q, T3 q → w.heap.size ≤ q from fun q e => (t3 q e).elim (HTW.out q) (fun a => by have := HG.out.size; have := HGV.out.size; omega))
      have HL3 := hid (show ys3.length ≤ j + 1 by omega)
      have HN3 := hid (show nx3 ≤ (j : Int) + 1 by omega)
      clear hb3 g3 t3 hl3 hm3 hn3l K3
      refine hK.out _ _ (by exact hS3) (fun _ => ?_)
      clear hK K
      refine takeS_on (i := 7) 21 (v := ?v94) rfl rfl (by kernel_rfl) (by kernel_rfl) (by kernel_rfl) (fun _ _ _ h => h) (by kernel_rfl) ?hy94 (by exact hS3) ?_
      case hy94 => (intro w' hSw; go_simp; try (with_reducible rfl))
      simp only [Act.put, List.setIfInBounds_toArray, List.set_cons_zero, List.set_cons_succ]
      refine takeS_on (i := 8) 29 (v := ?v95) rfl rfl (by kernel_rfl) (by kernel_rfl) (by kernel_rfl) (fun _ _ _ h => h) (by kernel_rfl) ?hy95 (by exact hS3) ?_
      case hy95 => (intro w' hSw; go_simp; try (with_reducible rfl))
      simp only [Act.put, List.setIfInBounds_toArray, List.set_cons_zero, List.set_cons_succ]
      refine takeS_on (i := 9) 30 (v := ?v96) rfl rfl (by kernel_rfl) (by kernel_rfl) (by kernel_rfl) (fun _ _ _ h => h) (by kernel_rfl) ?hy96 (by exact hS3) ?_
      case hy96 => (intro w' hSw; go_simp; try (with_reducible rfl))
      simp only [Act.put, List.setIfInBounds_toArray, List.set_cons_zero, List.set_cons_succ]
      refine wpAnyH_ready (rs := [10]) (by kernel_rfl) (by simp) (AllReadyH.cons rfl (fun K hK => ?_) AllReadyH.nil)
      go_simp
      refine hK.out _ _ (by exact hS5) (fun _ => ?_)
      clear hK K
      refine takeS_on (i := 11) 5 (v := ?v97) rfl rfl (by kernel_rfl) (by kernel_rfl) (by kernel_rfl) (fun _ _ _ h => h) (by kernel_rfl) ?hy97 (by exact hS5) ?_
      case hy97 => (intro w' hSw; go_simp; try (with_reducible rfl))
      simp only [Act.put, List.setIfInBounds_toArray, List.set_cons_zero, List.set_cons_succ]
      refine wpAnyH_done (by kernel_rfl) ?_ _
      go_wp2
      go_roundg (K1 - 1)
      case measure => omega
      case rel => exact ⟨j + 1, T3, _, xs3, ys3, nx3, by omega, by simp, rfl, HT5.out, HB5.out, nt3, HTW5.out, HG5.out, HL3.out, hn3, by have := HN3.out; omega⟩
    · have ej : n = j := by omega
      subst ej
      obtain ⟨c0, c1⟩ := hTv.cells
      have lk := hTv.lt
      clear hTv hB hTW hg
      go_wp2_with fail
      refine (told_any T b vv xs ys nx 0 V HB'.out (by omega)).mono ?_
      rintro e w5 ⟨rfl, g5⟩
      have HG5 := hid g5
      clear c0 c1 lk g5
      obtain ⟨c0, c1⟩ := (HTv'.out.ch HG5.out (noB _)).cells
      have lk := (HTv'.out.ch HG5.out (noB _)).lt
      go_wp2_with fail
      refine (told_any T b vv xs ys nx (-1) w5 (HB'.out.still HG5.out) (by omega)).mono ?_
      rintro e w6 ⟨rfl, g6⟩
      have HG6 := hid g6
      clear c0 c1 lk g6
      go_wp2
      go_ret
      exact ⟨rfl, (HG.out.trans' HG5.out).trans' HG6.out⟩
end Go.Proofs.Ytkaeccmhfbjcmaa.Hp
