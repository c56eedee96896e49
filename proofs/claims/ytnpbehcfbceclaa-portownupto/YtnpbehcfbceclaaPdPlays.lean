/-
  The statement PortPlays, walked: it returns true. Condition: the list is there.
-/
import Derived.Test.YtnpbehcfbceclaaPdDoes
namespace Go.Proofs.Ytnpbehcfbceclaa.Lt
open Go.RowKit Wd
attribute [local go_sem ↓] Go.wp_at_zero Go.wp_at_succ
set_option maxRecDepth 20000

theorem new_ok {q : Bool} {cN : Nat} (h : capB q (cN : Int) = true) : (newP q cN).ok := by
  unfold capB at h
  cases q
  · have h1 : (cN : Int) = 1 := by simpa using h
    exact Pt.ok.new (by omega) (by omega) (fun _ => by omega)
  · have h1 : 1 ≤ (cN : Int) ∧ (cN : Int) ≤ 1024 := by simpa using h
    exact Pt.ok.new (by omega) (by omega) (fun e => by cases e)
set_option maxHeartbeats 8000000 in
theorem plays_walk {P : Nat → Prop} (w : World) (q : Bool) (c : Int) (ao : Option Addr) (n ca : Nat) (xs : List Ac) (hx : Ls eC P w (.slice ao n ca) xs) (hn : n ≤ 70368744177664) :
    Calls Try.prog 3 #[.agg #[.bool q, .int .i64 c], .slice ao n ca] w fun e w' => e = .returned (.bool true) ∧ Gr w w' := by
  obtain ⟨A, hA⟩ : ∃ A, A = w.alloc (.cells #[.bool q, .int .i64 c] 23) := ⟨_, rfl⟩
  have GA := hid (show Gr w A by rw [hA]; exact Ch.alloc (Gr.refl w) _)
  have BX := hid (show ∀ W, Gr A W → W.cell? ⟨w.heap.size, 0, none⟩ = some (.bool q) ∧ W.cell? ⟨w.heap.size, 1, none⟩ = some (.int .i64 c) ∧ w.heap.size < W.heap.size from fun W g => by
    have h := gr_blk (show A.heap[w.heap.size]? = some (.cells #[.bool q, .int .i64 c] 23 (0, 0)) by rw [hA]; exact al_at _ rfl) g
    exact ⟨cell_of h 0, cell_of h 1, lt_of_block h⟩)
  have HX := hid hx
  have HXL := hid hx.len.1
  clear hx
  cases hc : capB q c
  · have HC := hid hc
    go_enter Try.func3, Try.ntmps3
    go_wp2_with fail
    rw [← hA]
    clear hA
    refine (new_bad q c _ HC.out).mono ?_
    rintro e w1 ⟨rfl, g1⟩
    obtain ⟨t0, t1, tl⟩ := BX.out _ g1
    have G1 := hid g1
    clear g1
    go_wp2_with fail
    refine (rnew_no q c _ HC.out).mono ?_
    rintro e w2 ⟨rfl, g2⟩
    have G2 := hid (Gr.trans G1.out g2)
    clear g2 t0 t1 tl
    go_wp2_with fail
    refine (lives_any _).mono ?_
    rintro e w3 ⟨rfl, g3⟩
    have G3 := hid (Gr.trans (Ch.alloc G2.out _) g3)
    clear g3
    go_wp2
    go_ret
    exact ⟨rfl, Gr.trans GA.out G3.out⟩
  · obtain ⟨cN, rfl⟩ : ∃ cN : Nat, c = (cN : Int) := ⟨c.toNat, by
      have h1 := hc
      unfold capB at h1
      cases q <;> simp at h1 <;> omega⟩
    have HC := hid hc
    have hok := new_ok hc
    have HK := hid hok
    clear hok
    go_enter Try.func3, Try.ntmps3
    go_wp2_with fail
    rw [← hA]
    clear hA
    refine (new_good q cN _ HC.out).mono ?_
    rintro e w1 ⟨p, rfl, m1⟩
    obtain ⟨t0, t1, tl⟩ := BX.out _ m1.2
    have NW := hid ((m1.lower GA.out).nw HK.out)
    have G1 := hid m1.2
    clear m1
    go_wp2_with fail
    refine (rnew_yes q cN _ HC.out).mono ?_
    rintro e w2 ⟨rfl, g2⟩
    have ND := hid (Nd.of (NW.out.gr g2) HK.out rfl rfl)
    have HT7 := hid (show w.heap.size ≤ w2.heap.size from ND.out.1.size)
    have NB2 := hid (show Nb (Only w2.heap.size) w (w2.alloc (.cells #[.bool q, .int .i64 (cN : Int), .slice none 0 0, .slice none 0 0, .int .i64 0] 32)) p (newP q cN) (.slice none 0 0) (.slice none 0 0) (newP q cN) from (ND.out.nb (fun g e => by have e1 : g = w2.heap.size := e; omega)).gr (Ch.alloc (Gr.refl w2) _))
    have BT2 := hid (show (w2.alloc (.cells #[.bool q, .int .i64 (cN : Int), .slice none 0 0, .slice none 0 0, .int .i64 0] 32)).heap[w2.heap.size]? = some (.cells #[.bool q, .int .i64 (cN : Int), .slice none 0 0, .slice none 0 0, .int .i64 0] 32 (0, 0)) from al_at _ rfl)
    clear g2 t0 t1 tl
    go_wp2_with fail
    refine (lives_any _).mono ?_
    rintro e w3 ⟨rfl, g3⟩
    have NB3 := hid (NB2.out.gr g3)
    have BT3 := hid (gr_blk BT2.out g3)
    obtain ⟨t7, ht7⟩ : ∃ t, t = w2.heap.size := ⟨_, rfl⟩
    rw [← ht7] at HT7 NB3 BT3 ⊢
    clear g3 NB2 BT2 ht7
    go_wp2_with fail
    go_loopg [9, 10] n (fun k ov i wr => ∃ (j : Nat) (x : Pt) (a1 : Option Addr) (n1 c1 : Nat) (a2 : Option Addr) (n2 c2 : Nat), j + k = n ∧ i = .int .i64 (j : Int) ∧ ov = .bool true ∧ Nb (Only t7) w wr p x (.slice a1 n1 c1) (.slice a2 n2 c2) x ∧ wr.heap[t7]? = some (.cells #[.bool x.q, .int .i64 (x.cap : Nat), .slice a1 n1 c1, .slice a2 n2 c2, .int .i64 (x.lost : Nat)] 32 (0, 0)))
    case atStart => exact ⟨0, newP q cN, none, 0, 0, none, 0, 0, by omega, rfl, rfl, NB3.out, BT3.out⟩
    case round =>
      obtain ⟨j, x, a1, n1, c1, a2, n2, c2, hjk, rfl, rfl, hnb, hbt⟩ := hrel
      obtain ⟨Z, hZ⟩ : ∃ W, W = wr := ⟨_, rfl⟩
      subst hZ
      by_cases hj : j < n
      · have hj' : (j : Int) < (n : Int) := by omega
        have hj0 : (0 : Int) ≤ (j : Int) := by omega
        have hjl : j < xs.length := by rw [← HXL.out]; exact hj
        have hjx : xs[j]? = some xs[j] := List.getElem?_eq_getElem hjl
        generalize xs[j] = aj at hjx
        obtain ⟨g, o, cp, e1, _, hgl, hcap, hcx⟩ := HX.out.get eC_len hjx
        injection e1 with e1 e2 e3
        subst e1 e3
        have HJ := hid (show ∀ W, Gr w W → W.cell? ⟨g, o + j * 2, none⟩ = some (.int .i64 aj.k) ∧ W.cell? ⟨g, o + j * 2 + 1, none⟩ = some (.int .i64 aj.v) ∧ g < W.heap.size from fun W k => ⟨(k.cell hgl).trans (hcx 0 _ rfl), (k.cell hgl).trans (hcx 1 _ rfl), Nat.lt_of_lt_of_le hgl k.size⟩)
        have hcn : n ≤ ca := by rw [HXL.out]; exact hcap
        have hS0 : Gr w Z.drew := hnb.1.drew
        have BT0 := hid (show Z.drew.heap[t7]? = some (.cells #[.bool x.q, .int .i64 (x.cap : Nat), .slice a1 n1 c1, .slice a2 n2 c2, .int .i64 (x.lost : Nat)] 32 (0, 0)) from hbt)
        have NB0 := hid (show Nb (Only t7) w Z.drew p x (.slice a1 n1 c1) (.slice a2 n2 c2) x from hnb.gr (Ch.drew (Gr.refl Z)))
        have HT0 := hid (show ∀ g, Only t7 g → g < Z.drew.heap.size from fun g e => by have e1 : g = t7 := e; rw [e1]; exact lt_of_block hbt)
        clear hjx hgl hcap hcx e2 hnb hbt
        go_wp2_with fail
        refine wp_region_held_drew (S := Gr w) (by kernel_rfl) (by exact hS0) (fun _ => ?_)
        generalize World.drew Z = V0 at hS0 BT0 NB0 HT0 ⊢
        refine takeS_on (i := 0) 50 (v := ?hv1) rfl rfl (by kernel_rfl) (by kernel_rfl) (by kernel_rfl) (fun _ _ _ h => h) (by kernel_rfl) ?hh1 (by exact hS0) ?_
        case hh1 => (intro w' hSw; go_simp; try (with_reducible rfl))
        simp only [Act.put, List.setIfInBounds_toArray, List.set_cons_zero, List.set_cons_succ]
        refine takeS_on (i := 2) 52 (v := ?hv2) rfl rfl (by kernel_rfl) (by kernel_rfl) (by kernel_rfl) (fun _ _ _ h => h) (by kernel_rfl) ?hh2 (by exact hS0) ?_
        case hh2 => (intro w' hSw; go_simp; try (with_reducible rfl))
        simp only [Act.put, List.setIfInBounds_toArray, List.set_cons_zero, List.set_cons_succ]
        refine takeS_on (i := 3) 53 (v := ?hv3) rfl rfl (by kernel_rfl) (by kernel_rfl) (by kernel_rfl) (fun _ _ _ h => h) (by kernel_rfl) ?hh3 (by exact hS0) ?_
        case hh3 => (intro w' hSw; go_simp; try (with_reducible rfl))
        simp only [Act.put, List.setIfInBounds_toArray, List.set_cons_zero, List.set_cons_succ]
        refine takeS_on (i := 4) 54 (v := ?hv4) rfl rfl (by kernel_rfl) (by kernel_rfl) (by kernel_rfl) (fun _ _ _ h => h) (by kernel_rfl) ?hh4 (by exact hS0) ?_
        case hh4 => (intro w' hSw; go_simp; try (with_reducible rfl))
        simp only [Act.put, List.setIfInBounds_toArray, List.set_cons_zero, List.set_cons_succ]
        refine takeS_on (i := 5) 55 (v := ?hv5) rfl rfl (by kernel_rfl) (by kernel_rfl) (by kernel_rfl) (fun _ _ _ h => h) (by kernel_rfl) ?hh5 (by exact hS0) ?_
        case hh5 => (intro w' hSw; obtain ⟨q0, q1, ql⟩ := HJ.out _ hSw; go_simp; try (with_reducible rfl))
        simp only [Act.put, List.setIfInBounds_toArray, List.set_cons_zero, List.set_cons_succ]
        refine wpAnyH_ready (rs := [1]) (by kernel_rfl) (by simp) (AllReadyH.cons rfl (fun K hK => ?_) AllReadyH.nil)
        have z0 := cell_of BT0.out 0
        have z1 := cell_of BT0.out 1
        have z2 := cell_of BT0.out 2
        have z3 := cell_of BT0.out 3
        have z4 := cell_of BT0.out 4
        have zl := lt_of_block BT0.out
        simp at z0 z1 z2 z3 z4
        go_simp
        refine hK.out _ _ (by exact hS0) (fun _ => ?_)
        clear hK K
        refine wpAnyH_ready (rs := [6]) (by kernel_rfl) (by simp) (AllReadyH.cons rfl (fun K hK => ?_) AllReadyH.nil)
        go_simp
        refine (does_any aj NB0.out HT0.out).mono ?_
        rintro e w5 ⟨y1, y2, rfl, nb5, c5'⟩
        obtain ⟨y, hy⟩ : ∃ y, y = actP x aj := ⟨_, rfl⟩
        rw [← hy] at nb5 ⊢
        clear hy
        obtain ⟨a3, n3, c3, rfl⟩ : ∃ a n c, y1 = .slice a n c := by
          obtain ⟨_, _, _, T, _, _, l3, _⟩ := nb5
          obtain ⟨a, c, e⟩ := l3.form
          exact ⟨a, _, c, e⟩
        obtain ⟨a4, n4, c4, rfl⟩ : ∃ a n c, y2 = .slice a n c := by
          obtain ⟨_, _, _, T, _, _, _, l4⟩ := nb5
          obtain ⟨a, c, e⟩ := l4.form
          exact ⟨a, _, c, e⟩
        have hS5 := nb5.1
        have BT5 := hid (ch_blk BT0.out c5' (fun e => e rfl))
        have NB5 := hid nb5
        unfold stV
        clear nb5 c5'
        refine hK.out _ _ (by exact hS5) (fun _ => ?_)
        clear hK K
        refine takeS_on (i := 7) 49 (v := ?hv6) rfl rfl (by kernel_rfl) (by kernel_rfl) (by kernel_rfl) (fun _ _ _ h => h) (by kernel_rfl) ?hh6 (by exact hS5) ?_
        case hh6 => (intro w' hSw; go_simp; try (with_reducible rfl))
        simp only [Act.put, List.setIfInBounds_toArray, List.set_cons_zero, List.set_cons_succ]
        refine takeS_on (i := 8) 57 (v := ?hv7) rfl rfl (by kernel_rfl) (by kernel_rfl) (by kernel_rfl) (fun _ _ _ h => h) (by kernel_rfl) ?hh7 (by exact hS5) ?_
        case hh7 => (intro w' hSw; go_simp; try (with_reducible rfl))
        simp only [Act.put, List.setIfInBounds_toArray, List.set_cons_zero, List.set_cons_succ]
        refine takeS_on (i := 9) 58 (v := ?hv8) rfl rfl (by kernel_rfl) (by kernel_rfl) (by kernel_rfl) (fun _ _ _ h => h) (by kernel_rfl) ?hh8 (by exact hS5) ?_
        case hh8 => (intro w' hSw; go_simp; try (with_reducible rfl))
        simp only [Act.put, List.setIfInBounds_toArray, List.set_cons_zero, List.set_cons_succ]
        refine wpAnyH_ready (rs := [10]) (by kernel_rfl) (by simp) (AllReadyH.cons rfl (fun K hK => ?_) AllReadyH.nil)
        refine step_st_row rfl 32 (.tmp 7) (.tmp 57) rfl t7 #[.bool y.q, .int .i64 (y.cap : Nat), .slice a3 n3 c3, .slice a4 n4 c4, .int .i64 (y.lost : Nat)] rfl rfl _ _ BT5.out pst_size rfl (by simp [Value.oneCell']) ?_
        intro w8 b8 k8
        have BT8 := hid b8
        have NB8 := hid (NB5.out.st k8 (fun g e => e) (fun g e => by have e1 : g = t7 := e; have := HT7.out; omega))
        have hS8 := NB8.out.1
        clear b8 k8
        refine hK.out _ _ (by exact hS8) (fun _ => ?_)
        change wpAnyH _ _ _ _ _ _ _ (Act.put _ none _) _
        simp only [Act.put]
        clear hK K
        refine takeS_on (i := 11) 9 (v := ?hv9) rfl rfl (by kernel_rfl) (by kernel_rfl) (by kernel_rfl) (fun _ _ _ h => h) (by kernel_rfl) ?hh9 (by exact hS8) ?_
        case hh9 => (intro w' hSw; go_simp; try (with_reducible rfl))
        simp only [Act.put, List.setIfInBounds_toArray, List.set_cons_zero, List.set_cons_succ]
        refine wpAnyH_done (by kernel_rfl) ?_ _
        clear hS0 hS5 hS8
        go_wp2
        go_roundg (gk - 1)
        case measure => omega
        case rel =>
          refine ⟨j + 1, y, a3, n3, c3, a4, n4, c4, by omega, ?_, rfl, NB8.out, BT8.out⟩
          first | with_reducible rfl | simp
      · have hj' : ¬ ((j : Int) < (n : Int)) := by omega
        have hS0 : Z.drew.heap[t7]? = some (.cells #[.bool x.q, .int .i64 (x.cap : Nat), .slice a1 n1 c1, .slice a2 n2 c2, .int .i64 (x.lost : Nat)] 32 (0, 0)) := hbt
        have NB0 := hid (show Nb (Only t7) w Z.drew p x (.slice a1 n1 c1) (.slice a2 n2 c2) x from hnb.gr (Ch.drew (Gr.refl Z)))
        clear hnb hbt
        go_wp2_with fail
        refine wp_region_held_drew (S := fun V => V.heap[t7]? = some (.cells #[.bool x.q, .int .i64 (x.cap : Nat), .slice a1 n1 c1, .slice a2 n2 c2, .int .i64 (x.lost : Nat)] 32 (0, 0))) (by kernel_rfl) (by exact hS0) (fun _ => ?_)
        generalize World.drew Z = V0 at hS0 NB0 ⊢
        refine takeS_on (i := 0) 61 (v := ?hv10) rfl rfl (by kernel_rfl) (by kernel_rfl) (by kernel_rfl) (fun _ _ _ h => h) (by kernel_rfl) ?hh10 (by exact hS0) ?_
        case hh10 => (intro w' hSw; go_simp; try (with_reducible rfl))
        simp only [Act.put, List.setIfInBounds_toArray, List.set_cons_zero, List.set_cons_succ]
        refine takeS_on (i := 2) 63 (v := ?hv11) rfl rfl (by kernel_rfl) (by kernel_rfl) (by kernel_rfl) (fun _ _ _ h => h) (by kernel_rfl) ?hh11 (by exact hS0) ?_
        case hh11 => (intro w' hSw; have z0 := cell_of hSw 0; have z1 := cell_of hSw 1; have z2 := cell_of hSw 2; have z3 := cell_of hSw 3; have z4 := cell_of hSw 4; have zl := lt_of_block hSw; simp at z0 z1 z2 z3 z4; go_simp; try (with_reducible rfl))
        simp only [Act.put, List.setIfInBounds_toArray, List.set_cons_zero, List.set_cons_succ]
        refine wpAnyH_ready (rs := [1]) (by kernel_rfl) (by simp) (AllReadyH.cons rfl (fun K hK => ?_) AllReadyH.nil)
        go_simp
        refine (bstate NB0.out).mono ?_
        rintro e w3 ⟨u1, u2, rfl, o1, o2, nb3, g3⟩
        obtain ⟨a3, c3, rfl⟩ := o1.form
        obtain ⟨a4, c4, rfl⟩ := o2.form
        have hS3 := gr_blk hS0 g3
        have CSM := hid (bsame nb3 o1.lst o2.lst)
        unfold stV at CSM
        clear o1 o2 nb3 g3
        refine hK.out _ _ (by exact hS3) (fun _ => ?_)
        clear hK K
        refine wpAnyH_ready (rs := [3]) (by kernel_rfl) (by simp) (AllReadyH.cons rfl (fun K hK => ?_) AllReadyH.nil)
        go_simp
        refine CSM.out.mono ?_
        rintro e w4 ⟨rfl, nb4, g4⟩
        have hS4 := gr_blk hS3 g4
        have GW4 := hid nb4.1
        clear nb4 g4
        refine hK.out _ _ (by exact hS4) (fun _ => ?_)
        clear hK K
        refine takeS_on (i := 4) 4 (v := ?hv12) rfl rfl (by kernel_rfl) (by kernel_rfl) (by kernel_rfl) (fun _ _ _ h => h) (by kernel_rfl) ?hh12 (by exact hS4) ?_
        case hh12 => (intro w' hSw; go_simp; try (with_reducible rfl))
        simp only [Act.put, List.setIfInBounds_toArray, List.set_cons_zero, List.set_cons_succ]
        refine wpAnyH_done (by kernel_rfl) ?_ _
        clear hS0 hS3 hS4
        go_wp2
        go_ret
        exact ⟨rfl, GW4.out⟩
end Go.Proofs.Ytnpbehcfbceclaa.Lt
