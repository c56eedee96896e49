/-
  The statement PortLater, walked: it returns true. Condition: the lists are there.
-/
import Derived.Test.YtnpbehcfbceclaaPoCall
namespace Go.Proofs.Ytnpbehcfbceclaa.Lt
open Go.RowKit Wd
attribute [local go_sem ↓] Go.wp_at_zero Go.wp_at_succ
set_option maxRecDepth 20000

/-- what is got is the same -/
structure Sa (x y : Pt) : Prop where
  q : x.q = y.q
  c : x.cap = y.cap
  i : x.inn = y.inn
theorem Sa.putl {x y : Pt} (h : Sa x y) (v : Int) : Sa (putP x v).1 y := by
  unfold putP
  split
  · split
    · exact h
    · exact ⟨h.q, h.c, h.i⟩
  · exact ⟨h.q, h.c, h.i⟩
theorem Sa.get {x y : Pt} (h : Sa x y) : firstG x.inn = firstG y.inn ∧ Sa (getP x) (getP y) := by
  refine ⟨by rw [h.i], ?_⟩
  unfold getP
  by_cases hq : x.q = true
  · rw [if_pos hq, if_pos (h.q ▸ hq)]
    exact ⟨h.q, h.c, by show x.inn.tail = y.inn.tail; rw [h.i]⟩
  · rw [if_neg hq, if_neg (h.q ▸ hq)]
    exact h
set_option maxHeartbeats 8000000 in
theorem later_walk {P Q : Nat → Prop} (w : World) (q : Bool) (c : Int) (ao : Option Addr) (n ca : Nat) (xs : List Ac) (bo : Option Addr) (m cb : Nat) (ys : List Int) (hx : Ls eC P w (.slice ao n ca) xs) (hn : n ≤ 70368744177664) (hy : Ls eI Q w (.slice bo m cb) ys) (hm : m ≤ 70368744177664) :
    Calls Try.prog 6 #[.agg #[.bool q, .int .i64 c], .slice ao n ca, .slice bo m cb] w fun e w' => e = .returned (.bool true) ∧ Gr w w' := by
  have hS0 : Bx w.heap.size q c (World.drew (w.alloc (.cells #[.bool q, .int .i64 c] 23))) := ⟨al_at (w := w) _ rfl⟩
  have GV := hid (Ch.drew (Ch.alloc (Gr.refl w) (.cells #[.bool q, .int .i64 c] 23)))
  have HX := hid (show ∀ W, Gr w W → Ls eC P W (.slice ao n ca) xs from fun W g => hx.gr g)
  have HY := hid (show ∀ W, Gr w W → Ls eI Q W (.slice bo m cb) ys from fun W g => hy.gr g)
  have HXL := hid hx.len.1
  have HYL := hid hy.len.1
  have LV := hid lives_any
  clear hx hy
  go_enter Try.func6, Try.ntmps6
  go_wp2_with fail
  refine wp_region_held_drew (S := Bx w.heap.size q c) (by kernel_rfl) (by exact hS0) (fun _ => ?_)
  generalize World.drew (w.alloc (.cells #[.bool q, .int .i64 c] 23)) = V0 at hS0 GV ⊢
  refine takeS_on (i := 0) 15 (v := ?hv1) rfl rfl (by kernel_rfl) (by kernel_rfl) (by kernel_rfl) (fun _ _ _ h => h) (by kernel_rfl) ?hh1 (by exact hS0) ?_
  case hh1 => (intro w' hSw; have b0 := cell_of hSw.b 0; have b1 := cell_of hSw.b 1; simp at b0 b1; have bl := lt_of_block hSw.b; go_simp; try (with_reducible rfl))
  simp only [Act.put, List.setIfInBounds_toArray, List.set_cons_zero, List.set_cons_succ]
  refine takeS_on (i := 2) 17 (v := ?hv2) rfl rfl (by kernel_rfl) (by kernel_rfl) (by kernel_rfl) (fun _ _ _ h => h) (by kernel_rfl) ?hh2 (by exact hS0) ?_
  case hh2 => (intro w' hSw; have b0 := cell_of hSw.b 0; have b1 := cell_of hSw.b 1; simp at b0 b1; have bl := lt_of_block hSw.b; go_simp; try (with_reducible rfl))
  simp only [Act.put, List.setIfInBounds_toArray, List.set_cons_zero, List.set_cons_succ]
  refine wpAnyH_ready (rs := [1]) (by kernel_rfl) (by simp) (AllReadyH.cons rfl (fun K hK => ?_) AllReadyH.nil)
  go_simp
  refine (made_any q c V0).mono ?_
  rintro e w1 ⟨p1, rfl, m1⟩
  have N1 := hid ((m1.lower GV.out).nw (shp_ok q c))
  have hS1 := hS0.gr m1.2
  clear m1
  refine hK.out _ _ (by exact hS1) (fun _ => ?_)
  clear hK K
  refine wpAnyH_ready (rs := [3]) (by kernel_rfl) (by simp) (AllReadyH.cons rfl (fun K hK => ?_) AllReadyH.nil)
  go_simp
  refine (made_any q c w1).mono ?_
  rintro e w2 ⟨p2, rfl, m2⟩
  have T2 := hid (N2.of N1.out m2 (shp_ok q c))
  have hS2 := hS1.gr m2.2
  clear m2
  refine hK.out _ _ (by exact hS2) (fun _ => ?_)
  clear hK K
  refine takeS_on (i := 4) 7 (v := ?hv3) rfl rfl (by kernel_rfl) (by kernel_rfl) (by kernel_rfl) (fun _ _ _ h => h) (by kernel_rfl) ?hh3 (by exact hS2) ?_
  case hh3 => (intro w' hSw; go_simp; try (with_reducible rfl))
  simp only [Act.put, List.setIfInBounds_toArray, List.set_cons_zero, List.set_cons_succ]
  refine takeS_on (i := 5) 8 (v := ?hv4) rfl rfl (by kernel_rfl) (by kernel_rfl) (by kernel_rfl) (fun _ _ _ h => h) (by kernel_rfl) ?hh4 (by exact hS2) ?_
  case hh4 => (intro w' hSw; go_simp; try (with_reducible rfl))
  simp only [Act.put, List.setIfInBounds_toArray, List.set_cons_zero, List.set_cons_succ]
  refine wpAnyH_done (by kernel_rfl) ?_ _
  clear hS0 hS1 hS2
  go_wp2_with (refine callG (by kernel_rfl) 11 #[] _ rfl #[] (by kernel_rfl) (LV.out _) ?_; rintro e w3 ⟨rfl, g3⟩; have T3 := hid (T2.out.gr g3); clear g3; refine ⟨_, rfl, ?_⟩; simp only [Act.put, List.setIfInBounds_toArray, List.set_cons_zero, List.set_cons_succ])
  have HT3 := hid T3.out
  go_loopg [9] n (fun k9 i wr => ∃ (j : Nat) (x : Pt), j + k9 = n ∧ i = .int .i64 (j : Int) ∧ N2 w wr p1 x p2 x)
  case atStart => exact ⟨0, _, by omega, rfl, T3.out⟩
  case round =>
    obtain ⟨j, x, hjk, rfl, ht⟩ := hrel
    obtain ⟨V, hV⟩ : ∃ W, W = wr := ⟨_, rfl⟩
    subst hV
    have TT := hid ht
    have lx := HX.out _ ht.1
    clear ht
    by_cases hj : j < n
    · have hj' : (j : Int) < (n : Int) := by omega
      have hjx : xs[j]? = some (xs[j]'(by rw [← HXL.out]; exact hj)) := List.getElem?_eq_getElem _
      generalize xs[j]'(by rw [← HXL.out]; exact hj) = a at hjx
      obtain ⟨g, o, cp, e, _, hgl, _, hc⟩ := lx.get eC_len hjx
      injection e with e1 e2 e3
      subst e1 e3
      have g0 := hc 0 _ rfl
      have g1 := hc 1 _ rfl
      rw [Nat.add_zero] at g0
      have HC := hid (show ∀ W, Gr w W → W.cell? ⟨g, o + j * 2 + 1, none⟩ = some (.int .i64 a.v) ∧ g < W.heap.size from fun W gw => by
        obtain ⟨g', o', cp', e', _, hgl', _, hc'⟩ := (HX.out W gw).get eC_len hjx
        injection e' with e1' _ _
        injection e1' with e1'
        injection e1' with e4 e5
        subst e4 e5
        exact ⟨hc' 1 _ rfl, hgl'⟩)
      clear lx hjx hc e2
      by_cases k0 : a.k = 0
      · go_wp2_with (first
          | (go_at_call 19; refine (tput a.v Z1.out.symm).mono ?_; rintro e w5 ⟨rfl, z⟩; have Z2 := hid z.symm; clear z)
          | (go_at_call 19; refine (tput a.v TT.out).mono ?_; rintro e w4 ⟨rfl, z⟩; obtain ⟨h1, hgl1⟩ := HC.out _ z.1; have Z1 := hid z; clear z))
        go_roundg (gk - 1)
        case measure => omega
        case rel =>
          refine ⟨j + 1, _, by omega, ?_, Z2.out⟩
          first | with_reducible rfl | simp
      · by_cases k1 : a.k = 1
        · go_wp2_with (first
            | (go_at_call 20; refine (tget Z1.out.symm).mono ?_; rintro e w5 ⟨rfl, z⟩; have Z2 := hid z.symm; clear z)
            | (go_at_call 20; refine (tget TT.out).mono ?_; rintro e w4 ⟨rfl, z⟩; have Z1 := hid z; clear z))
          go_roundg (gk - 1)
          case measure => omega
          case rel =>
            refine ⟨j + 1, _, by omega, ?_, Z2.out⟩
            first | with_reducible rfl | simp
        · by_cases k2 : a.k = 2
          · go_wp2_with (first
              | (go_at_call 21; refine (tdeliver Z1.out.symm).mono ?_; rintro e w5 ⟨rfl, z⟩; have Z2 := hid z.symm; clear z)
              | (go_at_call 21; refine (tdeliver TT.out).mono ?_; rintro e w4 ⟨rfl, z⟩; have Z1 := hid z; clear z))
            go_roundg (gk - 1)
            case measure => omega
            case rel =>
              refine ⟨j + 1, _, by omega, ?_, Z2.out⟩
              first | with_reducible rfl | simp
          · go_wp2
            go_roundg (gk - 1)
            case measure => omega
            case rel =>
              refine ⟨j + 1, _, by omega, ?_, TT.out⟩
              first | with_reducible rfl | simp
    · have hj' : ¬ ((j : Int) < (n : Int)) := by omega
      clear lx
      have TX := hid TT.out
      go_wp2_with fail
      go_loopg [10] m (fun k9 i wr => ∃ (j : Nat) (x y : Pt), j + k9 = m ∧ i = .int .i64 (j : Int) ∧ N2 w wr p1 x p2 y ∧ Sa x y)
      case atStart => exact ⟨0, _, _, by omega, rfl, TX.out, rfl, rfl, rfl⟩
      case round =>
        obtain ⟨j2, x2, y2, hjk2, rfl, ht, hs⟩ := hrel
        obtain ⟨V2, hV2⟩ : ∃ W, W = wr := ⟨_, rfl⟩
        subst hV2
        have T2' := hid ht
        have ly := HY.out _ ht.1
        have HSA := hid hs
        clear ht hs
        by_cases hj2 : j2 < m
        · have hj2' : (j2 : Int) < (m : Int) := by omega
          have hjy : ys[j2]? = some (ys[j2]'(by rw [← HYL.out]; exact hj2)) := List.getElem?_eq_getElem _
          generalize ys[j2]'(by rw [← HYL.out]; exact hj2) = v at hjy
          obtain ⟨g, o, cp, e, _, hgl, _, hc⟩ := ly.get eI_len hjy
          injection e with e1 e2 e3
          subst e1 e3
          have g0 := hc 0 _ rfl
          rw [Nat.add_zero, Nat.mul_one] at g0
          clear ly hjy hc e2
          obtain ⟨F, hF⟩ : ∃ F, F = firstG (putP x2 v).1.inn := ⟨_, rfl⟩
          have hF2 : F = firstG y2.inn := hF.trans (HSA.out.putl v).get.1
          have HG1 := hid (fun W (h : N2 w W p1 (putP x2 v).1 p2 y2) => tget h)
          have HG2 := hid (fun W (h : N2 w W p2 y2 p1 (getP (putP x2 v).1)) => tget h)
          rw [← hF] at HG1
          rw [← hF2] at HG2
          clear hF hF2
          go_wp2_with (first
            | (go_at_call 20; refine (HG2.out _ Z2.out.symm).mono ?_; rintro e w6 ⟨rfl, z⟩; have Z3 := hid z.symm; clear z)
            | (go_at_call 20; refine (HG1.out _ Z1.out).mono ?_; rintro e w5 ⟨rfl, z⟩; have Z2 := hid z; clear z)
            | (go_at_call 19; refine (tput v T2'.out).mono ?_; rintro e w4 ⟨rfl, z⟩; have Z1 := hid z; clear z))
          go_roundg (gk - 1)
          case measure => omega
          case rel =>
            refine ⟨j2 + 1, _, _, by omega, ?_, Z3.out, (HSA.out.putl v).get.2⟩
            first | with_reducible rfl | simp
        · have hj2' : ¬ ((j2 : Int) < (m : Int)) := by omega
          clear ly
          go_wp2
          go_ret
          exact ⟨rfl, T2'.out.1⟩
end Go.Proofs.Ytnpbehcfbceclaa.Lt
