/-
  What the document's sameInts and Same answer where both are the same: true. Condition: both are there, and no list is longer than 4294967296.
-/
import Derived.Test.YtfbkifkfhgkdbabSbLive
namespace Go.Proofs.Ytfbkifkfhgkdbab.Sb
open Go.RowKit
attribute [local go_sem ↓] Go.wp_at_zero Go.wp_at_succ

/-- an element's cell, of a slice value of a known form -/
theorem Ls.get1 {P : Nat → Prop} {w : World} {ao : Option Addr} {n cap : Nat} {us : List Value} (h : Ls P w (.slice ao n cap) us) {i : Nat} {x : Value} (hx : us[i]? = some x) : ∃ g o, ao = some ⟨g, o, none⟩ ∧ P g ∧ g < w.heap.size ∧ n ≤ cap ∧ w.cell? ⟨g, o + i, none⟩ = some x := by
  obtain ⟨g, o, c, e, h1, h2, h3, h4⟩ := h.get hx
  injection e with a1 a2 a3
  subst a1 a2 a3
  exact ⟨g, o, rfl, h1, h2, h3, h4⟩

theorem sameInts_eq (P Q : Nat → Prop) (va vb : Value) (xs : List Int) (w : World) (ha : Ls P w va (iv xs)) (hb : Ls Q w vb (iv xs)) (hmax : xs.length ≤ 4294967296) :
    Calls Try.prog 37 #[va, vb] w fun e w' => e = .returned (.bool true) ∧ ∃ m, w' = w.drewN m := by
  obtain ⟨aa, ac, rfl⟩ := ha.form
  obtain ⟨ba, bc, rfl⟩ := hb.form
  obtain ⟨n, hn⟩ : ∃ n, n = (iv xs).length := ⟨_, rfl⟩
  rw [← hn] at ha hb ⊢
  have hnl : n = xs.length := by rw [hn, iv_length]
  rw [← hnl] at hmax
  have HA := hid ha
  have HB := hid hb
  have HN := hid hnl
  clear ha hb hn hnl
  go_enter Try.func37, Try.ntmps37
  go_wp2_with fail
  go_loopg [5] n (fun k i wr => ∃ j : Nat, j + k = n ∧ i = .int .i64 ((j : Nat) : Int) ∧ ∃ m, wr = w.drewN m)
  case atStart => exact ⟨0, by omega, rfl, 0, rfl⟩
  case round =>
    obtain ⟨j, hjk, rfl, m, rfl⟩ := hrel
    by_cases hj : j < n
    · obtain ⟨z, hz⟩ : ∃ z, xs[j]? = some z := ⟨_, List.getElem?_eq_getElem (by rw [← HN.out]; exact hj)⟩
      obtain ⟨g, o, rfl, -, -, -, d0⟩ := HA.out.get1 (iv_get hz)
      obtain ⟨g', o', rfl, -, -, -, d1⟩ := HB.out.get1 (iv_get hz)
      have j0 : (0 : Int) ≤ (j : Int) := by omega
      have j1 : (j : Int) < (n : Int) := by omega
      clear hz
      go_wp2
      go_quiet (fail)
      go_wp2
      go_roundg (gk - 1)
      case measure => omega
      case rel => exact ⟨j + 1, by omega, by simp, _, rfl⟩
    · go_wp2
      go_ret
      exact ⟨rfl, _, rfl⟩

set_option maxHeartbeats 2000000 in
theorem same_eq (P Q : Nat → Prop) (L : Int) (vg va vc vf ug ua uc uf : Value) (cv cu : List Value) (x : Sl) (w : World) (ha : Rd P w vg va vc vf cv x) (hb : Rd Q w ug ua uc uf cu x) (ht : x.Fits) :
    Calls Try.prog 19 #[.agg #[.int .i64 L, vg, va, vc, vf], .agg #[.int .i64 L, ug, ua, uc, uf]] w fun e w' => e = .returned (.bool true) ∧ Ch NoB w w' := by
  obtain ⟨a1, q1, rfl⟩ := ha.g.form
  obtain ⟨a2, q2, rfl⟩ := ha.a.form
  obtain ⟨a3, q3, rfl⟩ := ha.c.form
  obtain ⟨a4, q4, rfl⟩ := ha.f.form
  obtain ⟨b1, r1, rfl⟩ := hb.g.form
  obtain ⟨b2, r2, rfl⟩ := hb.a.form
  obtain ⟨b3, r3, rfl⟩ := hb.c.form
  obtain ⟨b4, r4, rfl⟩ := hb.f.form
  obtain ⟨nG, hnG⟩ : ∃ n, n = (iv x.G).length := ⟨_, rfl⟩
  obtain ⟨nA, hnA⟩ : ∃ n, n = (bv x.A).length := ⟨_, rfl⟩
  obtain ⟨nC, hnC⟩ : ∃ n, n = cv.length := ⟨_, rfl⟩
  obtain ⟨nF, hnF⟩ : ∃ n, n = (iv x.F).length := ⟨_, rfl⟩
  have hcu : cu.length = nC := by rw [hb.e.1, hnC, ha.e.1]
  rw [← hnG, ← hnA, ← hnC, ← hnF] at ha ⊢
  rw [← hnG, ← hnA, hcu, ← hnF] at hb
  rw [hcu]
  have hA : nA = x.A.length := by rw [hnA, bv_length]
  have hC : nC = x.C.length := by rw [hnC]; exact ha.e.1
  have hA4 : nA ≤ 4294967296 := by rw [hA]; exact ht.a
  have hC4 : nC ≤ 4294967296 := by rw [hC]; exact ht.c
  obtain ⟨W0, hW0⟩ : ∃ W0, W0 = (w.alloc (.cells #[.int .i64 L, .slice a1 nG q1, .slice a2 nA q2, .slice a3 nC q3, .slice a4 nF q4] 45)).alloc (.cells #[.int .i64 L, .slice b1 nG r1, .slice b2 nA r2, .slice b3 nC r3, .slice b4 nF r4] 45) := ⟨_, rfl⟩
  have g0 : Ch NoB w W0 := by rw [hW0]; exact ((Ch.refl _ _).alloc _).alloc _
  have F0 : Fv 45 W0 w.heap.size (.int .i64 L) (.slice a1 nG q1) (.slice a2 nA q2) (.slice a3 nC q3) (.slice a4 nF q4) := by rw [hW0]; exact (Fv.new _ w _ _ _ _ _).alloc _
  have E0 : Fv 45 W0 (w.heap.size + 1) (.int .i64 L) (.slice b1 nG r1) (.slice b2 nA r2) (.slice b3 nC r3) (.slice b4 nF r4) := by
    have := Fv.new 45 (w.alloc (.cells #[.int .i64 L, .slice a1 nG q1, .slice a2 nA q2, .slice a3 nC q3, .slice a4 nF q4] 45)) (.int .i64 L) (.slice b1 nG r1) (.slice b2 nA r2) (.slice b3 nC r3) (.slice b4 nF r4)
    rw [World.size_alloc] at this
    rw [hW0]; exact this
  have HA := hid (ha.ch g0 (fun _ _ _ => noB _))
  have HB := hid (hb.ch g0 (fun _ _ _ => noB _))
  have HG := hid g0
  have HNA := hid hA
  have HNC := hid hC
  have HT := hid ht
  obtain ⟨c0, c1, c2, c3, c4⟩ := F0.cells
  obtain ⟨d0, d1, d2, d3, d4⟩ := E0.cells
  have cl := F0.lt
  have dl := E0.lt
  clear ha hb ht hnG hnA hnC hnF hcu hA hC g0 F0 E0
  go_enter Try.func19, Try.ntmps19
  go_wp2_with fail
  rw [← hW0]
  clear hW0
  refine (sameInts_eq _ _ _ _ x.G W0 HA.out.g HB.out.g HT.out.g).mono ?_
  rintro e w1 ⟨rfl, m1, rfl⟩
  go_wp2_with fail
  refine (sameInts_eq _ _ _ _ x.F (W0.drewN m1) (HA.out.f.drewN _) (HB.out.f.drewN _) HT.out.f).mono ?_
  rintro e w2 ⟨rfl, m2, rfl⟩
  go_wp2_with fail
  go_loopg [5] nA (fun k i wr => ∃ j : Nat, j + k = nA ∧ i = .int .i64 ((j : Nat) : Int) ∧ ∃ m, wr = W0.drewN m)
  case atStart => exact ⟨0, by omega, rfl, _, rfl⟩
  case round =>
    obtain ⟨j, hjk, rfl, m, rfl⟩ := hrel
    by_cases hj : j < nA
    · obtain ⟨z, hz⟩ : ∃ z, x.A[j]? = some z := ⟨_, List.getElem?_eq_getElem (by rw [← HNA.out]; exact hj)⟩
      obtain ⟨g, o, rfl, -, -, -, e0⟩ := HA.out.a.get1 (bv_get hz)
      obtain ⟨g', o', rfl, -, -, -, e1⟩ := HB.out.a.get1 (bv_get hz)
      have j0 : (0 : Int) ≤ (j : Int) := by omega
      have j1 : (j : Int) < (nA : Int) := by omega
      have hbb : ∀ w', (binOp .neq 4 (.bool z) (.bool z)).run Try.prog w' = .ok (.bool false) w' := by intro w'; cases z <;> go_simp
      clear hz
      go_wp2
      go_quiet (fail)
      go_wp2
      go_roundg (gk - 1)
      case measure => omega
      case rel => exact ⟨j + 1, by omega, by simp, _, rfl⟩
    · go_wp2_with fail
      go_loopg [6] nC (fun k i wr => ∃ j : Nat, j + k = nC ∧ i = .int .i64 ((j : Nat) : Int) ∧ ∃ m, wr = W0.drewN m)
      case atStart => exact ⟨0, by omega, rfl, _, rfl⟩
      case round =>
        obtain ⟨j, hjk, rfl, m, rfl⟩ := hrel
        by_cases hj : j < nC
        · have hj1 : j < cv.length := by rw [HA.out.e.1, ← HNC.out]; exact hj
          have hj2 : j < cu.length := by rw [HB.out.e.1, ← HNC.out]; exact hj
          have hj3 : j < x.C.length := by rw [← HNC.out]; exact hj
          obtain ⟨u, hu⟩ : ∃ u, cv[j]? = some u := ⟨_, List.getElem?_eq_getElem hj1⟩
          obtain ⟨u', hu'⟩ : ∃ u, cu[j]? = some u := ⟨_, List.getElem?_eq_getElem hj2⟩
          obtain ⟨c, hc⟩ : ∃ c, x.C[j]? = some c := ⟨_, List.getElem?_eq_getElem hj3⟩
          have l1 := HA.out.e.2 j u c hu hc
          have l2 := HB.out.e.2 j u' c hu' hc
          obtain ⟨s1, t1, rfl⟩ := l1.form
          obtain ⟨s2, t2, rfl⟩ := l2.form
          obtain ⟨nU, hnU⟩ : ∃ n, n = (iv c).length := ⟨_, rfl⟩
          rw [← hnU] at l1 l2 hu hu'
          obtain ⟨g, o, rfl, -, -, -, e0⟩ := HA.out.c.get1 hu
          obtain ⟨g', o', rfl, -, -, -, e1⟩ := HB.out.c.get1 hu'
          have H1 := hid l1
          have H2 := hid l2
          have H3 := hid (HT.out.e j c hc)
          have j0 : (0 : Int) ≤ (j : Int) := by omega
          have j1 : (j : Int) < (nC : Int) := by omega
          clear l1 l2 hu hu' hc hnU hj1 hj2 hj3
          go_wp2
          go_region_held3 (fun w' => w'.cell? ⟨w.heap.size, 3, none⟩ = some (.slice (some ⟨g, o, none⟩) nC q3) ∧ w'.cell? ⟨w.heap.size + 1, 3, none⟩ = some (.slice (some ⟨g', o', none⟩) nC r3) ∧ w'.cell? ⟨g, o + j, none⟩ = some (.slice s1 nU t1) ∧ w'.cell? ⟨g', o' + j, none⟩ = some (.slice s2 nU t2)) (first | (simp only [World.cell?_drewN, World.cell?_drew, c3, d3, e0, e1, and_self]; done) | (go_keep; done))
            (first | (go_at_call 37; refine (sameInts_eq _ _ _ _ c (W0.drewN _) (H1.out.drewN _) (H2.out.drewN _) H3.out).mono ?_; rintro e w5 ⟨rfl, m5, rfl⟩))
          all_goals go_wp2
          go_roundg (gk - 1)
          case measure => omega
          case rel => exact ⟨j + 1, by omega, by simp, _, rfl⟩
        · go_wp2
          go_ret
          exact ⟨rfl, HG.out.drewN _⟩
end Go.Proofs.Ytfbkifkfhgkdbab.Sb
