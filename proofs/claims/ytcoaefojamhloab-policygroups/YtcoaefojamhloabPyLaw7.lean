/-
  PolicyGroups, walked: two have the same group just if each is Above the other one. Condition: the list is not too long.
-/
import Derived.Test.YtcoaefojamhloabPyLives
import Derived.Test.YtcoaefojamhloabPyFact
import Derived.Test.YtcoaefojamhloabPyGrp
namespace Go.Proofs.Ytcoaefojamhloab.Lt
open Go.RowKit Wd
attribute [local go_sem ↓] Go.wp_at_zero Go.wp_at_succ
set_option maxRecDepth 20000

theorem both_lt {N : Nat} {l : List Eg} (hl : Okl (N : Int) l) {a b : Nat} (h : pthR N l a b = true) : a < N ∧ b < N := Wn.wsh (Wn.strt hl) N a b h
/-- two have the same group just if paths lead both ways -/
theorem grp_eq {N : Nat} {l : List Eg} (hl : Okl (N : Int) l) {X Y : Nat} (hX : X < N) (hY : Y < N) : ((grp (pthR N l) X : Int) == (grp (pthR N l) Y : Int)) = (pthR N l X Y && pthR N l Y X) := by
  have tr : ∀ a b c, pthR N l a b = true → pthR N l b c = true → pthR N l a c = true := fun a b c h1 h2 => pthR_trans hl (both_lt hl h1).1 (both_lt hl h2).1 h1 h2
  have sx := grp_spec (pth_refl (l := l) hX)
  have sy := grp_spec (pth_refl (l := l) hY)
  rw [Bool.eq_iff_iff]
  constructor
  · intro e
    have e1 : (grp (pthR N l) X : Int) = (grp (pthR N l) Y : Int) := by simpa using e
    have e2 : grp (pthR N l) X = grp (pthR N l) Y := by omega
    have bx := sx.1
    have by_ := sy.1
    rw [← e2] at by_
    unfold both at bx by_
    rw [Bool.and_eq_true] at bx by_ ⊢
    exact ⟨tr _ _ _ bx.1 by_.2, tr _ _ _ by_.1 bx.2⟩
  · intro e
    rw [Bool.and_eq_true] at e
    have hf : both (pthR N l) X = both (pthR N l) Y := by
      funext k
      unfold both
      rw [Bool.eq_iff_iff, Bool.and_eq_true, Bool.and_eq_true]
      exact ⟨fun q => ⟨tr _ _ _ e.2 q.1, tr _ _ _ q.2 e.1⟩, fun q => ⟨tr _ _ _ e.1 q.1, tr _ _ _ q.2 e.2⟩⟩
    rw [hf] at sx
    simp [IsLst.uniq sx sy]
set_option maxHeartbeats 16000000 in
theorem groups_walk (w : World) (n : Int) (a : Option Addr) (m c : Nat) (l : List Eg) (h : Le w (.slice a m c) l) (hm : m ≤ 8796093022208) (_hn : -9223372036854775808 ≤ n ∧ n ≤ 9223372036854775807) (x : Int) (_hx : -9223372036854775808 ≤ x ∧ x ≤ 9223372036854775807) (y : Int) (_hy : -9223372036854775808 ≤ y ∧ y ≤ 9223372036854775807) :
    Calls Try.prog 3 #[.agg #[.int .i64 n, .slice a m c], .int .i64 x, .int .i64 y] w fun e w' => e = .returned (.bool true) ∧ Gr w w' := by
  obtain ⟨A, hA⟩ : ∃ A, A = w.alloc (.cells #[.int .i64 n, .slice a m c] 24) := ⟨_, rfl⟩
  have HB := hide (show ∀ W, Gr A W → W.cell? ⟨w.heap.size, 0, none⟩ = some (.int .i64 n) ∧ W.cell? ⟨w.heap.size, 1, none⟩ = some (.slice a m c) ∧ w.heap.size < W.heap.size ∧ Gr w W from fun W g => box2 (by rw [hA] at g; exact g))
  have CE := hide (fun W (g : Gr w W) => edges_any W AnyB a m c l (h.gr g) hm)
  have CR := hide (fun W (g : Gr w W) => rcheck_any W n a m c l (h.gr g) hm)
  have CG := hide (fun W ao cap (k : Le W (.slice ao m cap) l) => groups_any W n ao m cap l k hm)
  have HNL := hide (wrgP_nil (n := n) (l := l))
  unfold chkE at CR
  unfold NumR at CG
  rw [HNL.out] at CG
  by_cases h0 : (chkP n l).2 = 0
  · obtain ⟨n1, n2, ok, -⟩ := chkP_ok h0
    have hI : grpI n l = gl n.toNat (fun d => (grp (pthR n.toNat l) d : Int)) := if_pos (HNL.out.trans h0)
    rw [h0] at CG
    obtain ⟨N, rfl⟩ : ∃ N : Nat, n = (N : Int) := ⟨n.toNat, by omega⟩
    rw [Int.toNat_natCast] at hI
    rw [hI] at CG
    have hN1 : 1 ≤ N := by omega
    have hN2 : N ≤ 16 := by omega
    have CP := hide (show ∀ W ao cap, Le W (.slice ao m cap) l → ∀ X Y : Nat, X < N → Y < N → Calls Try.prog 8 #[.int .i64 (N : Int), .slice ao m cap, .int .i64 (X : Int), .int .i64 (Y : Int)] W fun e w' => e = .returned (.tuple #[.bool (pthR N l X Y), .int .i64 0]) ∧ Gr W w' from fun W ao cap k X Y hX hY => (path_any W N ao m cap l k hm X Y).mono fun e w' q => ⟨q.1.trans (pthE_ok hN1 hN2 ok hX hY), q.2⟩)
    obtain ⟨u1, X, m1, p1, q1, o1, hX⟩ := mod_way x N (by omega) hN2
    have r1 := wrap_way p1 q1 hN2
    obtain ⟨u2, Y, m2, p2, q2, o2, hY⟩ := mod_way y N (by omega) hN2
    have r2 := wrap_way p2 q2 hN2
    have HEQ := hide (grp_eq ok hX hY)
    have hNi : ¬ ((N : Int) = 0) := by omega
    have hNn : ¬ (N = 0) := by omega
    have hNp : (N : Int) ≤ 16 := by omega
    have hN0 : (1 : Int) ≤ (N : Int) := by omega
    have HGX := hide (gl_get (fun d => (grp (pthR N l) d : Int)) hX)
    have HGY := hide (gl_get (fun d => (grp (pthR N l) d : Int)) hY)
    have HGN := hide (gl_len N (fun d => (grp (pthR N l) d : Int)))
    generalize gl N (fun d => (grp (pthR N l) d : Int)) = gs at CG HGX HGY HGN
    generalize (grp (pthR N l) X : Int) = gX at HEQ HGX
    generalize (grp (pthR N l) Y : Int) = gY at HEQ HGY
    generalize pthR N l = r at *
    clear h h0 ok n1 n2 _hn hI HNL CR
    go_enter Try.func3, Try.ntmps3
    go_wp2_with fail
    rw [← hA]
    clear hA
    have hS0 : Gr A (World.drew A) := Ch.drew (Gr.refl _)
    refine wp_region_held_drew (S := Gr A) (by kernel_rfl) (by exact hS0) (fun _ => ?_)
    generalize World.drew _ = V0 at hS0 ⊢
    refine takeS_on (i := 0) 17 (v := ?hv51) rfl rfl (by kernel_rfl) (by kernel_rfl) (by kernel_rfl) (fun _ _ _ h => h) (by kernel_rfl) ?hh51 (by exact hS0) ?_
    case hh51 => (intro w' hSw; go_simp; try (with_reducible rfl))
    simp only [Act.put, List.setIfInBounds_toArray, List.set_cons_zero, List.set_cons_succ]
    refine takeS_on (i := 1) 18 (v := ?hv52) rfl rfl (by kernel_rfl) (by kernel_rfl) (by kernel_rfl) (fun _ _ _ h => h) (by kernel_rfl) ?hh52 (by exact hS0) ?_
    case hh52 => (intro w' hSw; obtain ⟨b0, b1, bl, -⟩ := HB.out _ hSw; go_simp; try (with_reducible rfl))
    simp only [Act.put, List.setIfInBounds_toArray, List.set_cons_zero, List.set_cons_succ]
    refine takeS_on (i := 2) 19 (v := ?hv53) rfl rfl (by kernel_rfl) (by kernel_rfl) (by kernel_rfl) (fun _ _ _ h => h) (by kernel_rfl) ?hh53 (by exact hS0) ?_
    case hh53 => (intro w' hSw; go_simp; try (with_reducible rfl))
    simp only [Act.put, List.setIfInBounds_toArray, List.set_cons_zero, List.set_cons_succ]
    refine takeS_on (i := 3) 20 (v := ?hv54) rfl rfl (by kernel_rfl) (by kernel_rfl) (by kernel_rfl) (fun _ _ _ h => h) (by kernel_rfl) ?hh54 (by exact hS0) ?_
    case hh54 => (intro w' hSw; obtain ⟨b0, b1, bl, -⟩ := HB.out _ hSw; go_simp; try (with_reducible rfl))
    simp only [Act.put, List.setIfInBounds_toArray, List.set_cons_zero, List.set_cons_succ]
    refine wpAnyH_ready (rs := [4]) (by kernel_rfl) (by simp) (AllReadyH.cons rfl (fun K hK => ?_) AllReadyH.nil)
    go_simp
    refine (CE.out _ (HB.out _ hS0).2.2.2).mono ?_
    rintro e wa ⟨ao, cap, rfl, ow, ga⟩
    have LA := hide (ow.lst.mono (fun _ _ _ => AnyB.it _) : Le wa (.slice ao m cap) l)
    have hS1 := Gr.trans hS0 ga
    clear ga ow
    refine hK.out _ _ (by exact hS1) (fun _ => ?_)
    clear hK K
    refine wpAnyH_ready (rs := [5]) (by kernel_rfl) (by simp) (AllReadyH.cons rfl (fun K hK => ?_) AllReadyH.nil)
    go_simp
    refine (CG.out _ ao cap LA.out).mono ?_
    rintro e wb ⟨ag, cg, rfl, l1, gb⟩
    rw [HGN.out] at l1 ⊢
    have L1 := hide l1
    clear l1
    have hS2 := Gr.trans hS1 gb
    clear gb LA
    refine hK.out _ _ (by exact hS2) (fun _ => ?_)
    clear hK K
    refine takeS_on (i := 6) 16 (v := ?hv55) rfl rfl (by kernel_rfl) (by kernel_rfl) (by kernel_rfl) (fun _ _ _ h => h) (by kernel_rfl) ?hh55 (by exact hS2) ?_
    case hh55 => (intro w' hSw; go_simp; try (with_reducible rfl))
    simp only [Act.put, List.setIfInBounds_toArray, List.set_cons_zero, List.set_cons_succ]
    refine takeS_on (i := 7) 23 (v := ?hv56) rfl rfl (by kernel_rfl) (by kernel_rfl) (by kernel_rfl) (fun _ _ _ h => h) (by kernel_rfl) ?hh56 (by exact hS2) ?_
    case hh56 => (intro w' hSw; go_simp; try (with_reducible rfl))
    simp only [Act.put, List.setIfInBounds_toArray, List.set_cons_zero, List.set_cons_succ]
    refine takeS_on (i := 8) 24 (v := ?hv57) rfl rfl (by kernel_rfl) (by kernel_rfl) (by kernel_rfl) (fun _ _ _ h => h) (by kernel_rfl) ?hh57 (by exact hS2) ?_
    case hh57 => (intro w' hSw; go_simp; try (with_reducible rfl))
    simp only [Act.put, List.setIfInBounds_toArray, List.set_cons_zero, List.set_cons_succ]
    refine takeS_on (i := 9) 7 (v := ?hv58) rfl rfl (by kernel_rfl) (by kernel_rfl) (by kernel_rfl) (fun _ _ _ h => h) (by kernel_rfl) ?hh58 (by exact hS2) ?_
    case hh58 => (intro w' hSw; go_simp; try (with_reducible rfl))
    simp only [Act.put, List.setIfInBounds_toArray, List.set_cons_zero, List.set_cons_succ]
    refine takeS_on (i := 10) 8 (v := ?hv59) rfl rfl (by kernel_rfl) (by kernel_rfl) (by kernel_rfl) (fun _ _ _ h => h) (by kernel_rfl) ?hh59 (by exact hS2) ?_
    case hh59 => (intro w' hSw; go_simp; try (with_reducible rfl))
    simp only [Act.put, List.setIfInBounds_toArray, List.set_cons_zero, List.set_cons_succ]
    refine wpAnyH_done (by kernel_rfl) ?_ _
    have G2 := hide hS2
    obtain ⟨b0, b1, bl, gw⟩ := HB.out _ hS2
    clear hS0 hS1 hS2 gw
    go_wp2_with fail
    clear b0 b1 bl
    have L1 := hide (L1.out.drew)
    have G2 := hide (Ch.drew G2.out)
    have hS0 := G2.out
    refine wp_region_held_drew (S := Gr A) (by kernel_rfl) (by exact hS0) (fun _ => ?_)
    generalize World.drew _ = V0 at hS0 L1 G2 ⊢
    refine takeS_on (i := 0) 48 (v := ?hv60) rfl rfl (by kernel_rfl) (by kernel_rfl) (by kernel_rfl) (fun _ _ _ h => h) (by kernel_rfl) ?hh60 (by exact hS0) ?_
    case hh60 => (intro w' hSw; go_simp; try (with_reducible rfl))
    simp only [Act.put, List.setIfInBounds_toArray, List.set_cons_zero, List.set_cons_succ]
    refine takeS_on (i := 1) 49 (v := ?hv61) rfl rfl (by kernel_rfl) (by kernel_rfl) (by kernel_rfl) (fun _ _ _ h => h) (by kernel_rfl) ?hh61 (by exact hS0) ?_
    case hh61 => (intro w' hSw; go_simp; try (with_reducible rfl))
    simp only [Act.put, List.setIfInBounds_toArray, List.set_cons_zero, List.set_cons_succ]
    refine takeS_on (i := 2) 50 (v := ?hv62) rfl rfl (by kernel_rfl) (by kernel_rfl) (by kernel_rfl) (fun _ _ _ h => h) (by kernel_rfl) ?hh62 (by exact hS0) ?_
    case hh62 => (intro w' hSw; go_simp; try (with_reducible rfl))
    simp only [Act.put, List.setIfInBounds_toArray, List.set_cons_zero, List.set_cons_succ]
    refine takeS_on (i := 3) 51 (v := ?hv63) rfl rfl (by kernel_rfl) (by kernel_rfl) (by kernel_rfl) (fun _ _ _ h => h) (by kernel_rfl) ?hh63 (by exact hS0) ?_
    case hh63 => (intro w' hSw; go_simp; try (with_reducible rfl))
    simp only [Act.put, List.setIfInBounds_toArray, List.set_cons_zero, List.set_cons_succ]
    refine takeS_on (i := 4) 52 (v := ?hv64) rfl rfl (by kernel_rfl) (by kernel_rfl) (by kernel_rfl) (fun _ _ _ h => h) (by kernel_rfl) ?hh64 (by exact hS0) ?_
    case hh64 => (intro w' hSw; go_simp; try (with_reducible rfl))
    simp only [Act.put, List.setIfInBounds_toArray, List.set_cons_zero, List.set_cons_succ]
    refine takeS_on (i := 5) 53 (v := ?hv65) rfl rfl (by kernel_rfl) (by kernel_rfl) (by kernel_rfl) (fun _ _ _ h => h) (by kernel_rfl) ?hh65 (by exact hS0) ?_
    case hh65 => (intro w' hSw; go_simp; try (with_reducible rfl))
    simp only [Act.put, List.setIfInBounds_toArray, List.set_cons_zero, List.set_cons_succ]
    refine takeS_on (i := 6) 54 (v := ?hv66) rfl rfl (by kernel_rfl) (by kernel_rfl) (by kernel_rfl) (fun _ _ _ h => h) (by kernel_rfl) ?hh66 (by exact hS0) ?_
    case hh66 => (intro w' hSw; go_simp; try (with_reducible rfl))
    simp only [Act.put, List.setIfInBounds_toArray, List.set_cons_zero, List.set_cons_succ]
    refine takeS_on (i := 7) 55 (v := ?hv67) rfl rfl (by kernel_rfl) (by kernel_rfl) (by kernel_rfl) (fun _ _ _ h => h) (by kernel_rfl) ?hh67 (by exact hS0) ?_
    case hh67 => (intro w' hSw; go_simp; try (with_reducible rfl))
    simp only [Act.put, List.setIfInBounds_toArray, List.set_cons_zero, List.set_cons_succ]
    refine takeS_on (i := 8) 56 (v := ?hv68) rfl rfl (by kernel_rfl) (by kernel_rfl) (by kernel_rfl) (fun _ _ _ h => h) (by kernel_rfl) ?hh68 (by exact hS0) ?_
    case hh68 => (intro w' hSw; go_simp; try (with_reducible rfl))
    simp only [Act.put, List.setIfInBounds_toArray, List.set_cons_zero, List.set_cons_succ]
    refine takeS_on (i := 9) 57 (v := ?hv69) rfl rfl (by kernel_rfl) (by kernel_rfl) (by kernel_rfl) (fun _ _ _ h => h) (by kernel_rfl) ?hh69 (by exact hS0) ?_
    case hh69 => (intro w' hSw; go_simp; try (with_reducible rfl))
    simp only [Act.put, List.setIfInBounds_toArray, List.set_cons_zero, List.set_cons_succ]
    refine takeS_on (i := 10) 58 (v := ?hv70) rfl rfl (by kernel_rfl) (by kernel_rfl) (by kernel_rfl) (fun _ _ _ h => h) (by kernel_rfl) ?hh70 (by exact hS0) ?_
    case hh70 => (intro w' hSw; go_simp; try (with_reducible rfl))
    simp only [Act.put, List.setIfInBounds_toArray, List.set_cons_zero, List.set_cons_succ]
    refine takeS_on (i := 11) 59 (v := ?hv71) rfl rfl (by kernel_rfl) (by kernel_rfl) (by kernel_rfl) (fun _ _ _ h => h) (by kernel_rfl) ?hh71 (by exact hS0) ?_
    case hh71 => (intro w' hSw; go_simp; try (with_reducible rfl))
    simp only [Act.put, List.setIfInBounds_toArray, List.set_cons_zero, List.set_cons_succ]
    refine takeS_on (i := 12) 60 (v := ?hv72) rfl rfl (by kernel_rfl) (by kernel_rfl) (by kernel_rfl) (fun _ _ _ h => h) (by kernel_rfl) ?hh72 (by exact hS0) ?_
    case hh72 => (intro w' hSw; go_simp; try (with_reducible rfl))
    simp only [Act.put, List.setIfInBounds_toArray, List.set_cons_zero, List.set_cons_succ]
    refine takeS_on (i := 13) 61 (v := ?hv73) rfl rfl (by kernel_rfl) (by kernel_rfl) (by kernel_rfl) (fun _ _ _ h => h) (by kernel_rfl) ?hh73 (by exact hS0) ?_
    case hh73 => (intro w' hSw; go_simp; try (with_reducible rfl))
    simp only [Act.put, List.setIfInBounds_toArray, List.set_cons_zero, List.set_cons_succ]
    refine takeS_on (i := 14) 1 (v := ?hv74) rfl rfl (by kernel_rfl) (by kernel_rfl) (by kernel_rfl) (fun _ _ _ h => h) (by kernel_rfl) ?hh74 (by exact hS0) ?_
    case hh74 => (intro w' hSw; go_simp; try (with_reducible rfl))
    simp only [Act.put, List.setIfInBounds_toArray, List.set_cons_zero, List.set_cons_succ]
    refine takeS_on (i := 15) 2 (v := ?hv75) rfl rfl (by kernel_rfl) (by kernel_rfl) (by kernel_rfl) (fun _ _ _ h => h) (by kernel_rfl) ?hh75 (by exact hS0) ?_
    case hh75 => (intro w' hSw; go_simp; try (with_reducible rfl))
    simp only [Act.put, List.setIfInBounds_toArray, List.set_cons_zero, List.set_cons_succ]
    refine wpAnyH_done (by kernel_rfl) ?_ _
    clear hS0 r1 r2 m1 m2 o1 o2 p1 p2 q1 q2 _hx _hy
    obtain ⟨b0, b1, bl, gw⟩ := HB.out _ G2.out
    go_wp2_with fail
    refine (CE.out _ gw).mono ?_
    rintro e w5a ⟨ao5, cap5, rfl, ow5, g5a⟩
    have L5 := hide (ow5.lst.mono (fun _ _ _ => AnyB.it _) : Le w5a (.slice ao5 m cap5) l)
    have G5a := hide (Gr.trans G2.out g5a)
    have K5a := hide g5a
    clear g5a ow5 b0 b1 bl gw
    go_wp2_with fail
    refine (CP.out _ ao5 cap5 L5.out X Y hX hY).mono ?_
    rintro e w5b ⟨rfl, g5b⟩
    have G5 := hide (Gr.trans G5a.out g5b)
    have K5 := hide (Gr.trans K5a.out g5b)
    clear g5b
    obtain ⟨b0, b1, bl, gw⟩ := HB.out _ G5.out
    go_wp2_with fail
    refine (CE.out _ gw).mono ?_
    rintro e w7a ⟨ao7, cap7, rfl, ow7, g7a⟩
    have L7 := hide (ow7.lst.mono (fun _ _ _ => AnyB.it _) : Le w7a (.slice ao7 m cap7) l)
    have G7a := hide (Gr.trans G5.out g7a)
    have K7a := hide g7a
    clear g7a ow7 b0 b1 bl gw
    go_wp2_with fail
    refine (CP.out _ ao7 cap7 L7.out Y X hY hX).mono ?_
    rintro e w7b ⟨rfl, g7b⟩
    have G7 := hide (Gr.trans G7a.out g7b)
    have K7 := hide (Gr.trans K7a.out g7b)
    clear g7b
    have L7 := hide (L1.out.gr (Gr.trans K5.out K7.out))
    obtain ⟨gq, oq, rfl, -, gqc, -⟩ := in_at L7.out HGX.out
    have HV := hide (show ∀ W, Gr w7b W → W.cell? ⟨gq, oq + X, none⟩ = some (.int .i64 gX) ∧ gq < W.heap.size ∧ W.cell? ⟨gq, oq + Y, none⟩ = some (.int .i64 gY) ∧ gq < W.heap.size from fun W k => by
      obtain ⟨g1, o1, e1, a1, a2, a3⟩ := in_at (L7.out.gr k) HGX.out
      obtain ⟨g2, o2, e2, c1, c2, c3⟩ := in_at (L7.out.gr k) HGY.out
      injection e1 with e1
      injection e1 with e1 e3
      injection e2 with e2
      injection e2 with e2 e4
      subst e1 e3 e2 e4
      exact ⟨a3, a1, c3, c1⟩)
    have hX0 : (0 : Int) ≤ (X : Int) := by omega
    have hX1 : (X : Int) < (N : Int) := by omega
    have hY0 : (0 : Int) ≤ (Y : Int) := by omega
    have hY1 : (Y : Int) < (N : Int) := by omega
    go_wp2_with fail
    have hS0 : Gr w7b (World.drew w7b) := Ch.drew (Gr.refl _)
    cases e1 : r X Y
    · have hq : (gX == gY) = false := by rw [HEQ.out, e1]; rfl
      refine wp_region_held_drew (S := Gr w7b) (by kernel_rfl) (by exact hS0) (fun _ => ?_)
      generalize World.drew _ = V0 at hS0 ⊢
      refine wpAnyH_ready (rs := [0]) (by kernel_rfl) (by simp) (AllReadyH.cons rfl (fun K hK => ?_) AllReadyH.nil)
      go_simp
      refine (lives_any _).mono ?_
      rintro e wl9 ⟨rfl, gl9⟩
      have hS1 := Gr.trans hS0 gl9
      clear gl9
      refine hK.out _ _ (by exact hS1) (fun _ => ?_)
      clear hK K
      refine takeS_on (i := 1) 83 (v := ?hv76) rfl rfl (by kernel_rfl) (by kernel_rfl) (by kernel_rfl) (fun _ _ _ h => h) (by kernel_rfl) ?hh76 (by exact hS1) ?_
      case hh76 => (intro w' hSw; go_simp; try (with_reducible rfl))
      simp only [Act.put, List.setIfInBounds_toArray, List.set_cons_zero, List.set_cons_succ]
      refine takeS_on (i := 2) 84 (v := ?hv77) rfl rfl (by kernel_rfl) (by kernel_rfl) (by kernel_rfl) (fun _ _ _ h => h) (by kernel_rfl) ?hh77 (by exact hS1) ?_
      case hh77 => (intro w' hSw; go_simp; try (with_reducible rfl))
      simp only [Act.put, List.setIfInBounds_toArray, List.set_cons_zero, List.set_cons_succ]
      refine takeS_on (i := 3) 85 (v := ?hv78) rfl rfl (by kernel_rfl) (by kernel_rfl) (by kernel_rfl) (fun _ _ _ h => h) (by kernel_rfl) ?hh78 (by exact hS1) ?_
      case hh78 => (intro w' hSw; go_simp; try (with_reducible rfl))
      simp only [Act.put, List.setIfInBounds_toArray, List.set_cons_zero, List.set_cons_succ]
      refine takeS_on (i := 4) 86 (v := ?hv79) rfl rfl (by kernel_rfl) (by kernel_rfl) (by kernel_rfl) (fun _ _ _ h => h) (by kernel_rfl) ?hh79 (by exact hS1) ?_
      case hh79 => (intro w' hSw; go_simp; try (with_reducible rfl))
      simp only [Act.put, List.setIfInBounds_toArray, List.set_cons_zero, List.set_cons_succ]
      refine takeS_on (i := 5) 87 (v := ?hv80) rfl rfl (by kernel_rfl) (by kernel_rfl) (by kernel_rfl) (fun _ _ _ h => h) (by kernel_rfl) ?hh80 (by exact hS1) ?_
      case hh80 => (intro w' hSw; go_simp; try (with_reducible rfl))
      simp only [Act.put, List.setIfInBounds_toArray, List.set_cons_zero, List.set_cons_succ]
      refine takeS_on (i := 6) 88 (v := ?hv81) rfl rfl (by kernel_rfl) (by kernel_rfl) (by kernel_rfl) (fun _ _ _ h => h) (by kernel_rfl) ?hh81 (by exact hS1) ?_
      case hh81 => (intro w' hSw; go_simp; try (with_reducible rfl))
      simp only [Act.put, List.setIfInBounds_toArray, List.set_cons_zero, List.set_cons_succ]
      refine takeS_on (i := 7) 89 (v := ?hv82) rfl rfl (by kernel_rfl) (by kernel_rfl) (by kernel_rfl) (fun _ _ _ h => h) (by kernel_rfl) ?hh82 (by exact hS1) ?_
      case hh82 => (intro w' hSw; go_simp; try (with_reducible rfl))
      simp only [Act.put, List.setIfInBounds_toArray, List.set_cons_zero, List.set_cons_succ]
      refine takeS_on (i := 8) 90 (v := ?hv83) rfl rfl (by kernel_rfl) (by kernel_rfl) (by kernel_rfl) (fun _ _ _ h => h) (by kernel_rfl) ?hh83 (by exact hS1) ?_
      case hh83 => (intro w' hSw; go_simp; try (with_reducible rfl))
      simp only [Act.put, List.setIfInBounds_toArray, List.set_cons_zero, List.set_cons_succ]
      refine takeS_on (i := 9) 91 (v := ?hv84) rfl rfl (by kernel_rfl) (by kernel_rfl) (by kernel_rfl) (fun _ _ _ h => h) (by kernel_rfl) ?hh84 (by exact hS1) ?_
      case hh84 => (intro w' hSw; go_simp; try (with_reducible rfl))
      simp only [Act.put, List.setIfInBounds_toArray, List.set_cons_zero, List.set_cons_succ]
      refine takeS_on (i := 10) 92 (v := ?hv85) rfl rfl (by kernel_rfl) (by kernel_rfl) (by kernel_rfl) (fun _ _ _ h => h) (by kernel_rfl) ?hh85 (by exact hS1) ?_
      case hh85 => (intro w' hSw; go_simp; try (with_reducible rfl))
      simp only [Act.put, List.setIfInBounds_toArray, List.set_cons_zero, List.set_cons_succ]
      refine takeS_on (i := 11) 93 (v := ?hv86) rfl rfl (by kernel_rfl) (by kernel_rfl) (by kernel_rfl) (fun _ _ _ h => h) (by kernel_rfl) ?hh86 (by exact hS1) ?_
      case hh86 => (intro w' hSw; obtain ⟨v0, vl, v1, wl⟩ := HV.out _ hSw; go_simp; try (with_reducible rfl))
      simp only [Act.put, List.setIfInBounds_toArray, List.set_cons_zero, List.set_cons_succ]
      refine takeS_on (i := 12) 94 (v := ?hv87) rfl rfl (by kernel_rfl) (by kernel_rfl) (by kernel_rfl) (fun _ _ _ h => h) (by kernel_rfl) ?hh87 (by exact hS1) ?_
      case hh87 => (intro w' hSw; go_simp; try (with_reducible rfl))
      simp only [Act.put, List.setIfInBounds_toArray, List.set_cons_zero, List.set_cons_succ]
      refine takeS_on (i := 13) 95 (v := ?hv88) rfl rfl (by kernel_rfl) (by kernel_rfl) (by kernel_rfl) (fun _ _ _ h => h) (by kernel_rfl) ?hh88 (by exact hS1) ?_
      case hh88 => (intro w' hSw; go_simp; try (with_reducible rfl))
      simp only [Act.put, List.setIfInBounds_toArray, List.set_cons_zero, List.set_cons_succ]
      refine takeS_on (i := 14) 96 (v := ?hv89) rfl rfl (by kernel_rfl) (by kernel_rfl) (by kernel_rfl) (fun _ _ _ h => h) (by kernel_rfl) ?hh89 (by exact hS1) ?_
      case hh89 => (intro w' hSw; go_simp; try (with_reducible rfl))
      simp only [Act.put, List.setIfInBounds_toArray, List.set_cons_zero, List.set_cons_succ]
      refine takeS_on (i := 15) 97 (v := ?hv90) rfl rfl (by kernel_rfl) (by kernel_rfl) (by kernel_rfl) (fun _ _ _ h => h) (by kernel_rfl) ?hh90 (by exact hS1) ?_
      case hh90 => (intro w' hSw; obtain ⟨v0, vl, v1, wl⟩ := HV.out _ hSw; go_simp; try (with_reducible rfl))
      simp only [Act.put, List.setIfInBounds_toArray, List.set_cons_zero, List.set_cons_succ]
      refine takeS_on (i := 16) 98 (v := ?hv91) rfl rfl (by kernel_rfl) (by kernel_rfl) (by kernel_rfl) (fun _ _ _ h => h) (by kernel_rfl) ?hh91 (by exact hS1) ?_
      case hh91 => (intro w' hSw; go_simp; try (with_reducible rfl))
      simp only [Act.put, List.setIfInBounds_toArray, List.set_cons_zero, List.set_cons_succ]
      refine takeS_on (i := 17) 99 (v := ?hv92) rfl rfl (by kernel_rfl) (by kernel_rfl) (by kernel_rfl) (fun _ _ _ h => h) (by kernel_rfl) ?hh92 (by exact hS1) ?_
      case hh92 => (intro w' hSw; go_simp; try (with_reducible rfl))
      simp only [Act.put, List.setIfInBounds_toArray, List.set_cons_zero, List.set_cons_succ]
      refine takeS_on (i := 18) 100 (v := ?hv93) rfl rfl (by kernel_rfl) (by kernel_rfl) (by kernel_rfl) (fun _ _ _ h => h) (by kernel_rfl) ?hh93 (by exact hS1) ?_
      case hh93 => (intro w' hSw; go_simp; try (with_reducible rfl))
      simp only [Act.put, List.setIfInBounds_toArray, List.set_cons_zero, List.set_cons_succ]
      refine skipS_on (i := 19) 101 rfl rfl (by kernel_rfl) (by kernel_rfl) (by kernel_rfl) (fun _ _ _ h => h) (by kernel_rfl) (by exact hS1) ?_
      simp only [Act.put, List.setIfInBounds_toArray, List.set_cons_zero, List.set_cons_succ]
      refine takeS_on (i := 20) 102 (v := ?hv95) rfl rfl (by kernel_rfl) (by kernel_rfl) (by kernel_rfl) (fun _ _ _ h => h) (by kernel_rfl) ?hh95 (by exact hS1) ?_
      case hh95 => (intro w' hSw; go_simp; try (with_reducible rfl))
      simp only [Act.put, List.setIfInBounds_toArray, List.set_cons_zero, List.set_cons_succ]
      refine takeS_on (i := 21) 103 (v := ?hv96) rfl rfl (by kernel_rfl) (by kernel_rfl) (by kernel_rfl) (fun _ _ _ h => h) (by kernel_rfl) ?hh96 (by exact hS1) ?_
      case hh96 => (intro w' hSw; go_simp; try (with_reducible rfl))
      simp only [Act.put, List.setIfInBounds_toArray, List.set_cons_zero, List.set_cons_succ]
      refine takeS_on (i := 22) 104 (v := ?hv97) rfl rfl (by kernel_rfl) (by kernel_rfl) (by kernel_rfl) (fun _ _ _ h => h) (by kernel_rfl) ?hh97 (by exact hS1) ?_
      case hh97 => (intro w' hSw; go_simp; try (with_reducible rfl))
      simp only [Act.put, List.setIfInBounds_toArray, List.set_cons_zero, List.set_cons_succ]
      refine takeS_on (i := 23) 6 (v := ?hv98) rfl rfl (by kernel_rfl) (by kernel_rfl) (by kernel_rfl) (fun _ _ _ h => h) (by kernel_rfl) ?hh98 (by exact hS1) ?_
      case hh98 => (intro w' hSw; go_simp; try (with_reducible rfl))
      simp only [Act.put, List.setIfInBounds_toArray, List.set_cons_zero, List.set_cons_succ]
      refine wpAnyH_done (by kernel_rfl) ?_ _
      have GE := hide (Gr.trans (HB.out _ G7.out).2.2.2 hS1)
      clear hS0 hS1
      go_wp2
      go_ret
      exact ⟨rfl, GE.out⟩
    · have hq : (gX == gY) = r Y X := by rw [HEQ.out, e1]; rfl
      refine wp_region_held_drew (S := Gr w7b) (by kernel_rfl) (by exact hS0) (fun _ => ?_)
      generalize World.drew _ = V0 at hS0 ⊢
      refine wpAnyH_ready (rs := [0]) (by kernel_rfl) (by simp) (AllReadyH.cons rfl (fun K hK => ?_) AllReadyH.nil)
      go_simp
      refine (lives_any _).mono ?_
      rintro e wl9 ⟨rfl, gl9⟩
      have hS1 := Gr.trans hS0 gl9
      clear gl9
      refine hK.out _ _ (by exact hS1) (fun _ => ?_)
      clear hK K
      refine takeS_on (i := 1) 83 (v := ?hv99) rfl rfl (by kernel_rfl) (by kernel_rfl) (by kernel_rfl) (fun _ _ _ h => h) (by kernel_rfl) ?hh99 (by exact hS1) ?_
      case hh99 => (intro w' hSw; go_simp; try (with_reducible rfl))
      simp only [Act.put, List.setIfInBounds_toArray, List.set_cons_zero, List.set_cons_succ]
      refine takeS_on (i := 2) 84 (v := ?hv100) rfl rfl (by kernel_rfl) (by kernel_rfl) (by kernel_rfl) (fun _ _ _ h => h) (by kernel_rfl) ?hh100 (by exact hS1) ?_
      case hh100 => (intro w' hSw; go_simp; try (with_reducible rfl))
      simp only [Act.put, List.setIfInBounds_toArray, List.set_cons_zero, List.set_cons_succ]
      refine takeS_on (i := 3) 85 (v := ?hv101) rfl rfl (by kernel_rfl) (by kernel_rfl) (by kernel_rfl) (fun _ _ _ h => h) (by kernel_rfl) ?hh101 (by exact hS1) ?_
      case hh101 => (intro w' hSw; go_simp; try (with_reducible rfl))
      simp only [Act.put, List.setIfInBounds_toArray, List.set_cons_zero, List.set_cons_succ]
      refine takeS_on (i := 4) 86 (v := ?hv102) rfl rfl (by kernel_rfl) (by kernel_rfl) (by kernel_rfl) (fun _ _ _ h => h) (by kernel_rfl) ?hh102 (by exact hS1) ?_
      case hh102 => (intro w' hSw; go_simp; try (with_reducible rfl))
      simp only [Act.put, List.setIfInBounds_toArray, List.set_cons_zero, List.set_cons_succ]
      refine takeS_on (i := 5) 87 (v := ?hv103) rfl rfl (by kernel_rfl) (by kernel_rfl) (by kernel_rfl) (fun _ _ _ h => h) (by kernel_rfl) ?hh103 (by exact hS1) ?_
      case hh103 => (intro w' hSw; go_simp; try (with_reducible rfl))
      simp only [Act.put, List.setIfInBounds_toArray, List.set_cons_zero, List.set_cons_succ]
      refine takeS_on (i := 6) 88 (v := ?hv104) rfl rfl (by kernel_rfl) (by kernel_rfl) (by kernel_rfl) (fun _ _ _ h => h) (by kernel_rfl) ?hh104 (by exact hS1) ?_
      case hh104 => (intro w' hSw; go_simp; try (with_reducible rfl))
      simp only [Act.put, List.setIfInBounds_toArray, List.set_cons_zero, List.set_cons_succ]
      refine takeS_on (i := 7) 89 (v := ?hv105) rfl rfl (by kernel_rfl) (by kernel_rfl) (by kernel_rfl) (fun _ _ _ h => h) (by kernel_rfl) ?hh105 (by exact hS1) ?_
      case hh105 => (intro w' hSw; go_simp; try (with_reducible rfl))
      simp only [Act.put, List.setIfInBounds_toArray, List.set_cons_zero, List.set_cons_succ]
      refine takeS_on (i := 8) 90 (v := ?hv106) rfl rfl (by kernel_rfl) (by kernel_rfl) (by kernel_rfl) (fun _ _ _ h => h) (by kernel_rfl) ?hh106 (by exact hS1) ?_
      case hh106 => (intro w' hSw; go_simp; try (with_reducible rfl))
      simp only [Act.put, List.setIfInBounds_toArray, List.set_cons_zero, List.set_cons_succ]
      refine takeS_on (i := 9) 91 (v := ?hv107) rfl rfl (by kernel_rfl) (by kernel_rfl) (by kernel_rfl) (fun _ _ _ h => h) (by kernel_rfl) ?hh107 (by exact hS1) ?_
      case hh107 => (intro w' hSw; go_simp; try (with_reducible rfl))
      simp only [Act.put, List.setIfInBounds_toArray, List.set_cons_zero, List.set_cons_succ]
      refine takeS_on (i := 10) 92 (v := ?hv108) rfl rfl (by kernel_rfl) (by kernel_rfl) (by kernel_rfl) (fun _ _ _ h => h) (by kernel_rfl) ?hh108 (by exact hS1) ?_
      case hh108 => (intro w' hSw; go_simp; try (with_reducible rfl))
      simp only [Act.put, List.setIfInBounds_toArray, List.set_cons_zero, List.set_cons_succ]
      refine takeS_on (i := 11) 93 (v := ?hv109) rfl rfl (by kernel_rfl) (by kernel_rfl) (by kernel_rfl) (fun _ _ _ h => h) (by kernel_rfl) ?hh109 (by exact hS1) ?_
      case hh109 => (intro w' hSw; obtain ⟨v0, vl, v1, wl⟩ := HV.out _ hSw; go_simp; try (with_reducible rfl))
      simp only [Act.put, List.setIfInBounds_toArray, List.set_cons_zero, List.set_cons_succ]
      refine takeS_on (i := 12) 94 (v := ?hv110) rfl rfl (by kernel_rfl) (by kernel_rfl) (by kernel_rfl) (fun _ _ _ h => h) (by kernel_rfl) ?hh110 (by exact hS1) ?_
      case hh110 => (intro w' hSw; go_simp; try (with_reducible rfl))
      simp only [Act.put, List.setIfInBounds_toArray, List.set_cons_zero, List.set_cons_succ]
      refine takeS_on (i := 13) 95 (v := ?hv111) rfl rfl (by kernel_rfl) (by kernel_rfl) (by kernel_rfl) (fun _ _ _ h => h) (by kernel_rfl) ?hh111 (by exact hS1) ?_
      case hh111 => (intro w' hSw; go_simp; try (with_reducible rfl))
      simp only [Act.put, List.setIfInBounds_toArray, List.set_cons_zero, List.set_cons_succ]
      refine takeS_on (i := 14) 96 (v := ?hv112) rfl rfl (by kernel_rfl) (by kernel_rfl) (by kernel_rfl) (fun _ _ _ h => h) (by kernel_rfl) ?hh112 (by exact hS1) ?_
      case hh112 => (intro w' hSw; go_simp; try (with_reducible rfl))
      simp only [Act.put, List.setIfInBounds_toArray, List.set_cons_zero, List.set_cons_succ]
      refine takeS_on (i := 15) 97 (v := ?hv113) rfl rfl (by kernel_rfl) (by kernel_rfl) (by kernel_rfl) (fun _ _ _ h => h) (by kernel_rfl) ?hh113 (by exact hS1) ?_
      case hh113 => (intro w' hSw; obtain ⟨v0, vl, v1, wl⟩ := HV.out _ hSw; go_simp; try (with_reducible rfl))
      simp only [Act.put, List.setIfInBounds_toArray, List.set_cons_zero, List.set_cons_succ]
      refine takeS_on (i := 16) 98 (v := ?hv114) rfl rfl (by kernel_rfl) (by kernel_rfl) (by kernel_rfl) (fun _ _ _ h => h) (by kernel_rfl) ?hh114 (by exact hS1) ?_
      case hh114 => (intro w' hSw; go_simp; try (with_reducible rfl))
      simp only [Act.put, List.setIfInBounds_toArray, List.set_cons_zero, List.set_cons_succ]
      refine takeS_on (i := 17) 99 (v := ?hv115) rfl rfl (by kernel_rfl) (by kernel_rfl) (by kernel_rfl) (fun _ _ _ h => h) (by kernel_rfl) ?hh115 (by exact hS1) ?_
      case hh115 => (intro w' hSw; go_simp; try (with_reducible rfl))
      simp only [Act.put, List.setIfInBounds_toArray, List.set_cons_zero, List.set_cons_succ]
      refine takeS_on (i := 18) 100 (v := ?hv116) rfl rfl (by kernel_rfl) (by kernel_rfl) (by kernel_rfl) (fun _ _ _ h => h) (by kernel_rfl) ?hh116 (by exact hS1) ?_
      case hh116 => (intro w' hSw; go_simp; try (with_reducible rfl))
      simp only [Act.put, List.setIfInBounds_toArray, List.set_cons_zero, List.set_cons_succ]
      refine takeS_on (i := 19) 101 (v := ?hv117) rfl rfl (by kernel_rfl) (by kernel_rfl) (by kernel_rfl) (fun _ _ _ h => h) (by kernel_rfl) ?hh117 (by exact hS1) ?_
      case hh117 => (intro w' hSw; go_simp; try (with_reducible rfl))
      simp only [Act.put, List.setIfInBounds_toArray, List.set_cons_zero, List.set_cons_succ]
      refine takeS_on (i := 20) 102 (v := ?hv118) rfl rfl (by kernel_rfl) (by kernel_rfl) (by kernel_rfl) (fun _ _ _ h => h) (by kernel_rfl) ?hh118 (by exact hS1) ?_
      case hh118 => (intro w' hSw; go_simp; try (with_reducible rfl))
      simp only [Act.put, List.setIfInBounds_toArray, List.set_cons_zero, List.set_cons_succ]
      refine takeS_on (i := 21) 103 (v := ?hv119) rfl rfl (by kernel_rfl) (by kernel_rfl) (by kernel_rfl) (fun _ _ _ h => h) (by kernel_rfl) ?hh119 (by exact hS1) ?_
      case hh119 => (intro w' hSw; go_simp; try (with_reducible rfl))
      simp only [Act.put, List.setIfInBounds_toArray, List.set_cons_zero, List.set_cons_succ]
      refine takeS_on (i := 22) 104 (v := ?hv120) rfl rfl (by kernel_rfl) (by kernel_rfl) (by kernel_rfl) (fun _ _ _ h => h) (by kernel_rfl) ?hh120 (by exact hS1) ?_
      case hh120 => (intro w' hSw; go_simp; try (with_reducible rfl))
      simp only [Act.put, List.setIfInBounds_toArray, List.set_cons_zero, List.set_cons_succ]
      refine takeS_on (i := 23) 6 (v := ?hv121) rfl rfl (by kernel_rfl) (by kernel_rfl) (by kernel_rfl) (fun _ _ _ h => h) (by kernel_rfl) ?hh121 (by exact hS1) ?_
      case hh121 => (intro w' hSw; go_simp; try (with_reducible rfl))
      simp only [Act.put, List.setIfInBounds_toArray, List.set_cons_zero, List.set_cons_succ]
      refine wpAnyH_done (by kernel_rfl) ?_ _
      have GE := hide (Gr.trans (HB.out _ G7.out).2.2.2 hS1)
      clear hS0 hS1
      go_wp2
      go_ret
      exact ⟨rfl, GE.out⟩
  · have hI : grpI n l = [] := if_neg (by rw [HNL.out]; exact h0)
    rw [hI] at CG
    generalize (chkP n l).1 = place at *
    generalize (chkP n l).2 = E at *
    have hne : (E != 0) = true := by simpa using h0
    clear h h0 HNL hI
    go_enter Try.func3, Try.ntmps3
    go_wp2_with fail
    rw [← hA]
    clear hA
    have hS0 : Gr A (World.drew A) := Ch.drew (Gr.refl _)
    refine wp_region_held_drew (S := Gr A) (by kernel_rfl) (by exact hS0) (fun _ => ?_)
    generalize World.drew _ = V0 at hS0 ⊢
    refine takeS_on (i := 0) 17 (v := ?hv122) rfl rfl (by kernel_rfl) (by kernel_rfl) (by kernel_rfl) (fun _ _ _ h => h) (by kernel_rfl) ?hh122 (by exact hS0) ?_
    case hh122 => (intro w' hSw; go_simp; try (with_reducible rfl))
    simp only [Act.put, List.setIfInBounds_toArray, List.set_cons_zero, List.set_cons_succ]
    refine takeS_on (i := 1) 18 (v := ?hv123) rfl rfl (by kernel_rfl) (by kernel_rfl) (by kernel_rfl) (fun _ _ _ h => h) (by kernel_rfl) ?hh123 (by exact hS0) ?_
    case hh123 => (intro w' hSw; obtain ⟨b0, b1, bl, -⟩ := HB.out _ hSw; go_simp; try (with_reducible rfl))
    simp only [Act.put, List.setIfInBounds_toArray, List.set_cons_zero, List.set_cons_succ]
    refine takeS_on (i := 2) 19 (v := ?hv124) rfl rfl (by kernel_rfl) (by kernel_rfl) (by kernel_rfl) (fun _ _ _ h => h) (by kernel_rfl) ?hh124 (by exact hS0) ?_
    case hh124 => (intro w' hSw; go_simp; try (with_reducible rfl))
    simp only [Act.put, List.setIfInBounds_toArray, List.set_cons_zero, List.set_cons_succ]
    refine takeS_on (i := 3) 20 (v := ?hv125) rfl rfl (by kernel_rfl) (by kernel_rfl) (by kernel_rfl) (fun _ _ _ h => h) (by kernel_rfl) ?hh125 (by exact hS0) ?_
    case hh125 => (intro w' hSw; obtain ⟨b0, b1, bl, -⟩ := HB.out _ hSw; go_simp; try (with_reducible rfl))
    simp only [Act.put, List.setIfInBounds_toArray, List.set_cons_zero, List.set_cons_succ]
    refine wpAnyH_ready (rs := [4]) (by kernel_rfl) (by simp) (AllReadyH.cons rfl (fun K hK => ?_) AllReadyH.nil)
    go_simp
    refine (CE.out _ (HB.out _ hS0).2.2.2).mono ?_
    rintro e wa ⟨ao, cap, rfl, ow, ga⟩
    have LA := hide (ow.lst.mono (fun _ _ _ => AnyB.it _) : Le wa (.slice ao m cap) l)
    have hS1 := Gr.trans hS0 ga
    clear ga ow
    refine hK.out _ _ (by exact hS1) (fun _ => ?_)
    clear hK K
    refine wpAnyH_ready (rs := [5]) (by kernel_rfl) (by simp) (AllReadyH.cons rfl (fun K hK => ?_) AllReadyH.nil)
    go_simp
    refine (CG.out _ ao cap LA.out).mono ?_
    rintro e wb ⟨ag, cg, rfl, l1, gb⟩
    clear l1
    have hS2 := Gr.trans hS1 gb
    clear gb LA
    refine hK.out _ _ (by exact hS2) (fun _ => ?_)
    clear hK K
    refine takeS_on (i := 6) 16 (v := ?hv126) rfl rfl (by kernel_rfl) (by kernel_rfl) (by kernel_rfl) (fun _ _ _ h => h) (by kernel_rfl) ?hh126 (by exact hS2) ?_
    case hh126 => (intro w' hSw; go_simp; try (with_reducible rfl))
    simp only [Act.put, List.setIfInBounds_toArray, List.set_cons_zero, List.set_cons_succ]
    refine takeS_on (i := 7) 23 (v := ?hv127) rfl rfl (by kernel_rfl) (by kernel_rfl) (by kernel_rfl) (fun _ _ _ h => h) (by kernel_rfl) ?hh127 (by exact hS2) ?_
    case hh127 => (intro w' hSw; go_simp; try (with_reducible rfl))
    simp only [Act.put, List.setIfInBounds_toArray, List.set_cons_zero, List.set_cons_succ]
    refine takeS_on (i := 8) 24 (v := ?hv128) rfl rfl (by kernel_rfl) (by kernel_rfl) (by kernel_rfl) (fun _ _ _ h => h) (by kernel_rfl) ?hh128 (by exact hS2) ?_
    case hh128 => (intro w' hSw; go_simp; try (with_reducible rfl))
    simp only [Act.put, List.setIfInBounds_toArray, List.set_cons_zero, List.set_cons_succ]
    refine takeS_on (i := 9) 7 (v := ?hv129) rfl rfl (by kernel_rfl) (by kernel_rfl) (by kernel_rfl) (fun _ _ _ h => h) (by kernel_rfl) ?hh129 (by exact hS2) ?_
    case hh129 => (intro w' hSw; go_simp; try (with_reducible rfl))
    simp only [Act.put, List.setIfInBounds_toArray, List.set_cons_zero, List.set_cons_succ]
    refine takeS_on (i := 10) 8 (v := ?hv130) rfl rfl (by kernel_rfl) (by kernel_rfl) (by kernel_rfl) (fun _ _ _ h => h) (by kernel_rfl) ?hh130 (by exact hS2) ?_
    case hh130 => (intro w' hSw; go_simp; try (with_reducible rfl))
    simp only [Act.put, List.setIfInBounds_toArray, List.set_cons_zero, List.set_cons_succ]
    refine wpAnyH_done (by kernel_rfl) ?_ _
    have G2 := hide hS2
    obtain ⟨b0, b1, bl, gw⟩ := HB.out _ hS2
    have GW := hide gw
    clear hS0 hS1 hS2 gw
    go_wp2_with fail
    refine (CR.out _ GW.out).mono ?_
    rintro e w3 ⟨rfl, g3⟩
    have G3 := hide (Gr.trans GW.out g3)
    clear g3 b0 b1 bl
    go_wp2_with fail
    refine (lives_any _).mono ?_
    rintro e w4 ⟨rfl, g4⟩
    have G4 := hide (Gr.trans G3.out g4)
    clear g4
    go_wp2
    go_ret
    exact ⟨rfl, G4.out⟩
end Go.Proofs.Ytcoaefojamhloab.Lt
