/-
  The statement PortOneWay, walked: it returns true. Condition: the list is there.
-/
import Derived.Test.YtnpbehcfbceclaaPoCall
import Derived.Test.YtnpbehcfbceclaaPoPortS
namespace Go.Proofs.Ytnpbehcfbceclaa.Lt
open Go.RowKit Wd
attribute [local go_sem ↓] Go.wp_at_zero Go.wp_at_succ
set_option maxRecDepth 20000

/-- what is put is the same -/
structure So (x y : Pt) : Prop where
  q : x.q = y.q
  c : x.cap = y.cap
  o : x.out = y.out
theorem So.put {x y : Pt} (h : So x y) (v : Int) : (putP x v).2 = (putP y v).2 ∧ So (putP x v).1 (putP y v).1 := by
  unfold putP
  by_cases hq : x.q = true
  · have hy : y.q = true := h.q ▸ hq
    rw [if_pos hq, if_pos hy]
    by_cases hf : x.out.length = x.cap
    · rw [if_pos hf, if_pos (by rw [← h.o, ← h.c]; exact hf)]
      exact ⟨rfl, h⟩
    · rw [if_neg hf, if_neg (by rw [← h.o, ← h.c]; exact hf)]
      exact ⟨rfl, h.q, h.c, by show x.out ++ [v] = y.out ++ [v]; rw [h.o]⟩
  · rw [if_neg hq, if_neg (h.q ▸ hq)]
    exact ⟨rfl, h.q, h.c, rfl⟩
theorem So.getl {x y : Pt} (h : So x y) : So (getP x) y := by
  unfold getP
  split
  · exact ⟨h.q, h.c, h.o⟩
  · exact h
theorem So.dlv {x y : Pt} (h : So x y) : So (dlvP x) (dlvP y) := by
  unfold dlvP
  by_cases hq : x.q = true
  · rw [if_pos hq, if_pos (h.q ▸ hq)]
    exact ⟨h.q, h.c, rfl⟩
  · rw [if_neg hq, if_neg (h.q ▸ hq)]
    exact ⟨h.q, h.c, rfl⟩
/-- the second list of a state's value -/
theorem fld_out (b : Bool) (n l : Int) (a1 : Option Addr) (m1 c1 : Nat) (v2 : Value) (W : World) : (Instr.field 32 (.agg #[.bool b, .int .i64 n, .slice a1 m1 c1, v2, .int .i64 l]) 2).run Try.prog W = .ok (.slice a1 m1 c1) W := by
  kernel_rfl
/-- a call's value, while others turn what is theirs -/
structure Ux (w : World) (P : Nat → Prop) (v : Value) (xs : List Ac) (p : Addr) (u : Int) (W : World) : Prop where
  f : ∀ W', Gr w W' → W'.cell? p = some (.int .i64 u) ∧ p.block < W'.heap.size
  c : W.cell? p = some (.int .i64 u)
  l : p.block < W.heap.size
theorem Ux.gr {w : World} {P : Nat → Prop} {v : Value} {xs : List Ac} {p : Addr} {u : Int} {W : World} (h : Ux w P v xs p u W) (W' : World) (g : Gr w W') : Ux w P v xs p u W' := ⟨h.f, (h.f W' g).1, (h.f W' g).2⟩
set_option maxHeartbeats 8000000 in
theorem oneway_walk {P : Nat → Prop} (w : World) (q : Bool) (c : Int) (ao : Option Addr) (n ca : Nat) (xs : List Ac) (hx : Ls eC P w (.slice ao n ca) xs) (hn : n ≤ 70368744177664) :
    Calls Try.prog 5 #[.agg #[.bool q, .int .i64 c], .slice ao n ca] w fun e w' => e = .returned (.bool true) ∧ Gr w w' := by
  have hS0 : Bx w.heap.size q c (World.drew (w.alloc (.cells #[.bool q, .int .i64 c] 23))) := ⟨al_at (w := w) _ rfl⟩
  have GV := hid (Ch.drew (Ch.alloc (Gr.refl w) (.cells #[.bool q, .int .i64 c] 23)))
  have HX := hid (show ∀ W, Gr w W → Ls eC P W (.slice ao n ca) xs from fun W g => hx.gr g)
  have HXL := hid hx.len.1
  have LV := hid lives_any
  clear hx
  go_enter Try.func5, Try.ntmps5
  go_wp2_with fail
  refine wp_region_held_drew (S := Bx w.heap.size q c) (by kernel_rfl) (by exact hS0) (fun _ => ?_)
  generalize World.drew (w.alloc (.cells #[.bool q, .int .i64 c] 23)) = V0 at hS0 GV ⊢
  refine takeS_on (i := 0) 11 (v := ?hv1) rfl rfl (by kernel_rfl) (by kernel_rfl) (by kernel_rfl) (fun _ _ _ h => h) (by kernel_rfl) ?hh1 (by exact hS0) ?_
  case hh1 => (intro w' hSw; have b0 := cell_of hSw.b 0; have b1 := cell_of hSw.b 1; simp at b0 b1; have bl := lt_of_block hSw.b; go_simp; try (with_reducible rfl))
  simp only [Act.put, List.setIfInBounds_toArray, List.set_cons_zero, List.set_cons_succ]
  refine takeS_on (i := 2) 13 (v := ?hv2) rfl rfl (by kernel_rfl) (by kernel_rfl) (by kernel_rfl) (fun _ _ _ h => h) (by kernel_rfl) ?hh2 (by exact hS0) ?_
  case hh2 => (intro w' hSw; have b0 := cell_of hSw.b 0; have b1 := cell_of hSw.b 1; simp at b0 b1; have bl := lt_of_block hSw.b; go_simp; try (with_reducible rfl))
  simp only [Act.put, List.setIfInBounds_toArray, List.set_cons_zero, List.set_cons_succ]
  refine wpAnyH_ready (rs := [1]) (by kernel_rfl) (by simp) (AllReadyH.cons rfl (fun K hK => ?_) AllReadyH.nil)
  go_simp
  refine (made_any q c V0).mono ?_
  rintro e w1 ⟨p1, rfl, m1⟩
  have N1 := hid ((m1.lower GV.out).nw (shp_ok q c))
  have hS1 := hS0.gr m1.2
  clear m1
  refine hK.out _ _ (by exact hS1) (fun _ => ?_)
  clear hK K
  refine wpAnyH_ready (rs := [3]) (by kernel_rfl) (by simp) (AllReadyH.cons rfl (fun K hK => ?_) AllReadyH.nil)
  go_simp
  refine (made_any q c w1).mono ?_
  rintro e w2 ⟨p2, rfl, m2⟩
  have T2 := hid (N2.of N1.out m2 (shp_ok q c))
  have hS2 := hS1.gr m2.2
  clear m2
  refine hK.out _ _ (by exact hS2) (fun _ => ?_)
  clear hK K
  refine takeS_on (i := 4) 5 (v := ?hv3) rfl rfl (by kernel_rfl) (by kernel_rfl) (by kernel_rfl) (fun _ _ _ h => h) (by kernel_rfl) ?hh3 (by exact hS2) ?_
  case hh3 => (intro w' hSw; go_simp; try (with_reducible rfl))
  simp only [Act.put, List.setIfInBounds_toArray, List.set_cons_zero, List.set_cons_succ]
  refine takeS_on (i := 5) 6 (v := ?hv4) rfl rfl (by kernel_rfl) (by kernel_rfl) (by kernel_rfl) (fun _ _ _ h => h) (by kernel_rfl) ?hh4 (by exact hS2) ?_
  case hh4 => (intro w' hSw; go_simp; try (with_reducible rfl))
  simp only [Act.put, List.setIfInBounds_toArray, List.set_cons_zero, List.set_cons_succ]
  refine wpAnyH_done (by kernel_rfl) ?_ _
  clear hS0 hS1 hS2
  go_wp2_with (refine callG (by kernel_rfl) 11 #[] _ rfl #[] (by kernel_rfl) (LV.out _) ?_; rintro e w3 ⟨rfl, g3⟩; have T3 := hid (T2.out.gr g3); clear g3; refine ⟨_, rfl, ?_⟩; simp only [Act.put, List.setIfInBounds_toArray, List.set_cons_zero, List.set_cons_succ])
  go_loopg [7] n (fun k9 i wr => ∃ (j : Nat) (x y : Pt), j + k9 = n ∧ i = .int .i64 (j : Int) ∧ N2 w wr p1 x p2 y ∧ So x y)
  case atStart => exact ⟨0, _, _, by omega, rfl, T3.out, rfl, rfl, rfl⟩
  case round =>
    obtain ⟨j, x, y, hjk, rfl, ht, hso⟩ := hrel
    obtain ⟨V, hV⟩ : ∃ W, W = wr := ⟨_, rfl⟩
    subst hV
    have TT := hid ht
    have HSO := hid hso
    have lx := HX.out _ ht.1
    clear ht hso
    by_cases hj : j < n
    · have hj' : (j : Int) < (n : Int) := by omega
      have hjx : xs[j]? = some (xs[j]'(by rw [← HXL.out]; exact hj)) := List.getElem?_eq_getElem _
      generalize xs[j]'(by rw [← HXL.out]; exact hj) = a at hjx
      obtain ⟨g, o, cp, e, _, hgl, _, hc⟩ := lx.get eC_len hjx
      injection e with e1 e2 e3
      subst e1 e3
      have g0 := hc 0 _ rfl
      have g1 := hc 1 _ rfl
      rw [Nat.add_zero] at g0
      have HC := hid (show ∀ W, Gr w W → W.cell? ⟨g, o + j * 2 + 1, none⟩ = some (.int .i64 a.v) ∧ g < W.heap.size from fun W gw => by
        obtain ⟨g', o', cp', e', _, hgl', _, hc'⟩ := (HX.out W gw).get eC_len hjx
        injection e' with e1' _ _
        injection e1' with e1'
        injection e1' with e4 e5
        subst e4 e5
        exact ⟨hc' 1 _ rfl, hgl'⟩)
      clear lx hjx hc e2
      by_cases k0 : a.k = 0
      · have hU0 : Ux w P (.slice (some ⟨g, o, none⟩) n ca) xs ⟨g, o + j * 2 + 1, none⟩ a.v (World.drew V) := ⟨HC.out, (HC.out _ (Ch.drew TT.out.1)).1, (HC.out _ (Ch.drew TT.out.1)).2⟩
        have TD := hid (TT.out.gr (Ch.drew (Gr.refl V)))
        obtain ⟨r, hr⟩ : ∃ r, r = (putP x a.v).2 := ⟨_, rfl⟩
        have HP1 := hid (fun W (h : N2 w W p1 x p2 y) => tput a.v h)
        have HP2 := hid (fun W (h : N2 w W p2 y p1 (putP x a.v).1) => tput a.v h)
        rw [← hr] at HP1
        rw [← (HSO.out.put a.v).1, ← hr] at HP2
        clear hr g1
        go_wp2_with fail
        refine wp_region_held_drew (S := Ux w P (.slice (some ⟨g, o, none⟩) n ca) xs ⟨g, o + j * 2 + 1, none⟩ a.v) (by kernel_rfl) (by exact hU0) (fun _ => ?_)
        generalize World.drew V = VD at hU0 TD ⊢
        refine takeS_on (i := 0) 38 (v := ?hv5) rfl rfl (by kernel_rfl) (by kernel_rfl) (by kernel_rfl) (fun _ _ _ h => h) (by kernel_rfl) ?hh5 (by exact hU0) ?_
        case hh5 => (intro w' hSw; go_simp; try (with_reducible rfl))
        simp only [Act.put, List.setIfInBounds_toArray, List.set_cons_zero, List.set_cons_succ]
        refine takeS_on (i := 1) 39 (v := ?hv6) rfl rfl (by kernel_rfl) (by kernel_rfl) (by kernel_rfl) (fun _ _ _ h => h) (by kernel_rfl) ?hh6 (by exact hU0) ?_
        case hh6 => (intro w' hSw; go_simp; try (with_reducible rfl))
        simp only [Act.put, List.setIfInBounds_toArray, List.set_cons_zero, List.set_cons_succ]
        refine takeS_on (i := 2) 40 (v := ?hv7) rfl rfl (by kernel_rfl) (by kernel_rfl) (by kernel_rfl) (fun _ _ _ h => h) (by kernel_rfl) ?hh7 (by exact hU0) ?_
        case hh7 => (intro w' hSw; go_simp; try (with_reducible rfl))
        simp only [Act.put, List.setIfInBounds_toArray, List.set_cons_zero, List.set_cons_succ]
        refine takeS_on (i := 3) 41 (v := ?hv8) rfl rfl (by kernel_rfl) (by kernel_rfl) (by kernel_rfl) (fun _ _ _ h => h) (by kernel_rfl) ?hh8 (by exact hU0) ?_
        case hh8 => (intro w' hSw; go_simp; try (with_reducible rfl))
        simp only [Act.put, List.setIfInBounds_toArray, List.set_cons_zero, List.set_cons_succ]
        refine takeS_on (i := 4) 42 (v := ?hv9) rfl rfl (by kernel_rfl) (by kernel_rfl) (by kernel_rfl) (fun _ _ _ h => h) (by kernel_rfl) ?hh9 (by exact hU0) ?_
        case hh9 => (intro w' hSw; go_simp; try (with_reducible rfl))
        simp only [Act.put, List.setIfInBounds_toArray, List.set_cons_zero, List.set_cons_succ]
        refine takeS_on (i := 5) 43 (v := ?hv10) rfl rfl (by kernel_rfl) (by kernel_rfl) (by kernel_rfl) (fun _ _ _ h => h) (by kernel_rfl) ?hh10 (by exact hU0) ?_
        case hh10 => (intro w' hSw; have u1 := hSw.c; have ul := hSw.l; go_simp; try (with_reducible rfl))
        simp only [Act.put, List.setIfInBounds_toArray, List.set_cons_zero, List.set_cons_succ]
        refine takeS_on (i := 7) 45 (v := ?hv11) rfl rfl (by kernel_rfl) (by kernel_rfl) (by kernel_rfl) (fun _ _ _ h => h) (by kernel_rfl) ?hh11 (by exact hU0) ?_
        case hh11 => (intro w' hSw; go_simp; try (with_reducible rfl))
        simp only [Act.put, List.setIfInBounds_toArray, List.set_cons_zero, List.set_cons_succ]
        refine takeS_on (i := 8) 46 (v := ?hv12) rfl rfl (by kernel_rfl) (by kernel_rfl) (by kernel_rfl) (fun _ _ _ h => h) (by kernel_rfl) ?hh12 (by exact hU0) ?_
        case hh12 => (intro w' hSw; go_simp; try (with_reducible rfl))
        simp only [Act.put, List.setIfInBounds_toArray, List.set_cons_zero, List.set_cons_succ]
        refine takeS_on (i := 9) 47 (v := ?hv13) rfl rfl (by kernel_rfl) (by kernel_rfl) (by kernel_rfl) (fun _ _ _ h => h) (by kernel_rfl) ?hh13 (by exact hU0) ?_
        case hh13 => (intro w' hSw; go_simp; try (with_reducible rfl))
        simp only [Act.put, List.setIfInBounds_toArray, List.set_cons_zero, List.set_cons_succ]
        refine takeS_on (i := 10) 48 (v := ?hv14) rfl rfl (by kernel_rfl) (by kernel_rfl) (by kernel_rfl) (fun _ _ _ h => h) (by kernel_rfl) ?hh14 (by exact hU0) ?_
        case hh14 => (intro w' hSw; go_simp; try (with_reducible rfl))
        simp only [Act.put, List.setIfInBounds_toArray, List.set_cons_zero, List.set_cons_succ]
        refine takeS_on (i := 11) 49 (v := ?hv15) rfl rfl (by kernel_rfl) (by kernel_rfl) (by kernel_rfl) (fun _ _ _ h => h) (by kernel_rfl) ?hh15 (by exact hU0) ?_
        case hh15 => (intro w' hSw; go_simp; try (with_reducible rfl))
        simp only [Act.put, List.setIfInBounds_toArray, List.set_cons_zero, List.set_cons_succ]
        refine takeS_on (i := 12) 50 (v := ?hv16) rfl rfl (by kernel_rfl) (by kernel_rfl) (by kernel_rfl) (fun _ _ _ h => h) (by kernel_rfl) ?hh16 (by exact hU0) ?_
        case hh16 => (intro w' hSw; have u1 := hSw.c; have ul := hSw.l; go_simp; try (with_reducible rfl))
        simp only [Act.put, List.setIfInBounds_toArray, List.set_cons_zero, List.set_cons_succ]
        refine wpAnyH_ready (rs := [6]) (by kernel_rfl) (by simp) (AllReadyH.cons rfl (fun K hK => ?_) AllReadyH.nil)
        go_simp
        refine (HP1.out _ TD.out).mono ?_
        rintro e w4 ⟨rfl, z⟩
        have Z1 := hid z
        have hU1 := hU0.gr w4 (Z1.out.1)
        clear z
        refine hK.out _ _ (by exact hU1) (fun _ => ?_)
        clear hK K
        refine wpAnyH_ready (rs := [13]) (by kernel_rfl) (by simp) (AllReadyH.cons rfl (fun K hK => ?_) AllReadyH.nil)
        go_simp
        refine (HP2.out _ Z1.out.symm).mono ?_
        rintro e w5 ⟨rfl, z⟩
        have Z2 := hid z.symm
        have hU2 := hU1.gr w5 (Z2.out.1)
        clear z
        refine hK.out _ _ (by exact hU2) (fun _ => ?_)
        clear hK K
        refine takeS_on (i := 14) 52 (v := ?hv17) rfl rfl (by kernel_rfl) (by kernel_rfl) (by kernel_rfl) (fun _ _ _ h => h) (by kernel_rfl) ?hh17 (by exact hU2) ?_
        case hh17 => (intro w' hSw; go_simp; try (with_reducible rfl))
        simp only [Act.put, List.setIfInBounds_toArray, List.set_cons_zero, List.set_cons_succ]
        refine wpAnyH_done (by kernel_rfl) ?_ _
        clear hU0 hU1 hU2
        go_wp2
        go_roundg (gk - 1)
        case measure => omega
        case rel =>
          refine ⟨j + 1, _, _, by omega, ?_, Z2.out, (HSO.out.put a.v).2⟩
          first | with_reducible rfl | simp
      · by_cases k1 : a.k = 1
        · go_wp2_with (go_at_call 20; refine (tget TT.out).mono ?_; rintro e w4 ⟨rfl, z⟩; have Z1 := hid z; clear z)
          go_roundg (gk - 1)
          case measure => omega
          case rel =>
            refine ⟨j + 1, _, _, by omega, ?_, Z1.out, HSO.out.getl⟩
            first | with_reducible rfl | simp
        · by_cases k2 : a.k = 2
          · go_wp2_with (first
              | (go_at_call 21; refine (tdeliver Z1.out.symm).mono ?_; rintro e w5 ⟨rfl, z⟩; have Z2 := hid z.symm; clear z)
              | (go_at_call 21; refine (tdeliver TT.out).mono ?_; rintro e w4 ⟨rfl, z⟩; have Z1 := hid z; clear z))
            go_roundg (gk - 1)
            case measure => omega
            case rel =>
              refine ⟨j + 1, _, _, by omega, ?_, Z2.out, HSO.out.dlv⟩
              first | with_reducible rfl | simp
          · go_wp2
            go_roundg (gk - 1)
            case measure => omega
            case rel =>
              refine ⟨j + 1, _, _, by omega, ?_, TT.out, HSO.out⟩
              first | with_reducible rfl | simp
    · have hj' : ¬ ((j : Int) < (n : Int)) := by omega
      clear lx
      obtain ⟨zs, hzs⟩ : ∃ zs, zs = x.out := ⟨_, rfl⟩
      have HZ := hid hzs
      have HS1 := hid (show ∀ W, N2 w W p1 x p2 y → Calls Try.prog 14 #[.pointer (some ⟨p1, 0, none⟩)] W fun e W' => ∃ v1 v2, e = .returned (.agg #[.bool x.q, .int .i64 (x.cap : Nat), v1, v2, .int .i64 (x.lost : Nat)]) ∧ Ow eI 1 2 W.heap.size W' v1 zs ∧ Ow eG 2 59 W.heap.size W' v2 x.inn ∧ Gr W W' from fun W h => by rw [hzs]; exact tstate h)
      have HS2 := hid (show ∀ W, N2 w W p2 y p1 x → Calls Try.prog 14 #[.pointer (some ⟨p2, 0, none⟩)] W fun e W' => ∃ v1 v2, e = .returned (.agg #[.bool y.q, .int .i64 (y.cap : Nat), v1, v2, .int .i64 (y.lost : Nat)]) ∧ Ow eI 1 2 W.heap.size W' v1 zs ∧ Ow eG 2 59 W.heap.size W' v2 y.inn ∧ Gr W W' from fun W h => by rw [hzs, HSO.out.o]; exact tstate h)
      have hfd := fld_out
      have hzl : zs.length ≤ 1024 := by rw [hzs]; exact Nat.le_trans TT.out.2.1.o TT.out.2.1.c2
      clear hzs
      go_wp2_with (first
        | (go_at_call 14; refine (HS2.out _ (TT.out.gr M1.out).symm).mono ?_; rintro e w5 ⟨v3, v4, rfl, o3, o4, gr2⟩; obtain ⟨a3, c3, rfl⟩ := o3.form; obtain ⟨a4, c4, rfl⟩ := o4.form; have M2 := hid gr2; have L1 := hid (O1.out.gr gr2); have L2 := hid o3.lst; clear o3 o4 gr2)
        | (go_at_call 14; refine (HS1.out _ TT.out).mono ?_; rintro e w4 ⟨v1, v2, rfl, o1, o2, gr1⟩; obtain ⟨a1, c1, rfl⟩ := o1.form; obtain ⟨a2, c2, rfl⟩ := o2.form; have M1 := hid gr1; have O1 := hid o1.lst; clear o1 o2 gr1))
      have MG := hid (Gr.trans TT.out.1 (Gr.trans M1.out M2.out))
      obtain ⟨nz, hnz⟩ : ∃ m, m = zs.length := ⟨_, rfl⟩
      rw [← hnz] at hzl L1 L2 ⊢
      have HNZ := hid hnz
      clear hnz
      go_loopg [10] nz (fun k9 i wr => ∃ j : Nat, j + k9 = nz ∧ i = .int .i64 (j : Int) ∧ Gr w5 wr)
      case atStart => exact ⟨0, by omega, rfl, Gr.refl _⟩
      case round =>
        obtain ⟨j2, hjk2, rfl, hg2⟩ := hrel
        obtain ⟨V2, hV2⟩ : ∃ W, W = wr := ⟨_, rfl⟩
        subst hV2
        have l1 := L1.out.gr hg2
        have l2 := L2.out.gr hg2
        have G2 := hid hg2
        clear hg2
        by_cases hj2 : j2 < nz
        · have hj2' : (j2 : Int) < (nz : Int) := by omega
          have hjz : zs[j2]? = some (zs[j2]'(by rw [← HNZ.out]; exact hj2)) := List.getElem?_eq_getElem _
          generalize zs[j2]'(by rw [← HNZ.out]; exact hj2) = u at hjz
          obtain ⟨g1, o1, cp1, e, _, hgl1, _, hc1⟩ := l1.get eI_len hjz
          obtain ⟨g3, o3, cp3, e', _, hgl3, _, hc3⟩ := l2.get eI_len hjz
          injection e with e1 e2 e3
          injection e' with e4 e5 e6
          subst e1 e3 e4 e6
          have q1 := hc1 0 _ rfl
          have q3 := hc3 0 _ rfl
          rw [Nat.add_zero, Nat.mul_one] at q1 q3
          have p0 : (0 : Int) ≤ (j2 : Int) := by omega
          clear l1 l2 hjz hc1 hc3 e2 e5
          go_wp2_with fail
          go_big_quiet (fail)
          go_wp2
          go_roundg (gk - 1)
          case measure => omega
          case rel =>
            refine ⟨j2 + 1, by omega, ?_, Ch.drewN G2.out _⟩
            first | with_reducible rfl | simp
        · have hj2' : ¬ ((j2 : Int) < (nz : Int)) := by omega
          clear l1 l2
          go_wp2
          go_ret
          exact ⟨rfl, Gr.trans MG.out G2.out⟩
end Go.Proofs.Ytnpbehcfbceclaa.Lt
