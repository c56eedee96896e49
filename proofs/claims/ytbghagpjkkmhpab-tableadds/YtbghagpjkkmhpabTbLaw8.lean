/-
  TableAdds, walked: Supply of frames is Share, so many times; of two stretches it is at least that of both. Condition: the numbers are of their types.
-/
import Derived.Test.YtbghagpjkkmhpabTbAwake
import Derived.Test.YtbghagpjkkmhpabTbShr
import Derived.Test.YtbghagpjkkmhpabTbSup
namespace Go.Proofs.Ytbghagpjkkmhpab.Lt
open Go.RowKit Wd
attribute [local go_sem ↓] Go.wp_at_zero Go.wp_at_succ
set_option maxRecDepth 20000

/-- a table's box and, behind it, a pair's: whatever was made since -/
theorem boxTP {w w1 : World} {T T2 : TypeId} {a b x y : Value} (g : Gr ((w.alloc (.cells #[a, b] T)).alloc (.cells #[x, y] T2)) w1) :
    (w1.cell? ⟨w.heap.size, 0, none⟩ = some a ∧ w1.cell? ⟨w.heap.size, 1, none⟩ = some b ∧ w.heap.size < w1.heap.size) ∧ (w1.cell? ⟨w.heap.size + 1, 0, none⟩ = some x ∧ w1.cell? ⟨w.heap.size + 1, 1, none⟩ = some y ∧ w.heap.size + 1 < w1.heap.size) ∧ Gr w w1 := by
  obtain ⟨x0, x1, xb, gx⟩ := box2 g
  obtain ⟨t0, t1, tb, gt⟩ := box2 gx
  have e : (w.alloc (.cells #[a, b] T)).heap.size = w.heap.size + 1 := by simp
  rw [e] at x0 x1 xb
  exact ⟨⟨t0, t1, tb⟩, ⟨x0, x1, xb⟩, gt⟩
set_option maxHeartbeats 4000000 in
theorem adds_walk16 (w : World) (F : Int) (a : Option Addr) (n c : Nat) (L : List (List Sl)) (dm x y : Int) (h : Rw w (.slice a n c) L) (hx : Rgs L) (hF : Tk.U F) (_hd : -9223372036854775808 ≤ dm ∧ dm ≤ 9223372036854775807) (hu : Tk.U x) (hv : Tk.U y) :
    Calls Try.prog 7 #[.agg #[.int .u64 F, .slice a n c], .int .i64 dm, .agg #[.int .u64 x, .int .u64 y]] w fun e w' => e = .returned (.bool true) ∧ Gr w w' := by
  obtain ⟨u0, u1⟩ := hu
  obtain ⟨v0, v1⟩ := hv
  obtain ⟨N, rfl⟩ : ∃ N : Nat, x = (N : Int) := ⟨x.toNat, by omega⟩
  obtain ⟨M, rfl⟩ : ∃ M : Nat, y = (M : Int) := ⟨y.toNat, by omega⟩
  have HS := hide (fun W (g : Gr w W) => share_any W a n c L (h.gr g) hx F dm hF)
  have H1 := hide (fun W (g : Gr w W) => supply_any W a n c L (h.gr g) hx F dm hF N (by omega))
  obtain ⟨W0, hW0⟩ : ∃ W, W = (w.alloc (.cells #[.int .u64 F, .slice a n c] 25)).alloc (.cells #[.int .u64 (N : Int), .int .u64 (M : Int)] 55) := ⟨_, rfl⟩
  have HB := hide (show ∀ W, Gr W0 W → _ from fun W g => boxTP (by rw [hW0] at g; exact g))
  have G0 := hide (show Gr W0 W0 from Gr.refl _)
  by_cases h0 : lkE F L dm 16 = 0
  · rw [h0] at HS
    by_cases hn : 1099511627776 < (N : Int)
    · clear h0
      clear h hx hF
      go_enter Try.func7, Try.ntmps7
      go_wp2_with fail
      rw [← hW0]
      clear hW0
      obtain ⟨⟨t0, t1, tb⟩, ⟨p0, p1, pb⟩, gw⟩ := HB.out _ G0.out
      go_quiet (fail)
      go_wp2_with fail
      clear t0 t1 tb p0 p1 pb gw
      have Gd := hide (show Gr W0 (W0.drewN nq) from Ch.drewN G0.out _)
      refine (HS.out _ (HB.out _ Gd.out).2.2).mono ?_
      rintro e w1 ⟨rfl, g1⟩
      have G1 := hide (Gr.trans Gd.out g1)
      obtain ⟨⟨t0, t1, tb⟩, -, gw⟩ := HB.out _ G1.out
      clear g1
      go_wp2_with fail
      refine (H1.out _ gw).mono ?_
      rintro e w2 ⟨v, E2, rfl, hE2, -, -, g2⟩
      have G2 := hide (Gr.trans G1.out g2)
      clear g2 t0 t1 tb gw
      go_wp2_with fail
      refine (awake_any _).mono ?_
      rintro e w8 ⟨rfl, g8⟩
      have G8 := hide (HB.out _ (Gr.trans G2.out g8)).2.2
      clear g8
      go_wp2
      go_ret
      exact ⟨rfl, G8.out⟩
    · by_cases hm : 1099511627776 < (M : Int)
      · clear h0
        clear h hx hF
        go_enter Try.func7, Try.ntmps7
        go_wp2_with fail
        rw [← hW0]
        clear hW0
        obtain ⟨⟨t0, t1, tb⟩, ⟨p0, p1, pb⟩, gw⟩ := HB.out _ G0.out
        go_quiet (fail)
        go_wp2_with fail
        clear t0 t1 tb p0 p1 pb gw
        have Gd := hide (show Gr W0 (W0.drewN nq) from Ch.drewN G0.out _)
        refine (HS.out _ (HB.out _ Gd.out).2.2).mono ?_
        rintro e w1 ⟨rfl, g1⟩
        have G1 := hide (Gr.trans Gd.out g1)
        obtain ⟨⟨t0, t1, tb⟩, -, gw⟩ := HB.out _ G1.out
        clear g1
        go_wp2_with fail
        refine (H1.out _ gw).mono ?_
        rintro e w2 ⟨v, E2, rfl, hE2, -, -, g2⟩
        have G2 := hide (Gr.trans G1.out g2)
        clear g2 t0 t1 tb gw
        go_wp2_with fail
        refine (awake_any _).mono ?_
        rintro e w8 ⟨rfl, g8⟩
        have G8 := hide (HB.out _ (Gr.trans G2.out g8)).2.2
        clear g8
        go_wp2
        go_ret
        exact ⟨rfl, G8.out⟩
      · obtain ⟨hg, hc, -, -⟩ := lkE_ok hx h0
        obtain ⟨Fn, rfl⟩ : ∃ Fn : Nat, F = (Fn : Int) := ⟨F.toNat, by have := hg.f1; omega⟩
        have hf1 : 1 ≤ Fn := by have := hg.f1; omega
        have hf2 : Fn ≤ 65536 := by have := hg.f2; omega
        have hq : N % 1000 * Fn ≤ 65536000 := by
          have k1 : N % 1000 * Fn ≤ 1000 * Fn := Nat.mul_le_mul_right _ (by omega)
          omega
        have HES := hide (show ∀ K : Nat, K ≤ 281474976710656 → supE (Fn : Int) L dm K = 0 from fun K hK => by unfold supE; rw [if_pos h0, if_neg (by omega)])
        have HE1 := hide (HES.out N (by omega))
        have HE2 := hide (HES.out M (by omega))
        have HE3 := hide (HES.out (N + M) (by omega))
        have HE4 := hide (HES.out (N % 1000 * Fn) (by omega))
        have H2 := hide (fun W (g : Gr w W) => supply_any W a n c L (h.gr g) hx (Fn : Int) dm hF M (by omega))
        have H3 := hide (show ∀ W, Gr w W → Calls Try.prog 19 #[.agg #[.int .u64 (Fn : Int), .slice a n c], .int .i64 dm, .int .u64 ((N : Int) + (M : Int))] W fun e w' => SupR (Fn : Int) L dm (N + M) W e w' from fun W g => by
          have k := supply_any W a n c L (h.gr g) hx (Fn : Int) dm hF (N + M) (by omega)
          rwa [Int.natCast_add] at k)
        have H4 := hide (show ∀ W, Gr w W → Calls Try.prog 19 #[.agg #[.int .u64 (Fn : Int), .slice a n c], .int .i64 dm, .int .u64 ((N : Int) % 1000 * (Fn : Int))] W fun e w' => SupR (Fn : Int) L dm (N % 1000 * Fn) W e w' from fun W g => by
          have k := supply_any W a n c L (h.gr g) hx (Fn : Int) dm hF (N % 1000 * Fn) (by omega)
          rwa [Int.natCast_mul, Int.natCast_emod] at k)
        rw [if_pos rfl, fo_shr] at HS
        obtain ⟨sh, hsh⟩ : ∃ sh, sh = shr L dm := ⟨_, rfl⟩
        obtain ⟨b0, b1⟩ := sup_bd hg dm
        rw [← hsh] at HS b0 b1
        have hr0 : 0 ≤ (N : Int) % 1000 := by omega
        have hr1 : (N : Int) % 1000 < 1000 := by omega
        have hmul0 : 0 ≤ (N : Int) % 1000 * sh := Int.mul_nonneg hr0 b0
        have hmul1 : (N : Int) % 1000 * sh ≤ 18446744073709551615 := by
          have k1 : (N : Int) % 1000 * sh ≤ 1000 * sh := Int.mul_le_mul_of_nonneg_right (by omega) b0
          omega
        have hmf0 : 0 ≤ (N : Int) % 1000 * (Fn : Int) := Int.mul_nonneg hr0 (by omega)
        have hmf1 : (N : Int) % 1000 * (Fn : Int) ≤ 18446744073709551615 := by
          have k1 : (N : Int) % 1000 * (Fn : Int) ≤ 1000 * (Fn : Int) := Int.mul_le_mul_of_nonneg_right (by omega) (by omega)
          omega
        have hnm1 : (N : Int) + (M : Int) ≤ 18446744073709551615 := by omega
        have HFA := hide (show ∀ A B C E : Int, (∃ f : Nat, (Fn : Int) = f ∧ IsSp f L dm N A) → (∃ f : Nat, (Fn : Int) = f ∧ IsSp f L dm M B) → (∃ f : Nat, (Fn : Int) = f ∧ IsSp f L dm (N + M) C) → (∃ f : Nat, (Fn : Int) = f ∧ IsSp f L dm (N % 1000 * Fn) E) → 0 ≤ A + B ∧ A + B ≤ 18446744073709551615 ∧ ¬ (C < A + B) ∧ E = (N : Int) % 1000 * sh from fun A B C E q1 q2 q3 q4 => by
          obtain ⟨f1, e1, s1⟩ := q1
          obtain ⟨f2, e2, s2⟩ := q2
          obtain ⟨f3, e3, s3⟩ := q3
          obtain ⟨f4, e4, s4⟩ := q4
          have e1' : f1 = Fn := by omega
          have e2' : f2 = Fn := by omega
          have e3' : f3 = Fn := by omega
          have e4' : f4 = Fn := by omega
          subst e1' e2' e3' e4'
          have k1 := IsSp.add s1 s2 s3 hf1
          have k2 := IsSp.bd rfl hg s1
          have k3 := IsSp.bd rfl hg s2
          have k4 := IsSp.frames rfl hg s4
          refine ⟨by omega, by omega, by omega, ?_⟩
          rw [k4, hsh, Int.natCast_emod]
          rfl)
        clear h hx hF h0 hg hc hsh
        go_enter Try.func7, Try.ntmps7
        go_wp2_with fail
        rw [← hW0]
        clear hW0
        obtain ⟨⟨t0, t1, tb⟩, ⟨p0, p1, pb⟩, gw⟩ := HB.out _ G0.out
        go_quiet (fail)
        go_wp2_with fail
        clear t0 t1 tb p0 p1 pb gw
        have Gd := hide (show Gr W0 (W0.drewN nq) from Ch.drewN G0.out _)
        refine (HS.out _ (HB.out _ Gd.out).2.2).mono ?_
        rintro e w1 ⟨rfl, g1⟩
        have G1 := hide (Gr.trans Gd.out g1)
        obtain ⟨⟨t0, t1, tb⟩, -, gw⟩ := HB.out _ G1.out
        clear g1
        go_wp2_with fail
        refine (H1.out _ gw).mono ?_
        rintro e wa1 ⟨v1, F1, rfl, hE, -, hs, g2⟩
        rw [HE1.out] at hE
        subst hE
        have SP1 := hide (hs rfl)
        have GG1 := hide (Gr.trans G1.out g2)
        clear t0 t1 tb gw g2 hs
        obtain ⟨⟨t0, t1, tb⟩, -, gw⟩ := HB.out _ GG1.out
        go_wp2_with fail
        refine (H2.out _ gw).mono ?_
        rintro e wa2 ⟨v2, F2, rfl, hE, -, hs, g2⟩
        rw [HE2.out] at hE
        subst hE
        have SP2 := hide (hs rfl)
        have GG2 := hide (Gr.trans GG1.out g2)
        clear t0 t1 tb gw g2 hs
        obtain ⟨⟨t0, t1, tb⟩, -, gw⟩ := HB.out _ GG2.out
        go_wp2_with fail
        refine (H3.out _ gw).mono ?_
        rintro e wa3 ⟨v3, F3, rfl, hE, -, hs, g2⟩
        rw [HE3.out] at hE
        subst hE
        have SP3 := hide (hs rfl)
        have GG3 := hide (Gr.trans GG2.out g2)
        clear t0 t1 tb gw g2 hs
        obtain ⟨⟨t0, t1, tb⟩, -, gw⟩ := HB.out _ GG3.out
        go_wp2_with fail
        refine (H4.out _ gw).mono ?_
        rintro e wa4 ⟨v4, F4, rfl, hE, -, hs, g2⟩
        rw [HE4.out] at hE
        subst hE
        have SP4 := hide (hs rfl)
        have GG4 := hide (Gr.trans GG3.out g2)
        clear t0 t1 tb gw g2 hs
        obtain ⟨⟨t0, t1, tb⟩, -, gw⟩ := HB.out _ GG4.out
        obtain ⟨z0, z1, z2, z3⟩ := HFA.out v1 v2 v3 v4 SP1.out SP2.out SP3.out SP4.out
        rw [z3]
        clear t0 t1 tb gw z3
        go_wp2_with fail
        refine (awake_any _).mono ?_
        rintro e w8 ⟨rfl, g8⟩
        have G8 := hide (HB.out _ (Gr.trans GG4.out g8)).2.2
        clear g8
        go_wp2
        go_ret
        exact ⟨rfl, G8.out⟩
  · have HE := hide (show supE F L dm N = lkE F L dm 16 from if_neg h0)
    rw [if_neg h0] at HS
    obtain ⟨E, hE⟩ : ∃ E, E = lkE F L dm 16 := ⟨_, rfl⟩
    rw [← hE] at HE HS h0
    have hne : (E != 0) = true := by simpa using h0
    have hne2 : (E == 0) = false := by simpa using h0
    clear hE
    clear h hx hF
    go_enter Try.func7, Try.ntmps7
    go_wp2_with fail
    rw [← hW0]
    clear hW0
    obtain ⟨⟨t0, t1, tb⟩, ⟨p0, p1, pb⟩, gw⟩ := HB.out _ G0.out
    go_quiet (fail)
    go_wp2_with fail
    clear t0 t1 tb p0 p1 pb gw
    have Gd := hide (show Gr W0 (W0.drewN nq) from Ch.drewN G0.out _)
    refine (HS.out _ (HB.out _ Gd.out).2.2).mono ?_
    rintro e w1 ⟨rfl, g1⟩
    have G1 := hide (Gr.trans Gd.out g1)
    obtain ⟨⟨t0, t1, tb⟩, -, gw⟩ := HB.out _ G1.out
    clear g1
    go_wp2_with fail
    refine (H1.out _ gw).mono ?_
    rintro e w2 ⟨v, E2, rfl, hE2, -, -, g2⟩
    have G2 := hide (Gr.trans G1.out g2)
    clear g2 t0 t1 tb gw
    rw [HE.out] at hE2
    subst hE2
    go_wp2_with fail
    refine (awake_any _).mono ?_
    rintro e w8 ⟨rfl, g8⟩
    have G8 := hide (HB.out _ (Gr.trans G2.out g8)).2.2
    clear g8
    go_wp2
    go_ret
    exact ⟨rfl, G8.out⟩
end Go.Proofs.Ytbghagpjkkmhpab.Lt
