/-
  TableTurns, walked: one frame later all is the same. Condition: the numbers are of their types.
-/
import Derived.Test.YtbghagpjkkmhpabTbAwake
import Derived.Test.YtbghagpjkkmhpabTbBox
import Derived.Test.YtbghagpjkkmhpabTbHas
import Derived.Test.YtbghagpjkkmhpabTbSame
namespace Go.Proofs.Ytbghagpjkkmhpab.Lt
open Go.RowKit Wd
attribute [local go_sem ↓] Go.wp_at_zero Go.wp_at_succ
set_option maxRecDepth 20000

theorem sat_mod {F t u : Int} (L : List (List Sl)) (p : Int) (h : t % F = u % F) : sat F L t p = sat F L u p := by
  unfold sat
  rw [slt_mod _ h]
theorem turns_mod {F t u : Int} (L : List (List Sl)) (p dm : Int) (h : t % F = u % F) : ownD F L t p = ownD F L u p ∧ lftN F L t p = lftN F L u p ∧ endB F L t p = endB F L u p ∧ hasI F L t dm = hasI F L u dm := by
  refine ⟨?_, ?_, ?_, ?_⟩
  · unfold ownD
    rw [slt_mod _ h]
  · unfold lftN
    rw [sat_mod L p h]
    cases sat F L u p with
    | none => rfl
    | some x =>
      show Tk.leN t F x.s (x.l - x.p) = Tk.leN u F x.s (x.l - x.p)
      unfold Tk.leN
      rw [h]
  · unfold endB
    rw [sat_mod L p h]
    cases sat F L u p with
    | none => rfl
    | some x =>
      show decide (t % F = _) = decide (u % F = _)
      rw [h]
  · unfold hasI
    rw [hasP_mod L h]
set_option maxHeartbeats 16000000 in
theorem turns_walk (w : World) (F : Int) (a : Option Addr) (n c : Nat) (L : List (List Sl)) (t p k : Int) (h : Rw w (.slice a n c) L) (hx : Rgs L) (hF : Tk.U F) (ht : Tk.U t) (_hp : -9223372036854775808 ≤ p ∧ p ≤ 9223372036854775807) (_hk : -9223372036854775808 ≤ k ∧ k ≤ 9223372036854775807) :
    Calls Try.prog 3 #[.agg #[.int .u64 F, .slice a n c], .agg #[.int .u64 t, .int .i64 p, .int .i64 k]] w fun e w' => e = .returned (.bool true) ∧ Gr w w' := by
  have HC := hide (fun W (g : Gr w W) => check_any W a n c L (h.gr g) hx F 16 hF)
  have H1 := hide (fun t (ht : Tk.U t) W (g : Gr w W) => owner_any W a n c L (h.gr g) hx F t p hF ht)
  have H2 := hide (fun t (ht : Tk.U t) W (g : Gr w W) => left_any W a n c L (h.gr g) hx F t p hF ht)
  have H3 := hide (fun t (ht : Tk.U t) W (g : Gr w W) => ends_any W a n c L (h.gr g) hx F t p hF ht)
  have H4 := hide (fun t (ht : Tk.U t) W (g : Gr w W) => has_any W a n c L (h.gr g) hx F t k hF ht)
  have HX := hide (hasI_len (F := F) (t := t) (dm := k) hx)
  have HG := hide (fun (e : (chk F L 16).2.2 = 0) => (good_of hx e).f1)
  unfold chkV at HC
  generalize chk F L 16 = R at HC HG
  obtain ⟨r1, r2, r3⟩ := R
  dsimp only at HC HG
  obtain ⟨W0, hW0⟩ : ∃ W, W = (w.alloc (.cells #[.int .u64 F, .slice a n c] 25)).alloc (.cells #[.int .u64 t, .int .i64 p, .int .i64 k] 27) := ⟨_, rfl⟩
  have HB := hide (show ∀ W, Gr W0 W → _ from fun W g => boxTX (by rw [hW0] at g; exact g))
  have G0 := hide (show Gr W0 W0 from Gr.refl _)
  obtain ⟨f0, f1⟩ := hF
  obtain ⟨t0', t1'⟩ := ht
  by_cases h0 : r3 = 0
  · subst h0
    have hF1 := HG.out rfl
    by_cases hov : t + F ≤ 18446744073709551615
    · have k1 : 0 ≤ t + F := by omega
      have hmod : (t + F) % F = t % F := Int.add_emod_right ..
      obtain ⟨m1, m2, m3, m4⟩ := turns_mod L p k hmod
      have HT := hide (show Tk.U t from ⟨t0', t1'⟩)
      have HU := hide (show Tk.U (t + F) from ⟨by omega, by omega⟩)
      have C1 := hide (H1.out t HT.out)
      have D1 := hide (H1.out (t + F) HU.out)
      have C2 := hide (H2.out t HT.out)
      have D2 := hide (H2.out (t + F) HU.out)
      have C3 := hide (H3.out t HT.out)
      have D3 := hide (H3.out (t + F) HU.out)
      have C4 := hide (H4.out t HT.out)
      have D4 := hide (H4.out (t + F) HU.out)
      rw [m1] at D1
      rw [m2] at D2
      rw [m3] at D3
      rw [m4] at D4
      generalize ownD F L t p = v1 at C1 D1
      generalize lftN F L t p = v2 at C2 D2
      generalize endB F L t p = v3 at C3 D3
      generalize hasI F L t k = v4 at C4 D4 HX
      generalize ownE F L p = e1 at C1 D1 C2 D2 C3 D3
      generalize lkE F L k 16 = e2 at C4 D4
      clear H1 H2 H3 H4 m1 m2 m3 m4 hmod h hx
      go_enter Try.func3, Try.ntmps3
      go_wp2_with fail
      rw [← hW0]
      clear hW0
      refine (HC.out _ (HB.out _ G0.out).2.2).mono ?_
      rintro e w0 ⟨rfl, g1⟩
      have Gz := hide (Gr.trans G0.out g1)
      obtain ⟨⟨t0, t1, tb⟩, ⟨x0, x1, x2, xb⟩, gw⟩ := HB.out _ Gz.out
      clear g1
      go_wp2_with fail
      refine (C1.out _ gw).mono ?_
      rintro e w1 ⟨rfl, g⟩
      have G1 := hide (Gr.trans Gz.out g)
      clear t0 t1 tb x0 x1 x2 xb gw g
      obtain ⟨⟨t0, t1, tb⟩, ⟨x0, x1, x2, xb⟩, gw⟩ := HB.out _ G1.out
      go_wp2_with fail
      refine (D1.out _ gw).mono ?_
      rintro e w2 ⟨rfl, g⟩
      have G2 := hide (Gr.trans G1.out g)
      clear t0 t1 tb x0 x1 x2 xb gw g
      obtain ⟨⟨t0, t1, tb⟩, ⟨x0, x1, x2, xb⟩, gw⟩ := HB.out _ G2.out
      go_wp2_with fail
      refine (C2.out _ gw).mono ?_
      rintro e w3 ⟨rfl, g⟩
      have G3 := hide (Gr.trans G2.out g)
      clear t0 t1 tb x0 x1 x2 xb gw g
      obtain ⟨⟨t0, t1, tb⟩, ⟨x0, x1, x2, xb⟩, gw⟩ := HB.out _ G3.out
      go_wp2_with fail
      refine (D2.out _ gw).mono ?_
      rintro e w4 ⟨rfl, g⟩
      have G4 := hide (Gr.trans G3.out g)
      clear t0 t1 tb x0 x1 x2 xb gw g
      obtain ⟨⟨t0, t1, tb⟩, ⟨x0, x1, x2, xb⟩, gw⟩ := HB.out _ G4.out
      go_wp2_with fail
      refine (C3.out _ gw).mono ?_
      rintro e w5 ⟨rfl, g⟩
      have G5 := hide (Gr.trans G4.out g)
      clear t0 t1 tb x0 x1 x2 xb gw g
      obtain ⟨⟨t0, t1, tb⟩, ⟨x0, x1, x2, xb⟩, gw⟩ := HB.out _ G5.out
      go_wp2_with fail
      refine (D3.out _ gw).mono ?_
      rintro e w6 ⟨rfl, g⟩
      have G6 := hide (Gr.trans G5.out g)
      clear t0 t1 tb x0 x1 x2 xb gw g
      obtain ⟨⟨t0, t1, tb⟩, ⟨x0, x1, x2, xb⟩, gw⟩ := HB.out _ G6.out
      go_wp2_with fail
      refine (C4.out _ gw).mono ?_
      rintro e w7 ⟨ao, ac, rfl, l, g⟩
      have G7 := hide (Gr.trans G6.out g)
      have L1 := hide l
      clear l
      clear t0 t1 tb x0 x1 x2 xb gw g
      obtain ⟨⟨t0, t1, tb⟩, ⟨x0, x1, x2, xb⟩, gw⟩ := HB.out _ G7.out
      go_wp2_with fail
      refine (D4.out _ gw).mono ?_
      rintro e w8 ⟨bo, bc, rfl, l, g⟩
      have G8 := hide (Gr.trans G7.out g)
      have L2 := hide l
      have L3 := hide (L1.out.gr g)
      clear l
      clear t0 t1 tb x0 x1 x2 xb gw g
      obtain ⟨⟨t0, t1, tb⟩, ⟨x0, x1, x2, xb⟩, gw⟩ := HB.out _ G8.out
      clear t0 t1 tb x0 x1 x2 xb gw
      go_wp2_with fail
      refine (same_any w8 _ _ ao bo _ ac bc v4 rfl L3.out L2.out (by have := HX.out; omega)).mono ?_
      rintro e w9 ⟨rfl, g9⟩
      have G9 := hide (HB.out _ (Gr.trans G8.out g9)).2.2
      clear g9
      go_wp2
      go_ret
      exact ⟨rfl, G9.out⟩
    · have hadd : IntKind.u64.wrap (t + F) = t + F - 18446744073709551616 := by
        simp only [IntKind.wrap, IntKind.bits, IntKind.signed]
        simp
        omega
      have hnl : t + F - 18446744073709551616 < t := by omega
      clear H1 H2 H3 H4 h hx
      go_enter Try.func3, Try.ntmps3
      go_wp2_with fail
      rw [← hW0]
      clear hW0
      refine (HC.out _ (HB.out _ G0.out).2.2).mono ?_
      rintro e w0 ⟨rfl, g1⟩
      have Gz := hide (Gr.trans G0.out g1)
      obtain ⟨⟨t0, t1, tb⟩, ⟨x0, x1, x2, xb⟩, gw⟩ := HB.out _ Gz.out
      clear g1
      go_wp2_with fail
      refine (awake_any _).mono ?_
      rintro e w8 ⟨rfl, g8⟩
      have G8 := hide (HB.out _ (Gr.trans Gz.out g8)).2.2
      clear g8
      go_wp2
      go_ret
      exact ⟨rfl, G8.out⟩
  · have hne : (r3 != 0) = true := by simpa using h0
    clear H1 H2 H3 H4 h hx
    go_enter Try.func3, Try.ntmps3
    go_wp2_with fail
    rw [← hW0]
    clear hW0
    refine (HC.out _ (HB.out _ G0.out).2.2).mono ?_
    rintro e w0 ⟨rfl, g1⟩
    have Gz := hide (Gr.trans G0.out g1)
    obtain ⟨⟨t0, t1, tb⟩, ⟨x0, x1, x2, xb⟩, gw⟩ := HB.out _ Gz.out
    clear g1
    go_wp2_with fail
    refine (awake_any _).mono ?_
    rintro e w8 ⟨rfl, g8⟩
    have G8 := hide (HB.out _ (Gr.trans Gz.out g8)).2.2
    clear g8
    go_wp2
    go_ret
    exact ⟨rfl, G8.out⟩
end Go.Proofs.Ytbghagpjkkmhpab.Lt
