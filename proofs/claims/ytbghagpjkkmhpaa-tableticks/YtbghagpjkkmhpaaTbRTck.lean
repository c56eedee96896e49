/-
  What Ticks answers: the document. Condition: the numbers are of their types.
-/
import Derived.Test.YtbghagpjkkmhpaaTbRHas
import Derived.Test.YtbghagpjkkmhpaaTbTckM
import Derived.Test.YtbghagpjkkmhpaaTbBase
namespace Go.Proofs.Ytbghagpjkkmhpaa.Lt
open Go.RowKit Wd
attribute [local go_sem ↓] Go.wp_at_zero Go.wp_at_succ
set_option maxRecDepth 20000

/-- what Ticks answers of N ticks -/
def TckR (F : Int) (L : List (List Sl)) (dm : Int) (N : Nat) (w : World) (e : Ending) (w' : World) : Prop :=
  ∃ v, e = .returned (.tuple #[.int .u64 v, .int .i64 (lkE F L dm 16)]) ∧ (lkE F L dm 16 ≠ 0 → v = 0) ∧ (lkE F L dm 16 = 0 → ∃ Fn : Nat, F = Fn ∧ v = tckN Fn L dm N) ∧ Gr w w'
/-- of the first places those below the rest -/
def rsN1 (F : Int) (L : List (List Sl)) (dm : Int) (re i : Nat) : Int := sm (if i ≤ re then i else re) (h1N F L dm)
theorem rsN1_lo {F : Int} {L : List (List Sl)} {dm : Int} {re i : Nat} (h : i < re) : rsN1 F L dm re (i + 1) = rsN1 F L dm re i + h1N F L dm i := by
  unfold rsN1
  rw [if_pos (by omega), if_pos (by omega)]
  rfl
theorem rsN1_hi {F : Int} {L : List (List Sl)} {dm : Int} {re i : Nat} (h : ¬ i < re) : rsN1 F L dm re (i + 1) = rsN1 F L dm re i := by
  unfold rsN1
  rw [if_neg (by omega)]
  split
  · have : i = re := by omega
    rw [this]
  · rfl
theorem rsN1_bd (F : Int) (L : List (List Sl)) (dm : Int) (re i : Nat) : 0 ≤ rsN1 F L dm re i ∧ rsN1 F L dm re i ≤ i := by
  unfold rsN1
  have h1 := sm_01 (h1N_bd F L dm) i
  have h2 := sm_01 (h1N_bd F L dm) re
  by_cases h : i ≤ re
  · rw [if_pos h]; omega
  · rw [if_neg h]; omega
set_option maxHeartbeats 4000000 in
theorem rticks_any (w : World) (a : Option Addr) (n c : Nat) (L : List (List Sl)) (h : Rw w (.slice a n c) L) (hx : Rgs L) (F dm : Int) (hF : Tk.U F) (N : Nat) (hN : (N : Int) ≤ 18446744073709551615) :
    Calls Try.prog 26 #[.agg #[.int .u64 F, .slice a n c], .int .u64 (N : Int), .int .i64 dm] w fun e w' => TckR F L dm N w e w' := by
  have CL := look_any _ a n c L (h.gr (Ch.alloc (Gr.refl w) (.cells #[.int .u64 F, .slice a n c] 25))) hx F dm 16 hF
  obtain ⟨A, hA⟩ : ∃ A, A = w.alloc (.cells #[.int .u64 F, .slice a n c] 25) := ⟨_, rfl⟩
  have HBX := hide (show ∀ W, Gr A W → _ from fun W g => box2 (by rw [hA] at g; exact g))
  rw [← hA] at CL
  by_cases h0 : lkE F L dm 16 = 0
  · obtain ⟨hg, -, -, -⟩ := lkE_ok hx h0
    obtain ⟨Fn, rfl⟩ : ∃ Fn : Nat, F = (Fn : Int) := ⟨F.toNat, by have := hg.f1; omega⟩
    have hf1 : 1 ≤ Fn := by have := hg.f1; omega
    have hf2 : Fn ≤ 65536 := by have := hg.f2; omega
    have H0 := hide h0
    have HH := hide (fun (i : Nat) (hi : i < Fn) W (g : Gr A W) => rhas0_any W a n c L (h.gr (HBX.out W g).2.2.2) (Fn : Int) (i : Int) dm hg ⟨by omega, by omega⟩)
    have HSA := hide (fun i => sm_01 (h1N_bd (Fn : Int) L dm) i)
    have HSR := hide (fun re i => rsN1_bd (Fn : Int) L dm re i)
    obtain ⟨re, hre⟩ : ∃ re, re = N % Fn := ⟨_, rfl⟩
    have hreF : re < Fn := by rw [hre]; exact Nat.mod_lt _ (by omega)
    have hrm : (N : Int).tmod (Fn : Int) = (re : Int) := by rw [Int.tmod_eq_emod_of_nonneg (by omega), hre, Int.natCast_emod]
    have hf0 : ¬ (Fn = 0) := by omega
    have HTK := hide (show tckN Fn L dm N = ((N / Fn : Nat) : Int) * sm Fn (h1N (Fn : Int) L dm) + rsN1 (Fn : Int) L dm re Fn by
      unfold tckN rsN1
      rw [if_neg (by omega), hre])
    have HTB := hide (tck_bd Fn L dm N)
    rw [h0] at CL
    clear h hx hF hg h0 hre
    go_enter Try.func26, Try.ntmps26
    go_wp2_with fail
    rw [← hA]
    clear hA
    refine CL.mono ?_
    rintro e w1 ⟨rfl, g1⟩
    obtain ⟨b0, b1, bb, gw⟩ := HBX.out _ g1
    have G1 := hide g1
    clear g1 gw
    go_wp2_with fail
    go_loopg [9, 10, 11] Fn (fun k av rv i wr => ∃ (j : Nat), j + k = Fn ∧ i = .int .u64 (j : Int) ∧ av = .int .u64 (sm j (h1N (Fn : Int) L dm)) ∧ rv = .int .u64 (rsN1 (Fn : Int) L dm re j) ∧ Gr A wr)
    case atStart => exact ⟨0, by omega, rfl, rfl, by unfold rsN1; rw [if_pos (by omega)]; rfl, G1.out⟩
    case round =>
      obtain ⟨j, hjk, rfl, rfl, rfl, hg⟩ := hrel
      obtain ⟨V, hV⟩ : ∃ W, W = wr := ⟨_, rfl⟩
      subst hV
      have G := hide hg
      obtain ⟨b0, b1, bb, gw⟩ := HBX.out _ hg
      obtain ⟨s0, s1⟩ := HSA.out j
      obtain ⟨r0, r1⟩ := HSR.out re j
      by_cases hj : j < Fn
      · have hj' : (j : Int) < (Fn : Int) := by omega
        have CH := HH.out j hj V hg
        have hlen : (toI (hasP (Fn : Int) L (j : Int) dm)).length = (hasP (Fn : Int) L (j : Int) dm).length := List.length_map _
        have SA := hide (show sm (j + 1) (h1N (Fn : Int) L dm) = sm j (h1N (Fn : Int) L dm) + h1N (Fn : Int) L dm j from rfl)
        have HV := hide (show h1N (Fn : Int) L dm j = if 0 < (hasP (Fn : Int) L (j : Int) dm).length then 1 else 0 from rfl)
        have RL := hide (fun h : j < re => rsN1_lo (F := (Fn : Int)) (L := L) (dm := dm) h)
        have RH := hide (fun h : ¬ j < re => rsN1_hi (F := (Fn : Int)) (L := L) (dm := dm) h)
        rw [hlen] at CH
        generalize (hasP (Fn : Int) L (j : Int) dm).length = m at *
        generalize sm j (h1N (Fn : Int) L dm) = sj at *
        generalize rsN1 (Fn : Int) L dm re j = rj at *
        have k1 : sj + 1 ≤ 18446744073709551615 := by omega
        have k2 : rj + 1 ≤ 18446744073709551615 := by omega
        clear hg hlen
        by_cases hm : 0 < m
        · have HA := hide (show h1N (Fn : Int) L dm j = 1 by rw [HV.out, if_pos hm])
          by_cases hjr : (j : Int) < (re : Int)
          · have HR := hide (show rsN1 (Fn : Int) L dm re (j + 1) = rj + 1 by rw [RL.out (by omega), HA.out])
            go_wp2_with fail
            refine CH.mono ?_
            rintro e w2 ⟨ao, cap, rfl, -, g2⟩
            have G2 := hide (Gr.trans G.out g2)
            clear b0 b1 bb gw g2
            obtain ⟨b0, b1, bb, gw⟩ := HBX.out _ G2.out
            go_wp2
            go_roundg (gk - 1)
            case measure => omega
            case rel =>
              refine ⟨j + 1, by omega, ?_, by rw [SA.out, HA.out], by rw [HR.out], G2.out⟩
              first | with_reducible rfl | simp
          · have HR := hide (show rsN1 (Fn : Int) L dm re (j + 1) = rj from RH.out (by omega))
            go_wp2_with fail
            refine CH.mono ?_
            rintro e w2 ⟨ao, cap, rfl, -, g2⟩
            have G2 := hide (Gr.trans G.out g2)
            clear b0 b1 bb gw g2
            obtain ⟨b0, b1, bb, gw⟩ := HBX.out _ G2.out
            go_wp2
            go_roundg (gk - 1)
            case measure => omega
            case rel =>
              refine ⟨j + 1, by omega, ?_, by rw [SA.out, HA.out], by rw [HR.out], G2.out⟩
              first | with_reducible rfl | simp
        · have HA := hide (show h1N (Fn : Int) L dm j = 0 by rw [HV.out, if_neg hm])
          have hm0 : m = 0 := by omega
          subst hm0
          have HR := hide (show rsN1 (Fn : Int) L dm re (j + 1) = rj by
            by_cases q : j < re
            · rw [RL.out q, HA.out, Int.add_zero]
            · exact RH.out q)
          go_wp2_with fail
          refine CH.mono ?_
          rintro e w2 ⟨ao, cap, rfl, -, g2⟩
          have G2 := hide (Gr.trans G.out g2)
          clear b0 b1 bb gw g2
          obtain ⟨b0, b1, bb, gw⟩ := HBX.out _ G2.out
          go_wp2
          go_roundg (gk - 1)
          case measure => omega
          case rel =>
            refine ⟨j + 1, by omega, ?_, by rw [SA.out, HA.out, Int.add_zero], by rw [HR.out], G2.out⟩
            first | with_reducible rfl | simp
      · have hj' : ¬ ((j : Int) < (Fn : Int)) := by omega
        have hje : j = Fn := by omega
        subst hje
        obtain ⟨t0, t1⟩ := HTB.out
        rw [HTK.out] at t0 t1
        have HTE := hide HTK.out
        generalize sm j (h1N (j : Int) L dm) = sj at *
        generalize rsN1 (j : Int) L dm re j = rj at *
        obtain ⟨fr, hfr⟩ : ∃ fr : Int, fr = ((N / j : Nat) : Int) := ⟨_, rfl⟩
        rw [← hfr] at t0 t1 HTE
        have hfr0 : 0 ≤ fr := by rw [hfr]; exact Int.natCast_nonneg _
        have hquo : (N : Int).tdiv (j : Int) = fr := by rw [Int.tdiv_eq_ediv_of_nonneg (by omega), hfr, Int.natCast_ediv]
        have hmul0 : 0 ≤ fr * sj := Int.mul_nonneg hfr0 s0
        have hfr1 : fr ≤ 18446744073709551615 := by rw [hfr]; have := Nat.div_le_self N j; omega
        have HF3 := hide (show IntKind.u64.wrap (IntKind.u64.wrap (fr * sj) + rj) = fr * sj + rj by
          rw [IntWalk.u64_in (fr * sj) ⟨hmul0, by omega⟩]
          exact IntWalk.u64_in _ ⟨by omega, by omega⟩)
        have GW := hide gw
        clear hg gw hfr t0 t1 r1 s1
        go_wp2_with fail
        refine bodyPost_ret (v := .tuple #[.int .u64 (fr * sj + rj), .int .i64 0]) (by simp [results, Try.results26, go_sem]; exact HF3.out) rfl ?_
        exact ⟨_, by rw [H0.out], fun q => absurd H0.out q, fun _ => ⟨j, rfl, HTE.out.symm⟩, GW.out⟩
  · have H0 := hide h0
    obtain ⟨E, hE⟩ : ∃ E, E = lkE F L dm 16 := ⟨_, rfl⟩
    have HE := hide hE
    rw [← hE] at CL h0
    have hne : (E != 0) = true := by simpa using h0
    clear h hx hF h0 hE
    go_enter Try.func26, Try.ntmps26
    go_wp2_with fail
    rw [← hA]
    clear hA
    refine CL.mono ?_
    rintro e w1 ⟨rfl, g1⟩
    obtain ⟨b0, b1, bb, gw⟩ := HBX.out _ g1
    have GW := hide gw
    clear g1 gw
    go_wp2
    go_ret2
    exact ⟨0, by rw [← HE.out]; rfl, fun _ => rfl, fun q => absurd q H0.out, GW.out⟩
end Go.Proofs.Ytbghagpjkkmhpaa.Lt
