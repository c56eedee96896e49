/-
  TableOne, walked: a P is had by the domain that Owner tells, and by no other one. Condition: the numbers are of their types.
-/
import Derived.Test.YtbghagpjkkmhpaaTbLaw3
namespace Go.Proofs.Ytbghagpjkkmhpaa.Lt
open Go.RowKit Wd
attribute [local go_sem ↓] Go.wp_at_zero Go.wp_at_succ
set_option maxRecDepth 20000

/-- a list of numbers in memory, gone over for one of them -/
def inK (p : Int) (zs : List Int) : Bool := zs.any (fun x => x == p)
theorem inK_snoc (p x : Int) (zs : List Int) : inK p (zs ++ [x]) = (inK p zs || x == p) := by simp [inK]
theorem one_in {F : Int} {L : List (List Sl)} {t p : Int} (hx : Rgs L) (h : ownE F L p = 0) (i : Nat) (hi : i < 16) : lkE F L i 16 = 0 ∧ inK p (hasI F L t i) = decide ((i : Int) = ownD F L t p) := by
  obtain ⟨P, l, rfl, hl, hm, hg, hs, hd⟩ := own_at (t := t) hx h
  obtain ⟨-, hc, -, -⟩ := lkE_ok hx h
  have h0 : lkE F L i 16 = 0 := by unfold lkE; rw [if_pos hc, if_neg (by omega)]
  refine ⟨h0, ?_⟩
  have hmem : ∀ (zs : List Nat) (P : Nat), inK (P : Int) (zs.map fun q : Nat => (q : Int)) = decide (P ∈ zs) := by
    intro zs P
    unfold inK
    rw [List.any_map]
    induction zs with
    | nil => rfl
    | cons z r ih =>
      rw [List.any_cons, ih]
      by_cases e : P = z
      · subst e; simp
      · have e2 : ((z : Int) == (P : Int)) = false := beq_eq_false_iff_ne.2 (by omega)
        simp [e, e2]
  unfold hasI
  rw [if_pos h0, hmem, hd]
  congr 1
  rw [hasP_mem]
  apply propext
  constructor
  · rintro ⟨y, hy, hb⟩
    rw [hl] at hy
    injection hy with hy
    subst hy
    unfold hasB at hb
    cases hq : slt F l t with
    | none => rw [hq] at hb; cases hb
    | some x =>
      rw [hq] at hb
      exact (of_decide_eq_true hb).symm
  · intro e
    refine ⟨l, hl, ?_⟩
    unfold hasB
    cases hq : slt F l t with
    | none => rw [hq] at e; exact absurd e (by show (i : Int) ≠ -1; omega)
    | some x =>
      rw [hq] at e
      exact decide_eq_true e.symm
theorem ownD_bd {F : Int} {L : List (List Sl)} {t p : Int} (hx : Rgs L) (h : ownE F L p = 0) : -1 ≤ ownD F L t p ∧ ownD F L t p < 16 := by
  obtain ⟨P, l, rfl, hl, hm, hg, hs, hd⟩ := own_at (t := t) hx h
  rw [hd]
  cases hq : slt F l t with
  | none => exact ⟨Int.le_refl _, by decide⟩
  | some x =>
    obtain ⟨k1, _, _⟩ := slt_mem hq
    have := hg.slot l hm x k1
    exact ⟨by show -1 ≤ x.d; omega, this.2.2.1⟩
set_option maxHeartbeats 16000000 in
theorem one_walk (w : World) (F : Int) (a : Option Addr) (n c : Nat) (L : List (List Sl)) (t p k : Int) (h : Rw w (.slice a n c) L) (hx : Rgs L) (hF : Tk.U F) (ht : Tk.U t) (_hp : -9223372036854775808 ≤ p ∧ p ≤ 9223372036854775807) (_hk : -9223372036854775808 ≤ k ∧ k ≤ 9223372036854775807) :
    Calls Try.prog 8 #[.agg #[.int .u64 F, .slice a n c], .agg #[.int .u64 t, .int .i64 p, .int .i64 k]] w fun e w' => e = .returned (.bool true) ∧ Gr w w' := by
  have H1 := hide (fun W (g : Gr w W) => owner_any W a n c L (h.gr g) hx F t p hF ht)
  have H2 := hide (fun (i : Nat) W (g : Gr w W) => has_any W a n c L (h.gr g) hx F t (i : Int) hF ht)
  have HX := hide (fun (i : Nat) => hasI_len (F := F) (t := t) (dm := (i : Int)) hx)
  obtain ⟨W0, hW0⟩ : ∃ W, W = (w.alloc (.cells #[.int .u64 F, .slice a n c] 25)).alloc (.cells #[.int .u64 t, .int .i64 p, .int .i64 k] 32) := ⟨_, rfl⟩
  have HB := hide (show ∀ W, Gr W0 W → _ from fun W g => boxTX (by rw [hW0] at g; exact g))
  have G0 := hide (show Gr W0 W0 from Gr.refl _)
  by_cases h0 : ownE F L p = 0
  · have HI := hide (fun (i : Nat) (hi : i < 16) => one_in (t := t) hx h0 i hi)
    obtain ⟨d0, d1⟩ := ownD_bd (t := t) hx h0
    rw [h0] at H1
    generalize ownD F L t p = D at *
    clear h hx hF ht h0
    go_enter Try.func8, Try.ntmps8
    go_wp2_with fail
    rw [← hW0]
    clear hW0
    refine (H1.out _ (HB.out _ G0.out).2.2).mono ?_
    rintro e w1 ⟨rfl, g1⟩
    have G1 := hide (Gr.trans G0.out g1)
    clear g1
    go_wp2_with fail
    go_loopg [7] 16 (fun k i wr => ∃ (j : Nat), j + k = 16 ∧ i = .int .i64 (j : Int) ∧ Gr W0 wr)
    case atStart => exact ⟨0, by omega, rfl, G1.out⟩
    case round =>
      obtain ⟨j, hjk, rfl, hg⟩ := hrel
      obtain ⟨V, hV⟩ : ∃ W, W = wr := ⟨_, rfl⟩
      subst hV
      have G := hide hg
      obtain ⟨⟨t0, t1, tb⟩, ⟨x0, x1, x2, xb⟩, gw⟩ := HB.out _ hg
      by_cases hj : j < 16
      · have hj' : (j : Int) < 16 := by omega
        obtain ⟨e0, e1⟩ := HI.out j hj
        have CH := H2.out j V gw
        rw [e0] at CH
        have HLn := HX.out j
        generalize hasI F L t (j : Int) = R at CH e1 HLn
        have HE1 := hide e1
        obtain ⟨K1, hK1⟩ : ∃ K, K = gk - 1 := ⟨_, rfl⟩
        have HKK := hide (show j + 1 + K1 = 16 by omega)
        have HK2 := hide (show K1 < gk by omega)
        clear e0 e1 hg hK1
        go_wp2_with fail
        refine CH.mono ?_
        rintro e w2 ⟨ao, cap, rfl, l2, g2⟩
        have G2 := hide (Gr.trans G.out g2)
        have HLS := hide (show ∀ W, Gr w2 W → Ls eI (V.heap.size ≤ ·) W (.slice ao R.length cap) R from fun W g => l2.gr g)
        clear t0 t1 tb x0 x1 x2 xb gw l2 g2
        obtain ⟨m, hm⟩ : ∃ m, m = R.length := ⟨_, rfl⟩
        rw [← hm] at HLn
        have HM := hide hm
        rw [← hm]
        rw [← hm] at HLS
        clear hm
        go_wp2_with fail
        go_loopg [10, 11] m (fun k bv i wr => ∃ (q : Nat), q + k = m ∧ i = .int .i64 (q : Int) ∧ bv = .bool (inK p (R.take q)) ∧ Gr w2 wr)
        case atStart => exact ⟨0, by omega, rfl, rfl, Gr.refl _⟩
        case round =>
          obtain ⟨q, hqk, rfl, rfl, hg⟩ := hrel
          obtain ⟨Z, hZ⟩ : ∃ W, W = wr := ⟨_, rfl⟩
          subst hZ
          have GQ := hide hg
          have GZ := hide (Gr.trans G2.out hg)
          obtain ⟨⟨t0, t1, tb⟩, ⟨x0, x1, x2, xb⟩, gw⟩ := HB.out _ GZ.out
          by_cases hq : q < m
          · have hq' : (q : Int) < (m : Int) := by omega
            have hq0 : (0 : Int) ≤ (q : Int) := by omega
            have hql : q < R.length := by rw [← HM.out]; exact hq
            have hqx : R[q]? = some R[q] := List.getElem?_eq_getElem hql
            generalize R[q] = x at hqx
            obtain ⟨g3, o3, e1, hgl3, hcap3, c0⟩ := num_at (HLS.out _ hg) hqx
            subst e1
            have HT := hide (show inK p (R.take (q + 1)) = (inK p (R.take q) || x == p) by rw [List.take_add_one, hqx, Option.toList_some, inK_snoc])
            clear hqx hg t0 t1 tb x0 x2 gw
            cases hb : inK p (R.take q)
            · rw [hb] at HT
              clear hb
              go_wp2_with fail
              go_quiet (fail)
              go_wp2
              go_roundg (gk - 1)
              case measure => omega
              case rel =>
                refine ⟨q + 1, by omega, ?_, by rw [HT.out]; simp, by first | exact GQ.out | exact Ch.drew GQ.out | exact Ch.drewN GQ.out _⟩
                first | with_reducible rfl | simp
            · rw [hb] at HT
              clear hb
              go_wp2_with fail
              go_quiet (fail)
              go_wp2
              go_roundg (gk - 1)
              case measure => omega
              case rel =>
                refine ⟨q + 1, by omega, ?_, by rw [HT.out]; simp, by first | exact GQ.out | exact Ch.drew GQ.out | exact Ch.drewN GQ.out _⟩
                first | with_reducible rfl | simp
          · have hq' : ¬ ((q : Int) < (m : Int)) := by omega
            have HT := hide (show inK p (R.take q) = decide ((j : Int) = D) by rw [← HE1.out, List.take_of_length_le (by rw [← HM.out]; omega)])
            rw [HT.out]
            clear hg t0 t1 tb x0 x1 x2 xb gw
            by_cases hd : (j : Int) = D
            · rw [decide_eq_true hd]
              subst hd
              go_wp2
              go_roundg K1
              case measure => exact HK2.out
              case rel =>
                refine ⟨j + 1, HKK.out, ?_, GZ.out⟩
                first | with_reducible rfl | simp
            · have hdb : ((j : Int) == D) = false := by simpa using hd
              rw [decide_eq_false hd]
              go_wp2
              go_roundg K1
              case measure => exact HK2.out
              case rel =>
                refine ⟨j + 1, HKK.out, ?_, GZ.out⟩
                first | with_reducible rfl | simp
      · have hj' : ¬ ((j : Int) < 16) := by omega
        have GW := hide gw
        clear hg t0 t1 tb x0 x1 x2 xb gw
        go_wp2
        go_ret
        exact ⟨rfl, GW.out⟩
  · have hD := (sat_bad (t := t) h0).2.1
    rw [hD] at H1
    generalize ownE F L p = E at *
    have hne : (E != 0) = true := by simpa using h0
    clear h hx hF ht h0
    go_enter Try.func8, Try.ntmps8
    go_wp2_with fail
    rw [← hW0]
    clear hW0
    refine (H1.out _ (HB.out _ G0.out).2.2).mono ?_
    rintro e w1 ⟨rfl, g1⟩
    have G1 := hide (Gr.trans G0.out g1)
    clear g1
    go_wp2_with fail
    refine (awake_any _).mono ?_
    rintro e w8 ⟨rfl, g8⟩
    have G8 := hide (HB.out _ (Gr.trans G1.out g8)).2.2
    clear g8
    go_wp2
    go_ret
    exact ⟨rfl, G8.out⟩
end Go.Proofs.Ytbghagpjkkmhpaa.Lt
