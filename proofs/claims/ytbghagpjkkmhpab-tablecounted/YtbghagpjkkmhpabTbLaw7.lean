/-
  TableCounted, walked: from any tick on the domain can run on at least as many Ps and ticks as Supply tells. Condition: the numbers are of their types.
-/
import Derived.Test.YtbghagpjkkmhpabTbAwake
import Derived.Test.YtbghagpjkkmhpabTbBox
import Derived.Test.YtbghagpjkkmhpabTbHas
import Derived.Test.YtbghagpjkkmhpabTbSame
import Derived.Test.YtbghagpjkkmhpabTbSup
import Derived.Test.YtbghagpjkkmhpabTbCntP
namespace Go.Proofs.Ytbghagpjkkmhpab.Lt
open Go.RowKit Wd
attribute [local go_sem ↓] Go.wp_at_zero Go.wp_at_succ
set_option maxRecDepth 20000

/-- a P counts where its domain can run -/
def oneF (F : Int) (L : List (List Sl)) (u p : Int) : Int := if 0 < lftN F L u p then 1 else 0
theorem oneF_bd (F : Int) (L : List (List Sl)) (u p : Int) : 0 ≤ oneF F L u p ∧ oneF F L u p ≤ 1 := by unfold oneF; split <;> decide
theorem has_sum {F : Int} {L0 : List (List Sl)} (hg : Good F L0) (hc : (chk F L0 16).2.2 = 0) (u dm : Int) : ∀ (L : List (List Sl)) (i : Nat), (∀ k l, L[k]? = some l → L0[i + k]? = some l) → ls (hasL F u dm i L) (fun P : Nat => oneF F L0 u P) = ls L (fun l => (slt F l u).elim 0 fun x => if x.d = dm ∧ u % F < x.s + x.l - x.p then 1 else 0) := by
  intro L
  induction L with
  | nil => intro i _; rfl
  | cons l r ih =>
    intro i h
    have hl : L0[i]? = some l := by have := h 0 l rfl; rwa [Nat.add_zero] at this
    have hr := ih (i + 1) (fun k y hy => by have := h (k + 1) y (by simpa using hy); rwa [Nat.add_assoc, Nat.add_comm 1 k])
    rw [ls_cons, ← hr]
    show ls ((if hasB F u dm l = true then [i] else []) ++ hasL F u dm (i + 1) r) _ = _
    rw [ls_app]
    congr 1
    cases hs : slt F l u with
    | none =>
      have hb : hasB F u dm l = false := by unfold hasB; rw [hs]; rfl
      rw [hb]
      rfl
    | some x =>
      obtain ⟨a, b, c⟩ := lN_some hg (List.mem_of_getElem? hl) hs
      by_cases hd : x.d = dm
      · have hb : hasB F u dm l = true := by unfold hasB; rw [hs]; exact decide_eq_true hd
        rw [hb, if_pos rfl, ls_cons, ls_nil, Int.add_zero]
        unfold oneF
        rw [(row_at hc hl u).2.2, c]
        show _ = if x.d = dm ∧ u % F < x.s + x.l - x.p then (1 : Int) else 0
        by_cases q : x.s + x.l - x.p ≤ u % F
        · rw [if_pos q, if_neg (by omega), if_neg (by omega)]
        · rw [if_neg q, if_pos (by omega), if_pos ⟨hd, by omega⟩]
      · have hb : hasB F u dm l = false := by unfold hasB; rw [hs]; exact decide_eq_false hd
        rw [hb]
        show ls [] _ = if x.d = dm ∧ u % F < x.s + x.l - x.p then (1 : Int) else 0
        rw [if_neg (fun q => hd q.1)]
        rfl
theorem has_crw {Fn : Nat} {L : List (List Sl)} {dm : Int} (hx : Rgs L) (h0 : lkE (Fn : Int) L dm 16 = 0) (T : Nat) : ls (hasI (Fn : Int) L (T : Int) dm) (oneF (Fn : Int) L (T : Int)) = crw L dm (T % Fn) := by
  obtain ⟨hg, hc, -, -⟩ := lkE_ok hx h0
  unfold hasI
  rw [if_pos h0, ls_map]
  have hf1 := hg.f1
  have hm : T % Fn < Fn := Nat.mod_lt _ (by omega)
  refine (has_sum hg hc (T : Int) dm L 0 (fun k l h => by rwa [Nat.zero_add])).trans ?_
  rw [← run_at hg dm (T % Fn) (by omega)]
  refine ls_congr fun l _ => ?_
  rw [← Int.natCast_emod, slt_mod (t := (T : Int)) (u := ((T % Fn : Nat) : Int)) l (by rw [Int.natCast_emod, Int.emod_emod_of_dvd _ (Int.dvd_refl _)])]
set_option maxHeartbeats 2500000 in
theorem counted_walk (w : World) (F : Int) (a : Option Addr) (n c : Nat) (L : List (List Sl)) (t p dm x : Int) (h : Rw w (.slice a n c) L) (hx : Rgs L) (hF : Tk.U F) (ht : Tk.U t) (_hp : -9223372036854775808 ≤ p ∧ p ≤ 9223372036854775807) (_hk : -9223372036854775808 ≤ dm ∧ dm ≤ 9223372036854775807) (hxb : 0 ≤ x ∧ x ≤ 65535) :
    Calls Try.prog 8 #[.agg #[.int .u64 F, .slice a n c], .agg #[.int .u64 t, .int .i64 p, .int .i64 dm], .int .u16 x] w fun e w' => e = .returned (.bool true) ∧ Gr w w' := by
  obtain ⟨x0', x1'⟩ := hxb
  obtain ⟨N, rfl⟩ : ∃ N : Nat, x = (N : Int) := ⟨x.toNat, by omega⟩
  obtain ⟨T, rfl⟩ : ∃ T : Nat, t = (T : Int) := ⟨t.toNat, by have := ht.1; omega⟩
  have HSP := hide (fun W (g : Gr w W) => supply_any W a n c L (h.gr g) hx F dm hF N (by omega))
  obtain ⟨W0, hW0⟩ : ∃ W, W = (w.alloc (.cells #[.int .u64 F, .slice a n c] 25)).alloc (.cells #[.int .u64 (T : Int), .int .i64 p, .int .i64 dm] 27) := ⟨_, rfl⟩
  have HB := hide (show ∀ W, Gr W0 W → _ from fun W g => boxTX (by rw [hW0] at g; exact g))
  have G0 := hide (show Gr W0 W0 from Gr.refl _)
  have ht1 := ht.2
  by_cases h0 : lkE F L dm 16 = 0
  · obtain ⟨hg, hc, -, -⟩ := lkE_ok hx h0
    obtain ⟨Fn, rfl⟩ : ∃ Fn : Nat, F = (Fn : Int) := ⟨F.toNat, by have := hg.f1; omega⟩
    have hf1 : 1 ≤ Fn := by have := hg.f1; omega
    have HE := hide (show supE (Fn : Int) L dm N = 0 by unfold supE; rw [if_pos h0, if_neg (by omega)])
    by_cases hbig : 4611686018427387904 < (T : Int)
    · clear h hx hF ht h0 hg hc
      go_enter Try.func8, Try.ntmps8
      go_wp2_with fail
      rw [← hW0]
      clear hW0
      refine (HSP.out _ (HB.out _ G0.out).2.2).mono ?_
      rintro e w1 ⟨v, E, rfl, hE, -, -, g1⟩
      rw [HE.out] at hE
      subst hE
      have G1 := hide (Gr.trans G0.out g1)
      obtain ⟨⟨t0, t1, tb⟩, ⟨x0, x1, x2, xb⟩, gw⟩ := HB.out _ G1.out
      clear g1
      go_wp2_with fail
      refine (awake_any _).mono ?_
      rintro e w8 ⟨rfl, g8⟩
      have G8 := hide (HB.out _ (Gr.trans G1.out g8)).2.2
      clear g8
      go_wp2
      go_ret
      exact ⟨rfl, G8.out⟩
    · have HH := hide (fun (i : Nat) (hi : i < 65536) W (g : Gr w W) => has_any W a n c L (h.gr g) hx (Fn : Int) ((T + i : Nat) : Int) dm hF ⟨by omega, by omega⟩)
      have HLF0 := hide (fun (i : Nat) (hi : i < 65536) (p : Int) W (g : Gr w W) => left_any W a n c L (h.gr g) hx (Fn : Int) ((T + i : Nat) : Int) p hF ⟨by omega, by omega⟩)
      have HX := hide (fun u => hasI_len (F := (Fn : Int)) (t := u) (dm := dm) hx)
      have HCR := hide (fun T => has_crw hx h0 T)
      have HSN := hide (fun i => sup_nonneg (rfl : (Fn : Int) = (Fn : Int)) hg dm T i)
      rw [h0] at HH
      clear h hx hF ht h0 hg hc
      go_enter Try.func8, Try.ntmps8
      go_wp2_with fail
      rw [← hW0]
      clear hW0
      refine (HSP.out _ (HB.out _ G0.out).2.2).mono ?_
      rintro e w1 ⟨v, E, rfl, hE, -, hsp, g1⟩
      rw [HE.out] at hE
      subst hE
      have HV := hide (show v ≤ sup Fn L dm T N by
        obtain ⟨F2, e2, s2⟩ := hsp rfl
        have e3 : F2 = Fn := by omega
        subst e3
        exact s2.le hf1 T)
      have G1 := hide (Gr.trans G0.out g1)
      obtain ⟨⟨t0, t1, tb⟩, ⟨x0, x1, x2, xb⟩, gw⟩ := HB.out _ G1.out
      clear g1 hsp
      go_wp2_with fail
      clear t0 t1 tb x0 x1 x2 xb gw
      go_loopg [9, 10] N (fun k gv i wr => ∃ (j : Nat), j + k = N ∧ i = .int .u64 (j : Int) ∧ gv = .int .u64 (sup Fn L dm T j) ∧ Gr W0 wr)
      case atStart => exact ⟨0, by omega, rfl, rfl, G1.out⟩
      case round =>
        obtain ⟨j, hjk, rfl, rfl, hg⟩ := hrel
        obtain ⟨V, hV⟩ : ∃ W, W = wr := ⟨_, rfl⟩
        subst hV
        have G := hide hg
        obtain ⟨⟨t0, t1, tb⟩, ⟨x0, x1, x2, xb⟩, gw⟩ := HB.out _ hg
        obtain ⟨s0, s1⟩ := HSN.out j
        by_cases hj : j < N
        · have hj' : (j : Int) < (N : Int) := by omega
          have hTj : (T : Int) + (j : Int) = ((T + j : Nat) : Int) := by omega
          have CH := HH.out j (by omega) V gw
          have HLF := hide (HLF0.out j (by omega))
          have HLn := HX.out ((T + j : Nat) : Int)
          have HSS := hide (show sup Fn L dm T (j + 1) = sup Fn L dm T j + ls (hasI (Fn : Int) L ((T + j : Nat) : Int) dm) (oneF (Fn : Int) L ((T + j : Nat) : Int)) by rw [HCR.out]; rfl)
          obtain ⟨u, hu⟩ : ∃ u : Int, u = ((T + j : Nat) : Int) := ⟨_, rfl⟩
          rw [← hu] at hTj CH HLF HLn HSS
          have HLF := hide (show ∀ (y : Int) W, Gr W0 W → _ from fun y W g => HLF.out y W (HB.out W g).2.2)
          generalize hasI (Fn : Int) L u dm = R at CH HLn HSS
          generalize sup Fn L dm T j = so at *
          obtain ⟨K1, hK1⟩ : ∃ K, K = gk - 1 := ⟨_, rfl⟩
          have HKK := hide (show j + 1 + K1 = N by omega)
          have HK2 := hide (show K1 < gk by omega)
          have HTJ := hide hTj
          have hTJ0 : 0 ≤ (T : Int) + (j : Int) := by omega
          have hTJ1 : (T : Int) + (j : Int) ≤ 18446744073709551615 := by omega
          have HWT := hide (show IntKind.u64.wrap ((T : Int) + (j : Int)) = (T : Int) + (j : Int) from IntWalk.u64_in _ ⟨hTJ0, hTJ1⟩)
          rw [← hTj] at CH
          clear hg hK1 hu hTj
          go_wp2_with fail
          refine CH.mono ?_
          rintro e w2 ⟨ao, cap, rfl, l2, g2⟩
          have G2 := hide (Gr.trans G.out g2)
          have HLS := hide (show ∀ W, Gr w2 W → Ls eI (V.heap.size ≤ ·) W (.slice ao R.length cap) R from fun W g => l2.gr g)
          clear t0 t1 tb x0 x1 x2 xb gw l2 g2
          obtain ⟨m, hm⟩ : ∃ m, m = R.length := ⟨_, rfl⟩
          rw [← hm] at HLn HLS
          have HM := hide hm
          rw [← hm]
          clear hm
          have HSM := hide (fun (q : Nat) => (show 0 ≤ ls (R.take q) (oneF (Fn : Int) L u) ∧ ls (R.take q) (oneF (Fn : Int) L u) ≤ 65536 from ⟨ls_nonneg fun y _ => (oneF_bd _ _ _ y).1, by
            have k1 : ls (R.take q) (oneF (Fn : Int) L u) ≤ (R.take q).length * 1 := ls_const fun y _ => (oneF_bd _ _ _ y).2
            have k2 := HM.out
            rw [List.length_take] at k1
            omega⟩))
          go_wp2_with fail
          go_loopg [9, 13] m (fun k gv i wr => ∃ (q : Nat), q + k = m ∧ i = .int .i64 (q : Int) ∧ gv = .int .u64 (so + ls (R.take q) (oneF (Fn : Int) L u)) ∧ Gr w2 wr)
          case atStart => exact ⟨0, by omega, rfl, by show Value.int .u64 so = .int .u64 (so + 0); rw [Int.add_zero], Gr.refl _⟩
          case round =>
            obtain ⟨q, hqk, rfl, rfl, hg⟩ := hrel
            obtain ⟨Z, hZ⟩ : ∃ W, W = wr := ⟨_, rfl⟩
            subst hZ
            have GQ := hide hg
            have GZ := hide (Gr.trans G2.out hg)
            obtain ⟨q0, q1⟩ := HSM.out q
            by_cases hq : q < m
            · have hq' : (q : Int) < (m : Int) := by omega
              have hq0 : (0 : Int) ≤ (q : Int) := by omega
              have hql : q < R.length := by rw [← HM.out]; exact hq
              have hqx : R[q]? = some R[q] := List.getElem?_eq_getElem hql
              generalize R[q] = y at hqx
              obtain ⟨g3, o3, e1, hgl3, hcap3, c0⟩ := num_at (HLS.out _ hg) hqx
              subst e1
              have HT := hide (ls_take_snoc (oneF (Fn : Int) L u) hqx)
              have HY := hide (show ∀ W, Gr Z W → W.cell? ⟨g3, o3 + q, none⟩ = some (.int .i64 y) ∧ g3 < W.heap.size from fun W g => ⟨(g.cell hgl3).trans c0, Nat.lt_of_lt_of_le hgl3 g.size⟩)
              generalize ls (R.take q) (oneF (Fn : Int) L u) = sq at *
              have k0 : 0 ≤ so + sq := by omega
              have k1 : so + sq + 1 ≤ 18446744073709551615 := by omega
              have hS0 : Gr Z Z.drew := Ch.drew (Gr.refl Z)
              have HP0 := hide (show oneF (Fn : Int) L u y = if 0 < lftN (Fn : Int) L u y then 1 else 0 from rfl)
              by_cases hpos : 0 < lftN (Fn : Int) L u y
              · have HP := hide (show oneF (Fn : Int) L u y = 1 by rw [HP0.out, if_pos hpos])
                rw [← HTJ.out] at HLF hpos
                clear hqx hg c0 hgl3
                go_wp2_with fail
                refine wp_region_held_drew (S := Gr Z) (by kernel_rfl) (by exact hS0) (fun _ => ?_)
                generalize World.drew Z = V0 at hS0 ⊢
                refine takeS_on (i := 0) 57 (v := ?hv1) rfl rfl (by kernel_rfl) (by kernel_rfl) (by kernel_rfl) (fun _ _ _ h => h) (by kernel_rfl) ?hh1 (by exact hS0) ?_
                case hh1 => (intro w' hSw; obtain ⟨⟨y0, y1, yb⟩, ⟨z0, z1, z2, zb⟩, -⟩ := HB.out _ (Gr.trans GZ.out hSw); obtain ⟨yc, yg⟩ := HY.out _ hSw; go_simp; try (with_reducible rfl))
                simp only [Act.put, List.setIfInBounds_toArray, List.set_cons_zero, List.set_cons_succ]
                refine takeS_on (i := 1) 58 (v := ?hv2) rfl rfl (by kernel_rfl) (by kernel_rfl) (by kernel_rfl) (fun _ _ _ h => h) (by kernel_rfl) ?hh2 (by exact hS0) ?_
                case hh2 => (intro w' hSw; go_simp; try (with_reducible rfl))
                simp only [Act.put, List.setIfInBounds_toArray, List.set_cons_zero, List.set_cons_succ]
                refine takeS_on (i := 2) 59 (v := ?hv3) rfl rfl (by kernel_rfl) (by kernel_rfl) (by kernel_rfl) (fun _ _ _ h => h) (by kernel_rfl) ?hh3 (by exact hS0) ?_
                case hh3 => (intro w' hSw; obtain ⟨⟨y0, y1, yb⟩, ⟨z0, z1, z2, zb⟩, -⟩ := HB.out _ (Gr.trans GZ.out hSw); obtain ⟨yc, yg⟩ := HY.out _ hSw; go_simp; try (with_reducible rfl))
                simp only [Act.put, List.setIfInBounds_toArray, List.set_cons_zero, List.set_cons_succ]
                refine takeS_on (i := 3) 60 (v := ?hv4) rfl rfl (by kernel_rfl) (by kernel_rfl) (by kernel_rfl) (fun _ _ _ h => h) (by kernel_rfl) ?hh4 (by exact hS0) ?_
                case hh4 => (intro w' hSw; go_simp; try (with_reducible rfl))
                simp only [Act.put, List.setIfInBounds_toArray, List.set_cons_zero, List.set_cons_succ]
                refine takeS_on (i := 4) 61 (v := ?hv5) rfl rfl (by kernel_rfl) (by kernel_rfl) (by kernel_rfl) (fun _ _ _ h => h) (by kernel_rfl) ?hh5 (by exact hS0) ?_
                case hh5 => (intro w' hSw; have hwt := HWT.out; go_simp; try (with_reducible rfl))
                simp only [Act.put, List.setIfInBounds_toArray, List.set_cons_zero, List.set_cons_succ]
                refine takeS_on (i := 5) 62 (v := ?hv6) rfl rfl (by kernel_rfl) (by kernel_rfl) (by kernel_rfl) (fun _ _ _ h => h) (by kernel_rfl) ?hh6 (by exact hS0) ?_
                case hh6 => (intro w' hSw; go_simp; try (with_reducible rfl))
                simp only [Act.put, List.setIfInBounds_toArray, List.set_cons_zero, List.set_cons_succ]
                refine takeS_on (i := 6) 63 (v := ?hv7) rfl rfl (by kernel_rfl) (by kernel_rfl) (by kernel_rfl) (fun _ _ _ h => h) (by kernel_rfl) ?hh7 (by exact hS0) ?_
                case hh7 => (intro w' hSw; go_simp; try (with_reducible rfl))
                simp only [Act.put, List.setIfInBounds_toArray, List.set_cons_zero, List.set_cons_succ]
                refine takeS_on (i := 7) 64 (v := ?hv8) rfl rfl (by kernel_rfl) (by kernel_rfl) (by kernel_rfl) (fun _ _ _ h => h) (by kernel_rfl) ?hh8 (by exact hS0) ?_
                case hh8 => (intro w' hSw; go_simp; try (with_reducible rfl))
                simp only [Act.put, List.setIfInBounds_toArray, List.set_cons_zero, List.set_cons_succ]
                refine takeS_on (i := 8) 65 (v := ?hv9) rfl rfl (by kernel_rfl) (by kernel_rfl) (by kernel_rfl) (fun _ _ _ h => h) (by kernel_rfl) ?hh9 (by exact hS0) ?_
                case hh9 => (intro w' hSw; obtain ⟨⟨y0, y1, yb⟩, ⟨z0, z1, z2, zb⟩, -⟩ := HB.out _ (Gr.trans GZ.out hSw); obtain ⟨yc, yg⟩ := HY.out _ hSw; go_simp; try (with_reducible rfl))
                simp only [Act.put, List.setIfInBounds_toArray, List.set_cons_zero, List.set_cons_succ]
                refine wpAnyH_ready (rs := [9]) (by kernel_rfl) (by simp) (AllReadyH.cons rfl (fun K hK => ?_) AllReadyH.nil)
                go_simp
                refine (HLF.out y V0 (Gr.trans GZ.out hS0)).mono ?_
                rintro e wC ⟨rfl, gC⟩
                have hSC := Gr.trans hS0 gC
                clear gC
                refine hK.out _ _ (by exact hSC) (fun _ => ?_)
                clear hK K
                refine takeS_on (i := 10) 56 (v := ?hv10) rfl rfl (by kernel_rfl) (by kernel_rfl) (by kernel_rfl) (fun _ _ _ h => h) (by kernel_rfl) ?hh10 (by exact hSC) ?_
                case hh10 => (intro w' hSw; go_simp; try (with_reducible rfl))
                simp only [Act.put, List.setIfInBounds_toArray, List.set_cons_zero, List.set_cons_succ]
                refine takeS_on (i := 11) 67 (v := ?hv11) rfl rfl (by kernel_rfl) (by kernel_rfl) (by kernel_rfl) (fun _ _ _ h => h) (by kernel_rfl) ?hh11 (by exact hSC) ?_
                case hh11 => (intro w' hSw; go_simp; try (with_reducible rfl))
                simp only [Act.put, List.setIfInBounds_toArray, List.set_cons_zero, List.set_cons_succ]
                refine takeS_on (i := 12) 68 (v := ?hv12) rfl rfl (by kernel_rfl) (by kernel_rfl) (by kernel_rfl) (fun _ _ _ h => h) (by kernel_rfl) ?hh12 (by exact hSC) ?_
                case hh12 => (intro w' hSw; go_simp; try (with_reducible rfl))
                simp only [Act.put, List.setIfInBounds_toArray, List.set_cons_zero, List.set_cons_succ]
                refine takeS_on (i := 13) 14 (v := ?hv13) rfl rfl (by kernel_rfl) (by kernel_rfl) (by kernel_rfl) (fun _ _ _ h => h) (by kernel_rfl) ?hh13 (by exact hSC) ?_
                case hh13 => (intro w' hSw; go_simp; try (with_reducible rfl))
                simp only [Act.put, List.setIfInBounds_toArray, List.set_cons_zero, List.set_cons_succ]
                refine takeS_on (i := 14) 15 (v := ?hv14) rfl rfl (by kernel_rfl) (by kernel_rfl) (by kernel_rfl) (fun _ _ _ h => h) (by kernel_rfl) ?hh14 (by exact hSC) ?_
                case hh14 => (intro w' hSw; go_simp; try (with_reducible rfl))
                simp only [Act.put, List.setIfInBounds_toArray, List.set_cons_zero, List.set_cons_succ]
                refine wpAnyH_done (by kernel_rfl) ?_ _
                have GE := hide (Gr.trans GQ.out hSC)
                clear hS0 hSC
                go_wp2
                go_roundg (gk - 1)
                case measure => omega
                case rel =>
                  refine ⟨q + 1, by omega, ?_, by rw [HT.out, HP.out, Int.add_assoc], GE.out⟩
                  first | with_reducible rfl | simp
              · have HP := hide (show oneF (Fn : Int) L u y = 0 by rw [HP0.out, if_neg hpos])
                rw [← HTJ.out] at HLF hpos
                clear hqx hg c0 hgl3
                go_wp2_with fail
                refine wp_region_held_drew (S := Gr Z) (by kernel_rfl) (by exact hS0) (fun _ => ?_)
                generalize World.drew Z = V0 at hS0 ⊢
                refine takeS_on (i := 0) 57 (v := ?hv15) rfl rfl (by kernel_rfl) (by kernel_rfl) (by kernel_rfl) (fun _ _ _ h => h) (by kernel_rfl) ?hh15 (by exact hS0) ?_
                case hh15 => (intro w' hSw; obtain ⟨⟨y0, y1, yb⟩, ⟨z0, z1, z2, zb⟩, -⟩ := HB.out _ (Gr.trans GZ.out hSw); obtain ⟨yc, yg⟩ := HY.out _ hSw; go_simp; try (with_reducible rfl))
                simp only [Act.put, List.setIfInBounds_toArray, List.set_cons_zero, List.set_cons_succ]
                refine takeS_on (i := 1) 58 (v := ?hv16) rfl rfl (by kernel_rfl) (by kernel_rfl) (by kernel_rfl) (fun _ _ _ h => h) (by kernel_rfl) ?hh16 (by exact hS0) ?_
                case hh16 => (intro w' hSw; go_simp; try (with_reducible rfl))
                simp only [Act.put, List.setIfInBounds_toArray, List.set_cons_zero, List.set_cons_succ]
                refine takeS_on (i := 2) 59 (v := ?hv17) rfl rfl (by kernel_rfl) (by kernel_rfl) (by kernel_rfl) (fun _ _ _ h => h) (by kernel_rfl) ?hh17 (by exact hS0) ?_
                case hh17 => (intro w' hSw; obtain ⟨⟨y0, y1, yb⟩, ⟨z0, z1, z2, zb⟩, -⟩ := HB.out _ (Gr.trans GZ.out hSw); obtain ⟨yc, yg⟩ := HY.out _ hSw; go_simp; try (with_reducible rfl))
                simp only [Act.put, List.setIfInBounds_toArray, List.set_cons_zero, List.set_cons_succ]
                refine takeS_on (i := 3) 60 (v := ?hv18) rfl rfl (by kernel_rfl) (by kernel_rfl) (by kernel_rfl) (fun _ _ _ h => h) (by kernel_rfl) ?hh18 (by exact hS0) ?_
                case hh18 => (intro w' hSw; go_simp; try (with_reducible rfl))
                simp only [Act.put, List.setIfInBounds_toArray, List.set_cons_zero, List.set_cons_succ]
                refine takeS_on (i := 4) 61 (v := ?hv19) rfl rfl (by kernel_rfl) (by kernel_rfl) (by kernel_rfl) (fun _ _ _ h => h) (by kernel_rfl) ?hh19 (by exact hS0) ?_
                case hh19 => (intro w' hSw; have hwt := HWT.out; go_simp; try (with_reducible rfl))
                simp only [Act.put, List.setIfInBounds_toArray, List.set_cons_zero, List.set_cons_succ]
                refine takeS_on (i := 5) 62 (v := ?hv20) rfl rfl (by kernel_rfl) (by kernel_rfl) (by kernel_rfl) (fun _ _ _ h => h) (by kernel_rfl) ?hh20 (by exact hS0) ?_
                case hh20 => (intro w' hSw; go_simp; try (with_reducible rfl))
                simp only [Act.put, List.setIfInBounds_toArray, List.set_cons_zero, List.set_cons_succ]
                refine takeS_on (i := 6) 63 (v := ?hv21) rfl rfl (by kernel_rfl) (by kernel_rfl) (by kernel_rfl) (fun _ _ _ h => h) (by kernel_rfl) ?hh21 (by exact hS0) ?_
                case hh21 => (intro w' hSw; go_simp; try (with_reducible rfl))
                simp only [Act.put, List.setIfInBounds_toArray, List.set_cons_zero, List.set_cons_succ]
                refine takeS_on (i := 7) 64 (v := ?hv22) rfl rfl (by kernel_rfl) (by kernel_rfl) (by kernel_rfl) (fun _ _ _ h => h) (by kernel_rfl) ?hh22 (by exact hS0) ?_
                case hh22 => (intro w' hSw; go_simp; try (with_reducible rfl))
                simp only [Act.put, List.setIfInBounds_toArray, List.set_cons_zero, List.set_cons_succ]
                refine takeS_on (i := 8) 65 (v := ?hv23) rfl rfl (by kernel_rfl) (by kernel_rfl) (by kernel_rfl) (fun _ _ _ h => h) (by kernel_rfl) ?hh23 (by exact hS0) ?_
                case hh23 => (intro w' hSw; obtain ⟨⟨y0, y1, yb⟩, ⟨z0, z1, z2, zb⟩, -⟩ := HB.out _ (Gr.trans GZ.out hSw); obtain ⟨yc, yg⟩ := HY.out _ hSw; go_simp; try (with_reducible rfl))
                simp only [Act.put, List.setIfInBounds_toArray, List.set_cons_zero, List.set_cons_succ]
                refine wpAnyH_ready (rs := [9]) (by kernel_rfl) (by simp) (AllReadyH.cons rfl (fun K hK => ?_) AllReadyH.nil)
                go_simp
                refine (HLF.out y V0 (Gr.trans GZ.out hS0)).mono ?_
                rintro e wC ⟨rfl, gC⟩
                have hSC := Gr.trans hS0 gC
                clear gC
                refine hK.out _ _ (by exact hSC) (fun _ => ?_)
                clear hK K
                refine takeS_on (i := 10) 56 (v := ?hv24) rfl rfl (by kernel_rfl) (by kernel_rfl) (by kernel_rfl) (fun _ _ _ h => h) (by kernel_rfl) ?hh24 (by exact hSC) ?_
                case hh24 => (intro w' hSw; go_simp; try (with_reducible rfl))
                simp only [Act.put, List.setIfInBounds_toArray, List.set_cons_zero, List.set_cons_succ]
                refine takeS_on (i := 11) 67 (v := ?hv25) rfl rfl (by kernel_rfl) (by kernel_rfl) (by kernel_rfl) (fun _ _ _ h => h) (by kernel_rfl) ?hh25 (by exact hSC) ?_
                case hh25 => (intro w' hSw; go_simp; try (with_reducible rfl))
                simp only [Act.put, List.setIfInBounds_toArray, List.set_cons_zero, List.set_cons_succ]
                refine takeS_on (i := 12) 68 (v := ?hv26) rfl rfl (by kernel_rfl) (by kernel_rfl) (by kernel_rfl) (fun _ _ _ h => h) (by kernel_rfl) ?hh26 (by exact hSC) ?_
                case hh26 => (intro w' hSw; go_simp; try (with_reducible rfl))
                simp only [Act.put, List.setIfInBounds_toArray, List.set_cons_zero, List.set_cons_succ]
                refine takeS_on (i := 13) 14 (v := ?hv27) rfl rfl (by kernel_rfl) (by kernel_rfl) (by kernel_rfl) (fun _ _ _ h => h) (by kernel_rfl) ?hh27 (by exact hSC) ?_
                case hh27 => (intro w' hSw; go_simp; try (with_reducible rfl))
                simp only [Act.put, List.setIfInBounds_toArray, List.set_cons_zero, List.set_cons_succ]
                refine takeS_on (i := 14) 15 (v := ?hv28) rfl rfl (by kernel_rfl) (by kernel_rfl) (by kernel_rfl) (fun _ _ _ h => h) (by kernel_rfl) ?hh28 (by exact hSC) ?_
                case hh28 => (intro w' hSw; go_simp; try (with_reducible rfl))
                simp only [Act.put, List.setIfInBounds_toArray, List.set_cons_zero, List.set_cons_succ]
                refine wpAnyH_done (by kernel_rfl) ?_ _
                have GE := hide (Gr.trans GQ.out hSC)
                clear hS0 hSC
                go_wp2
                go_roundg (gk - 1)
                case measure => omega
                case rel =>
                  refine ⟨q + 1, by omega, ?_, by rw [HT.out, HP.out, Int.add_zero], GE.out⟩
                  first | with_reducible rfl | simp
            · have hq' : ¬ ((q : Int) < (m : Int)) := by omega
              have HT := hide (show so + ls (R.take q) (oneF (Fn : Int) L u) = sup Fn L dm T (j + 1) by rw [HSS.out, List.take_of_length_le (by rw [← HM.out]; omega)])
              rw [HT.out]
              clear hg q0 q1
              go_wp2
              go_roundg K1
              case measure => exact HK2.out
              case rel =>
                refine ⟨j + 1, HKK.out, ?_, rfl, GZ.out⟩
                first | with_reducible rfl | simp
        · have hj' : ¬ ((j : Int) < (N : Int)) := by omega
          have hje : j = N := by omega
          have hv := HV.out
          rw [← hje] at hv
          have hvb : ¬ (sup Fn L dm T j < v) := by omega
          clear hg hje gw
          go_wp2_with fail
          refine (awake_any _).mono ?_
          rintro e w8 ⟨rfl, g8⟩
          have G8 := hide (HB.out _ (Gr.trans G.out g8)).2.2
          clear g8
          go_wp2
          go_ret
          exact ⟨rfl, G8.out⟩
  · have HE := hide (show supE F L dm N = lkE F L dm 16 from if_neg h0)
    clear h hx hF ht
    go_enter Try.func8, Try.ntmps8
    go_wp2_with fail
    rw [← hW0]
    clear hW0
    refine (HSP.out _ (HB.out _ G0.out).2.2).mono ?_
    rintro e w1 ⟨v, E, rfl, hE, -, -, g1⟩
    rw [HE.out] at hE
    rw [← hE] at h0
    have hne : (E != 0) = true := by simpa using h0
    have G1 := hide (Gr.trans G0.out g1)
    clear g1 hE h0
    go_wp2_with fail
    refine (awake_any _).mono ?_
    rintro e w8 ⟨rfl, g8⟩
    have G8 := hide (HB.out _ (Gr.trans G1.out g8)).2.2
    clear g8
    go_wp2
    go_ret
    exact ⟨rfl, G8.out⟩
end Go.Proofs.Ytbghagpjkkmhpab.Lt
