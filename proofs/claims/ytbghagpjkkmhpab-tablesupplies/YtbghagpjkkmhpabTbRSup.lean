/-
  What Supply answers: the document. Condition: the numbers are of their types.
-/
import Derived.Test.YtbghagpjkkmhpabTbRun
import Derived.Test.YtbghagpjkkmhpabTbSup
namespace Go.Proofs.Ytbghagpjkkmhpab.Lt
open Go.RowKit Wd
attribute [local go_sem ↓] Go.wp_at_zero Go.wp_at_succ
set_option maxRecDepth 20000

/-- how much there is ahead of each of the first places -/
def PL (Fn : Nat) (L : List (List Sl)) (dm : Int) (j : Nat) : List Int := (List.range (j + 1)).map fun i : Nat => sup Fn L dm 0 i
theorem PL_len (Fn : Nat) (L : List (List Sl)) (dm : Int) (j : Nat) : (PL Fn L dm j).length = j + 1 := by simp [PL]
theorem PL_get {Fn : Nat} {L : List (List Sl)} {dm : Int} {i j : Nat} (h : i ≤ j) : (PL Fn L dm j)[i]? = some (sup Fn L dm 0 i) := by
  unfold PL
  rw [List.getElem?_map, List.getElem?_range (by omega)]
  rfl
theorem PL_snoc (Fn : Nat) (L : List (List Sl)) (dm : Int) (j : Nat) : PL Fn L dm j ++ [sup Fn L dm 0 (j + 1)] = PL Fn L dm (j + 1) := by
  unfold PL
  rw [List.range_succ (n := j + 1), List.map_append]
  rfl
/-- the least so far, beside a whole frame's -/
structure LoN (Fn : Nat) (L : List (List Sl)) (dm : Int) (re i : Nat) (lo : Int) : Prop where
  a : ∀ k, k < i → lo ≤ sup Fn L dm k re
  b : lo ≤ shr L dm
  c : lo = shr L dm ∨ ∃ k, k < i ∧ lo = sup Fn L dm k re
theorem LoN.start (Fn : Nat) (L : List (List Sl)) (dm : Int) (re : Nat) : LoN Fn L dm re 0 (shr L dm) := ⟨fun k h => by omega, Int.le_refl _, .inl rfl⟩
theorem LoN.lt {Fn : Nat} {L : List (List Sl)} {dm : Int} {re i : Nat} {lo : Int} (h : LoN Fn L dm re i lo) (hl : sup Fn L dm i re < lo) : LoN Fn L dm re (i + 1) (sup Fn L dm i re) := by
  refine ⟨fun k hk => ?_, by have := h.b; omega, .inr ⟨i, by omega, rfl⟩⟩
  rcases Nat.lt_or_ge k i with q | q
  · have := h.a k q; omega
  · have : k = i := by omega
    subst this
    exact Int.le_refl _
theorem LoN.ge {Fn : Nat} {L : List (List Sl)} {dm : Int} {re i : Nat} {lo : Int} (h : LoN Fn L dm re i lo) (hl : ¬ sup Fn L dm i re < lo) : LoN Fn L dm re (i + 1) lo := by
  refine ⟨fun k hk => ?_, h.b, h.c.imp id (fun ⟨k, h1, h2⟩ => ⟨k, by omega, h2⟩)⟩
  rcases Nat.lt_or_ge k i with q | q
  · exact h.a k q
  · have : k = i := by omega
    subst this
    omega
theorem LoN.done {Fn : Nat} {L : List (List Sl)} {dm : Int} {re : Nat} {lo : Int} (hg : Good (Fn : Int) L) (hre : re < Fn) (h : LoN Fn L dm re Fn lo) : IsSp Fn L dm re lo := by
  refine ⟨h.a, ?_⟩
  rcases h.c with e | e
  · refine ⟨0, by omega, ?_⟩
    have k1 := h.a 0 (by omega)
    have k2 := sup_add Fn L dm 0 re (Fn - re)
    rw [show re + (Fn - re) = Fn by omega, sup_frame (rfl : (Fn : Int) = (Fn : Int)) hg] at k2
    have k3 := (sup_nonneg (rfl : (Fn : Int) = (Fn : Int)) hg dm (0 + re) (Fn - re)).1
    show lo = sup Fn L dm 0 re
    omega
  · exact e
set_option maxHeartbeats 4000000 in
theorem rsupply_any (w : World) (a : Option Addr) (n c : Nat) (L : List (List Sl)) (h : Rw w (.slice a n c) L) (hx : Rgs L) (F dm : Int) (hF : Tk.U F) (N : Nat) (hN : (N : Int) ≤ 18446744073709551615) :
    Calls Try.prog 20 #[.agg #[.int .u64 F, .slice a n c], .int .i64 dm, .int .u64 (N : Int)] w fun e w' => SupR F L dm N w e w' := by
  have CL := look_any _ a n c L (h.gr (Ch.alloc (Gr.refl w) (.cells #[.int .u64 F, .slice a n c] 25))) hx F dm 16 hF
  by_cases h0 : lkE F L dm 16 = 0
  · obtain ⟨hg, -, -, -⟩ := lkE_ok hx h0
    obtain ⟨Fn, rfl⟩ : ∃ Fn : Nat, F = (Fn : Int) := ⟨F.toNat, by have := hg.f1; omega⟩
    have hf1 : 1 ≤ Fn := by have := hg.f1; omega
    have hf2 : Fn ≤ 65536 := by have := hg.f2; omega
    have HE1 := hide (show supE (Fn : Int) L dm N = if 281474976710656 < (N : Int) then 1 else 0 from if_pos h0)
    rw [h0] at CL
    obtain ⟨A, hA⟩ : ∃ A, A = w.alloc (.cells #[.int .u64 (Fn : Int), .slice a n c] 25) := ⟨_, rfl⟩
    have HBX := hide (show ∀ W, Gr A W → _ from fun W g => box2 (by rw [hA] at g; exact g))
    rw [← hA] at CL
    by_cases hbig : 281474976710656 < (N : Int)
    · have HE := hide (show supE (Fn : Int) L dm N = 1 by rw [HE1.out, if_pos hbig])
      clear h hx hF hg h0
      go_enter Try.func20, Try.ntmps20
      go_wp2_with fail
      rw [← hA]
      clear hA
      refine CL.mono ?_
      rintro e w1 ⟨rfl, g1⟩
      obtain ⟨b0, b1, bb, gw⟩ := HBX.out _ g1
      have GW := hide gw
      clear g1 gw
      go_wp2
      go_ret2
      exact ⟨0, 1, rfl, HE.out.symm, fun _ => rfl, (fun q => by cases q), GW.out⟩
    · have HE := hide (show supE (Fn : Int) L dm N = 0 by rw [HE1.out, if_neg hbig])
      have HAS := hide (show A.heap.size = w.heap.size + 1 by rw [hA]; simp)
      have HG := hide hg
      have HRN0 := hide (fun (i : Nat) (hi : i < Fn) W (g : Gr A W) => runs_any W a n c L (h.gr (HBX.out W g).2.2.2) (Fn : Int) dm hg i (by omega))
      have HSN := hide (fun i k => sup_nonneg (rfl : (Fn : Int) = (Fn : Int)) hg dm i k)
      have HCB := hide (fun (i : Nat) (hi : i < Fn) => crw_bd hg dm i (by omega))
      clear h hx hF hg h0
      go_enter Try.func20, Try.ntmps20
      go_wp2_with fail
      rw [← hA]
      clear hA
      refine CL.mono ?_
      rintro e w1 ⟨rfl, g1⟩
      obtain ⟨b0, b1, bb, gw⟩ := HBX.out _ g1
      have G1 := hide g1
      have OS := hide (show Ow eU 1 22 (w.heap.size + 1) (w1.alloc (.cells #[.int .u64 0] 22)) (.slice (some ⟨w1.heap.size, 0, none⟩) 1 1) (PL Fn L dm 0) from ow_one w1 _ (by have := G1.out.size; have := HAS.out; omega) rfl)
      clear g1 gw
      go_wp2_with fail
      go_loopg [9, 10] (2 * Fn) (fun k lv i wr => ∃ (j : Nat) (ao : Option Addr) (cap m : Nat), j + k = 2 * Fn ∧ i = .int .u64 (j : Int) ∧ m = j + 1 ∧ lv = .slice ao m cap ∧ Ow eU 1 22 (w.heap.size + 1) wr (.slice ao m cap) (PL Fn L dm j) ∧ Gr A wr)
      case atStart => exact ⟨0, _, _, 1, by omega, rfl, rfl, rfl, OS.out, Ch.alloc G1.out _⟩
      case round =>
        obtain ⟨j, ao, cap, m, hjk, rfl, hmj, rfl, ho, hg⟩ := hrel
        obtain ⟨V, hV⟩ : ∃ W, W = wr := ⟨_, rfl⟩
        subst hV
        have G := hide hg
        have HO := hide ho
        obtain ⟨b0, b1, bb, gw⟩ := HBX.out _ hg
        by_cases hj : j < 2 * Fn
        · have hj' : (j : Int) < 2 * (Fn : Int) := by omega
          have hj0 : (0 : Int) ≤ (j : Int) := by omega
          have hjmm : (j : Int) < (m : Int) := by omega
          have HMJ := hide hmj
          have hjm : j % Fn < Fn := Nat.mod_lt _ (by omega)
          have HRN := hide (HRN0.out (j % Fn) hjm)
          have HRM := hide (show (j : Int).tmod (Fn : Int) = ((j % Fn : Nat) : Int) by rw [Int.tmod_eq_emod_of_nonneg hj0, Int.natCast_emod])
          have HF0 := hide (show ¬ (Fn = 0) by omega)
          obtain ⟨s0, s1⟩ := HSN.out 0 j
          obtain ⟨r0, r1⟩ := HCB.out (j % Fn) hjm
          have HSS : sup Fn L dm 0 (j + 1) = sup Fn L dm 0 j + crw L dm (j % Fn) := by
            have k := sup_add Fn L dm 0 j 1
            rw [sup_one, Nat.zero_add] at k
            exact k
          have HPS := hide (show PL Fn L dm j ++ [sup Fn L dm 0 j + crw L dm (j % Fn)] = PL Fn L dm (j + 1) by rw [← HSS, PL_snoc])
          have hS0 : Gr A V.drew := Ch.drew hg
          have OV0 := hide (show Ow eU 1 22 (w.heap.size + 1) V.drew (.slice ao m cap) (PL Fn L dm j) from ho.drew)
          obtain ⟨g3, o3, e3, -, -, -⟩ := u_at ho.lst (PL_get (Nat.le_refl j))
          subst e3
          have HLD := hide (show ∀ W, Ow eU 1 22 (w.heap.size + 1) W (.slice (some ⟨g3, o3, none⟩) m cap) (PL Fn L dm j) → W.cell? ⟨g3, o3 + j, none⟩ = some (.int .u64 (sup Fn L dm 0 j)) ∧ g3 < W.heap.size from fun W o => by
            obtain ⟨g, o', e, hgl, _, c0⟩ := u_at o.lst (PL_get (Nat.le_refl j))
            injection e with e
            injection e with e1 e2
            subst e1 e2
            exact ⟨c0, hgl⟩)
          generalize sup Fn L dm 0 j = so at *
          generalize crw L dm (j % Fn) = cr at *
          have HWT := hide (show IntKind.u64.wrap (so + cr) = so + cr from IntWalk.u64_in _ ⟨by omega, by omega⟩)
          generalize j % Fn = jm at *
          clear hg ho gw s1 r1 HSS hmj
          go_wp2_with fail
          refine wp_region_held_drew (S := Gr A) (by kernel_rfl) (by exact hS0) (fun _ => ?_)
          generalize World.drew V = V0 at hS0 OV0 ⊢
          refine takeS_on (i := 0) 30 (v := ?hv1) rfl rfl (by kernel_rfl) (by kernel_rfl) (by kernel_rfl) (fun _ _ _ h => h) (by kernel_rfl) ?hh1 (by exact hS0) ?_
          case hh1 => (intro w' hSw; go_simp; try (with_reducible rfl))
          simp only [Act.put, List.setIfInBounds_toArray, List.set_cons_zero, List.set_cons_succ]
          refine takeS_on (i := 1) 31 (v := ?hv2) rfl rfl (by kernel_rfl) (by kernel_rfl) (by kernel_rfl) (fun _ _ _ h => h) (by kernel_rfl) ?hh2 (by exact hS0) ?_
          case hh2 => (intro w' hSw; go_simp; try (with_reducible rfl))
          simp only [Act.put, List.setIfInBounds_toArray, List.set_cons_zero, List.set_cons_succ]
          refine takeS_on (i := 2) 32 (v := ?hv3) rfl rfl (by kernel_rfl) (by kernel_rfl) (by kernel_rfl) (fun _ _ _ h => h) (by kernel_rfl) ?hh3 (by exact hS0) ?_
          case hh3 => (intro w' hSw; go_simp; try (with_reducible rfl))
          simp only [Act.put, List.setIfInBounds_toArray, List.set_cons_zero, List.set_cons_succ]
          refine takeS_on (i := 3) 33 (v := ?hv4) rfl rfl (by kernel_rfl) (by kernel_rfl) (by kernel_rfl) (fun _ _ _ h => h) (by kernel_rfl) ?hh4 (by exact hS0) ?_
          case hh4 => (intro w' hSw; go_simp; try (with_reducible rfl))
          simp only [Act.put, List.setIfInBounds_toArray, List.set_cons_zero, List.set_cons_succ]
          refine takeS_on (i := 5) 35 (v := ?hv5) rfl rfl (by kernel_rfl) (by kernel_rfl) (by kernel_rfl) (fun _ _ _ h => h) (by kernel_rfl) ?hh5 (by exact hS0) ?_
          case hh5 => (intro w' hSw; obtain ⟨y0, y1, yb, -⟩ := HBX.out _ hSw; go_simp; try (with_reducible rfl))
          simp only [Act.put, List.setIfInBounds_toArray, List.set_cons_zero, List.set_cons_succ]
          refine takeS_on (i := 6) 36 (v := ?hv6) rfl rfl (by kernel_rfl) (by kernel_rfl) (by kernel_rfl) (fun _ _ _ h => h) (by kernel_rfl) ?hh6 (by exact hS0) ?_
          case hh6 => (intro w' hSw; go_simp; try (with_reducible rfl))
          simp only [Act.put, List.setIfInBounds_toArray, List.set_cons_zero, List.set_cons_succ]
          refine takeS_on (i := 7) 37 (v := ?hv7) rfl rfl (by kernel_rfl) (by kernel_rfl) (by kernel_rfl) (fun _ _ _ h => h) (by kernel_rfl) ?hh7 (by exact hS0) ?_
          case hh7 => (intro w' hSw; go_simp; try (with_reducible rfl))
          simp only [Act.put, List.setIfInBounds_toArray, List.set_cons_zero, List.set_cons_succ]
          refine takeS_on (i := 8) 38 (v := ?hv8) rfl rfl (by kernel_rfl) (by kernel_rfl) (by kernel_rfl) (fun _ _ _ h => h) (by kernel_rfl) ?hh8 (by exact hS0) ?_
          case hh8 => (intro w' hSw; go_simp; try (with_reducible rfl))
          simp only [Act.put, List.setIfInBounds_toArray, List.set_cons_zero, List.set_cons_succ]
          refine takeS_on (i := 9) 39 (v := ?hv9) rfl rfl (by kernel_rfl) (by kernel_rfl) (by kernel_rfl) (fun _ _ _ h => h) (by kernel_rfl) ?hh9 (by exact hS0) ?_
          case hh9 => (intro w' hSw; obtain ⟨y0, y1, yb, -⟩ := HBX.out _ hSw; go_simp; try (with_reducible rfl))
          simp only [Act.put, List.setIfInBounds_toArray, List.set_cons_zero, List.set_cons_succ]
          refine takeS_on (i := 10) 40 (v := ?hv10) rfl rfl (by kernel_rfl) (by kernel_rfl) (by kernel_rfl) (fun _ _ _ h => h) (by kernel_rfl) ?hh10 (by exact hS0) ?_
          case hh10 => (intro w' hSw; have hrm := HRM.out; have hf0 := HF0.out; go_simp; try (with_reducible rfl))
          simp only [Act.put, List.setIfInBounds_toArray, List.set_cons_zero, List.set_cons_succ]
          refine wpAnyH_ready (rs := [4, 11]) (by kernel_rfl) (by simp) (AllReadyH.cons rfl (fun K hK => ?_) (AllReadyH.cons rfl (fun K hK => ?_) AllReadyH.nil))
          · obtain ⟨z0, zl⟩ := HLD.out _ OV0.out
            go_simp
            refine hK.out _ _ (by exact hS0) (fun _ => ?_)
            clear hK K
            refine wpAnyH_ready (rs := [11]) (by kernel_rfl) (by simp) (AllReadyH.cons rfl (fun K hK => ?_) AllReadyH.nil)
            go_simp
            refine (HRN.out V0 hS0).mono ?_
            rintro e wA ⟨rfl, gA⟩
            have hSA := Gr.trans hS0 gA
            have OwA := hide (OV0.out.gr gA)
            clear gA
            refine hK.out _ _ (by exact hSA) (fun _ => ?_)
            clear hK K
            refine takeS_on (i := 12) 42 (v := ?hv11) rfl rfl (by kernel_rfl) (by kernel_rfl) (by kernel_rfl) (fun _ _ _ h => h) (by kernel_rfl) ?hh11 (by exact hSA) ?_
            case hh11 => (intro w' hSw; have hwt := HWT.out; go_simp; try (with_reducible rfl))
            simp only [Act.put, List.setIfInBounds_toArray, List.set_cons_zero, List.set_cons_succ]
            refine wpAnyH_ready (rs := [13]) (by kernel_rfl) (by simp) (AllReadyH.cons rfl (fun K hK => ?_) AllReadyH.nil)
            have hwt := HWT.out
            go_simp
            have hS1 := Gr.trans hSA (Ch.alloc (Gr.refl wA) (.cells #[.int .u64 (so + cr)] 22))
            have OV1 := hide (OwA.out.alloc (.cells #[.int .u64 (so + cr)] 22))
            have LS1 := hide (Ls.single (enc := eU) wA (so + cr) 22 #[.int .u64 (so + cr)] rfl)
            generalize wA.alloc (.cells #[.int .u64 (so + cr)] 22) = V1 at hS1 OV1 LS1 ⊢
            refine hK.out _ _ (by exact hS1) (fun _ => ?_)
            clear hK K
            refine wpAnyH_ready (rs := [14]) (by kernel_rfl) (by simp) (AllReadyH.cons rfl (fun K hK => ?_) AllReadyH.nil)
            refine step_append_ow eU_len rfl (.tmp 30) (.tmp 43) 68 22 8 (.int .u64 0) Try.underlying68 u64_info rfl (by omega) rfl (w.heap.size + 1) (.slice (some ⟨g3, o3, none⟩) m cap) (PL Fn L dm j) rfl OV1.out _ _ [so + cr] rfl LS1.out (eU_one _) (m + 1) (by rw [PL_len, HMJ.out]; rfl) (by have := HMJ.out; omega) (by unfold maxLen; have := HMJ.out; omega) (by have := hS1.size; have := HAS.out; omega) (PL Fn L dm (j + 1)) HPS.out ?_
            intro a5 c5 w6 o6 k6 b6
            have hS6 := Ch.trans hS1 k6 (fun q hq => .inr (by have h7 := (OV1.out.blk hq).1; have := HAS.out; omega))
            have O6 := hide o6
            refine hK.out _ _ (by exact hS6) (fun _ => ?_)
            change wpAnyH _ _ _ _ _ _ _ (Act.put _ (some 44) _) _
            simp only [Act.put, List.setIfInBounds_toArray, List.set_cons_zero, List.set_cons_succ]
            clear hK K
            refine takeS_on (i := 15) 9 (v := ?hv12) rfl rfl (by kernel_rfl) (by kernel_rfl) (by kernel_rfl) (fun _ _ _ h => h) (by kernel_rfl) ?hh12 (by exact hS6) ?_
            case hh12 => (intro w' hSw; go_simp; try (with_reducible rfl))
            simp only [Act.put, List.setIfInBounds_toArray, List.set_cons_zero, List.set_cons_succ]
            refine wpAnyH_done (by kernel_rfl) ?_ _
            clear hS0 hSA hS1
            go_wp2
            go_roundg (gk - 1)
            case measure => omega
            case rel =>
              refine ⟨j + 1, _, _, m + 1, by omega, ?_, by rw [HMJ.out], rfl, O6.out, hS6⟩
              first | with_reducible rfl | simp
          · go_simp
            refine (HRN.out V0 hS0).mono ?_
            rintro e wA ⟨rfl, gA⟩
            have hSA := Gr.trans hS0 gA
            have OwA := hide (OV0.out.gr gA)
            clear gA
            refine hK.out _ _ (by exact hSA) (fun _ => ?_)
            clear hK K
            refine wpAnyH_ready (rs := [4]) (by kernel_rfl) (by simp) (AllReadyH.cons rfl (fun K hK => ?_) AllReadyH.nil)
            obtain ⟨z0, zl⟩ := HLD.out _ OwA.out
            go_simp
            refine hK.out _ _ (by exact hSA) (fun _ => ?_)
            clear hK K
            refine takeS_on (i := 12) 42 (v := ?hv13) rfl rfl (by kernel_rfl) (by kernel_rfl) (by kernel_rfl) (fun _ _ _ h => h) (by kernel_rfl) ?hh13 (by exact hSA) ?_
            case hh13 => (intro w' hSw; have hwt := HWT.out; go_simp; try (with_reducible rfl))
            simp only [Act.put, List.setIfInBounds_toArray, List.set_cons_zero, List.set_cons_succ]
            refine wpAnyH_ready (rs := [13]) (by kernel_rfl) (by simp) (AllReadyH.cons rfl (fun K hK => ?_) AllReadyH.nil)
            have hwt := HWT.out
            go_simp
            have hS1 := Gr.trans hSA (Ch.alloc (Gr.refl wA) (.cells #[.int .u64 (so + cr)] 22))
            have OV1 := hide (OwA.out.alloc (.cells #[.int .u64 (so + cr)] 22))
            have LS1 := hide (Ls.single (enc := eU) wA (so + cr) 22 #[.int .u64 (so + cr)] rfl)
            generalize wA.alloc (.cells #[.int .u64 (so + cr)] 22) = V1 at hS1 OV1 LS1 ⊢
            refine hK.out _ _ (by exact hS1) (fun _ => ?_)
            clear hK K
            refine wpAnyH_ready (rs := [14]) (by kernel_rfl) (by simp) (AllReadyH.cons rfl (fun K hK => ?_) AllReadyH.nil)
            refine step_append_ow eU_len rfl (.tmp 30) (.tmp 43) 68 22 8 (.int .u64 0) Try.underlying68 u64_info rfl (by omega) rfl (w.heap.size + 1) (.slice (some ⟨g3, o3, none⟩) m cap) (PL Fn L dm j) rfl OV1.out _ _ [so + cr] rfl LS1.out (eU_one _) (m + 1) (by rw [PL_len, HMJ.out]; rfl) (by have := HMJ.out; omega) (by unfold maxLen; have := HMJ.out; omega) (by have := hS1.size; have := HAS.out; omega) (PL Fn L dm (j + 1)) HPS.out ?_
            intro a5 c5 w6 o6 k6 b6
            have hS6 := Ch.trans hS1 k6 (fun q hq => .inr (by have h7 := (OV1.out.blk hq).1; have := HAS.out; omega))
            have O6 := hide o6
            refine hK.out _ _ (by exact hS6) (fun _ => ?_)
            change wpAnyH _ _ _ _ _ _ _ (Act.put _ (some 44) _) _
            simp only [Act.put, List.setIfInBounds_toArray, List.set_cons_zero, List.set_cons_succ]
            clear hK K
            refine takeS_on (i := 15) 9 (v := ?hv14) rfl rfl (by kernel_rfl) (by kernel_rfl) (by kernel_rfl) (fun _ _ _ h => h) (by kernel_rfl) ?hh14 (by exact hS6) ?_
            case hh14 => (intro w' hSw; go_simp; try (with_reducible rfl))
            simp only [Act.put, List.setIfInBounds_toArray, List.set_cons_zero, List.set_cons_succ]
            refine wpAnyH_done (by kernel_rfl) ?_ _
            clear hS0 hSA hS1
            go_wp2
            go_roundg (gk - 1)
            case measure => omega
            case rel =>
              refine ⟨j + 1, _, _, m + 1, by omega, ?_, by rw [HMJ.out], rfl, O6.out, hS6⟩
              first | with_reducible rfl | simp
        · have hj' : ¬ ((j : Int) < 2 * (Fn : Int)) := by omega
          have hje : j = 2 * Fn := by omega
          subst hje
          have HMJ := hide hmj
          obtain ⟨g3, o3, e3, -, -, -⟩ := u_at ho.lst (PL_get (Nat.zero_le (2 * Fn)))
          subst e3
          have HLS := hide ho.lst
          have HLD := hide (show ∀ W, Gr V W → ∀ i, i ≤ 2 * Fn → W.cell? ⟨g3, o3 + i, none⟩ = some (.int .u64 (sup Fn L dm 0 i)) ∧ g3 < W.heap.size from fun W k i hi => by
            obtain ⟨g, o', e, hgl, _, c0⟩ := u_at (HLS.out.gr k) (PL_get hi)
            injection e with e
            injection e with e1 e2
            subst e1 e2
            exact ⟨c0, hgl⟩)
          obtain ⟨sh, hsh⟩ : ∃ sh, sh = shr L dm := ⟨_, rfl⟩
          have HSH := hide hsh
          have hfr := sup_frame (rfl : (Fn : Int) = (Fn : Int)) HG.out dm 0
          obtain ⟨c5, gl5⟩ := HLD.out V (Gr.refl V) Fn (by omega)
          rw [hfr, ← hsh] at c5
          obtain ⟨sb0, sb1⟩ := sup_bd HG.out dm
          rw [← hsh] at sb0 sb1
          obtain ⟨re, hre⟩ : ∃ re, re = N % Fn := ⟨_, rfl⟩
          have hreF : re < Fn := by rw [hre]; exact Nat.mod_lt _ (by omega)
          have hrm : (N : Int).tmod (Fn : Int) = (re : Int) := by rw [Int.tmod_eq_emod_of_nonneg (by omega), hre, Int.natCast_emod]
          have hf0 : ¬ (Fn = 0) := by omega
          have hfm : (Fn : Int) < (m : Int) := by omega
          have HRE := hide hre
          have HST := hide (LoN.start Fn L dm re)
          rw [← hsh] at HST
          clear hg ho hmj hfr hsh hre gw
          go_wp2_with fail
          go_loopg [12, 13] Fn (fun k lv i wr => ∃ (q : Nat) (lo : Int), q + k = Fn ∧ i = .int .u64 (q : Int) ∧ lv = .int .u64 lo ∧ LoN Fn L dm re q lo ∧ Gr V wr)
          case atStart => exact ⟨0, _, by omega, rfl, rfl, HST.out, Gr.refl _⟩
          case round =>
            obtain ⟨q, lo, hqk, rfl, rfl, hlo, hg⟩ := hrel
            obtain ⟨Z, hZ⟩ : ∃ W, W = wr := ⟨_, rfl⟩
            subst hZ
            have GZ := hide hg
            have HLO := hide hlo
            obtain ⟨b0, b1, bb, gw⟩ := HBX.out _ (Gr.trans G.out hg)
            by_cases hq : q < Fn
            · have hq' : (q : Int) < (Fn : Int) := by omega
              have hq0 : (0 : Int) ≤ (q : Int) := by omega
              have hmj := HMJ.out
              have hqm : (q : Int) < (m : Int) := by omega
              have hqr : (q : Int) + (re : Int) < (m : Int) := by omega
              have hqr0 : 0 ≤ (q : Int) + (re : Int) := by omega
              have hqr1 : (q : Int) + (re : Int) ≤ 18446744073709551615 := by omega
              obtain ⟨c0, gl⟩ := HLD.out Z hg q (by omega)
              obtain ⟨c1, _⟩ := HLD.out Z hg (q + re) (by omega)
              have hsa := sup_add Fn L dm 0 q re
              rw [Nat.zero_add] at hsa
              obtain ⟨u0, u1⟩ := HSN.out q re
              obtain ⟨S1, hS1⟩ : ∃ S1, S1 = sup Fn L dm q re := ⟨_, rfl⟩
              have HS1 := hide hS1
              rw [← hS1] at hsa u0 u1
              generalize sup Fn L dm 0 q = p0 at *
              generalize sup Fn L dm 0 (q + re) = p1 at *
              have hd : p1 - p0 = S1 := by omega
              have hmb : S1 ≤ 18446744073709551615 := by omega
              have HDW := hide (show IntKind.u64.wrap (p1 - p0) = S1 by rw [hd]; exact IntWalk.u64_in _ ⟨u0, hmb⟩)
              have hdw := HDW.out
              clear hg hlo hS1 hsa u1 gw hd c5 gl5 hmj
              by_cases hlt : S1 < lo
              · have HN := hide (HLO.out.lt (by rw [← HS1.out]; exact hlt))
                rw [← HS1.out] at HN
                go_wp2_with fail
                go_quiet (fail)
                go_wp2_with fail
                go_quiet (fail)
                go_wp2_with fail
                go_roundg (gk - 1)
                case measure => omega
                case rel =>
                  refine ⟨q + 1, S1, by omega, ?_, rfl, HN.out, Ch.drewN GZ.out _⟩
                  first | with_reducible rfl | simp
              · have HN := hide (HLO.out.ge (by rw [← HS1.out]; exact hlt))
                go_wp2_with fail
                go_quiet (fail)
                go_wp2_with fail
                go_roundg (gk - 1)
                case measure => omega
                case rel =>
                  refine ⟨q + 1, lo, by omega, ?_, rfl, HN.out, Ch.drewN GZ.out _⟩
                  first | with_reducible rfl | simp
            · have hq' : ¬ ((q : Int) < (Fn : Int)) := by omega
              have hqe : q = Fn := by omega
              rw [hqe] at hlo
              have HSP := hide (LoN.done HG.out hreF hlo)
              obtain ⟨m0, m1⟩ := IsSp.bd (rfl : (Fn : Int) = (Fn : Int)) HG.out HSP.out
              obtain ⟨c6, gl6⟩ := HLD.out Z hg Fn (by omega)
              have hfr := sup_frame (rfl : (Fn : Int) = (Fn : Int)) HG.out dm 0
              rw [hfr, ← HSH.out] at c6
              obtain ⟨fr, hfr2⟩ : ∃ fr : Int, fr = ((N / Fn : Nat) : Int) := ⟨_, rfl⟩
              have hfr0 : 0 ≤ fr := by rw [hfr2]; exact Int.natCast_nonneg _
              have hmul : fr * sh ≤ 64 * (N : Int) := by
                have h1 : fr * sh ≤ fr * (64 * Fn) := Int.mul_le_mul_of_nonneg_left sb1 hfr0
                have h2 : ((N / Fn * Fn : Nat) : Int) ≤ (N : Int) := by exact_mod_cast Nat.div_mul_le_self N Fn
                have h3 : fr * (64 * (Fn : Int)) = 64 * ((N / Fn * Fn : Nat) : Int) := by
                  rw [hfr2, Int.natCast_mul, Int.mul_left_comm]
                omega
              have hmul0 : 0 ≤ fr * sh := Int.mul_nonneg hfr0 sb0
              have hmul1 : fr * sh ≤ 18014398509481984 := by omega
              have hquo : (N : Int).tdiv (Fn : Int) = fr := by rw [Int.tdiv_eq_ediv_of_nonneg (by omega), hfr2, Int.natCast_ediv]
              have HF3 := hide (show IntKind.u64.wrap (IntKind.u64.wrap (IntKind.u64.wrap fr * sh) + lo) = fr * sh + lo by
                rw [IntWalk.u64_in fr ⟨hfr0, by rw [hfr2]; have := Nat.div_le_self N Fn; omega⟩, IntWalk.u64_in (fr * sh) ⟨hmul0, by omega⟩]
                exact IntWalk.u64_in _ ⟨by omega, by omega⟩)
              have HSM := hide (show ∃ Fn2 : Nat, (Fn : Int) = Fn2 ∧ IsSp Fn2 L dm N (fr * sh + lo) from ⟨Fn, rfl, by rw [hfr2, HSH.out]; exact IsSp.of_rest (rfl : (Fn : Int) = (Fn : Int)) HG.out (by rw [← HRE.out]; exact HSP.out)⟩)
              have GW := hide gw
              clear hg hlo gw c5 gl5 hfr hfr2 hmul m1 hqe
              go_wp2_with fail
              go_quiet (fail)
              go_wp2_with fail
              refine bodyPost_ret (v := .tuple #[.int .u64 (fr * sh + lo), .int .i64 0]) (by simp [results, Try.results20, go_sem]; exact HF3.out) rfl ?_
              exact ⟨_, _, rfl, HE.out.symm, (fun q => absurd rfl q), fun _ => HSM.out, Ch.drewN GW.out _⟩
  · have HE := hide (show supE F L dm N = lkE F L dm 16 from if_neg h0)
    obtain ⟨E, hE⟩ : ∃ E, E = lkE F L dm 16 := ⟨_, rfl⟩
    rw [← hE] at HE CL h0
    have hne : (E != 0) = true := by simpa using h0
    have H0 := hide h0
    clear h hx hF h0 hE
    go_enter Try.func20, Try.ntmps20
    go_wp2_with fail
    refine CL.mono ?_
    rintro e w1 ⟨rfl, g1⟩
    obtain ⟨b0, b1, bb, gw⟩ := box2 g1
    have GW := hide gw
    clear g1 gw
    go_wp2
    go_ret2
    exact ⟨0, E, rfl, HE.out.symm, fun _ => rfl, (fun q => absurd q H0.out), GW.out⟩
end Go.Proofs.Ytbghagpjkkmhpab.Lt
