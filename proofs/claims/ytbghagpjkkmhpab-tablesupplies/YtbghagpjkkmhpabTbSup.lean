/-
  What Supply answers: the program. Condition: the numbers are of their types.
-/
import Derived.Test.YtbghagpjkkmhpabTbEach
import Derived.Test.YtbghagpjkkmhpabTbSupX
import Derived.Test.YtbghagpjkkmhpabTbCrw
import Derived.Test.YtbghagpjkkmhpabTbLst
import Derived.Test.YtbghagpjkkmhpabTbFold
namespace Go.Proofs.Ytbghagpjkkmhpab.Lt
open Go.RowKit Wd Go.Shelf
attribute [local go_sem ↓] Go.wp_at_zero Go.wp_at_succ
set_option maxRecDepth 20000

/-- what Supply refuses -/
def supE (F : Int) (L : List (List Sl)) (dm N : Int) : Int := if lkE F L dm 16 = 0 then (if 281474976710656 < N then 1 else 0) else lkE F L dm 16
/-- what Supply answers of N ticks -/
def SupR (F : Int) (L : List (List Sl)) (dm : Int) (N : Nat) (w : World) (e : Ending) (w' : World) : Prop :=
  ∃ v E, e = .returned (.tuple #[.int .u64 v, .int .i64 E]) ∧ E = supE F L dm N ∧ (E ≠ 0 → v = 0) ∧ (E = 0 → ∃ Fn : Nat, F = Fn ∧ IsSp Fn L dm N v) ∧ Gr w w'
theorem boxes_sup {w W : World} {a : Option Addr} {n c : Nat} {F : Int} {b : Value} (g : Ch (Only (w.heap.size + 1)) (((w.alloc (.cells #[.int .u64 F, .slice a n c] 25)).alloc (.cells #[b] 71)).alloc (.cells #[.int .u64 F, .slice a n c] 25)) W) :
    W.cell? ⟨w.heap.size, 0, none⟩ = some (.int .u64 F) ∧ W.cell? ⟨w.heap.size, 1, none⟩ = some (.slice a n c) ∧ w.heap.size + 3 ≤ W.heap.size ∧ Gr w W := by
  have h0 := gr_blk (al_at (w := w) (x := w.heap.size) (.cells #[.int .u64 F, .slice a n c] 25) rfl) (Ch.alloc (Ch.alloc (Gr.refl _) (.cells #[b] 71)) (.cells #[.int .u64 F, .slice a n c] 25))
  have k0 := (g.block _ (lt_of_block h0) (fun e => by have e1 : w.heap.size = w.heap.size + 1 := e; omega)).trans h0
  refine ⟨cell_of k0 0, cell_of k0 1, ?_, ?_⟩
  · have := g.size
    simp at this
    omega
  · exact Ch.trans (Ch.alloc (Ch.alloc (Ch.alloc (Gr.refl w) _) _) _) g (fun q e => .inr (by have e1 : q = w.heap.size + 1 := e; omega))
theorem sup_bd {Fn : Nat} {L : List (List Sl)} (hg : Good (Fn : Int) L) (dm : Int) : 0 ≤ shr L dm ∧ shr L dm ≤ 64 * Fn := by
  rw [← sup_frame (rfl : (Fn : Int) = (Fn : Int)) hg dm 0]
  exact sup_nonneg (rfl : (Fn : Int) = (Fn : Int)) hg dm 0 Fn
set_option maxHeartbeats 16000000 in
theorem supply_any (w : World) (a : Option Addr) (n c : Nat) (L : List (List Sl)) (h : Rw w (.slice a n c) L) (hx : Rgs L) (F dm : Int) (hF : Tk.U F) (N : Nat) (hN : (N : Int) ≤ 18446744073709551615) :
    Calls Try.prog 19 #[.agg #[.int .u64 F, .slice a n c], .int .i64 dm, .int .u64 (N : Int)] w fun e w' => SupR F L dm N w e w' := by
  obtain ⟨W2, hW2⟩ : ∃ W, W = (w.alloc (.cells #[.int .u64 F, .slice a n c] 25)).alloc (.cells #[.slice none 0 0] 71) := ⟨_, rfl⟩
  have G2 : Gr w W2 := by rw [hW2]; exact Ch.alloc (Ch.alloc (Gr.refl w) _) _
  have hsz : W2.heap.size = w.heap.size + 2 := by rw [hW2]; simp
  have B2 : W2.heap[w.heap.size + 1]? = some (.cells #[.slice none 0 0] 71 (0, 0)) := by rw [hW2]; exact al_at _ (by simp)
  have HBX := hide (show ∀ W, Ch (Only (w.heap.size + 1)) (W2.alloc (.cells #[.int .u64 F, .slice a n c] 25)) W → _ from fun W g => boxes_sup (by rw [hW2] at g; exact g))
  have HE9 := hide (each_any w W2 a n c L hx F dm hF 34 #[.pointer (some ⟨w.heap.size + 1, 0, none⟩)] (enters_of Try.func34 (by kernel_rfl) rfl) (Only (w.heap.size + 1)) (fun q e => by have e1 : q = w.heap.size + 1 := e; omega) G2 h
    (fun vs W => LBox eW 2 46 71 (w.heap.size + 1) (w.heap.size + 3) (vs.map (fun q : Nat × Sl => wn q.2)) W) (fun vs W W' h g => h.gr g) (LBox.start B2)
    (fun vs P x W hg hm hp hch hi => by
      obtain ⟨T0, T1, hz, -⟩ := HBX.out W hch
      obtain ⟨k1, k2, k3, k4, k5⟩ := hg.dsl hm
      have f2 := hg.f2
      have hlen : (vs.map (fun q : Nat × Sl => wn q.2)).length ≤ 65536 := by
        rw [List.length_map]
        have h2 := ((List.prefix_append vs [(P, x)]).trans hp).length_le
        have h3 := vis_len hg dm
        omega
      refine (supc_any W P x _ _ k5 (by omega) (by omega) _ hlen hi (by omega) (by omega)).mono ?_
      rintro e w' ⟨h1, h2, h3⟩
      refine ⟨h1, chApd hch h3 (by simp; omega), ?_⟩
      rw [List.map_append]
      exact h2))
  by_cases h0 : lkE F L dm 16 = 0
  · obtain ⟨hg, -, -, -⟩ := lkE_ok hx h0
    obtain ⟨Fn, rfl⟩ : ∃ Fn : Nat, F = (Fn : Int) := ⟨F.toNat, by have := hg.f1; omega⟩
    have hf1 : 1 ≤ Fn := by have := hg.f1; omega
    have hf2 : Fn ≤ 65536 := by have := hg.f2; omega
    rw [h0] at HE9
    have HI := hide (show ∀ W, Seen 0 L dm (fun vs W => LBox eW 2 46 71 (w.heap.size + 1) (w.heap.size + 3) (vs.map (fun q : Nat × Sl => wn q.2)) W) W → LBox eW 2 46 71 (w.heap.size + 1) (w.heap.size + 3) ((dsl L dm).map wn) W from fun W s => by
      unfold Seen at s
      rw [if_pos rfl] at s
      rw [← vis_snd, List.map_map]
      exact s)
    have HE1 := hide (show supE (Fn : Int) L dm N = if 281474976710656 < (N : Int) then 1 else 0 from if_pos h0)
    by_cases hbig : 281474976710656 < (N : Int)
    · have HE := hide (show supE (Fn : Int) L dm N = 1 by rw [HE1.out, if_pos hbig])
      clear h hx hF G2 hsz B2 hg h0
      go_enter Try.func19, Try.ntmps19
      go_wp2_with fail
      rw [← hW2]
      clear hW2
      refine HE9.out.mono ?_
      rintro e w5 ⟨rfl, h5, s5⟩
      obtain ⟨-, -, -, gw⟩ := HBX.out _ h5
      have G5 := hide gw
      clear h5 s5 gw
      go_wp2
      go_ret2
      exact ⟨0, 1, rfl, HE.out.symm, fun _ => rfl, (fun q => by cases q), G5.out⟩
    · have HE := hide (show supE (Fn : Int) L dm N = 0 by rw [HE1.out, if_neg hbig])
      have HG := hide hg
      obtain ⟨ws, hws⟩ : ∃ ws, ws = (dsl L dm).map wn := ⟨_, rfl⟩
      rw [← hws] at HI
      have HWS := hide hws
      have HWB := hide (show ∀ q ∈ ws, 0 ≤ q.1 ∧ 1 ≤ q.2 ∧ q.1 + q.2 ≤ Fn from fun q hq => by
        rw [hws] at hq
        obtain ⟨x, hxm, rfl⟩ := List.mem_map.1 hq
        obtain ⟨k1, k2, k3, k4, k5⟩ := hg.dsl hxm
        unfold wn
        exact ⟨k1, by show 1 ≤ x.l - x.p; omega, by show x.s + (x.l - x.p) ≤ Fn; omega⟩)
      have hwl : ws.length ≤ 65536 := by
        rw [hws, List.length_map, ← vis_snd, List.length_map]
        exact vis_len hg dm
      obtain ⟨sh, hsh⟩ : ∃ sh, sh = shr L dm := ⟨_, rfl⟩
      obtain ⟨b0, b1⟩ := sup_bd hg dm
      rw [← hsh] at b0 b1
      have HSH := hide (show ls ws Prod.snd = sh by rw [hws, hsh, lens_shr])
      obtain ⟨fr, hfr⟩ : ∃ fr : Int, fr = ((N / Fn : Nat) : Int) := ⟨_, rfl⟩
      have hfr0 : 0 ≤ fr := by rw [hfr]; exact Int.natCast_nonneg _
      have hmul : fr * sh ≤ 64 * (N : Int) := by
        have h1 : fr * sh ≤ fr * (64 * Fn) := Int.mul_le_mul_of_nonneg_left b1 hfr0
        have h2 : ((N / Fn * Fn : Nat) : Int) ≤ (N : Int) := by exact_mod_cast Nat.div_mul_le_self N Fn
        have h3 : fr * (64 * (Fn : Int)) = 64 * ((N / Fn * Fn : Nat) : Int) := by
          rw [hfr, Int.natCast_mul, Int.mul_left_comm]
        omega
      have hmul0 : 0 ≤ fr * sh := Int.mul_nonneg hfr0 b0
      have hmul1 : fr * sh ≤ 18014398509481984 := by omega
      have HWM := hide (show IntKind.u64.wrap (fr * sh) = fr * sh from IntWalk.u64_in _ ⟨hmul0, by omega⟩)
      have hre : N % Fn < Fn := Nat.mod_lt _ (by omega)
      have HPL := hide (show ∀ W, Calls Try.prog 35 #[.int .u64 (N : Int), .int .u64 (Fn : Int)] W fun e w' => e = .returned (.tuple #[.int .u64 ((N % Fn : Nat) : Int), .int .u64 fr, .int .i64 0]) ∧ Gr W w' from fun W => by
        have k := place_any W (N : Int) (Fn : Int) ⟨by omega, hN⟩ (by omega) (by omega)
        rw [← Int.natCast_emod, ← Int.natCast_ediv, ← hfr] at k
        exact k)
      have HSM := hide (show ∀ m, IsSp Fn L dm (N % Fn) m → ∃ Fn2 : Nat, (Fn : Int) = Fn2 ∧ IsSp Fn2 L dm N (fr * sh + m) from fun m s => ⟨Fn, rfl, by rw [hfr, hsh]; exact IsSp.of_rest (rfl : (Fn : Int) = (Fn : Int)) hg s⟩)
      have HSB := hide (show ∀ m, IsSp Fn L dm (N % Fn) m → 0 ≤ m ∧ m ≤ 4294967296 from fun m s => by
        have k := IsSp.bd (rfl : (Fn : Int) = (Fn : Int)) hg s
        omega)
      generalize N % Fn = re at *
      clear h hx hF G2 hsz B2 hg h0 hws hsh hfr
      go_enter Try.func19, Try.ntmps19
      go_wp2_with fail
      rw [← hW2]
      clear hW2
      refine HE9.out.mono ?_
      rintro e w5 ⟨rfl, h5, s5⟩
      obtain ⟨t0, t1, tz, gw⟩ := HBX.out _ h5
      have G4 := hide gw
      have tl : w.heap.size < w5.heap.size := by omega
      have BL := hide (HI.out _ s5)
      clear h5 s5 gw
      go_wp2_with fail
      refine (HPL.out _).mono ?_
      rintro e W5 ⟨rfl, g6⟩
      have G5 := hide (Gr.trans G4.out g6)
      obtain ⟨ao, cap, bl, ol⟩ := (BL.out.gr g6).form
      have HL0 := hide (show ∀ W, Gr W5 W → W.cell? ⟨w.heap.size + 1, 0, none⟩ = some (.slice ao ws.length cap) from fun W g => cell_of (gr_blk bl g) 0)
      have HT0 := hide (show ∀ W, Gr W5 W → W.cell? ⟨w.heap.size, 0, none⟩ = some (.int .u64 (Fn : Int)) from fun W g => ((Gr.trans g6 g).cell tl).trans t0)
      have HZL := hide (show ∀ W, Gr W5 W → w.heap.size + 1 < W.heap.size from fun W g => lt_of_block (gr_blk bl g))
      have HZT := hide (show ∀ W, Gr W5 W → w.heap.size < W.heap.size from fun W g => Nat.lt_of_lt_of_le tl (Gr.trans g6 g).size)
      have HLEN := hide (show ∀ W, Gr W5 W → Calls Try.prog 36 #[.slice ao ws.length cap] W fun e w' => e = .returned (.int .u64 sh) ∧ Gr W w' from fun W g => by
        have k := lengths_any W _ ao _ cap ws (ol.lst.gr g) (fun q hq => by have := (HWB.out q hq).2.1; omega) (by rw [HSH.out]; omega) hwl
        rw [HSH.out] at k
        exact k)
      have HCRW := hide (show ∀ W, Gr W5 W → Calls Try.prog 38 #[.slice ao ws.length cap, .int .u64 (Fn : Int)] W fun e w' => ∃ g, e = .returned (.slice (some ⟨g, 0, none⟩) Fn Fn) ∧ Ow eU 1 22 W.heap.size w' (.slice (some ⟨g, 0, none⟩) Fn Fn) (fl Fn (cvN ws)) ∧ Gr W w' from fun W g => crowds_any W _ ao _ cap Fn ws (ol.lst.gr g) HWB.out hf1 hf2 hwl)
      have HLST := hide (show ∀ W g (P : Nat → Prop), Gr W5 W → Ls eU P W (.slice (some ⟨g, 0, none⟩) Fn Fn) (fl Fn (cvN ws)) → Calls Try.prog 37 #[.slice (some ⟨g, 0, none⟩) Fn Fn, .int .u64 (re : Int)] W fun e w' => ∃ m, e = .returned (.int .u64 m) ∧ IsSp Fn L dm re m ∧ Gr W w' from fun W g P _ l => least_any W P g Fn re (Fn : Int) rfl L HG.out dm _ l (fun i hi => by rw [fl_get _ hi, HWS.out, cvN_crw]) hre)
      have hS0 : Gr W5 W5.drew := Ch.drew (Gr.refl W5)
      clear g6 bl ol t0 t1 tz tl BL HE9 HBX HPL b1 hmul
      go_wp2_with fail
      refine wp_region_held_drew (S := Gr W5) (by kernel_rfl) (by exact hS0) (fun _ => ?_)
      generalize World.drew W5 = V0 at hS0 ⊢
      refine takeS_on (i := 0) 29 (v := ?hv1) rfl rfl (by kernel_rfl) (by kernel_rfl) (by kernel_rfl) (fun _ _ _ h => h) (by kernel_rfl) ?hh1 (by exact hS0) ?_
      case hh1 => (intro w' hSw; go_simp; try (with_reducible rfl))
      simp only [Act.put, List.setIfInBounds_toArray, List.set_cons_zero, List.set_cons_succ]
      refine takeS_on (i := 1) 30 (v := ?hv2) rfl rfl (by kernel_rfl) (by kernel_rfl) (by kernel_rfl) (fun _ _ _ h => h) (by kernel_rfl) ?hh2 (by exact hS0) ?_
      case hh2 => (intro w' hSw; have y0 := HL0.out _ hSw; have y1 := HT0.out _ hSw; have yl := HZL.out _ hSw; have yt := HZT.out _ hSw; go_simp; try (with_reducible rfl))
      simp only [Act.put, List.setIfInBounds_toArray, List.set_cons_zero, List.set_cons_succ]
      refine takeS_on (i := 4) 33 (v := ?hv3) rfl rfl (by kernel_rfl) (by kernel_rfl) (by kernel_rfl) (fun _ _ _ h => h) (by kernel_rfl) ?hh3 (by exact hS0) ?_
      case hh3 => (intro w' hSw; have y0 := HL0.out _ hSw; have y1 := HT0.out _ hSw; have yl := HZL.out _ hSw; have yt := HZT.out _ hSw; go_simp; try (with_reducible rfl))
      simp only [Act.put, List.setIfInBounds_toArray, List.set_cons_zero, List.set_cons_succ]
      refine takeS_on (i := 5) 34 (v := ?hv4) rfl rfl (by kernel_rfl) (by kernel_rfl) (by kernel_rfl) (fun _ _ _ h => h) (by kernel_rfl) ?hh4 (by exact hS0) ?_
      case hh4 => (intro w' hSw; go_simp; try (with_reducible rfl))
      simp only [Act.put, List.setIfInBounds_toArray, List.set_cons_zero, List.set_cons_succ]
      refine takeS_on (i := 6) 35 (v := ?hv5) rfl rfl (by kernel_rfl) (by kernel_rfl) (by kernel_rfl) (fun _ _ _ h => h) (by kernel_rfl) ?hh5 (by exact hS0) ?_
      case hh5 => (intro w' hSw; have y0 := HL0.out _ hSw; have y1 := HT0.out _ hSw; have yl := HZL.out _ hSw; have yt := HZT.out _ hSw; go_simp; try (with_reducible rfl))
      simp only [Act.put, List.setIfInBounds_toArray, List.set_cons_zero, List.set_cons_succ]
      refine takeS_on (i := 8) 37 (v := ?hv6) rfl rfl (by kernel_rfl) (by kernel_rfl) (by kernel_rfl) (fun _ _ _ h => h) (by kernel_rfl) ?hh6 (by exact hS0) ?_
      case hh6 => (intro w' hSw; go_simp; try (with_reducible rfl))
      simp only [Act.put, List.setIfInBounds_toArray, List.set_cons_zero, List.set_cons_succ]
      refine takeS_on (i := 11) 40 (v := ?hv7) rfl rfl (by kernel_rfl) (by kernel_rfl) (by kernel_rfl) (fun _ _ _ h => h) (by kernel_rfl) ?hh7 (by exact hS0) ?_
      case hh7 => (intro w' hSw; go_simp; try (with_reducible rfl))
      simp only [Act.put, List.setIfInBounds_toArray, List.set_cons_zero, List.set_cons_succ]
      refine wpAnyH_ready (rs := [2]) (by kernel_rfl) (by simp) (AllReadyH.cons rfl (fun K hK => ?_) AllReadyH.nil)
      go_simp
      refine (HLEN.out V0 hS0).mono ?_
      rintro e wA ⟨rfl, gA⟩
      have hSA := Gr.trans hS0 gA
      clear gA
      refine hK.out _ _ (by exact hSA) (fun _ => ?_)
      clear hK K
      refine takeS_on (i := 3) 32 (v := ?hv8) rfl rfl (by kernel_rfl) (by kernel_rfl) (by kernel_rfl) (fun _ _ _ h => h) (by kernel_rfl) ?hh8 (by exact hSA) ?_
      case hh8 => (intro w' hSw; have hwm := HWM.out; go_simp; try (with_reducible rfl))
      simp only [Act.put, List.setIfInBounds_toArray, List.set_cons_zero, List.set_cons_succ]
      refine wpAnyH_ready (rs := [7]) (by kernel_rfl) (by simp) (AllReadyH.cons rfl (fun K hK => ?_) AllReadyH.nil)
      go_simp
      refine (HCRW.out wA hSA).mono ?_
      rintro e wB ⟨gg, rfl, oB, gB⟩
      have hSB := Gr.trans hSA gB
      have OB := hide oB
      clear gB oB
      refine hK.out _ _ (by exact hSB) (fun _ => ?_)
      clear hK K
      refine wpAnyH_ready (rs := [9]) (by kernel_rfl) (by simp) (AllReadyH.cons rfl (fun K hK => ?_) AllReadyH.nil)
      go_simp
      refine (HLST.out wB gg _ hSB OB.out.lst).mono ?_
      rintro e wC ⟨m, rfl, spC, gC⟩
      have hSC := Gr.trans hSB gC
      have SP := hide spC
      obtain ⟨m0, m1⟩ := HSB.out m SP.out
      have HW2 := hide (show IntKind.u64.wrap (fr * sh + m) = fr * sh + m from IntWalk.u64_in _ ⟨by omega, by omega⟩)
      clear gC spC
      refine hK.out _ _ (by exact hSC) (fun _ => ?_)
      clear hK K
      refine takeS_on (i := 10) 39 (v := ?hv9) rfl rfl (by kernel_rfl) (by kernel_rfl) (by kernel_rfl) (fun _ _ _ h => h) (by kernel_rfl) ?hh9 (by exact hSC) ?_
      case hh9 => (intro w' hSw; have hw2 := HW2.out; go_simp; try (with_reducible rfl))
      simp only [Act.put, List.setIfInBounds_toArray, List.set_cons_zero, List.set_cons_succ]
      refine takeS_on (i := 12) 6 (v := ?hv10) rfl rfl (by kernel_rfl) (by kernel_rfl) (by kernel_rfl) (fun _ _ _ h => h) (by kernel_rfl) ?hh10 (by exact hSC) ?_
      case hh10 => (intro w' hSw; go_simp; try (with_reducible rfl))
      simp only [Act.put, List.setIfInBounds_toArray, List.set_cons_zero, List.set_cons_succ]
      refine takeS_on (i := 13) 7 (v := ?hv11) rfl rfl (by kernel_rfl) (by kernel_rfl) (by kernel_rfl) (fun _ _ _ h => h) (by kernel_rfl) ?hh11 (by exact hSC) ?_
      case hh11 => (intro w' hSw; go_simp; try (with_reducible rfl))
      simp only [Act.put, List.setIfInBounds_toArray, List.set_cons_zero, List.set_cons_succ]
      refine wpAnyH_done (by kernel_rfl) ?_ _
      have GW := hide (Gr.trans G5.out hSC)
      clear hS0 hSA hSB hSC
      go_wp2
      refine bodyPost_ret (v := .tuple #[.int .u64 (fr * sh + m), .int .i64 0]) (by simp [results, Try.results19, go_sem]) rfl ?_
      exact ⟨_, _, rfl, HE.out.symm, (fun q => absurd rfl q), fun _ => HSM.out m SP.out, GW.out⟩
  · have HE := hide (show supE F L dm N = lkE F L dm 16 from if_neg h0)
    rw [← HE.out] at HE9 h0
    obtain ⟨E, hE⟩ : ∃ E, E = supE F L dm N := ⟨_, rfl⟩
    have HEE := hide hE
    rw [← hE] at HE9 h0
    have hne : (E != 0) = true := by simpa using h0
    have H0 := hide h0
    clear h hx hF G2 hsz B2 h0 hE HE
    go_enter Try.func19, Try.ntmps19
    go_wp2_with fail
    rw [← hW2]
    clear hW2
    refine HE9.out.mono ?_
    rintro e w5 ⟨rfl, h5, s5⟩
    obtain ⟨-, -, -, gw⟩ := HBX.out _ h5
    have G5 := hide gw
    clear h5 s5 gw
    go_wp2
    go_ret2
    exact ⟨0, E, rfl, HEE.out, fun _ => rfl, (fun q => absurd q H0.out), G5.out⟩
end Go.Proofs.Ytbghagpjkkmhpab.Lt
