/-
  What Ends answers: the document. Condition: the numbers are of their types.
-/
import Derived.Test.YtbghagpjkkmhpaaTbLft
import Derived.Test.YtbghagpjkkmhpaaTbSkip
namespace Go.Proofs.Ytbghagpjkkmhpaa.Lt
open Go.RowKit Wd
attribute [local go_sem ↓] Go.wp_at_zero Go.wp_at_succ
set_option maxRecDepth 20000

set_option maxHeartbeats 2000000 in
theorem rends_any (w : World) (a : Option Addr) (n c : Nat) (L : List (List Sl)) (h : Rw w (.slice a n c) L) (hx : Rgs L) (F t p : Int) (hF : Tk.U F) (ht : Tk.U t) :
    Calls Try.prog 17 #[.agg #[.int .u64 F, .slice a n c], .int .u64 t, .int .i64 p] w fun e w' => e = .returned (.tuple #[.bool (endB F L t p), .int .i64 (ownE F L p)]) ∧ Gr w w' := by
  have CL := look_any _ a n c L (h.gr (Ch.alloc (Gr.refl w) (.cells #[.int .u64 F, .slice a n c] 25))) hx F p n hF
  have hle : lkE F L p n = ownE F L p := by unfold ownE; rw [h.len]
  rw [hle] at CL
  by_cases h0 : ownE F L p = 0
  · obtain ⟨P, l, rfl, hl, hlm, hg, h1, h2⟩ := own_at (t := t) hx h0
    have CS := hide (fun W (g : Gr w W) => slot_any W a n c L (h.gr g) F t hg ht P l hl)
    have HE := hide h0
    rw [h0] at CL
    have f1 := hg.f1
    have f2 := hg.f2
    have tt0 := ht.1
    have tt1 := ht.2
    have htm : t.tmod F = t % F := Int.tmod_eq_emod_of_nonneg tt0
    obtain ⟨tm, htm2⟩ : ∃ tm, tm = t % F := ⟨_, rfl⟩
    have tm0 : 0 ≤ tm := by rw [htm2]; exact Int.emod_nonneg _ (by omega)
    have tm1 : tm < F := by rw [htm2]; exact Int.emod_lt_of_pos _ (by omega)
    have hne : F ≠ 0 := by omega
    rw [← htm2] at htm
    have htw : IntKind.u64.wrap (t.tmod F) = tm := by rw [htm]; exact IntWalk.u64_in _ ⟨tm0, by omega⟩
    cases hs : slt F l t with
    | none =>
      have HD := hide (sat_none (h1.trans hs)).2
      clear h hx hF ht h0 h1 h2 hle hg hl hlm htm2
      go_enter Try.func17, Try.ntmps17
      go_wp2_with fail
      refine CL.mono ?_
      rintro e w1 ⟨rfl, g1⟩
      obtain ⟨t0, t1, tb, gt⟩ := box2 g1
      have GT := hide gt
      go_wp2_with fail
      have CS1 := CS.out _ GT.out
      rw [hs, slotE_none] at CS1
      refine CS1.mono ?_
      rintro e w2 ⟨rfl, g2⟩
      have hS0 : Sx w.heap.size w2.heap.size #[.int .u64 F, .slice a n c] #[.int .i64 0, .int .u64 0, .int .u64 0, .int .u64 0] (World.drew (w2.alloc (.cells #[.int .i64 0, .int .u64 0, .int .u64 0, .int .u64 0] 54))) := ⟨gr_blk (gr_blk (gr_blk (al_at _ rfl) g1) g2) (Ch.drew (Ch.alloc (Gr.refl w2) _)), al_at (w := w2) _ rfl⟩
      have GV := hide (show Gr w (World.drew (w2.alloc (.cells #[.int .i64 0, .int .u64 0, .int .u64 0, .int .u64 0] 54))) from Ch.drew (Ch.alloc (Gr.trans GT.out g2) _))
      clear CS1 g2 g1 gt t0 t1
      go_wp2_with fail
      refine wp_region_held_drew (S := Sx w.heap.size w2.heap.size #[.int .u64 F, .slice a n c] #[.int .i64 0, .int .u64 0, .int .u64 0, .int .u64 0]) (by kernel_rfl) (by exact hS0) (fun _ => ?_)
      generalize World.drew (w2.alloc (.cells #[.int .i64 0, .int .u64 0, .int .u64 0, .int .u64 0] 54)) = V0 at hS0 GV ⊢
      refine takeS_on (i := 0) 27 (v := ?hv9) rfl rfl (by kernel_rfl) (by kernel_rfl) (by kernel_rfl) (fun _ _ _ h => h) (by kernel_rfl) ?hh9 (by exact hS0) ?_
      case hh9 => (intro w' hSw; go_simp; try (with_reducible rfl))
      simp only [Act.put, List.setIfInBounds_toArray, List.set_cons_zero, List.set_cons_succ]
      refine takeS_on (i := 1) 28 (v := ?hv10) rfl rfl (by kernel_rfl) (by kernel_rfl) (by kernel_rfl) (fun _ _ _ h => h) (by kernel_rfl) ?hh10 (by exact hS0) ?_
      case hh10 => (intro w' hSw; go_simp; try (with_reducible rfl))
      simp only [Act.put, List.setIfInBounds_toArray, List.set_cons_zero, List.set_cons_succ]
      refine skipS_on (i := 2) 29 rfl rfl (by kernel_rfl) (by kernel_rfl) (by kernel_rfl) (fun _ _ _ h => h) (by kernel_rfl) (by exact hS0) ?_
      simp only [Act.put, List.setIfInBounds_toArray, List.set_cons_zero, List.set_cons_succ]
      refine skipS_on (i := 3) 30 rfl rfl (by kernel_rfl) (by kernel_rfl) (by kernel_rfl) (fun _ _ _ h => h) (by kernel_rfl) (by exact hS0) ?_
      simp only [Act.put, List.setIfInBounds_toArray, List.set_cons_zero, List.set_cons_succ]
      refine skipS_on (i := 4) 31 rfl rfl (by kernel_rfl) (by kernel_rfl) (by kernel_rfl) (fun _ _ _ h => h) (by kernel_rfl) (by exact hS0) ?_
      simp only [Act.put, List.setIfInBounds_toArray, List.set_cons_zero, List.set_cons_succ]
      refine skipS_on (i := 5) 32 rfl rfl (by kernel_rfl) (by kernel_rfl) (by kernel_rfl) (fun _ _ _ h => h) (by kernel_rfl) (by exact hS0) ?_
      simp only [Act.put, List.setIfInBounds_toArray, List.set_cons_zero, List.set_cons_succ]
      refine skipS_on (i := 6) 33 rfl rfl (by kernel_rfl) (by kernel_rfl) (by kernel_rfl) (fun _ _ _ h => h) (by kernel_rfl) (by exact hS0) ?_
      simp only [Act.put, List.setIfInBounds_toArray, List.set_cons_zero, List.set_cons_succ]
      refine skipS_on (i := 7) 34 rfl rfl (by kernel_rfl) (by kernel_rfl) (by kernel_rfl) (fun _ _ _ h => h) (by kernel_rfl) (by exact hS0) ?_
      simp only [Act.put, List.setIfInBounds_toArray, List.set_cons_zero, List.set_cons_succ]
      refine skipS_on (i := 8) 35 rfl rfl (by kernel_rfl) (by kernel_rfl) (by kernel_rfl) (fun _ _ _ h => h) (by kernel_rfl) (by exact hS0) ?_
      simp only [Act.put, List.setIfInBounds_toArray, List.set_cons_zero, List.set_cons_succ]
      refine skipS_on (i := 9) 36 rfl rfl (by kernel_rfl) (by kernel_rfl) (by kernel_rfl) (fun _ _ _ h => h) (by kernel_rfl) (by exact hS0) ?_
      simp only [Act.put, List.setIfInBounds_toArray, List.set_cons_zero, List.set_cons_succ]
      refine skipS_on (i := 10) 37 rfl rfl (by kernel_rfl) (by kernel_rfl) (by kernel_rfl) (fun _ _ _ h => h) (by kernel_rfl) (by exact hS0) ?_
      simp only [Act.put, List.setIfInBounds_toArray, List.set_cons_zero, List.set_cons_succ]
      refine skipS_on (i := 11) 38 rfl rfl (by kernel_rfl) (by kernel_rfl) (by kernel_rfl) (fun _ _ _ h => h) (by kernel_rfl) (by exact hS0) ?_
      simp only [Act.put, List.setIfInBounds_toArray, List.set_cons_zero, List.set_cons_succ]
      refine skipS_on (i := 12) 39 rfl rfl (by kernel_rfl) (by kernel_rfl) (by kernel_rfl) (fun _ _ _ h => h) (by kernel_rfl) (by exact hS0) ?_
      simp only [Act.put, List.setIfInBounds_toArray, List.set_cons_zero, List.set_cons_succ]
      refine skipS_on (i := 13) 40 rfl rfl (by kernel_rfl) (by kernel_rfl) (by kernel_rfl) (fun _ _ _ h => h) (by kernel_rfl) (by exact hS0) ?_
      simp only [Act.put, List.setIfInBounds_toArray, List.set_cons_zero, List.set_cons_succ]
      refine skipS_on (i := 14) 41 rfl rfl (by kernel_rfl) (by kernel_rfl) (by kernel_rfl) (fun _ _ _ h => h) (by kernel_rfl) (by exact hS0) ?_
      simp only [Act.put, List.setIfInBounds_toArray, List.set_cons_zero, List.set_cons_succ]
      refine takeS_on (i := 15) 42 (v := ?hv24) rfl rfl (by kernel_rfl) (by kernel_rfl) (by kernel_rfl) (fun _ _ _ h => h) (by kernel_rfl) ?hh24 (by exact hS0) ?_
      case hh24 => (intro w' hSw; go_simp; try (with_reducible rfl))
      simp only [Act.put, List.setIfInBounds_toArray, List.set_cons_zero, List.set_cons_succ]
      refine takeS_on (i := 16) 6 (v := ?hv25) rfl rfl (by kernel_rfl) (by kernel_rfl) (by kernel_rfl) (fun _ _ _ h => h) (by kernel_rfl) ?hh25 (by exact hS0) ?_
      case hh25 => (intro w' hSw; go_simp; try (with_reducible rfl))
      simp only [Act.put, List.setIfInBounds_toArray, List.set_cons_zero, List.set_cons_succ]
      refine takeS_on (i := 17) 7 (v := ?hv26) rfl rfl (by kernel_rfl) (by kernel_rfl) (by kernel_rfl) (fun _ _ _ h => h) (by kernel_rfl) ?hh26 (by exact hS0) ?_
      case hh26 => (intro w' hSw; go_simp; try (with_reducible rfl))
      simp only [Act.put, List.setIfInBounds_toArray, List.set_cons_zero, List.set_cons_succ]
      refine wpAnyH_done (by kernel_rfl) ?_ _
      go_wp2_with fail
      go_ret2
      exact ⟨by rw [HD.out, HE.out]; rfl, GV.out⟩
    | some x =>
      obtain ⟨_, _, _, hr, hw, s0, s1, s2, _, _, p0, _, _, hd⟩ := sat_some hx (h1.trans hs)
      have k3 := hw.2.2
      have k2 := hw.2.1
      have k1 := hw.1
      rw [← htm2] at hd s1 s2
      have HD := hide (show endB F L t (P : Int) = (tm == IntKind.u64.wrap (IntKind.u64.wrap (x.s + x.l) - 1)) by rw [hd, IntWalk.u64_in (x.s + x.l) ⟨by omega, by omega⟩, IntWalk.u64_in _ ⟨by omega, by omega⟩]; rfl)
      clear h hx hF ht h0 h1 h2 hle hg hl hlm htm2 hr hw hd
      go_enter Try.func17, Try.ntmps17
      go_wp2_with fail
      refine CL.mono ?_
      rintro e w1 ⟨rfl, g1⟩
      obtain ⟨t0, t1, tb, gt⟩ := box2 g1
      have GT := hide gt
      go_wp2_with fail
      have CS1 := CS.out _ GT.out
      rw [hs, slotE_some] at CS1
      refine CS1.mono ?_
      rintro e w2 ⟨rfl, g2⟩
      have hS0 : Sx w.heap.size w2.heap.size #[.int .u64 F, .slice a n c] #[.int .i64 x.d, .int .u64 x.s, .int .u64 x.l, .int .u64 x.p] (World.drew (w2.alloc (.cells #[.int .i64 x.d, .int .u64 x.s, .int .u64 x.l, .int .u64 x.p] 54))) := ⟨gr_blk (gr_blk (gr_blk (al_at _ rfl) g1) g2) (Ch.drew (Ch.alloc (Gr.refl w2) _)), al_at (w := w2) _ rfl⟩
      have GV := hide (show Gr w (World.drew (w2.alloc (.cells #[.int .i64 x.d, .int .u64 x.s, .int .u64 x.l, .int .u64 x.p] 54))) from Ch.drew (Ch.alloc (Gr.trans GT.out g2) _))
      clear CS1 g2 g1 gt t0 t1
      go_wp2_with fail
      refine wp_region_held_drew (S := Sx w.heap.size w2.heap.size #[.int .u64 F, .slice a n c] #[.int .i64 x.d, .int .u64 x.s, .int .u64 x.l, .int .u64 x.p]) (by kernel_rfl) (by exact hS0) (fun _ => ?_)
      generalize World.drew (w2.alloc (.cells #[.int .i64 x.d, .int .u64 x.s, .int .u64 x.l, .int .u64 x.p] 54)) = V0 at hS0 GV ⊢
      refine takeS_on (i := 0) 27 (v := ?hv27) rfl rfl (by kernel_rfl) (by kernel_rfl) (by kernel_rfl) (fun _ _ _ h => h) (by kernel_rfl) ?hh27 (by exact hS0) ?_
      case hh27 => (intro w' hSw; go_simp; try (with_reducible rfl))
      simp only [Act.put, List.setIfInBounds_toArray, List.set_cons_zero, List.set_cons_succ]
      refine takeS_on (i := 1) 28 (v := ?hv28) rfl rfl (by kernel_rfl) (by kernel_rfl) (by kernel_rfl) (fun _ _ _ h => h) (by kernel_rfl) ?hh28 (by exact hS0) ?_
      case hh28 => (intro w' hSw; go_simp; try (with_reducible rfl))
      simp only [Act.put, List.setIfInBounds_toArray, List.set_cons_zero, List.set_cons_succ]
      refine takeS_on (i := 2) 29 (v := ?hv29) rfl rfl (by kernel_rfl) (by kernel_rfl) (by kernel_rfl) (fun _ _ _ h => h) (by kernel_rfl) ?hh29 (by exact hS0) ?_
      case hh29 => (intro w' hSw; go_simp; try (with_reducible rfl))
      simp only [Act.put, List.setIfInBounds_toArray, List.set_cons_zero, List.set_cons_succ]
      refine takeS_on (i := 3) 30 (v := ?hv30) rfl rfl (by kernel_rfl) (by kernel_rfl) (by kernel_rfl) (fun _ _ _ h => h) (by kernel_rfl) ?hh30 (by exact hS0) ?_
      case hh30 => (intro w' hSw; go_simp; try (with_reducible rfl))
      simp only [Act.put, List.setIfInBounds_toArray, List.set_cons_zero, List.set_cons_succ]
      refine takeS_on (i := 4) 31 (v := ?hv31) rfl rfl (by kernel_rfl) (by kernel_rfl) (by kernel_rfl) (fun _ _ _ h => h) (by kernel_rfl) ?hh31 (by exact hS0) ?_
      case hh31 => (intro w' hSw; have x0 := cell_of hSw.b 0; simp at x0; have xl := lt_of_block hSw.b; go_simp; try (with_reducible rfl))
      simp only [Act.put, List.setIfInBounds_toArray, List.set_cons_zero, List.set_cons_succ]
      refine takeS_on (i := 5) 32 (v := ?hv32) rfl rfl (by kernel_rfl) (by kernel_rfl) (by kernel_rfl) (fun _ _ _ h => h) (by kernel_rfl) ?hh32 (by exact hS0) ?_
      case hh32 => (intro w' hSw; go_simp; try (with_reducible rfl))
      simp only [Act.put, List.setIfInBounds_toArray, List.set_cons_zero, List.set_cons_succ]
      refine takeS_on (i := 6) 33 (v := ?hv33) rfl rfl (by kernel_rfl) (by kernel_rfl) (by kernel_rfl) (fun _ _ _ h => h) (by kernel_rfl) ?hh33 (by exact hS0) ?_
      case hh33 => (intro w' hSw; go_simp; try (with_reducible rfl))
      simp only [Act.put, List.setIfInBounds_toArray, List.set_cons_zero, List.set_cons_succ]
      refine takeS_on (i := 7) 34 (v := ?hv34) rfl rfl (by kernel_rfl) (by kernel_rfl) (by kernel_rfl) (fun _ _ _ h => h) (by kernel_rfl) ?hh34 (by exact hS0) ?_
      case hh34 => (intro w' hSw; go_simp; try (with_reducible rfl))
      simp only [Act.put, List.setIfInBounds_toArray, List.set_cons_zero, List.set_cons_succ]
      refine takeS_on (i := 8) 35 (v := ?hv35) rfl rfl (by kernel_rfl) (by kernel_rfl) (by kernel_rfl) (fun _ _ _ h => h) (by kernel_rfl) ?hh35 (by exact hS0) ?_
      case hh35 => (intro w' hSw; have y1 := cell_of hSw.e 1; simp at y1; have yl := lt_of_block hSw.e; go_simp; try (with_reducible rfl))
      simp only [Act.put, List.setIfInBounds_toArray, List.set_cons_zero, List.set_cons_succ]
      refine takeS_on (i := 9) 36 (v := ?hv36) rfl rfl (by kernel_rfl) (by kernel_rfl) (by kernel_rfl) (fun _ _ _ h => h) (by kernel_rfl) ?hh36 (by exact hS0) ?_
      case hh36 => (intro w' hSw; go_simp; try (with_reducible rfl))
      simp only [Act.put, List.setIfInBounds_toArray, List.set_cons_zero, List.set_cons_succ]
      refine takeS_on (i := 10) 37 (v := ?hv37) rfl rfl (by kernel_rfl) (by kernel_rfl) (by kernel_rfl) (fun _ _ _ h => h) (by kernel_rfl) ?hh37 (by exact hS0) ?_
      case hh37 => (intro w' hSw; go_simp; try (with_reducible rfl))
      simp only [Act.put, List.setIfInBounds_toArray, List.set_cons_zero, List.set_cons_succ]
      refine takeS_on (i := 11) 38 (v := ?hv38) rfl rfl (by kernel_rfl) (by kernel_rfl) (by kernel_rfl) (fun _ _ _ h => h) (by kernel_rfl) ?hh38 (by exact hS0) ?_
      case hh38 => (intro w' hSw; have y2 := cell_of hSw.e 2; simp at y2; have yl := lt_of_block hSw.e; go_simp; try (with_reducible rfl))
      simp only [Act.put, List.setIfInBounds_toArray, List.set_cons_zero, List.set_cons_succ]
      refine takeS_on (i := 12) 39 (v := ?hv39) rfl rfl (by kernel_rfl) (by kernel_rfl) (by kernel_rfl) (fun _ _ _ h => h) (by kernel_rfl) ?hh39 (by exact hS0) ?_
      case hh39 => (intro w' hSw; go_simp; try (with_reducible rfl))
      simp only [Act.put, List.setIfInBounds_toArray, List.set_cons_zero, List.set_cons_succ]
      refine takeS_on (i := 13) 40 (v := ?hv40) rfl rfl (by kernel_rfl) (by kernel_rfl) (by kernel_rfl) (fun _ _ _ h => h) (by kernel_rfl) ?hh40 (by exact hS0) ?_
      case hh40 => (intro w' hSw; go_simp; try (with_reducible rfl))
      simp only [Act.put, List.setIfInBounds_toArray, List.set_cons_zero, List.set_cons_succ]
      refine takeS_on (i := 14) 41 (v := ?hv41) rfl rfl (by kernel_rfl) (by kernel_rfl) (by kernel_rfl) (fun _ _ _ h => h) (by kernel_rfl) ?hh41 (by exact hS0) ?_
      case hh41 => (intro w' hSw; go_simp; try (with_reducible rfl))
      simp only [Act.put, List.setIfInBounds_toArray, List.set_cons_zero, List.set_cons_succ]
      refine takeS_on (i := 15) 42 (v := ?hv42) rfl rfl (by kernel_rfl) (by kernel_rfl) (by kernel_rfl) (fun _ _ _ h => h) (by kernel_rfl) ?hh42 (by exact hS0) ?_
      case hh42 => (intro w' hSw; go_simp; try (with_reducible rfl))
      simp only [Act.put, List.setIfInBounds_toArray, List.set_cons_zero, List.set_cons_succ]
      refine takeS_on (i := 16) 6 (v := ?hv43) rfl rfl (by kernel_rfl) (by kernel_rfl) (by kernel_rfl) (fun _ _ _ h => h) (by kernel_rfl) ?hh43 (by exact hS0) ?_
      case hh43 => (intro w' hSw; go_simp; try (with_reducible rfl))
      simp only [Act.put, List.setIfInBounds_toArray, List.set_cons_zero, List.set_cons_succ]
      refine takeS_on (i := 17) 7 (v := ?hv44) rfl rfl (by kernel_rfl) (by kernel_rfl) (by kernel_rfl) (fun _ _ _ h => h) (by kernel_rfl) ?hh44 (by exact hS0) ?_
      case hh44 => (intro w' hSw; go_simp; try (with_reducible rfl))
      simp only [Act.put, List.setIfInBounds_toArray, List.set_cons_zero, List.set_cons_succ]
      refine wpAnyH_done (by kernel_rfl) ?_ _
      go_wp2_with fail
      go_ret2
      exact ⟨by rw [HD.out, HE.out]; rfl, GV.out⟩
  · have HD := hide (sat_bad (t := t) h0).2.2.2
    have HE := hide (rfl : ownE F L p = ownE F L p)
    generalize ownE F L p = E at h0 CL HE ⊢
    have hne : (E != 0) = true := by simpa using h0
    clear h hx hF ht h0 hle
    go_enter Try.func17, Try.ntmps17
    go_wp2_with fail
    refine CL.mono ?_
    rintro e w1 ⟨rfl, g1⟩
    obtain ⟨t0, t1, tb, gt⟩ := box2 g1
    have GT := hide gt
    clear g1 gt
    go_wp2
    go_ret2
    exact ⟨by rw [HD.out]; rfl, GT.out⟩
end Go.Proofs.Ytbghagpjkkmhpaa.Lt
