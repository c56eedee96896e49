/-
  What the two kinds of ports tell by state. Condition: the part that does is there, and may be.
-/
import Derived.Test.YtnpbehcfbceclaaPoStateH
namespace Go.Proofs.Ytnpbehcfbceclaa.Lt
open Go.RowKit Wd
attribute [local go_sem ↓] Go.wp_at_zero Go.wp_at_succ
set_option maxRecDepth 20000

set_option maxHeartbeats 8000000 in
theorem sst_any (w : World) (k : Nat) (vo vi : Value) (x : Pt) (h : Kq w k vo vi x) (hq : x.q = false) (hok : x.ok) : Calls Try.prog 62 #[.pointer (some ⟨k, 0, none⟩)] w (StR w x) := by
  obtain ⟨q, cap, out, inn, lost⟩ := x
  dsimp only at hq
  subst hq
  have hlo : out.length ≤ 1024 := Nat.le_trans hok.o hok.c2
  have hli : inn.length ≤ 1024 := Nat.le_trans hok.i hok.c2
  obtain rfl : cap = 1 := hok.s1 rfl
  obtain rfl : lost = 0 := hok.s2 rfl
  obtain ⟨ao, co, rfl⟩ := h.ho.form
  obtain ⟨ai, ci, rfl⟩ := h.hi.form
  have hS0 := Hy.start h
  dsimp only at hS0 hlo hli ⊢
  clear h hok
  have HLO := hid hlo
  have HLI := hid hli
  generalize hn : out.length = n at *
  generalize hm : inn.length = m at *
  rw [← hn] at HLO
  rw [← hm] at HLI
  clear hn hm hlo hli
  obtain ⟨c0, c1, _, l0⟩ := hS0.q.c1
  have BR := hid hS0.r
  clear c0 c1 l0 BR
  go_enter Try.func62, Try.ntmps62
  go_wp2_with fail
  refine wp_region_held_drew (S := Hy w k (.slice ao n co) (.slice ai m ci) ⟨false, 1, out, inn, 0⟩) (by kernel_rfl) (by exact hS0) (fun _ => ?_)
  generalize World.drew (w.alloc (.cells #[.bool false, .int .i64 0, .slice none 0 0, .slice none 0 0, .int .i64 0] 32)) = V0 at hS0 ⊢
  refine takeS_on (i := 0) 4 (v := ?hv1) rfl rfl (by kernel_rfl) (by kernel_rfl) (by kernel_rfl) (fun _ _ _ h => h) (by kernel_rfl) ?hh1 (by exact hS0) ?_
  case hh1 => (intro w' hSw; go_simp; try (with_reducible rfl))
  simp only [Act.put, List.setIfInBounds_toArray, List.set_cons_zero, List.set_cons_succ]
  refine takeS_on (i := 1) 5 (v := ?hv2) rfl rfl (by kernel_rfl) (by kernel_rfl) (by kernel_rfl) (fun _ _ _ h => h) (by kernel_rfl) ?hh2 (by exact hS0) ?_
  case hh2 => (intro w' hSw; go_simp; try (with_reducible rfl))
  simp only [Act.put, List.setIfInBounds_toArray, List.set_cons_zero, List.set_cons_succ]
  refine takeS_on (i := 2) 6 (v := ?hv3) rfl rfl (by kernel_rfl) (by kernel_rfl) (by kernel_rfl) (fun _ _ _ h => h) (by kernel_rfl) ?hh3 (by exact hS0) ?_
  case hh3 => (intro w' hSw; go_simp; try (with_reducible rfl))
  simp only [Act.put, List.setIfInBounds_toArray, List.set_cons_zero, List.set_cons_succ]
  refine takeS_on (i := 3) 7 (v := ?hv4) rfl rfl (by kernel_rfl) (by kernel_rfl) (by kernel_rfl) (fun _ _ _ h => h) (by kernel_rfl) ?hh4 (by exact hS0) ?_
  case hh4 => (intro w' hSw; go_simp; try (with_reducible rfl))
  simp only [Act.put, List.setIfInBounds_toArray, List.set_cons_zero, List.set_cons_succ]
  refine takeS_on (i := 4) 8 (v := ?hv5) rfl rfl (by kernel_rfl) (by kernel_rfl) (by kernel_rfl) (fun _ _ _ h => h) (by kernel_rfl) ?hh5 (by exact hS0) ?_
  case hh5 => (intro w' hSw; have c0 := hSw.q.c1.1; go_simp; try (with_reducible rfl))
  simp only [Act.put, List.setIfInBounds_toArray, List.set_cons_zero, List.set_cons_succ]
  refine takeS_on (i := 5) 9 (v := ?hv6) rfl rfl (by kernel_rfl) (by kernel_rfl) (by kernel_rfl) (fun _ _ _ h => h) (by kernel_rfl) ?hh6 (by exact hS0) ?_
  case hh6 => (intro w' hSw; go_simp; try (with_reducible rfl))
  simp only [Act.put, List.setIfInBounds_toArray, List.set_cons_zero, List.set_cons_succ]
  refine takeS_on (i := 6) 10 (v := ?hv7) rfl rfl (by kernel_rfl) (by kernel_rfl) (by kernel_rfl) (fun _ _ _ h => h) (by kernel_rfl) ?hh7 (by exact hS0) ?_
  case hh7 => (intro w' hSw; go_simp; try (with_reducible rfl))
  simp only [Act.put, List.setIfInBounds_toArray, List.set_cons_zero, List.set_cons_succ]
  refine takeS_on (i := 7) 11 (v := ?hv8) rfl rfl (by kernel_rfl) (by kernel_rfl) (by kernel_rfl) (fun _ _ _ h => h) (by kernel_rfl) ?hh8 (by exact hS0) ?_
  case hh8 => (intro w' hSw; go_simp; try (with_reducible rfl))
  simp only [Act.put, List.setIfInBounds_toArray, List.set_cons_zero, List.set_cons_succ]
  refine takeS_on (i := 8) 12 (v := ?hv9) rfl rfl (by kernel_rfl) (by kernel_rfl) (by kernel_rfl) (fun _ _ _ h => h) (by kernel_rfl) ?hh9 (by exact hS0) ?_
  case hh9 => (intro w' hSw; go_simp; try (with_reducible rfl))
  simp only [Act.put, List.setIfInBounds_toArray, List.set_cons_zero, List.set_cons_succ]
  refine takeS_on (i := 9) 13 (v := ?hv10) rfl rfl (by kernel_rfl) (by kernel_rfl) (by kernel_rfl) (fun _ _ _ h => h) (by kernel_rfl) ?hh10 (by exact hS0) ?_
  case hh10 => (intro w' hSw; have c1 := hSw.q.c1.2.1; go_simp; try (with_reducible rfl))
  simp only [Act.put, List.setIfInBounds_toArray, List.set_cons_zero, List.set_cons_succ]
  refine wpAnyH_ready (rs := [10, 11]) (by kernel_rfl) (by simp) (AllReadyH.cons rfl (fun K hK => ?_) (AllReadyH.cons rfl (fun K hK => ?_) AllReadyH.nil))
  · go_simp
    refine (kept_any V0 (.slice ao n co) (.slice ai m ci) out inn hS0.q.ho.lst hS0.q.hi.lst (by have := HLO.out; omega) (by have := HLI.out; omega)).mono ?_
    rintro e w1 ⟨v1, v2, rfl, o1, o2, g1⟩
    obtain ⟨x1, y1, rfl⟩ := o1.form
    obtain ⟨x2, y2, rfl⟩ := o2.form
    have O1 := hid (o1.lower hS0.g.size)
    have O2 := hid (o2.lower hS0.g.size)
    have hS1 := hS0.gr g1
    clear o1 o2 g1
    refine hK.out _ _ (by exact hS1) (fun _ => ?_)
    clear hK K
    refine wpAnyH_ready (rs := [11]) (by kernel_rfl) (by simp) (AllReadyH.cons rfl (fun K hK => ?_) AllReadyH.nil)
    go_simp
    have hS2 := hS1.gr (Ch.alloc (Gr.refl w1) (.cells #[.slice none 0 0, .slice none 0 0] 66))
    have B3 := hid (al_at (w := w1) (.cells #[.slice none 0 0, .slice none 0 0] 66) rfl)
    have O3 := hid (O1.out.alloc (.cells #[.slice none 0 0, .slice none 0 0] 66))
    have O4 := hid (O2.out.alloc (.cells #[.slice none 0 0, .slice none 0 0] 66))
    have L3 := hid hS1.g.size
    generalize w1.alloc (.cells #[.slice none 0 0, .slice none 0 0] 66) = w2 at hS2 B3 O3 O4 ⊢
    refine hK.out _ _ (by exact hS2) (fun _ => ?_)
    clear hK K
    refine wpAnyH_ready (rs := [12]) (by kernel_rfl) (by simp) (AllReadyH.cons rfl (fun K hK => ?_) AllReadyH.nil)
    refine step_st_row rfl 66 (.tmp 3) (.tmp 14) rfl (w1.heap.size) _ rfl rfl _ _ B3.out kpt_size rfl (own_one2 O3.out O4.out) ?_
    intro w9 b9 k9
    have X := hid (Hz.mk5 hS2 B3.out b9 k9 L3.out O3.out O4.out)
    clear b9 k9
    have hS9 := X.out.p
    generalize w1.heap.size = b3 at X ⊢
    refine hK.out _ _ (by exact hS9) (fun _ => ?_)
    clear hK K
    refine wpAnyH_done (by kernel_rfl) ?_ _
    obtain ⟨d0, d1, l3⟩ := X.out.cs
    have XR := hid X.out.p.r
    clear hS0
    go_wp2_with (first
    | (refine st_row rfl 32 (.tmp 2) (.tmp 19) rfl w.heap.size _ rfl rfl _ _ XR.out pst_size rfl X.out.one ?_; intro w8 b8 k8; have B9 := hid b8; have K9 := hid k8; clear b8 k8))
    refine bodyPost_ret (results_cell_row rfl _ _ w.heap.size _ _ _ _ rfl B9.out Try.underlying32 rfl pst_size) rfl ?_
    exact StR.mkS X.out K9.out
  · go_simp
    have hS1 := hS0.gr (Ch.alloc (Gr.refl V0) (.cells #[.slice none 0 0, .slice none 0 0] 66))
    have BV1 := hid (al_at (w := V0) (.cells #[.slice none 0 0, .slice none 0 0] 66) rfl)
    generalize V0.alloc (.cells #[.slice none 0 0, .slice none 0 0] 66) = V1 at hS1 BV1 ⊢
    refine hK.out _ _ (by exact hS1) (fun _ => ?_)
    clear hK K
    refine wpAnyH_ready (rs := [10]) (by kernel_rfl) (by simp) (AllReadyH.cons rfl (fun K hK => ?_) AllReadyH.nil)
    go_simp
    refine (kept_any V1 (.slice ao n co) (.slice ai m ci) out inn hS1.q.ho.lst hS1.q.hi.lst (by have := HLO.out; omega) (by have := HLI.out; omega)).mono ?_
    rintro e w1 ⟨v1, v2, rfl, o1, o2, g1⟩
    obtain ⟨x1, y1, rfl⟩ := o1.form
    obtain ⟨x2, y2, rfl⟩ := o2.form
    have O1 := hid (o1.lower hS1.g.size)
    have O2 := hid (o2.lower hS1.g.size)
    have hS2 := hS1.gr g1
    have B3 := hid (gr_blk BV1.out g1)
    clear o1 o2 g1
    refine hK.out _ _ (by exact hS2) (fun _ => ?_)
    clear hK K
    refine wpAnyH_ready (rs := [12]) (by kernel_rfl) (by simp) (AllReadyH.cons rfl (fun K hK => ?_) AllReadyH.nil)
    refine step_st_row rfl 66 (.tmp 3) (.tmp 14) rfl (V0.heap.size) _ rfl rfl _ _ B3.out kpt_size rfl (own_one2 O1.out O2.out) ?_
    intro w9 b9 k9
    have X := hid (Hz.mk5 hS2 B3.out b9 k9 hS0.g.size O1.out O2.out)
    clear b9 k9
    have hS9 := X.out.p
    generalize V0.heap.size = b3 at X ⊢
    refine hK.out _ _ (by exact hS9) (fun _ => ?_)
    clear hK K
    refine wpAnyH_done (by kernel_rfl) ?_ _
    obtain ⟨d0, d1, l3⟩ := X.out.cs
    have XR := hid X.out.p.r
    clear hS0
    go_wp2_with (first
    | (refine st_row rfl 32 (.tmp 2) (.tmp 19) rfl w.heap.size _ rfl rfl _ _ XR.out pst_size rfl X.out.one ?_; intro w8 b8 k8; have B9 := hid b8; have K9 := hid k8; clear b8 k8))
    refine bodyPost_ret (results_cell_row rfl _ _ w.heap.size _ _ _ _ rfl B9.out Try.underlying32 rfl pst_size) rfl ?_
    exact StR.mkS X.out K9.out
end Go.Proofs.Ytnpbehcfbceclaa.Lt
