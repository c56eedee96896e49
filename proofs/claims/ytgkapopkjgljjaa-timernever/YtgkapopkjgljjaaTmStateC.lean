/-
  What the program's State answers. Condition: the timers are there, not more than 1024 run.
-/
import Derived.Test.YtgkapopkjgljjaaTmState
namespace Go.Proofs.Ytgkapopkjgljjaa.Lt
open Go.RowKit Wd
attribute [local go_sem ↓] Go.wp_at_zero Go.wp_at_succ
set_option maxRecDepth 20000

/-- the last name's cell -/
structure Se (b : Nat) (last : Int) (W : World) : Prop where
  c0 : W.cell? ⟨b, 0, none⟩ = some (.int .i64 last)
  bl : b < W.heap.size
theorem Se.gr {b : Nat} {last : Int} {W W' : World} (h : Se b last W) (c : Gr W W') : Se b last W' := ⟨(c.cell h.bl).trans h.c0, Nat.lt_of_lt_of_le h.bl c.size⟩
set_option maxHeartbeats 8000000 in
theorem state_any {T : Nat → Prop} {w : World} {b : Nat} {last : Int} {L : List Tk} {B : Int} (h : Tm T w b last L B) (hL : L.length ≤ 1024) : Calls Try.prog 17 #[.pointer (some ⟨b, 0, none⟩)] w fun e w' => ∃ v, e = .returned (.tuple #[.int .i64 last, v]) ∧ Ow eT 8 46 w.heap.size w' v L ∧ Gr w w' := by
  have HG := hid (given_any h)
  obtain ⟨T1, T2, d, h1, h2, h3, h4⟩ := h
  have c0 := cell_of h1.hb 0
  simp at c0
  have hS0 : Se b last (World.drew w) := ⟨c0, lt_of_block h1.hb⟩
  have TW := hid (h1.gr (Ch.drew (Gr.refl w)))
  have GV := hid (show Gr w (World.drew w) from Ch.drew (Gr.refl w))
  have LKK := hid h2
  have HLE := hid hL
  clear h1 h2 h3 h4 hL c0
  go_enter Try.func17, Try.ntmps17
  go_wp2_with (go_at_call 42; refine HG.out.mono ?_; rintro e w1 ⟨rfl, hw⟩; subst hw)
  refine wp_region_held_drew (S := Se b last) (by kernel_rfl) (by exact hS0) (fun _ => ?_)
  generalize World.drew w = V0 at hS0 TW GV ⊢
  refine takeS_on (i := 0) 7 (v := ?hv1) rfl rfl (by kernel_rfl) (by kernel_rfl) (by kernel_rfl) (fun _ _ _ h => h) (by kernel_rfl) ?hh1 (by exact hS0) ?_
  case hh1 => (intro w' hSw; go_simp; try (with_reducible rfl))
  simp only [Act.put, List.setIfInBounds_toArray, List.set_cons_zero, List.set_cons_succ]
  refine takeS_on (i := 1) 8 (v := ?hv2) rfl rfl (by kernel_rfl) (by kernel_rfl) (by kernel_rfl) (fun _ _ _ h => h) (by kernel_rfl) ?hh2 (by exact hS0) ?_
  case hh2 => (intro w' hSw; go_simp; try (with_reducible rfl))
  simp only [Act.put, List.setIfInBounds_toArray, List.set_cons_zero, List.set_cons_succ]
  refine takeS_on (i := 2) 9 (v := ?hv3) rfl rfl (by kernel_rfl) (by kernel_rfl) (by kernel_rfl) (fun _ _ _ h => h) (by kernel_rfl) ?hh3 (by exact hS0) ?_
  case hh3 => (intro w' hSw; go_simp; try (with_reducible rfl))
  simp only [Act.put, List.setIfInBounds_toArray, List.set_cons_zero, List.set_cons_succ]
  refine takeS_on (i := 3) 10 (v := ?hv4) rfl rfl (by kernel_rfl) (by kernel_rfl) (by kernel_rfl) (fun _ _ _ h => h) (by kernel_rfl) ?hh4 (by exact hS0) ?_
  case hh4 => (intro w' hSw; have c0 := hSw.c0; go_simp; try (with_reducible rfl))
  simp only [Act.put, List.setIfInBounds_toArray, List.set_cons_zero, List.set_cons_succ]
  refine takeS_on (i := 4) 11 (v := ?hv5) rfl rfl (by kernel_rfl) (by kernel_rfl) (by kernel_rfl) (fun _ _ _ h => h) (by kernel_rfl) ?hh5 (by exact hS0) ?_
  case hh5 => (intro w' hSw; go_simp; try (with_reducible rfl))
  simp only [Act.put, List.setIfInBounds_toArray, List.set_cons_zero, List.set_cons_succ]
  refine takeS_on (i := 6) 13 (v := ?hv6) rfl rfl (by kernel_rfl) (by kernel_rfl) (by kernel_rfl) (fun _ _ _ h => h) (by kernel_rfl) ?hh6 (by exact hS0) ?_
  case hh6 => (intro w' hSw; go_simp; try (with_reducible rfl))
  simp only [Act.put, List.setIfInBounds_toArray, List.set_cons_zero, List.set_cons_succ]
  refine wpAnyH_ready (rs := [5]) (by kernel_rfl) (by simp) (AllReadyH.cons rfl (fun K hK => ?_) AllReadyH.nil)
  go_simp
  refine (listed_ever TW.out LKK.out HLE.out).mono ?_
  rintro e w5 ⟨v5, rfl, o5, g5⟩
  obtain ⟨a5, c5, rfl⟩ := o5.form
  have O5 := hid o5
  have TW5 := hid (TW.out.gr g5)
  have G5 := hid (Gr.trans GV.out g5)
  have hS1 := hS0.gr g5
  clear g5 o5
  refine hK.out _ _ (by exact hS1) (fun _ => ?_)
  clear hK K
  refine wpAnyH_ready (rs := [7]) (by kernel_rfl) (by simp) (AllReadyH.cons rfl (fun K hK => ?_) AllReadyH.nil)
  go_simp
  refine (listed_never TW5.out LKK.out HLE.out).mono ?_
  rintro e w7 ⟨v7, rfl, o7, g7⟩
  obtain ⟨a7, c7, rfl⟩ := o7.form
  have O7 := hid o7
  have L5 := hid (O5.out.lst.gr g7)
  have G7 := hid (Gr.trans G5.out g7)
  have hS2 := hS1.gr g7
  clear g7 o7
  refine hK.out _ _ (by exact hS2) (fun _ => ?_)
  clear hK K
  refine wpAnyH_ready (rs := [8]) (by kernel_rfl) (by simp) (AllReadyH.cons rfl (fun K hK => ?_) AllReadyH.nil)
  go_simp
  have g8 := Ch.alloc (Gr.refl w7) (.cells #[.slice a5 (L.filter (fun t => !t.nv)).length c5, .slice a7 (L.filter (fun t => t.nv)).length c7] 25)
  have b8 := al_at (w := w7) (.cells #[.slice a5 (L.filter (fun t => !t.nv)).length c5, .slice a7 (L.filter (fun t => t.nv)).length c7] 25) rfl
  have L5b := hid (L5.out.gr g8)
  have L7 := hid (O7.out.lst.gr g8)
  have G8 := hid (Gr.trans G7.out g8)
  have hS3 := hS2.gr g8
  have B8 := hid b8
  generalize w7.alloc (.cells #[.slice a5 (L.filter (fun t => !t.nv)).length c5, .slice a7 (L.filter (fun t => t.nv)).length c7] 25) = W8 at hS3 L5b L7 G8 B8 ⊢
  clear g8 b8
  refine hK.out _ _ (by exact hS3) (fun _ => ?_)
  clear hK K
  refine wpAnyH_ready (rs := [9]) (by kernel_rfl) (by simp) (AllReadyH.cons rfl (fun K hK => ?_) AllReadyH.nil)
  go_simp
  have q0 := cell_of B8.out 0
  have q1 := cell_of B8.out 1
  simp at q0 q1
  refine (concat_any W8 _ _ _ _ _ _ _ _ _ L5b.out L7.out q0 q1 (lt_of_block B8.out) (by have := List.length_filter_le (fun t : Tk => !t.nv) L; have := HLE.out; omega) (by have := List.length_filter_le (fun t : Tk => t.nv) L; have := HLE.out; omega)).mono ?_
  rintro e w9 ⟨v9, rfl, o9, g9⟩
  rw [LKK.out.two] at o9
  have O9 := hid (o9.lower G8.out.size)
  have hS4 := hS3.gr g9
  have G9 := hid (Gr.trans G8.out g9)
  clear o9 g9 q0 q1
  refine hK.out _ _ (by exact hS4) (fun _ => ?_)
  clear hK K
  refine takeS_on (i := 10) 2 (v := ?hv7) rfl rfl (by kernel_rfl) (by kernel_rfl) (by kernel_rfl) (fun _ _ _ h => h) (by kernel_rfl) ?hh7 (by exact hS4) ?_
  case hh7 => (intro w' hSw; go_simp; try (with_reducible rfl))
  simp only [Act.put, List.setIfInBounds_toArray, List.set_cons_zero, List.set_cons_succ]
  refine takeS_on (i := 11) 3 (v := ?hv8) rfl rfl (by kernel_rfl) (by kernel_rfl) (by kernel_rfl) (fun _ _ _ h => h) (by kernel_rfl) ?hh8 (by exact hS4) ?_
  case hh8 => (intro w' hSw; go_simp; try (with_reducible rfl))
  simp only [Act.put, List.setIfInBounds_toArray, List.set_cons_zero, List.set_cons_succ]
  refine wpAnyH_done (by kernel_rfl) ?_ _
  go_wp2_with fail
  exact bodyPost_ret (v := .tuple #[.int .i64 last, v9]) (by simp [results, Try.results17, go_sem]) rfl ⟨_, rfl, O9.out, G9.out⟩
end Go.Proofs.Ytgkapopkjgljjaa.Lt
