/-
  What SlabNobody of the statements answers: true, at any call. No conditions.
-/
import Derived.Test.YtfbkifkfhgkdbabSbNil
namespace Go.Proofs.Ytfbkifkfhgkdbab.Sb
open Go.RowKit
attribute [local go_sem ↓] Go.wp_at_zero Go.wp_at_succ

/-- an Op in a block of its own -/
def OpAt (w : World) (b : Nat) (d p k s g : Int) : Prop := w.heap[b]? = some (.cells #[.int .i64 d, .int .i64 p, .int .i64 k, .int .i64 s, .int .i64 g] 49 (0, 0))
theorem OpAt.new (w : World) (d p k s g : Int) : OpAt (w.alloc (.cells #[.int .i64 d, .int .i64 p, .int .i64 k, .int .i64 s, .int .i64 g] 49)) w.heap.size d p k s g := (MapKept.heap_alloc w _).1
theorem OpAt.lt {w : World} {b : Nat} {d p k s g : Int} (h : OpAt w b d p k s g) : b < w.heap.size := lt_of_block h
theorem OpAt.ch {S : Nat → Prop} {w w' : World} {b : Nat} {d p k s g : Int} (h : OpAt w b d p k s g) (c : Ch S w w') (hn : ¬ S b) : OpAt w' b d p k s g := (c.block b (lt_of_block h) hn).trans h
theorem OpAt.cells {w : World} {b : Nat} {d p k s g : Int} (h : OpAt w b d p k s g) : w.cell? ⟨b, 0, none⟩ = some (.int .i64 d) ∧ w.cell? ⟨b, 1, none⟩ = some (.int .i64 p) ∧ w.cell? ⟨b, 2, none⟩ = some (.int .i64 k) ∧ w.cell? ⟨b, 3, none⟩ = some (.int .i64 s) ∧ w.cell? ⟨b, 4, none⟩ = some (.int .i64 g) :=
  ⟨(cell_of h 0).trans rfl, (cell_of h 1).trans rfl, (cell_of h 2).trans rfl, (cell_of h 3).trans rfl, (cell_of h 4).trans rfl⟩

set_option maxHeartbeats 2000000 in
set_option maxRecDepth 20000 in
theorem nobody_law (d p k s g : Int) (w : World) : Calls Try.prog 5 #[.agg #[.int .i64 d, .int .i64 p, .int .i64 k, .int .i64 s, .int .i64 g]] w fun e w' => e = .returned (.bool true) ∧ Ch NoB w w' := by
  have HO0 := hid (OpAt.new w d p k s g)
  have HG0 := hid ((Ch.refl NoB w).alloc (.cells #[.int .i64 d, .int .i64 p, .int .i64 k, .int .i64 s, .int .i64 g] 49))
  obtain ⟨W, hW⟩ : ∃ W, W = w.alloc (.cells #[.int .i64 d, .int .i64 p, .int .i64 k, .int .i64 s, .int .i64 g] 49) := ⟨_, rfl⟩
  rw [← hW] at HO0 HG0
  go_enter Try.func5, Try.ntmps5
  go_wp2_with fail
  rw [← hW]
  clear hW
  go_loopg [4] 2 (fun m i wv => ∃ j, j + m = 2 ∧ i = .int .i64 ((j : Nat) : Int) ∧ OpAt wv w.heap.size d p k s g ∧ Ch NoB w wv)
  case atStart => exact ⟨0, by omega, rfl, HO0.out, HG0.out⟩
  case round =>
    obtain ⟨j, hjm, rfl, ho, hg⟩ := hrel
    have HO := hid ho
    have HG := hid hg
    clear ho hg
    have hj3 : j = 0 ∨ j = 1 ∨ j = 2 := by omega
    rcases hj3 with rfl | rfl | rfl
    · have HO1 := hid HO.out
      have HGA := hid HG.out
      obtain ⟨o0, o1, o2, o3, o4⟩ := HO1.out.cells
      have ol := HO1.out.lt
      go_wp2_with fail
      clear o0 o1 o2 o3 o4
      refine (take_nil p _).mono ?_
      rintro e v2 ⟨rfl, g2⟩
      have HO2 := hid (HO1.out.ch g2 (noB _))
      have HGB := hid (HGA.out.trans' g2)
      obtain ⟨o0, o1, o2, o3, o4⟩ := HO2.out.cells
      have ol2 := HO2.out.lt
      clear g2
      go_wp2_with fail
      have G3 := (Ch.refl NoB v2).alloc (.cells #[.int .i64 0, .int .i64 0] 34)
      have HO3 := hid (HO2.out.ch G3 (noB _))
      have HGC := hid (HGB.out.trans' G3)
      clear G3 o0 o1 o2 o3 o4
      refine (give_nil p s g _).mono ?_
      rintro e v4 ⟨rfl, g4⟩
      have HO4 := hid (HO3.out.ch g4 (noB _))
      have HGD := hid (HGC.out.trans' g4)
      obtain ⟨o0, o1, o2, o3, o4⟩ := HO4.out.cells
      have ol4 := HO4.out.lt
      clear g4
      go_wp2_with fail
      clear o0 o1 o2 o3 o4
      refine (flush_nil p _).mono ?_
      rintro e v5 ⟨rfl, g5⟩
      have HO5 := hid (HO4.out.ch g5 (noB _))
      have HGE := hid (HGD.out.trans' g5)
      clear g5
      go_wp2_with fail
      refine (state_nil _).mono ?_
      rintro e v6 ⟨rfl, g6⟩
      have HO6 := hid (HO5.out.ch g6 (noB _))
      have HGF := hid (HGE.out.trans' g6)
      have G7 := (Ch.refl NoB v6).alloc (.cells #[.int .i64 0, .slice none 0 0, .slice none 0 0, .slice none 0 0, .slice none 0 0] 45)
      have HO7 := hid (HO6.out.ch G7 (noB _))
      have HGH := hid (HGF.out.trans' G7)
      have HS7 := hid ((MapKept.heap_alloc v6 (.cells #[.int .i64 0, .slice none 0 0, .slice none 0 0, .slice none 0 0, .slice none 0 0] 45)).1)
      obtain ⟨o0, o1, o2, o3, o4⟩ := HO7.out.cells
      have ol7 := HO7.out.lt
      obtain ⟨z0, z1, z2, z3, z4⟩ := HO6.out.cells
      have zl6 := HO6.out.lt
      clear g6 G7
      go_wp2_with fail
      clear o0 o1 o2 o3 o4 z0 z1 z2 z3 z4
      refine (alive_nil s g _).mono ?_
      rintro e v8 ⟨rfl, g8⟩
      have HO8 := hid (HO7.out.ch g8 (noB _))
      have HGI := hid (HGH.out.trans' g8)
      have HS8 := hid ((g8.block _ (lt_of_block HS7.out) (noB _)).trans HS7.out)
      clear g8
      go_wp2_with fail
      refine (live_nil _).mono ?_
      rintro e v9 ⟨rfl, g9⟩
      have HO9 := hid (HO8.out.ch g9 (noB _))
      have HGJ := hid (HGI.out.trans' g9)
      have S9 := (g9.block _ (lt_of_block HS8.out) (noB _)).trans HS8.out
      have y0 := (cell_of S9 0).trans rfl
      have y1 := (cell_of S9 1).trans rfl
      have y2 := (cell_of S9 2).trans rfl
      have y3 := (cell_of S9 3).trans rfl
      have y4 := (cell_of S9 4).trans rfl
      have yl := lt_of_block S9
      clear g9 S9
      go_wp2
      go_roundg (gk - 1)
      case measure => omega
      case rel => exact ⟨1, by omega, rfl, HO9.out, HGJ.out⟩
    · obtain ⟨W1, hW1⟩ : ∃ W1, W1 = wr.alloc (.cells #[.int .i64 0, .slice none 0 0, .slice none 0 0, .slice none 0 0, .slice none 0 0] 51) := ⟨_, rfl⟩
      have HG1 := hid (show Ch NoB wr W1 by rw [hW1]; exact (Ch.refl _ _).alloc _)
      have HP1 := hid (show Plain W1 wr.heap.size by rw [hW1]; exact Plain.new wr)
      obtain ⟨o0, o1, o2, o3, o4⟩ := HO.out.cells
      have ol := HO.out.lt
      go_wp2_with fail
      rw [← hW1]
      clear hW1 o0 o1 o2 o3 o4
      have HO1 := hid (HO.out.ch HG1.out (noB _))
      have HGA := hid (HG.out.trans' HG1.out)
      refine (take_plain wr.heap.size p _ HP1.out).mono ?_
      rintro e v2 ⟨rfl, g2⟩
      have HO2 := hid (HO1.out.ch g2 (noB _))
      have HGB := hid (HGA.out.trans' g2)
      have HP2 := hid (HP1.out.ch g2 (noB _))
      obtain ⟨o0, o1, o2, o3, o4⟩ := HO2.out.cells
      have ol2 := HO2.out.lt
      clear g2
      go_wp2_with fail
      have G3 := (Ch.refl NoB v2).alloc (.cells #[.int .i64 0, .int .i64 0] 34)
      have HO3 := hid (HO2.out.ch G3 (noB _))
      have HGC := hid (HGB.out.trans' G3)
      have HP3 := hid (HP2.out.ch G3 (noB _))
      clear G3 o0 o1 o2 o3 o4
      refine (give_plain wr.heap.size p s g _ HP3.out).mono ?_
      rintro e v4 ⟨rfl, g4⟩
      have HO4 := hid (HO3.out.ch g4 (noB _))
      have HGD := hid (HGC.out.trans' g4)
      have HP4 := hid (HP3.out.ch g4 (noB _))
      obtain ⟨o0, o1, o2, o3, o4⟩ := HO4.out.cells
      have ol4 := HO4.out.lt
      clear g4
      go_wp2_with fail
      clear o0 o1 o2 o3 o4
      refine (flush_plain wr.heap.size p _ HP4.out).mono ?_
      rintro e v5 ⟨rfl, g5⟩
      have HO5 := hid (HO4.out.ch g5 (noB _))
      have HGE := hid (HGD.out.trans' g5)
      have HP5 := hid (HP4.out.ch g5 (noB _))
      clear g5
      go_wp2_with fail
      refine (state_plain wr.heap.size _ HP5.out).mono ?_
      rintro e v6 ⟨rfl, g6⟩
      have HO6 := hid (HO5.out.ch g6 (noB _))
      have HGF := hid (HGE.out.trans' g6)
      have HP6 := hid (HP5.out.ch g6 (noB _))
      have G7 := (Ch.refl NoB v6).alloc (.cells #[.int .i64 0, .slice none 0 0, .slice none 0 0, .slice none 0 0, .slice none 0 0] 45)
      have HO7 := hid (HO6.out.ch G7 (noB _))
      have HGH := hid (HGF.out.trans' G7)
      have HS7 := hid ((MapKept.heap_alloc v6 (.cells #[.int .i64 0, .slice none 0 0, .slice none 0 0, .slice none 0 0, .slice none 0 0] 45)).1)
      have HP7 := hid (HP6.out.ch G7 (noB _))
      obtain ⟨o0, o1, o2, o3, o4⟩ := HO7.out.cells
      have ol7 := HO7.out.lt
      obtain ⟨z0, z1, z2, z3, z4⟩ := HO6.out.cells
      have zl6 := HO6.out.lt
      clear g6 G7
      go_wp2_with fail
      clear o0 o1 o2 o3 o4 z0 z1 z2 z3 z4
      refine (alive_plain wr.heap.size s g _ HP7.out).mono ?_
      rintro e v8 ⟨rfl, g8⟩
      have HO8 := hid (HO7.out.ch g8 (noB _))
      have HGI := hid (HGH.out.trans' g8)
      have HS8 := hid ((g8.block _ (lt_of_block HS7.out) (noB _)).trans HS7.out)
      have HP8 := hid (HP7.out.ch g8 (noB _))
      clear g8
      go_wp2_with fail
      refine (live_plain wr.heap.size _ HP8.out).mono ?_
      rintro e v9 ⟨rfl, g9⟩
      have HO9 := hid (HO8.out.ch g9 (noB _))
      have HGJ := hid (HGI.out.trans' g9)
      have S9 := (g9.block _ (lt_of_block HS8.out) (noB _)).trans HS8.out
      have y0 := (cell_of S9 0).trans rfl
      have y1 := (cell_of S9 1).trans rfl
      have y2 := (cell_of S9 2).trans rfl
      have y3 := (cell_of S9 3).trans rfl
      have y4 := (cell_of S9 4).trans rfl
      have yl := lt_of_block S9
      clear g9 S9
      go_wp2
      go_roundg (gk - 1)
      case measure => omega
      case rel => exact ⟨2, by omega, rfl, HO9.out, HGJ.out⟩
    · go_wp2
      go_ret
      exact ⟨rfl, HG.out⟩
end Go.Proofs.Ytfbkifkfhgkdbab.Sb
