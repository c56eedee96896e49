/-
  What CellsNobody of the statements answers: true, of any call. No conditions.
-/
import Derived.Test.YtpmhmikefkgbdabClNo
namespace Go.Proofs.Ytpmhmikefkgbdab.Lt
open Go.RowKit Wd
attribute [local go_sem ↓] Go.wp_at_zero Go.wp_at_succ

theorem cells4 {w : World} {b : Nat} {o : O4} (h : w.heap[b]? = some (.cells #[.int .i64 o.k, .int .i64 o.c, .int .i64 o.o, .int .i64 o.v] 35 (0, 0))) : w.cell? ⟨b, 1, none⟩ = some (.int .i64 o.c) ∧ w.cell? ⟨b, 2, none⟩ = some (.int .i64 o.o) ∧ w.cell? ⟨b, 3, none⟩ = some (.int .i64 o.v) ∧ b < w.heap.size :=
  ⟨(cell_of h 1).trans rfl, (cell_of h 2).trans rfl, (cell_of h 3).trans rfl, lt_of_block h⟩
set_option maxHeartbeats 4000000 in
set_option maxRecDepth 20000 in
theorem nobody_law (o : O4) (w : World) : Calls Try.prog 4 #[.agg #[.int .i64 o.k, .int .i64 o.c, .int .i64 o.o, .int .i64 o.v]] w fun e w' => e = .returned (.bool true) ∧ Gr w w' := by
  have HLD := hid (fun (W : World) (p : Option Addr) (h : NoC W p) => load_no W p h o.c)
  have HST := hid (fun (W : World) (p : Option Addr) (h : NoC W p) => store_no W p h o.c o.v)
  have HSW := hid (fun (W : World) (p : Option Addr) (h : NoC W p) => swap_no W p h o.c o.o o.v)
  have HAD := hid (fun (W : World) (p : Option Addr) (h : NoC W p) => add_no W p h o.c o.v)
  have HLN := hid (fun (W : World) (p : Option Addr) (h : NoC W p) => len_no W p h)
  have HVN := hid (fun (W : World) (p : Option Addr) (h : NoC W p) => values_no W p h)
  go_enter Try.func4, Try.ntmps4
  go_wp2_with fail
  go_loopg [4] 2 (fun q i wr => ∃ j : Nat, j + q = 2 ∧ i = .int .i64 (j : Int) ∧ wr.heap[w.heap.size]? = some (.cells #[.int .i64 o.k, .int .i64 o.c, .int .i64 o.o, .int .i64 o.v] 35 (0, 0)) ∧ Gr w wr)
  case atStart => exact ⟨0, by omega, rfl, al_at _ rfl, Ch.alloc (Gr.refl w) _⟩
  case round =>
    obtain ⟨j, hjk, rfl, hb, hg⟩ := hrel
    have bb := cells4 hb
    have bba := bb.1
    have bbl := bb.2.2.2
    have B9 := hid hb
    have G9 := hid hg
    clear bb hb hg
    rcases (by omega : j = 0 ∨ j = 1 ∨ j = 2) with rfl | rfl | rfl
    · have N0 := hid (show NoC wr none from .inl rfl)
      have B0 := B9
      have G0 := G9
      go_wp2_with (first
        | (go_at_call 10; refine (HLD.out _ _ N0.out).mono ?_; rintro e w1 ⟨rfl, g1⟩; have N1 := hid ((N0.out.gr g1).gr ((Gr.refl w1).alloc #[.int .i64 0, .int .i64 0, .int .i64 0, .int .i64 0, .bool false] 28)); have B1 := hid (al_blk (gr_blk B0.out g1) (.cells #[.int .i64 0, .int .i64 0, .int .i64 0, .int .i64 0, .bool false] 28)); have G1 := hid (Gr.trans G0.out (Ch.alloc g1 (.cells #[.int .i64 0, .int .i64 0, .int .i64 0, .int .i64 0, .bool false] 28))); have bb1 := cells4 B1.out; have bb1a := bb1.1; have bb1b := bb1.2.1; have bb1c := bb1.2.2; have bl1 := bb1.2.2.2; clear bb1 g1)
        | (go_at_call 7; refine (HST.out _ _ N1.out).mono ?_; rintro e w2 ⟨rfl, g2⟩; have N2 := hid ((N1.out.gr g2).gr ((Gr.refl w2).alloc #[.int .i64 0, .int .i64 0, .int .i64 0, .int .i64 0, .bool false] 28)); have B2 := hid (al_blk (gr_blk B1.out g2) (.cells #[.int .i64 0, .int .i64 0, .int .i64 0, .int .i64 0, .bool false] 28)); have G2 := hid (Gr.trans G1.out (Ch.alloc g2 (.cells #[.int .i64 0, .int .i64 0, .int .i64 0, .int .i64 0, .bool false] 28))); have bb2 := cells4 B2.out; have bb2a := bb2.1; have bb2b := bb2.2.1; have bb2c := bb2.2.2; have bl2 := bb2.2.2.2; clear bb2 g2)
        | (go_at_call 8; refine (HSW.out _ _ N2.out).mono ?_; rintro e w3 ⟨rfl, g3⟩; have N3 := hid ((N2.out.gr g3).gr ((Gr.refl w3).alloc #[.int .i64 0, .int .i64 0, .int .i64 0, .int .i64 0, .bool false] 28)); have B3 := hid (al_blk (gr_blk B2.out g3) (.cells #[.int .i64 0, .int .i64 0, .int .i64 0, .int .i64 0, .bool false] 28)); have G3 := hid (Gr.trans G2.out (Ch.alloc g3 (.cells #[.int .i64 0, .int .i64 0, .int .i64 0, .int .i64 0, .bool false] 28))); have bb3 := cells4 B3.out; have bb3a := bb3.1; have bb3b := bb3.2.1; have bb3c := bb3.2.2; have bl3 := bb3.2.2.2; clear bb3 g3)
        | (go_at_call 11; refine (HAD.out _ _ N3.out).mono ?_; rintro e w4 ⟨rfl, g4⟩; have N4 := hid ((N3.out.gr g4).gr ((Gr.refl w4).alloc #[.int .i64 0, .int .i64 0, .int .i64 0, .int .i64 0, .bool false] 28)); have B4 := hid (al_blk (gr_blk B3.out g4) (.cells #[.int .i64 0, .int .i64 0, .int .i64 0, .int .i64 0, .bool false] 28)); have G4 := hid (Gr.trans G3.out (Ch.alloc g4 (.cells #[.int .i64 0, .int .i64 0, .int .i64 0, .int .i64 0, .bool false] 28))); have bb4 := cells4 B4.out; have bb4a := bb4.1; have bb4b := bb4.2.1; have bb4c := bb4.2.2; have bl4 := bb4.2.2.2; clear bb4 g4)
        | (go_at_call 12; refine (HLN.out _ _ N4.out).mono ?_; rintro e w5 ⟨rfl, g5⟩; have N5 := hid (N4.out.gr g5); have B5 := hid (gr_blk B4.out g5); have G5 := hid (Gr.trans G4.out g5); clear g5)
        | (go_at_call 13; refine (HVN.out _ _ N5.out).mono ?_; rintro e w6 ⟨ao6, cap6, rfl, g6⟩; have B6 := hid (gr_blk B5.out g6); have G6 := hid (Gr.trans G5.out g6); clear g6))
      go_roundg (gk - 1)
      case measure => omega
      case rel => exact ⟨1, by omega, rfl, B6.out, G6.out⟩
    · have N0 := hid (show NoC (wr.alloc (.cells #[.bool false, .slice none 0 0] 37)) (some ⟨wr.heap.size, 0, none⟩) from .inr ⟨_, rfl, al_at _ rfl⟩)
      have B0 := hid (al_blk B9.out (.cells #[.bool false, .slice none 0 0] 37))
      have G0 := hid (show Gr w (wr.alloc (.cells #[.bool false, .slice none 0 0] 37)) from Ch.alloc G9.out _)
      go_wp2_with (first
        | (go_at_call 10; refine (HLD.out _ _ N0.out).mono ?_; rintro e w1 ⟨rfl, g1⟩; have N1 := hid ((N0.out.gr g1).gr ((Gr.refl w1).alloc #[.int .i64 0, .int .i64 0, .int .i64 0, .int .i64 0, .bool false] 28)); have B1 := hid (al_blk (gr_blk B0.out g1) (.cells #[.int .i64 0, .int .i64 0, .int .i64 0, .int .i64 0, .bool false] 28)); have G1 := hid (Gr.trans G0.out (Ch.alloc g1 (.cells #[.int .i64 0, .int .i64 0, .int .i64 0, .int .i64 0, .bool false] 28))); have bb1 := cells4 B1.out; have bb1a := bb1.1; have bb1b := bb1.2.1; have bb1c := bb1.2.2; have bl1 := bb1.2.2.2; clear bb1 g1)
        | (go_at_call 7; refine (HST.out _ _ N1.out).mono ?_; rintro e w2 ⟨rfl, g2⟩; have N2 := hid ((N1.out.gr g2).gr ((Gr.refl w2).alloc #[.int .i64 0, .int .i64 0, .int .i64 0, .int .i64 0, .bool false] 28)); have B2 := hid (al_blk (gr_blk B1.out g2) (.cells #[.int .i64 0, .int .i64 0, .int .i64 0, .int .i64 0, .bool false] 28)); have G2 := hid (Gr.trans G1.out (Ch.alloc g2 (.cells #[.int .i64 0, .int .i64 0, .int .i64 0, .int .i64 0, .bool false] 28))); have bb2 := cells4 B2.out; have bb2a := bb2.1; have bb2b := bb2.2.1; have bb2c := bb2.2.2; have bl2 := bb2.2.2.2; clear bb2 g2)
        | (go_at_call 8; refine (HSW.out _ _ N2.out).mono ?_; rintro e w3 ⟨rfl, g3⟩; have N3 := hid ((N2.out.gr g3).gr ((Gr.refl w3).alloc #[.int .i64 0, .int .i64 0, .int .i64 0, .int .i64 0, .bool false] 28)); have B3 := hid (al_blk (gr_blk B2.out g3) (.cells #[.int .i64 0, .int .i64 0, .int .i64 0, .int .i64 0, .bool false] 28)); have G3 := hid (Gr.trans G2.out (Ch.alloc g3 (.cells #[.int .i64 0, .int .i64 0, .int .i64 0, .int .i64 0, .bool false] 28))); have bb3 := cells4 B3.out; have bb3a := bb3.1; have bb3b := bb3.2.1; have bb3c := bb3.2.2; have bl3 := bb3.2.2.2; clear bb3 g3)
        | (go_at_call 11; refine (HAD.out _ _ N3.out).mono ?_; rintro e w4 ⟨rfl, g4⟩; have N4 := hid ((N3.out.gr g4).gr ((Gr.refl w4).alloc #[.int .i64 0, .int .i64 0, .int .i64 0, .int .i64 0, .bool false] 28)); have B4 := hid (al_blk (gr_blk B3.out g4) (.cells #[.int .i64 0, .int .i64 0, .int .i64 0, .int .i64 0, .bool false] 28)); have G4 := hid (Gr.trans G3.out (Ch.alloc g4 (.cells #[.int .i64 0, .int .i64 0, .int .i64 0, .int .i64 0, .bool false] 28))); have bb4 := cells4 B4.out; have bb4a := bb4.1; have bb4b := bb4.2.1; have bb4c := bb4.2.2; have bl4 := bb4.2.2.2; clear bb4 g4)
        | (go_at_call 12; refine (HLN.out _ _ N4.out).mono ?_; rintro e w5 ⟨rfl, g5⟩; have N5 := hid (N4.out.gr g5); have B5 := hid (gr_blk B4.out g5); have G5 := hid (Gr.trans G4.out g5); clear g5)
        | (go_at_call 13; refine (HVN.out _ _ N5.out).mono ?_; rintro e w6 ⟨ao6, cap6, rfl, g6⟩; have B6 := hid (gr_blk B5.out g6); have G6 := hid (Gr.trans G5.out g6); clear g6))
      go_roundg (gk - 1)
      case measure => omega
      case rel => exact ⟨2, by omega, rfl, B6.out, G6.out⟩
    · go_wp2
      go_ret
      exact ⟨rfl, G9.out⟩
end Go.Proofs.Ytpmhmikefkgbdab.Lt
