/-
  TableOwners, walked: both sides tell the same of any table, tick and P. Condition: the numbers are of their types.
-/
import Derived.Test.YtbghagpjkkmhpaaTbAwake
import Derived.Test.YtbghagpjkkmhpaaTbRLft
import Derived.Test.YtbghagpjkkmhpaaTbREnd
namespace Go.Proofs.Ytbghagpjkkmhpaa.Lt
open Go.RowKit Wd
attribute [local go_sem ↓] Go.wp_at_zero Go.wp_at_succ
set_option maxRecDepth 20000

theorem box3 {w w1 : World} {T : TypeId} {a b c : Value} (g : Gr (w.alloc (.cells #[a, b, c] T)) w1) :
    w1.cell? ⟨w.heap.size, 0, none⟩ = some a ∧ w1.cell? ⟨w.heap.size, 1, none⟩ = some b ∧ w1.cell? ⟨w.heap.size, 2, none⟩ = some c ∧ w.heap.size < w1.heap.size ∧ Gr w w1 := by
  have h := gr_blk (al_at (w := w) (.cells #[a, b, c] T) rfl) g
  exact ⟨cell_of h 0, cell_of h 1, cell_of h 2, lt_of_block h, Gr.trans (Ch.alloc (Gr.refl w) _) g⟩
/-- a table's box and, behind it, a tick's: whatever was made since -/
theorem boxTX {w w1 : World} {T T2 : TypeId} {a b x y z : Value} (g : Gr ((w.alloc (.cells #[a, b] T)).alloc (.cells #[x, y, z] T2)) w1) :
    (w1.cell? ⟨w.heap.size, 0, none⟩ = some a ∧ w1.cell? ⟨w.heap.size, 1, none⟩ = some b ∧ w.heap.size < w1.heap.size) ∧ (w1.cell? ⟨w.heap.size + 1, 0, none⟩ = some x ∧ w1.cell? ⟨w.heap.size + 1, 1, none⟩ = some y ∧ w1.cell? ⟨w.heap.size + 1, 2, none⟩ = some z ∧ w.heap.size + 1 < w1.heap.size) ∧ Gr w w1 := by
  obtain ⟨x0, x1, x2, xb, gx⟩ := box3 g
  obtain ⟨t0, t1, tb, gt⟩ := box2 gx
  have e : (w.alloc (.cells #[a, b] T)).heap.size = w.heap.size + 1 := by simp
  rw [e] at x0 x1 x2 xb
  exact ⟨⟨t0, t1, tb⟩, ⟨x0, x1, x2, xb⟩, gt⟩
set_option maxHeartbeats 8000000 in
theorem owners_walk (w : World) (F : Int) (a : Option Addr) (n c : Nat) (L : List (List Sl)) (t p k : Int) (h : Rw w (.slice a n c) L) (hx : Rgs L) (hF : Tk.U F) (ht : Tk.U t) (_hp : -9223372036854775808 ≤ p ∧ p ≤ 9223372036854775807) (_hk : -9223372036854775808 ≤ k ∧ k ≤ 9223372036854775807) :
    Calls Try.prog 4 #[.agg #[.int .u64 F, .slice a n c], .agg #[.int .u64 t, .int .i64 p, .int .i64 k]] w fun e w' => e = .returned (.bool true) ∧ Gr w w' := by
  have H1 := hide (fun W (g : Gr w W) => owner_any W a n c L (h.gr g) hx F t p hF ht)
  have H2 := hide (fun W (g : Gr w W) => rowner_any W a n c L (h.gr g) hx F t p hF ht)
  have H3 := hide (fun W (g : Gr w W) => left_any W a n c L (h.gr g) hx F t p hF ht)
  have H4 := hide (fun W (g : Gr w W) => rleft_any W a n c L (h.gr g) hx F t p hF ht)
  have H5 := hide (fun W (g : Gr w W) => ends_any W a n c L (h.gr g) hx F t p hF ht)
  have H6 := hide (fun W (g : Gr w W) => rends_any W a n c L (h.gr g) hx F t p hF ht)
  generalize ownD F L t p = D at *
  generalize ownE F L p = E at *
  generalize lftN F L t p = N at *
  generalize endB F L t p = B at *
  obtain ⟨W0, hW0⟩ : ∃ W, W = (w.alloc (.cells #[.int .u64 F, .slice a n c] 25)).alloc (.cells #[.int .u64 t, .int .i64 p, .int .i64 k] 32) := ⟨_, rfl⟩
  have HB := hide (show ∀ W, Gr W0 W → _ from fun W g => boxTX (by rw [hW0] at g; exact g))
  have G0 := hide (show Gr W0 W0 from Gr.refl _)
  clear h hx hF ht
  go_enter Try.func4, Try.ntmps4
  go_wp2_with fail
  rw [← hW0]
  clear hW0
  refine (H1.out _ (HB.out _ G0.out).2.2).mono ?_
  rintro e w1 ⟨rfl, g1⟩
  have G1 := hide (Gr.trans G0.out g1)
  obtain ⟨⟨t0, t1, tb⟩, ⟨x0, x1, x2, xb⟩, gw⟩ := HB.out _ G1.out
  clear g1 x2
  go_wp2_with fail
  refine (H2.out _ gw).mono ?_
  rintro e w2 ⟨rfl, g2⟩
  have G2 := hide (Gr.trans G1.out g2)
  clear t0 t1 tb x0 x1 xb gw
  obtain ⟨⟨t0, t1, tb⟩, ⟨x0, x1, x2, xb⟩, gw⟩ := HB.out _ G2.out
  clear g2 x2
  go_wp2_with fail
  refine (H3.out _ gw).mono ?_
  rintro e w3 ⟨rfl, g3⟩
  have G3 := hide (Gr.trans G2.out g3)
  clear t0 t1 tb x0 x1 xb gw
  obtain ⟨⟨t0, t1, tb⟩, ⟨x0, x1, x2, xb⟩, gw⟩ := HB.out _ G3.out
  clear g3 x2
  go_wp2_with fail
  refine (H4.out _ gw).mono ?_
  rintro e w4 ⟨rfl, g4⟩
  have G4 := hide (Gr.trans G3.out g4)
  clear t0 t1 tb x0 x1 xb gw
  obtain ⟨⟨t0, t1, tb⟩, ⟨x0, x1, x2, xb⟩, gw⟩ := HB.out _ G4.out
  clear g4 x2
  go_wp2_with fail
  refine (H5.out _ gw).mono ?_
  rintro e w5 ⟨rfl, g5⟩
  have G5 := hide (Gr.trans G4.out g5)
  clear t0 t1 tb x0 x1 xb gw
  obtain ⟨⟨t0, t1, tb⟩, ⟨x0, x1, x2, xb⟩, gw⟩ := HB.out _ G5.out
  clear g5 x2
  go_wp2_with fail
  refine (H6.out _ gw).mono ?_
  rintro e w6 ⟨rfl, g6⟩
  have G6 := hide (Gr.trans G5.out g6)
  clear t0 t1 tb x0 x1 xb gw g6
  go_wp2_with fail
  refine (awake_any _).mono ?_
  rintro e w7 ⟨rfl, g7⟩
  have G7 := hide (HB.out _ (Gr.trans G6.out g7)).2.2
  clear g7
  go_wp2
  go_ret
  exact ⟨rfl, G7.out⟩
end Go.Proofs.Ytbghagpjkkmhpaa.Lt
