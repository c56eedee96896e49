/-
  The statement's walk: RingNobody answers true at any Waiting. No conditions.
-/
import Derived.Test.YtfodjkdioddbjabRgOps2
namespace Go.Proofs.Ytfodjkdioddbjab.Rg
open Go.RowKit
attribute [local go_sem ↓] Go.wp_at_zero Go.wp_at_succ

theorem field_places (v0 v1 v2 v3 v4 : Value) (w : World) : Sem.run Try.prog (Instr.field 29 (.agg #[v0, v1, v2, v3, v4]) 0) w = .ok v0 w := by kernel_rfl
theorem field_has (v0 v1 v2 v3 v4 : Value) (w : World) : Sem.run Try.prog (Instr.field 29 (.agg #[v0, v1, v2, v3, v4]) 1) w = .ok v1 w := by kernel_rfl

theorem nobody_any (x : W3) (w : World) :
    Calls Try.prog 4 #[.agg #[.int .i64 x.s, .int .i64 x.g, .int .u64 x.t]] w fun e w' => e = .returned (.bool true) ∧ Ch NoB w w' := by
  obtain ⟨k, hk⟩ : ∃ k, k = w.heap.size := ⟨_, rfl⟩
  have hz := zring_run
  have hf0 := field_places
  have hf1 := field_has
  go_enter Try.func4, Try.ntmps4
  go_wp2_with fail
  refine (put_nil x _).mono ?_
  rintro e w1 ⟨rfl, g1⟩
  have G1 := hid (((Ch.refl NoB w).alloc _).trans' g1)
  have B1 := hid ((Box.new w x).ch g1 (fun x => x))
  obtain ⟨x0, x1, x2, x3⟩ := B1.out
  clear g1
  go_wp2_with fail
  refine (ready_nil x _).mono ?_
  rintro e w2 ⟨rfl, g2⟩
  have G2 := hid (G1.out.trans' g2)
  have B2 := hid (B1.out.ch g2 (fun x => x))
  clear g2 x0 x1 x2 x3 G1 B1
  go_wp2_with fail
  refine (take_nil _).mono ?_
  rintro e w3 ⟨rfl, g3⟩
  have G3 := hid (G2.out.trans' g3)
  have B3 := hid (B2.out.ch g3 (fun x => x))
  clear g3 G2 B2
  go_wp2_with fail
  refine (new_any _).mono ?_
  rintro e w4 ⟨rfl, r4, g4, s4⟩
  have G4 := hid ((G3.out.alloc _).trans' g4)
  have B4 := hid ((B3.out.ch ((Ch.refl NoB _).alloc _) (fun x => x)).ch g4 (fun x => x))
  clear g4 G3 B3 r4 s4
  go_wp2_with fail
  refine (steal_nil _ _).mono ?_
  rintro e w5 ⟨rfl, g5⟩
  have G5 := hid (G4.out.trans' g5)
  have B5 := hid (B4.out.ch g5 (fun x => x))
  clear g5 G4 B4
  go_wp2_with fail
  refine (new_any _).mono ?_
  rintro e w6 ⟨rfl, r6, g6, s6⟩
  have G6 := hid ((G5.out.alloc _).trans' g6)
  have B6 := hid ((B5.out.ch ((Ch.refl NoB _).alloc _) (fun x => x)).ch g6 (fun x => x))
  clear g6 G5 B5 r6 s6
  go_wp2_with fail
  refine (steal_to_nil _ _).mono ?_
  rintro e w7 ⟨rfl, g7⟩
  have G7 := hid (G6.out.trans' g7)
  have B7 := hid (B6.out.ch g7 (fun x => x))
  clear g7 G6 B6
  go_wp2_with fail
  refine (len_nil _).mono ?_
  rintro e w8 ⟨rfl, g8⟩
  have G8 := hid ((G7.out.alloc _).trans' g8)
  have B8 := hid ((B7.out.ch ((Ch.refl NoB _).alloc _) (fun x => x)).ch g8 (fun x => x))
  clear g8 G7 B7
  go_wp2_with fail
  refine (kick_nil _).mono ?_
  rintro e w9 ⟨rfl, g9⟩
  have G9 := hid (G8.out.trans' g9)
  have B9 := hid (B8.out.ch g9 (fun x => x))
  clear g9 G8 B8
  go_wp2_with fail
  refine (drain_nil _).mono ?_
  rintro e w10 ⟨rfl, g10⟩
  have G10 := hid (G9.out.trans' g10)
  have B10 := hid (B9.out.ch g10 (fun x => x))
  clear g10 G9 B9
  go_wp2_with fail
  refine (state_nil _).mono ?_
  rintro e w11 ⟨rfl, g11⟩
  have G11 := hid (G10.out.trans' g11)
  have B11 := hid (B10.out.ch g11 (fun x => x))
  clear g11 G10 B10
  go_wp2_with fail
  refine (state_nil _).mono ?_
  rintro e w12 ⟨rfl, g12⟩
  have G12 := hid (G11.out.trans' g12)
  have B12 := hid (B11.out.ch g12 (fun x => x))
  obtain ⟨x0, x1, x2, x3⟩ := B12.out
  clear g12 G11 B11
  go_wp2_with fail
  have R12 : RingAt (w12.alloc (.cells zring 53)) w12.heap.size [] none := ⟨zring, 0, (MapKept.heap_alloc w12 _).1, zring_cells⟩
  have G12' := hid (G12.out.alloc (.cells zring 53))
  have B12' := hid (B12.out.ch ((Ch.refl NoB _).alloc (.cells zring 53)) (fun x => x))
  refine (put_any w12.heap.size x [] none _ R12).mono ?_
  rintro e w13 ⟨v, rfl, l13, r13, g13⟩
  have e1 : putE [] none x = 0 := rfl
  have e2 : putP [] none x = [x] := rfl
  rw [e2] at r13
  rw [e1]
  have G13 := hid (G12'.out.trans g13 (fun y hy => .inr (by have : y = w12.heap.size := hy; have := G12.out.size; omega)))
  have B13 := hid (B12'.out.ch g13 (fun e => by have : w.heap.size = w12.heap.size := e; omega))
  have R13 := hid r13
  clear R12 g13 l13 r13 e1 e2 x0 x1 x2 B12'
  go_wp2_with fail
  refine (take_any w12.heap.size [x] none _ R13.out).mono ?_
  have e3 : tkX [x] none = x := rfl
  have e4 : tkE [x] none = 0 := rfl
  rw [e3, e4]
  rintro e w14 ⟨rfl, r14, g14⟩
  have G14 := hid (G13.out.trans g14 (fun y hy => .inr (by have : y = w12.heap.size := hy; have := G12.out.size; omega)))
  have B14 := hid (B13.out.ch g14 (fun e => by have : w.heap.size = w12.heap.size := e; omega))
  clear r14 g14 e3 e4 G13 B13 R13
  go_wp2_with fail
  refine (steal_same _ _).mono ?_
  rintro e w15 ⟨rfl, g15⟩
  have G15 := hid ((G14.out.alloc _).trans' g15)
  have B15 := hid ((B14.out.ch ((Ch.refl NoB _).alloc _) (fun x => x)).ch g15 (fun x => x))
  have B15' := hid ((Box.new w14 x).ch g15 (fun x => x))
  obtain ⟨x0, x1, x2, x3⟩ := B15.out
  obtain ⟨y0, y1, y2, y3⟩ := B15'.out
  clear g15 G14 B14 B15 B15'
  go_wp2
  go_ret
  exact ⟨rfl, G15.out.alloc _⟩
end Go.Proofs.Ytfodjkdioddbjab.Rg
