/-
  What spoil of layer 15 turns: the lists that it is handed, and nothing else. Condition: the lists have no more than 1048576 elements.
-/
import Derived.Test.YtnpbehcfbceclaaPoBase
namespace Go.Proofs.Ytnpbehcfbceclaa.Lt
open Go.RowKit Wd
attribute [local go_sem ↓] Go.wp_at_zero Go.wp_at_succ
set_option maxRecDepth 20000

/-- a struct read whole, under a condition -/
theorem rowG {ops : Array Oper} {rest : List Oper} {o : Oper} {a : Act} {w : World} {Q : Exit → Act → World → Prop} (hgd : Region.wanted o (yielded ops a.tmps) = true) (ty : TypeId) (x : Operand) (ho : o.op = .load ty x)
    (g : Nat) (hx : a.eval x = .pointer (some ⟨g, 0, none⟩)) (t : TypeId) (cs : Array Value) (fr : Nat × Nat) (d : TypeDesc) (hg : w.heap[g]? = some (.cells cs t fr))
    (hd : (match d with | .struct _ | .array _ _ => true | _ => false) = true) (hu : Try.prog.underlying ty = some d) (hi : (Try.prog.info? ty).map (·.size) = some cs.size)
    (h : wpList Try.prog ops Q rest (a.put o.dst (.agg cs)) w) : wpList Try.prog ops Q (o :: rest) a w :=
  wpList_step fun K hK => by
    rw [if_pos hgd]
    unfold Oper.wp
    rw [exec_row ty x ho g hx t cs fr d hg hu (by clear hg hi h hK; cases d <;> first | rfl | (simp at hd)) hi]
    exact hK _ _ h
theorem ls_at2 {α : Type} {enc : α → List Value} (w : World) (x : α) (T : TypeId) (c : Array Value) (b : Nat) (hb : b = w.heap.size) (hc : c.toList = enc x) : Ls enc (· = b) (w.alloc (.cells c T)) (.slice (some ⟨b, 0, none⟩) 1 1) [x] := by
  subst hb
  exact Ls.single w x T c hc
/-- a state that is being spoilt: its box, its lists, which blocks have turned since w -/
structure Spo (w W : World) (base : Nat) (B : Nat → Prop) (q : Bool) (cap lost : Int) (v1 v2 : Value) (xs : List Int) (ys : List Ag) : Prop where
  bx : W.heap[w.heap.size]? = some (.cells #[.bool q, .int .i64 cap, v1, v2, .int .i64 lost] 32 (0, 0))
  o1 : Ow eI 1 2 base W v1 xs
  o2 : Ow eG 2 59 base W v2 ys
  b1 : ∀ g, Blk v1 g → B g ∨ w.heap.size < g
  b2 : ∀ g, Blk v2 g → B g ∨ w.heap.size < g
  ch : Ch B w W
  bs : base ≤ w.heap.size
section
variable {w W W' : World} {base : Nat} {B : Nat → Prop} {q : Bool} {cap lost : Int} {v1 v2 v' : Value} {xs xs' : List Int} {ys ys' : List Ag}
theorem Spo.gr (h : Spo w W base B q cap lost v1 v2 xs ys) (g : Gr W W') : Spo w W' base B q cap lost v1 v2 xs ys :=
  ⟨gr_blk h.bx g, h.o1.gr g, h.o2.gr g, h.b1, h.b2, Ch.trans h.ch g (fun _ e => e.elim), h.bs⟩
theorem Spo.n1 (h : Spo w W base B q cap lost v1 v2 xs ys) : ¬ Blk v1 w.heap.size := fun e => by
  obtain ⟨c, hc⟩ := h.o1.ty e
  rw [h.bx] at hc
  injection hc with hc
  injection hc with _ hc
  exact absurd hc (by decide)
theorem Spo.n2 (h : Spo w W base B q cap lost v1 v2 xs ys) : ¬ Blk v2 w.heap.size := fun e => by
  obtain ⟨c, hc⟩ := h.o2.ty e
  rw [h.bx] at hc
  injection hc with hc
  injection hc with _ hc
  exact absurd hc (by decide)
theorem Spo.n12 (h : Spo w W base B q cap lost v1 v2 xs ys) {g : Nat} (e1 : Blk v1 g) : ¬ Blk v2 g := fun e2 => by
  obtain ⟨c, hc⟩ := h.o1.ty e1
  obtain ⟨d, hd⟩ := h.o2.ty e2
  rw [hc] at hd
  injection hd with hd
  injection hd with _ hd
  exact absurd hd (by decide)
theorem Spo.lt (h : Spo w W base B q cap lost v1 v2 xs ys) : w.heap.size < W.heap.size := lt_of_block h.bx
/-- a number of the first list is written -/
theorem Spo.set1 {a1 : Option Addr} {n1 c1 : Nat} (h : Spo w W base B q cap lost (.slice a1 n1 c1) v2 xs ys) {i : Nat} {x : Int} (hx : xs[i]? = some x) : ∃ g, a1 = some ⟨g, 0, none⟩ ∧ n1 ≤ c1 ∧ W.cell? ⟨g, i, none⟩ = some (.int .i64 x) ∧ W.frozen? ⟨g, i, none⟩ = false ∧ g < W.heap.size ∧
    ∀ c, Spo w (W.setCell ⟨g, i, none⟩ (.int .i64 c)) base B q cap lost (.slice a1 n1 c1) v2 (xs.set i c) ys := by
  obtain ⟨g, cp, hv, h1, h2, h3, h4, h5, h6⟩ := h.o1.get eI_len hx
  have hv' := hv
  injection hv with e1 e2 e3
  have hbk : Blk (.slice a1 n1 c1) g := by rw [hv']; rfl
  have c0 := h4 0 _ rfl
  rw [Nat.mul_one, Nat.add_zero] at c0
  refine ⟨g, e1, by omega, c0, h5 _, h2, fun c => ?_⟩
  have hs := h6 0 (.int .i64 c) c (by omega) rfl
  rw [Nat.mul_one, Nat.add_zero] at hs
  have hc : Ch (Only g) W (W.setCell ⟨g, i, none⟩ (.int .i64 c)) := (Ch.refl _ W).own i _
  refine ⟨ch_blk h.bx hc (fun e => h.n1 (by have e9 : w.heap.size = g := e; rw [e9]; exact hbk)), hs, h.o2.ch hc (fun k e e' => h.n12 (by have e9 : k = g := e'; rw [e9]; exact hbk) e), h.b1, h.b2, Ch.trans h.ch hc (fun k e => by have e9 : k = g := e; rw [e9]; exact (h.b1 g hbk).imp id (fun z => by omega)), h.bs⟩
/-- a value of the second list is written -/
theorem Spo.set2 {a2 : Option Addr} {n2 c2 : Nat} (h : Spo w W base B q cap lost v1 (.slice a2 n2 c2) xs ys) {i : Nat} {y : Ag} (hy : ys[i]? = some y) : ∃ g, a2 = some ⟨g, 0, none⟩ ∧ n2 ≤ c2 ∧ W.cell? ⟨g, i * 2, none⟩ = some (.int .i64 y.v) ∧ W.frozen? ⟨g, i * 2, none⟩ = false ∧ g < W.heap.size ∧
    ∀ c, Spo w (W.setCell ⟨g, i * 2, none⟩ (.int .i64 c)) base B q cap lost v1 (.slice a2 n2 c2) xs (ys.set i ⟨c, y.a⟩) := by
  obtain ⟨g, cp, hv, h1, h2, h3, h4, h5, h6⟩ := h.o2.get eG_len hy
  have hv' := hv
  injection hv with e1 e2 e3
  have hbk : Blk (.slice a2 n2 c2) g := by rw [hv']; rfl
  have c0 := h4 0 _ rfl
  rw [Nat.add_zero] at c0
  refine ⟨g, e1, by omega, c0, h5 _, h2, fun c => ?_⟩
  have hs := h6 0 (.int .i64 c) ⟨c, y.a⟩ (by omega) rfl
  rw [Nat.add_zero] at hs
  have hc : Ch (Only g) W (W.setCell ⟨g, i * 2, none⟩ (.int .i64 c)) := (Ch.refl _ W).own (i * 2) _
  refine ⟨ch_blk h.bx hc (fun e => h.n2 (by have e9 : w.heap.size = g := e; rw [e9]; exact hbk)), h.o1.ch hc (fun k e e' => h.n12 e (by have e9 : k = g := e'; rw [e9]; exact hbk)), hs, h.b1, h.b2, Ch.trans h.ch hc (fun k e => by have e9 : k = g := e; rw [e9]; exact (h.b2 g hbk).imp id (fun z => by omega)), h.bs⟩
/-- the first list is appended to -/
theorem Spo.app1 (h : Spo w W base B q cap lost v1 v2 xs ys) (o : Ow eI 1 2 base W' v' xs') (c : Ch (Blk v1) W W') (bl : ∀ g, Blk v' g → Blk v1 g ∨ W.heap.size ≤ g) : Spo w (W'.setCell ⟨w.heap.size, 2, none⟩ v') base B q cap lost v' v2 xs' ys := by
  have hlt := h.lt
  have hn : ∀ g, Blk v' g → g ≠ w.heap.size := fun g e e9 => (bl g e).elim (fun z => h.n1 (by rw [← e9]; exact z)) (fun z => by omega)
  have hb := ch_blk h.bx c h.n1
  have ho : Ch (Only w.heap.size) W' (W'.setCell ⟨w.heap.size, 2, none⟩ v') := (Ch.refl _ W').own 2 _
  refine ⟨setCell_block hb 2 _, o.ch ho (fun g e e9 => hn g e e9), (h.o2.ch c (fun g e e' => h.n12 e' e)).ch ho (fun g e e9 => h.n2 (by have e8 : g = w.heap.size := e9; rw [← e8]; exact e)), fun g e => (bl g e).elim (h.b1 g) (fun z => .inr (by omega)), h.b2, Ch.trans (Ch.trans h.ch c (fun g e => (h.b1 g e).imp id (fun z => by omega))) ho (fun g e => .inr (by have e8 : g = w.heap.size := e; omega)), h.bs⟩
/-- the second list is appended to -/
theorem Spo.app2 (h : Spo w W base B q cap lost v1 v2 xs ys) (o : Ow eG 2 59 base W' v' ys') (c : Ch (Blk v2) W W') (bl : ∀ g, Blk v' g → Blk v2 g ∨ W.heap.size ≤ g) : Spo w (W'.setCell ⟨w.heap.size, 3, none⟩ v') base B q cap lost v1 v' xs ys' := by
  have hlt := h.lt
  have hn : ∀ g, Blk v' g → g ≠ w.heap.size := fun g e e9 => (bl g e).elim (fun z => h.n2 (by rw [← e9]; exact z)) (fun z => by omega)
  have hb := ch_blk h.bx c h.n2
  have ho : Ch (Only w.heap.size) W' (W'.setCell ⟨w.heap.size, 3, none⟩ v') := (Ch.refl _ W').own 3 _
  refine ⟨setCell_block hb 3 _, (h.o1.ch c (fun g e e' => h.n12 e e')).ch ho (fun g e e9 => h.n1 (by have e8 : g = w.heap.size := e9; rw [← e8]; exact e)), o.ch ho (fun g e e9 => hn g e e9), h.b1, fun g e => (bl g e).elim (h.b2 g) (fun z => .inr (by omega)), Ch.trans (Ch.trans h.ch c (fun g e => (h.b2 g e).imp id (fun z => by omega))) ho (fun g e => .inr (by have e8 : g = w.heap.size := e; omega)), h.bs⟩
/-- the box's cells -/
theorem Spo.cells (h : Spo w W base B q cap lost v1 v2 xs ys) : W.cell? ⟨w.heap.size, 2, none⟩ = some v1 ∧ W.cell? ⟨w.heap.size, 3, none⟩ = some v2 ∧ w.heap.size < W.heap.size ∧ W.frozen? ⟨w.heap.size, 2, none⟩ = false ∧ W.frozen? ⟨w.heap.size, 3, none⟩ = false :=
  ⟨cell_of h.bx 2, cell_of h.bx 3, lt_of_block h.bx, frozen_of h.bx 2, frozen_of h.bx 3⟩
end
set_option maxHeartbeats 8000000 in
theorem spoil_any (w : World) (base : Nat) (q : Bool) (cap lost : Int) (a1 : Option Addr) (n1 c1 : Nat) (a2 : Option Addr) (n2 c2 : Nat) (xs : List Int) (ys : List Ag) (h1 : Ow eI 1 2 base w (.slice a1 n1 c1) xs) (h2 : Ow eG 2 59 base w (.slice a2 n2 c2) ys) (hb : base ≤ w.heap.size) (hn1 : n1 ≤ 1048576) (hn2 : n2 ≤ 1048576) :
    Calls Try.prog 22 #[.agg #[.bool q, .int .i64 cap, .slice a1 n1 c1, .slice a2 n2 c2, .int .i64 lost]] w fun e w' => e = .returned (.tuple #[]) ∧ Ch (fun g => Blk (.slice a1 n1 c1) g ∨ Blk (.slice a2 n2 c2) g) w w' := by
  obtain ⟨A, hA⟩ : ∃ A, A = w.alloc (.cells #[.bool q, .int .i64 cap, .slice a1 n1 c1, .slice a2 n2 c2, .int .i64 lost] 32) := ⟨_, rfl⟩
  obtain ⟨B, hB⟩ : ∃ B : Nat → Prop, B = fun g => Blk (.slice a1 n1 c1) g ∨ Blk (.slice a2 n2 c2) g := ⟨_, rfl⟩
  have S0 := hid (show Spo w A base B q cap lost (.slice a1 n1 c1) (.slice a2 n2 c2) xs ys by
    rw [hA, hB]
    exact ⟨al_at _ rfl, h1.alloc _, h2.alloc _, fun g e => .inl (.inl e), fun g e => .inl (.inr e), Ch.alloc (Ch.refl _ _) _, hb⟩)
  have L1 := hid (show xs.length = n1 from (h1.len.1).symm)
  have L2 := hid (show ys.length = n2 from (h2.len.1).symm)
  rw [← hB]
  clear h1 h2 hB hb
  go_enter Try.func22, Try.ntmps22
  go_wp2_with fail
  rw [← hA]
  clear hA
  go_loopg [2] n1 (fun k i wr => ∃ (j : Nat) (zs : List Int), j + k = n1 ∧ i = .int .i64 (j : Int) ∧ zs.length = n1 ∧ Spo w wr base B q cap lost (.slice a1 n1 c1) (.slice a2 n2 c2) zs ys)
  case atStart => exact ⟨0, xs, by omega, rfl, L1.out, S0.out⟩
  case round =>
    obtain ⟨j, zs, hjk, rfl, hzl, hs⟩ := hrel
    have HS := hid hs
    have HZ := hid hzl
    obtain ⟨k2, k3, kl, k4, k5⟩ := hs.cells
    by_cases hj : j < n1
    · have hj' : (j : Int) < (n1 : Int) := by omega
      have hj0 : (0 : Int) ≤ (j : Int) := by omega
      have hjm : (j : Int) < 1048576 := by omega
      have hjx : zs[j]? = some (zs[j]'(by rw [HZ.out]; exact hj)) := List.getElem?_eq_getElem _
      generalize zs[j]'(by rw [HZ.out]; exact hj) = x at hjx
      obtain ⟨g, rfl, hcp, e0, ef, eg, es⟩ := hs.set1 hjx
      have ES := hid (es (-77))
      clear hs hzl hjx es
      go_wp2
      go_roundg (n1 - (j + 1))
      case measure => omega
      case rel =>
        refine ⟨j + 1, _, by omega, ?_, by rw [List.length_set]; exact HZ.out, ES.out⟩
        first | with_reducible rfl | simp
    · have hj' : ¬ ((j : Int) < (n1 : Int)) := by omega
      clear hs hzl
      go_wp2_with fail
      go_loopg [3] n2 (fun k i wr => ∃ (j : Nat) (us : List Ag), j + k = n2 ∧ i = .int .i64 (j : Int) ∧ us.length = n2 ∧ Spo w wr base B q cap lost (.slice a1 n1 c1) (.slice a2 n2 c2) zs us)
      case atStart => exact ⟨0, ys, by omega, rfl, L2.out, HS.out⟩
      case round =>
        obtain ⟨i2, us, hik, rfl, hul, hs⟩ := hrel
        have HS2 := hid hs
        have HU := hid hul
        clear k2 k3 kl k4 k5
        obtain ⟨k2, k3, kl, k4, k5⟩ := hs.cells
        by_cases hi : i2 < n2
        · have hi' : (i2 : Int) < (n2 : Int) := by omega
          have hi0 : (0 : Int) ≤ (i2 : Int) := by omega
          have him : (i2 : Int) < 1048576 := by omega
          have hix : us[i2]? = some (us[i2]'(by rw [HU.out]; exact hi)) := List.getElem?_eq_getElem _
          generalize us[i2]'(by rw [HU.out]; exact hi) = y at hix
          obtain ⟨g, rfl, hcp, e0, ef, eg, es⟩ := hs.set2 hix
          have ES := hid (es (-77))
          clear hs hul hix es
          go_wp2
          go_roundg (n2 - (i2 + 1))
          case measure => omega
          case rel =>
            refine ⟨i2 + 1, _, by omega, ?_, by rw [List.length_set]; exact HU.out, ES.out⟩
            first | with_reducible rfl | simp
        · have hi' : ¬ ((i2 : Int) < (n2 : Int)) := by omega
          clear hs hul
          go_wp2_with fail
          clear k2 k3 kl k4 k5
          go_loopg [4] 8 (fun k i wr => ∃ (j : Nat) (d1 : Option Addr) (e1 : Nat) (d2 : Option Addr) (e2 : Nat) (zs : List Int) (us : List Ag), j + k = 8 ∧ i = .int .i64 (j : Int) ∧ zs.length = n1 + j ∧ us.length = n2 + j ∧ Spo w wr base B q cap lost (.slice d1 (n1 + j) e1) (.slice d2 (n2 + j) e2) zs us)
          case atStart => exact ⟨0, a1, c1, a2, c2, zs, us, by omega, rfl, HZ.out, HU.out, HS2.out⟩
          case round =>
            clear HZ HU HS2 HS hjk hik
            obtain ⟨j3, d1, e1, d2, e2, zs3, us3, hjk3, rfl, hz3, hu3, hs⟩ := hrel
            have HS3 := hid hs
            have HZ3 := hid hz3
            have HU3 := hid hu3
            by_cases hj3 : j3 < 8
            · have hj3' : (j3 : Int) < 8 := by omega
              have hj30 : (0 : Int) ≤ (j3 : Int) := by omega
              obtain ⟨k2, k3, kl, k4, k5⟩ := hs.cells
              obtain ⟨W1, hW1⟩ : ∃ W1, W1 = wr.alloc (.cells #[.int .i64 (-78)] 2) := ⟨_, rfl⟩
              have SA := hid (show Spo w W1 base B q cap lost (.slice d1 (n1 + j3) e1) (.slice d2 (n2 + j3) e2) zs3 us3 by rw [hW1]; exact hs.gr (Ch.alloc (Gr.refl _) _))
              have LS := hid (show Ls eI (· = wr.heap.size) W1 (.slice (some ⟨wr.heap.size, 0, none⟩) 1 1) [-78] by rw [hW1]; exact Ls.single wr (-78) 2 #[.int .i64 (-78)] rfl)
              have SZ := hid (show base ≤ W1.heap.size by have := SA.out.lt; have := SA.out.bs; omega)
              clear hs hz3 hu3
              go_wp2_with (first
                | (rw [← hW1])
                | (at_builtin; refine wpList_append_ow eI_len rfl (.tmp 33) (.tmp 34) _ 2 8 _ Try.underlying29 i64_info rfl (by omega) rfl base _ zs3 rfl SA.out.o1 _ _ [-78] rfl LS.out (eI_one _) (n1 + (j3 + 1)) (by rw [HZ3.out]; rfl) (by omega) (by unfold maxLen; omega) SZ.out (zs3 ++ [-78]) rfl ?_; intro d3 e3 w5 ow5 cw5 bl5; have S5 := hid (SA.out.app1 ow5 cw5 bl5); have X5 := hid (ch_blk SA.out.bx cw5 SA.out.n1); have x2 := cell_of X5.out 2; have x3 := cell_of X5.out 3; have xl := lt_of_block X5.out; have x4 := frozen_of X5.out 2; simp at x2 x3; have S5A := hid (S5.out.gr (Ch.alloc (Gr.refl _) (.cells #[.int .i64 (-78), .int .i64 0] 59))); have Z5 := hid (show base ≤ w5.heap.size by have := xl; have := SA.out.bs; omega); clear ow5 cw5 bl5 k2 k3 kl k4 k5)
                | (at_builtin; refine wpList_append_ow eG_len rfl (.tmp 38) (.tmp 40) _ 59 16 _ Try.underlying30 agd_info rfl (by omega) rfl base _ us3 rfl S5A.out.o2 _ _ [⟨-78, 0⟩] rfl (ls_at2 _ (⟨-78, 0⟩ : Ag) 59 #[.int .i64 (-78), .int .i64 0] _ (by simp) rfl) (eG_one _) (n2 + (j3 + 1)) (by rw [HU3.out]; rfl) (by omega) (by unfold maxLen; omega) (by simp; have := Z5.out; omega) (us3 ++ [⟨-78, 0⟩]) rfl ?_; intro d4 e4 w6 ow6 cw6 bl6; have S6 := hid (S5A.out.app2 ow6 cw6 bl6); have X6 := hid (ch_blk S5A.out.bx cw6 S5A.out.n2); have y3 := cell_of X6.out 3; have yl := lt_of_block X6.out; have y4 := frozen_of X6.out 3; simp at y3; clear ow6 cw6 bl6 x2 x3 xl x4))
              go_roundg (8 - (j3 + 1))
              case measure => omega
              case rel =>
                refine ⟨j3 + 1, d3, e3, d4, e4, _, _, by omega, ?_, ?_, ?_, S6.out⟩
                · first | with_reducible rfl | simp
                · rw [List.length_append, HZ3.out]; rfl
                · rw [List.length_append, HU3.out]; rfl
            · have hj3' : ¬ ((j3 : Int) < 8) := by omega
              clear hs hz3 hu3
              go_wp2
              go_end0
              exact ⟨rfl, HS3.out.ch⟩
end Go.Proofs.Ytnpbehcfbceclaa.Lt
