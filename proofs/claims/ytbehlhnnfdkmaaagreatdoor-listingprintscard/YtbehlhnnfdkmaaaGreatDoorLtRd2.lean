/-
  What is left of a reader in memory where one of its lists grows, or its marks turn. No conditions.
-/
import Derived.Test.YtbehlhnnfdkmaaaGreatDoorLtRd
namespace Go.Proofs.YtbehlhnnfdkmaaaGreatDoor.Lt
open Go.RowKit Wd

/-- six cells of a block, which may be written -/
structure Six (w : World) (x : Nat) (a b c d e f : Value) : Prop where
  c0 : w.cell? ⟨x, 0, none⟩ = some a
  c1 : w.cell? ⟨x, 1, none⟩ = some b
  c2 : w.cell? ⟨x, 2, none⟩ = some c
  c3 : w.cell? ⟨x, 3, none⟩ = some d
  c4 : w.cell? ⟨x, 4, none⟩ = some e
  c5 : w.cell? ⟨x, 5, none⟩ = some f
  fz : ∀ i, w.frozen? ⟨x, i, none⟩ = false
  lt : x < w.heap.size
theorem Six.of {w : World} {x : Nat} {T : TypeId} {a b c d e f : Value} (h : w.heap[x]? = some (.cells #[a, b, c, d, e, f] T (0, 0))) : Six w x a b c d e f :=
  ⟨(cell_of h 0).trans rfl, (cell_of h 1).trans rfl, (cell_of h 2).trans rfl, (cell_of h 3).trans rfl, (cell_of h 4).trans rfl, (cell_of h 5).trans rfl, frozen_of h, lt_of_block h⟩

theorem Dj.new {v v' u : Value} {n : Nat} (hb : ∀ q, Blk v' q → Blk v q ∨ n ≤ q) (hu : ∀ q, Blk u q → q < n) (d : Dj v u) : Dj v' u := fun q a b => (hb q a).elim (fun e => d q e b) (fun e => by have := hu q b; omega)

section
variable {base R M : Nat} {w w1 w2 : World} {va vf vt : Value} {ts : List Tb} {x : Rs}
/-- an owned list where another one's block turns, and the reader's own -/
theorem Ow.past {α : Type} {enc : α → List Value} {K e : Nat} {u v : Value} {xs : List α} {o : Nat} {z : Value} (ho : Ow enc K e base w u xs) (hR : R < base) (k1 : Gr w w1) (k : Ch (Blk v) w1 w2) (d : Dj u v) : Ow enc K e base (w2.setCell ⟨R, o, none⟩ z) u xs :=
  ((ho.gr k1).ch k (fun g hg hv => d g hg hv)).ch (S := Only R) ((Ch.refl _ _).own _ _) (fun g hg e => by
    have := (ho.blk hg).1
    have e1 : g = R := e
    omega)
theorem Rd.parts (h : Rd base R M w va vf vt ts x) : (Dj va vf ∧ Dj va vt ∧ Dj vf vt) ∧ (∀ t ∈ ts, Dj va t.cv ∧ Dj vf t.cv ∧ Dj vt t.cv) ∧ (ts.map (·.cv)).Pairwise Dj := by
  have d := h.dj
  simp only [List.pairwise_cons, List.mem_cons, List.mem_map] at d
  obtain ⟨d1, d2, d3, d4⟩ := d
  refine ⟨⟨d1 _ (.inl rfl), d1 _ (.inr (.inl rfl)), d2 _ (.inl rfl)⟩, fun t ht => ⟨d1 _ (.inr (.inr ⟨t, ht, rfl⟩)), d2 _ (.inr ⟨t, ht, rfl⟩), d3 _ ⟨t, ht, rfl⟩⟩, d4⟩
theorem dj_of {va vf vt : Value} {ts : List Tb} (a : Dj va vf ∧ Dj va vt ∧ Dj vf vt) (b : ∀ t ∈ ts, Dj va t.cv ∧ Dj vf t.cv ∧ Dj vt t.cv) (c : (ts.map (·.cv)).Pairwise Dj) : (va :: vf :: vt :: ts.map (·.cv)).Pairwise Dj := by
  simp only [List.pairwise_cons, List.mem_cons, List.mem_map]
  refine ⟨?_, ?_, ?_, c⟩
  · rintro u (rfl | rfl | ⟨t, ht, rfl⟩)
    · exact a.1
    · exact a.2.1
    · exact (b t ht).1
  · rintro u (rfl | ⟨t, ht, rfl⟩)
    · exact a.2.2
    · exact (b t ht).2.1
  · rintro u ⟨t, ht, rfl⟩
    exact (b t ht).2.2
theorem Rd.newF (h : Rd base R M w va vf vt ts x) {vf' : Value} {fs : List (Nat × Nat)} (k1 : Gr w w1) (ho : Ow eF 2 41 base w2 vf' fs) (k : Ch (Blk vf) w1 w2) (hb : ∀ q, Blk vf' q → Blk vf q ∨ w1.heap.size ≤ q) :
    Rd base R M (w2.setCell ⟨R, 1, none⟩ vf') va vf' vt ts { x with fn := fs } := by
  obtain ⟨⟨d1, d2, d3⟩, d4, d5⟩ := h.parts
  have lo : ∀ {α : Type} {enc : α → List Value} {K e : Nat} {u : Value} {xs : List α}, Ow enc K e base w u xs → ∀ q, Blk u q → q < w1.heap.size := fun o q hq => by
    have := (o.blk hq).2
    have := k1.size
    omega
  have nR : ¬ Blk vf R := fun e => by have := (h.f.blk e).1; have := h.ltR; omega
  have nM : ¬ Blk vf M := fun e => by have := (h.f.blk e).1; have := h.ltM; omega
  have C := (Ch.refl (Only R) w2).own 1 vf'
  have bR : w2.heap[R]? = some (.cells #[va, vf, vt, .map (some M), .bool x.inF, .bool x.inT] 51 (0, 0)) := (k.block R (Nat.lt_of_lt_of_le (lt_of_block h.blk) k1.size) nR).trans (gr_blk h.blk k1)
  exact
    { blk := by simpa using setCell_block bR 1 vf'
      a := h.a.past h.ltR k1 k d1
      f := ho.ch C (fun g hg e => by have := (ho.blk hg).1; have e1 : g = R := e; have := h.ltR; omega)
      t := h.t.past h.ltR k1 k d3.symm
      tsq := h.tsq
      cs := fun t ht => (h.cs t ht).past h.ltR k1 k (d4 t ht).2.1.symm
      m := (C.block M (Nat.lt_of_lt_of_le (lt_of_block h.m) (Nat.le_trans k1.size k.size)) (fun e => h.ne e.symm)).trans ((k.block M (Nat.lt_of_lt_of_le (lt_of_block h.m) k1.size) nM).trans (gr_blk h.m k1))
      mo := h.mo
      dj := dj_of ⟨(Dj.new hb (lo h.a) d1.symm).symm, d2, Dj.new hb (lo h.t) d3⟩ (fun t ht => ⟨(d4 t ht).1, Dj.new hb (lo (h.cs t ht)) (d4 t ht).2.1, (d4 t ht).2.2⟩) d5
      ltR := h.ltR, ltM := h.ltM, ne := h.ne, ltB := Nat.le_trans h.ltB (Nat.le_trans k1.size (Nat.le_trans k.size C.size)) }
theorem Rd.newA (h : Rd base R M w va vf vt ts x) {va' : Value} {xs : List Ask} (k1 : Gr w w1) (ho : Ow eA 9 102 base w2 va' xs) (k : Ch (Blk va) w1 w2) (hb : ∀ q, Blk va' q → Blk va q ∨ w1.heap.size ≤ q) :
    Rd base R M (w2.setCell ⟨R, 0, none⟩ va') va' vf vt ts { x with ask := xs } := by
  obtain ⟨⟨d1, d2, d3⟩, d4, d5⟩ := h.parts
  have lo : ∀ {α : Type} {enc : α → List Value} {K e : Nat} {u : Value} {xs : List α}, Ow enc K e base w u xs → ∀ q, Blk u q → q < w1.heap.size := fun o q hq => by
    have := (o.blk hq).2
    have := k1.size
    omega
  have nR : ¬ Blk va R := fun e => by have := (h.a.blk e).1; have := h.ltR; omega
  have nM : ¬ Blk va M := fun e => by have := (h.a.blk e).1; have := h.ltM; omega
  have C := (Ch.refl (Only R) w2).own 0 va'
  have bR : w2.heap[R]? = some (.cells #[va, vf, vt, .map (some M), .bool x.inF, .bool x.inT] 51 (0, 0)) := (k.block R (Nat.lt_of_lt_of_le (lt_of_block h.blk) k1.size) nR).trans (gr_blk h.blk k1)
  exact
    { blk := by simpa using setCell_block bR 0 va'
      a := ho.ch C (fun g hg e => by have := (ho.blk hg).1; have e1 : g = R := e; have := h.ltR; omega)
      f := h.f.past h.ltR k1 k d1.symm
      t := h.t.past h.ltR k1 k d2.symm
      tsq := h.tsq
      cs := fun t ht => (h.cs t ht).past h.ltR k1 k (d4 t ht).1.symm
      m := (C.block M (Nat.lt_of_lt_of_le (lt_of_block h.m) (Nat.le_trans k1.size k.size)) (fun e => h.ne e.symm)).trans ((k.block M (Nat.lt_of_lt_of_le (lt_of_block h.m) k1.size) nM).trans (gr_blk h.m k1))
      mo := h.mo
      dj := dj_of ⟨Dj.new hb (lo h.f) d1, Dj.new hb (lo h.t) d2, d3⟩ (fun t ht => ⟨Dj.new hb (lo (h.cs t ht)) (d4 t ht).1, (d4 t ht).2.1, (d4 t ht).2.2⟩) d5
      ltR := h.ltR, ltM := h.ltM, ne := h.ne, ltB := Nat.le_trans h.ltB (Nat.le_trans k1.size (Nat.le_trans k.size C.size)) }
theorem Rd.newT (h : Rd base R M w va vf vt ts x) {vt' : Value} {df : Bool} (k1 : Gr w w1) (ho : Ow eT 2 44 base w2 vt' (ts ++ [⟨[], .slice none 0 0, df⟩])) (k : Ch (Blk vt) w1 w2) (hb : ∀ q, Blk vt' q → Blk vt q ∨ w1.heap.size ≤ q) :
    Rd base R M (w2.setCell ⟨R, 2, none⟩ vt') va vf vt' (ts ++ [⟨[], .slice none 0 0, df⟩]) { x with tb := x.tb ++ [([], df)] } := by
  obtain ⟨⟨d1, d2, d3⟩, d4, d5⟩ := h.parts
  have lo : ∀ {α : Type} {enc : α → List Value} {K e : Nat} {u : Value} {xs : List α}, Ow enc K e base w u xs → ∀ q, Blk u q → q < w1.heap.size := fun o q hq => by
    have := (o.blk hq).2
    have := k1.size
    omega
  have nR : ¬ Blk vt R := fun e => by have := (h.t.blk e).1; have := h.ltR; omega
  have nM : ¬ Blk vt M := fun e => by have := (h.t.blk e).1; have := h.ltM; omega
  have C := (Ch.refl (Only R) w2).own 2 vt'
  have bR : w2.heap[R]? = some (.cells #[va, vf, vt, .map (some M), .bool x.inF, .bool x.inT] 51 (0, 0)) := (k.block R (Nat.lt_of_lt_of_le (lt_of_block h.blk) k1.size) nR).trans (gr_blk h.blk k1)
  exact
    { blk := by simpa using setCell_block bR 2 vt'
      a := h.a.past h.ltR k1 k d2
      f := h.f.past h.ltR k1 k d3
      t := ho.ch C (fun g hg e => by have := (ho.blk hg).1; have e1 : g = R := e; have := h.ltR; omega)
      tsq := by rw [List.map_append, h.tsq]; rfl
      cs := fun t ht => by
        rcases List.mem_append.1 ht with ht | ht
        · exact (h.cs t ht).past h.ltR k1 k (d4 t ht).2.2.symm
        · have e : t = ⟨[], .slice none 0 0, df⟩ := by simpa using ht
          rw [e]
          exact Ow.nil _ _ _ _ _
      m := (C.block M (Nat.lt_of_lt_of_le (lt_of_block h.m) (Nat.le_trans k1.size k.size)) (fun e => h.ne e.symm)).trans ((k.block M (Nat.lt_of_lt_of_le (lt_of_block h.m) k1.size) nM).trans (gr_blk h.m k1))
      mo := h.mo
      dj := dj_of ⟨d1, (Dj.new hb (lo h.a) d2.symm).symm, (Dj.new hb (lo h.f) d3.symm).symm⟩ (fun t ht => by
          rcases List.mem_append.1 ht with ht | ht
          · exact ⟨(d4 t ht).1, (d4 t ht).2.1, Dj.new hb (lo (h.cs t ht)) (d4 t ht).2.2⟩
          · have e : t = ⟨[], .slice none 0 0, df⟩ := by simpa using ht
            rw [e]
            exact ⟨Dj.nil _, Dj.nil _, Dj.nil _⟩) (by
          rw [List.map_append, List.pairwise_append]
          refine ⟨d5, by simp, fun a _ b hb => ?_⟩
          have e : b = .slice none 0 0 := by simpa using hb
          rw [e]
          exact Dj.nil _)
      ltR := h.ltR, ltM := h.ltM, ne := h.ne, ltB := Nat.le_trans h.ltB (Nat.le_trans k1.size (Nat.le_trans k.size C.size)) }
theorem Rd.flags (h : Rd base R M w va vf vt ts x) (a b : Bool) : Rd base R M ((w.setCell ⟨R, 4, none⟩ (.bool a)).setCell ⟨R, 5, none⟩ (.bool b)) va vf vt ts { x with inF := a, inT := b } := by
  have C := ((Ch.refl (Only R) w).own 4 (.bool a)).own 5 (.bool b)
  have far : ∀ {α : Type} {enc : α → List Value} {K e : Nat} {u : Value} {xs : List α}, Ow enc K e base w u xs → Ow enc K e base ((w.setCell ⟨R, 4, none⟩ (.bool a)).setCell ⟨R, 5, none⟩ (.bool b)) u xs := fun ho => ho.ch C (fun g hg e => by
    have := (ho.blk hg).1
    have e1 : g = R := e
    have := h.ltR
    omega)
  exact
    { blk := by simpa using setCell_block (setCell_block h.blk 4 (.bool a)) 5 (.bool b)
      a := far h.a, f := far h.f, t := far h.t, tsq := h.tsq, cs := fun t ht => far (h.cs t ht)
      m := (C.block M (lt_of_block h.m) (fun e => h.ne e.symm)).trans h.m
      mo := h.mo, dj := h.dj, ltR := h.ltR, ltM := h.ltM, ne := h.ne, ltB := Nat.le_trans h.ltB C.size }
end
end Go.Proofs.YtbehlhnnfdkmaaaGreatDoor.Lt
