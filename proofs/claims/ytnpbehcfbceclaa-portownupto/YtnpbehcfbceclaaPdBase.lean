/-
  The words for the document's ports: a variable that holds a state, beside the box of one that was handed in. No conditions.
-/
import Derived.Test.YtnpbehcfbceclaaPoPortS
namespace Go.Proofs.Ytnpbehcfbceclaa.Lt
open Go.RowKit Wd

/-- what stands: the box of the state that was handed in -/
structure Cz (w : World) (b3 : Nat) (z : Array Value) (W : World) : Prop where
  g : Gr w W
  b : W.heap[w.heap.size]? = some (.cells z 32 (0, 0))
  r : W.heap[w.heap.size + 1]? = some (.cells #[.bool false, .int .i64 0, .slice none 0 0, .slice none 0 0, .int .i64 0] 32 (0, 0))
  h : w.heap.size + 2 ≤ b3
  l : b3 < W.heap.size
/-- the variable -/
def Cv (b3 : Nat) (y : Array Value) (W : World) : Prop := W.heap[b3]? = some (.cells y 32 (0, 0))
section
variable {α : Type} {enc : α → List Value} {K e b : Nat} {w W W' : World} {b3 : Nat} {z y : Array Value} {o : Value} {xs : List α}
theorem Cz.start (w : World) (z y : Array Value) : Cz w (w.heap.size + 1 + 1) z (((w.alloc (.cells z 32)).alloc (.cells #[.bool false, .int .i64 0, .slice none 0 0, .slice none 0 0, .int .i64 0] 32)).alloc (.cells y 32)) :=
  ⟨Ch.alloc (Ch.alloc (Ch.alloc (Gr.refl w) _) _) _, al_blk (al_blk (al_at _ rfl) _) _, al_blk (al_at _ (by simp)) _, Nat.le_refl _, by simp⟩
theorem Cv.start (w : World) (z y : Array Value) : Cv (w.heap.size + 1 + 1) y (((w.alloc (.cells z 32)).alloc (.cells #[.bool false, .int .i64 0, .slice none 0 0, .slice none 0 0, .int .i64 0] 32)).alloc (.cells y 32)) := al_at _ (by simp)
theorem Cz.gr (h : Cz w b3 z W) (g : Gr W W') : Cz w b3 z W' := ⟨Gr.trans h.g g, gr_blk h.b g, gr_blk h.r g, h.h, Nat.lt_of_lt_of_le h.l g.size⟩
theorem Cv.gr (h : Cv b3 y W) (g : Gr W W') : Cv b3 y W' := gr_blk h g
theorem not_blk (ho : Ow enc K e b W o xs) (he : e ≠ 32) {g : Nat} {c : Array Value} (h : W.heap[g]? = some (.cells c 32 (0, 0))) : ¬ Blk o g := fun q => by
  obtain ⟨c', hc⟩ := ho.ty q
  rw [h] at hc
  injection hc with hc
  injection hc with _ t1
  exact he t1.symm
theorem Cz.app (h : Cz w b3 z W) (ho : Ow enc K e w.heap.size W o xs) (he : e ≠ 32) (c : Ch (Blk o) W W') : Cz w b3 z W' :=
  ⟨Ch.trans h.g c (fun _ q => .inr (ho.blk q).1), ch_blk h.b c (not_blk ho he h.b), ch_blk h.r c (not_blk ho he h.r), h.h, Nat.lt_of_lt_of_le h.l c.size⟩
theorem Cv.app (h : Cv b3 y W) (ho : Ow enc K e b W o xs) (he : e ≠ 32) (c : Ch (Blk o) W W') : Cv b3 y W' := ch_blk h c (not_blk ho he h)
theorem Cz.st (h : Cz w b3 z W) (i : Nat) (v : Value) : Cz w b3 z (W.setCell ⟨b3, i, none⟩ v) := by
  have c : Ch (Only b3) W (W.setCell ⟨b3, i, none⟩ v) := (Ch.refl _ W).own i v
  exact ⟨Ch.trans h.g c (fun q e => .inr (by have e1 : q = b3 := e; have := h.h; omega)), ch_blk h.b c (fun e => by have e1 : w.heap.size = b3 := e; have := h.h; omega), ch_blk h.r c (fun e => by have e1 : w.heap.size + 1 = b3 := e; have := h.h; omega), h.h, Nat.lt_of_lt_of_le h.l c.size⟩
theorem Cv.st (h : Cv b3 y W) (i : Nat) (v : Value) : Cv b3 (y.setIfInBounds i v) (W.setCell ⟨b3, i, none⟩ v) := setCell_block h i v
theorem Ow.st (h : Ow enc K e b W o xs) (he : e ≠ 32) (hv : Cv b3 y W) (i : Nat) (v : Value) : Ow enc K e b (W.setCell ⟨b3, i, none⟩ v) o xs := by
  have c : Ch (Only b3) W (W.setCell ⟨b3, i, none⟩ v) := (Ch.refl _ W).own i v
  exact h.ch c (fun g q e => not_blk h he hv (by have e1 : g = b3 := e; rw [← e1]; exact q))
theorem Cv.cell (h : Cv b3 y W) (i : Nat) : W.cell? ⟨b3, i, none⟩ = y[i]? ∧ W.frozen? ⟨b3, i, none⟩ = false ∧ b3 < W.heap.size := ⟨cell_of h i, frozen_of h i, lt_of_block h⟩
end
theorem results_cell_tmp2 {fn : Func} {p t : Tmp} {ty : TypeId} (h : fn.results = #[.cell p ty, .tmp t]) (tmps : Array Value) (w : World) (g : Nat) (cs : Array Value)
    (hp : tmps.getD p undef = .pointer (some ⟨g, 0, none⟩)) (hl : (loadVar ty ⟨g, 0, none⟩).run Try.prog w = .ok (.agg cs) w) :
    (results fn tmps).run Try.prog w = .ok (.tuple #[.agg cs, tmps.getD t undef]) w := by
  have hp' : tmps[p]?.getD undef = .pointer (some ⟨g, 0, none⟩) := by simpa using hp
  simp [results, h, hp', asAddr, hl]
theorem results_cell_tmp3 {fn : Func} {p t s : Tmp} {ty : TypeId} (h : fn.results = #[.cell p ty, .tmp t, .tmp s]) (tmps : Array Value) (w : World) (g : Nat) (cs : Array Value)
    (hp : tmps.getD p undef = .pointer (some ⟨g, 0, none⟩)) (hl : (loadVar ty ⟨g, 0, none⟩).run Try.prog w = .ok (.agg cs) w) :
    (results fn tmps).run Try.prog w = .ok (.tuple #[.agg cs, tmps.getD t undef, tmps.getD s undef]) w := by
  have hp' : tmps[p]?.getD undef = .pointer (some ⟨g, 0, none⟩) := by simpa using hp
  simp [results, h, hp', asAddr, hl]
/-- behind a copy: the variable that it is laid into -/
theorem Cz.at {w w1 : World} {z : Array Value} (g : Gr ((w.alloc (.cells z 32)).alloc (.cells #[.bool false, .int .i64 0, .slice none 0 0, .slice none 0 0, .int .i64 0] 32)) w1) (y : Array Value) : Cz w w1.heap.size z (w1.alloc (.cells y 32)) :=
  ⟨Ch.alloc (Gr.trans (Ch.alloc (Ch.alloc (Gr.refl w) _) _) g) _, al_blk (gr_blk (al_blk (al_at _ rfl) _) g) _, al_blk (gr_blk (al_at _ (by simp)) g) _, by have := g.size; simpa using this, by simp⟩
end Go.Proofs.Ytnpbehcfbceclaa.Lt
