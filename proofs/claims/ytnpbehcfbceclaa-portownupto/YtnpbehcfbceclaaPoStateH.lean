/-
  What the two kinds of ports tell by state. Condition: the part that does is there, and may be.
-/
import Derived.Test.YtnpbehcfbceclaaPoDlvQ
namespace Go.Proofs.Ytnpbehcfbceclaa.Lt
open Go.RowKit Wd
attribute [local go_sem ↓] Go.wp_at_zero Go.wp_at_succ
set_option maxRecDepth 20000

/-- a struct stored whole, at a step of a region that draws -/
theorem step_st_row {ops : Array Oper} {o : Oper} {a : Act} {w : World} {Kk : Act → World → Prop} {Q : Exit → Act → World → Prop} {E : Prop} (hgd : o.guard = none) (ty : TypeId) (x y : Operand) (ho : o.op = .store ty x y)
    (g : Nat) (cells : Array Value) (hx : a.eval x = .pointer (some ⟨g, 0, none⟩)) (hy : a.eval y = .agg cells)
    (t : TypeId) (old : Array Value) (hg : w.heap[g]? = some (.cells old t (0, 0))) (hi : (Try.prog.info? ty).map (·.size) = some cells.size)
    (hold : old.size = cells.size) (h1 : cells.all (·.oneCell') = true)
    (h : ∀ w', w'.heap[g]? = some (.cells cells t (0, 0)) → Ch (Only g) w w' → Kk (a.put o.dst undef) w') :
    if Region.wanted o (yielded ops a.tmps) = true then Oper.wp Try.prog o a w Kk Q else E := by
  have hw : Region.wanted o (yielded ops a.tmps) = true := by simp [Region.wanted, hgd]
  rw [if_pos hw]
  exact wp_store_row ty x y ho g cells hx hy t old hg hi hold h1 (h _ (setRow_blk hg) (setRow_ch w g cells))
/-- a state's value -/
def stV (x : Pt) (v1 v2 : Value) : Value := .agg #[.bool x.q, .int .i64 (x.cap : Nat), v1, v2, .int .i64 (x.lost : Nat)]
/-- what state tells: the lists in new memory -/
def StR (w : World) (x : Pt) (e : Ending) (w' : World) : Prop := ∃ v1 v2, e = .returned (stV x v1 v2) ∧ Ow eI 1 2 w.heap.size w' v1 x.out ∧ Ow eG 2 59 w.heap.size w' v2 x.inn ∧ Gr w w'
/-- what stands while a state is told -/
structure Hy (w : World) (k : Nat) (vo vi : Value) (x : Pt) (W : World) : Prop where
  q : Kq W k vo vi x
  g : Gr w W
  r : W.heap[w.heap.size]? = some (.cells #[.bool false, .int .i64 0, .slice none 0 0, .slice none 0 0, .int .i64 0] 32 (0, 0))
/-- and behind the copy -/
structure Hz (w : World) (k : Nat) (vo vi : Value) (x : Pt) (b3 : Nat) (v1 v2 : Value) (W : World) : Prop where
  p : Hy w k vo vi x W
  b : W.heap[b3]? = some (.cells #[v1, v2] 66 (0, 0))
  o : Ow eI 1 2 w.heap.size W v1 x.out
  i : Ow eG 2 59 w.heap.size W v2 x.inn
/-- what the queueing kind's last region reads -/
structure Hw (k cap lost b3 : Nat) (v1 v2 : Value) (W : World) : Prop where
  c2 : W.cell? ⟨k, 2, none⟩ = some (.int .i64 (cap : Nat))
  c3 : W.cell? ⟨k, 3, none⟩ = some (.int .i64 (lost : Nat))
  d0 : W.cell? ⟨b3, 0, none⟩ = some v1
  d1 : W.cell? ⟨b3, 1, none⟩ = some v2
  l0 : k < W.heap.size
  l1 : b3 < W.heap.size
section
variable {w W W' : World} {k b3 : Nat} {vo vi v1 v2 : Value} {x : Pt}
theorem Hy.start (h : Kq w k vo vi x) : Hy w k vo vi x (World.drew (w.alloc (.cells #[.bool false, .int .i64 0, .slice none 0 0, .slice none 0 0, .int .i64 0] 32))) :=
  ⟨h.gr (Ch.drew (Ch.alloc (Gr.refl w) _)), Ch.drew (Ch.alloc (Gr.refl w) _), al_at (w := w) _ rfl⟩
theorem Hy.gr (h : Hy w k vo vi x W) (c : Gr W W') : Hy w k vo vi x W' := ⟨h.q.gr c, Gr.trans h.g c, gr_blk h.r c⟩
theorem Hz.mk5 {old : Array Value} (h : Hy w k vo vi x W) (hb : W.heap[b3]? = some (.cells old 66 (0, 0))) (hb' : W'.heap[b3]? = some (.cells #[v1, v2] 66 (0, 0))) (c : Ch (Only b3) W W') (hl : w.heap.size ≤ b3) (o : Ow eI 1 2 w.heap.size W v1 x.out) (i : Ow eG 2 59 w.heap.size W v2 x.inn) : Hz w k vo vi x b3 v1 v2 W' := by
  have nty : ∀ {g : Nat} {c : Array Value} {t : TypeId}, W.heap[g]? = some (.cells c t (0, 0)) → t ≠ 66 → ¬ Only b3 g := fun {g c t} hg ht e => by
    have e1 : g = b3 := e
    rw [e1, hb] at hg
    injection hg with hg
    injection hg with _ t1
    exact ht t1.symm
  have nk : ¬ Only b3 k := by
    have hk := h.q.bk
    unfold cellsP at hk
    split at hk
    · exact nty hk (by decide)
    · exact nty hk (by decide)
  have no : ∀ {g : Nat} {v : Value} {xs : List Int} {b : Nat}, Ow eI 1 2 b W v xs → Blk v g → ¬ Only b3 g := fun ho hg => by
    obtain ⟨c, hc⟩ := ho.ty hg
    exact nty hc (by decide)
  have ni : ∀ {g : Nat} {v : Value} {xs : List Ag} {b : Nat}, Ow eG 2 59 b W v xs → Blk v g → ¬ Only b3 g := fun ho hg => by
    obtain ⟨c, hc⟩ := ho.ty hg
    exact nty hc (by decide)
  exact ⟨⟨⟨ch_blk h.q.bk c nk, h.q.ho.ch c (fun g e => no h.q.ho e), h.q.hi.ch c (fun g e => ni h.q.hi e)⟩, Ch.trans h.g c (fun q e => .inr (by have e1 : q = b3 := e; omega)), ch_blk h.r c (nty h.r (by decide))⟩, hb', o.ch c (fun g e => no o e), i.ch c (fun g e => ni i e)⟩
theorem Hz.drew (h : Hz w k vo vi x b3 v1 v2 W) : Hz w k vo vi x b3 v1 v2 (World.drew W) := ⟨h.p.gr (Ch.drew (Gr.refl W)), h.b, h.o.drew, h.i.drew⟩
theorem Hz.cs (h : Hz w k vo vi x b3 v1 v2 W) : W.cell? ⟨b3, 0, none⟩ = some v1 ∧ W.cell? ⟨b3, 1, none⟩ = some v2 ∧ b3 < W.heap.size := ⟨cell_of h.b 0, cell_of h.b 1, lt_of_block h.b⟩
theorem Hz.one (h : Hz w k vo vi x b3 v1 v2 W) {b : Bool} {n l : Int} : (#[.bool b, .int .i64 n, v1, v2, .int .i64 l] : Array Value).all (·.oneCell') = true := by
  obtain ⟨a, c, rfl⟩ := h.o.form
  obtain ⟨a', c', rfl⟩ := h.i.form
  simp [Value.oneCell']
theorem StR.mk5 (h : Hz w k vo vi x b3 v1 v2 W) (c : Ch (Only w.heap.size) W W') : StR w x (.returned (stV x v1 v2)) W' := by
  have no : ∀ {g : Nat}, Blk v1 g → ¬ Only w.heap.size g := fun {g} hg e => by
    have e1 : g = w.heap.size := e
    obtain ⟨c, hc⟩ := h.o.ty hg
    rw [e1, h.p.r] at hc
    injection hc with hc
    injection hc with _ t1
    exact absurd t1 (by decide)
  have ni : ∀ {g : Nat}, Blk v2 g → ¬ Only w.heap.size g := fun {g} hg e => by
    have e1 : g = w.heap.size := e
    obtain ⟨c, hc⟩ := h.i.ty hg
    rw [e1, h.p.r] at hc
    injection hc with hc
    injection hc with _ t1
    exact absurd t1 (by decide)
  exact ⟨v1, v2, rfl, h.o.ch c (fun g e => no e), h.i.ch c (fun g e => ni e), Ch.trans h.p.g c (fun q e => .inr (by have e1 : q = w.heap.size := e; omega))⟩
theorem StR.mkS {xs : List Int} {ys : List Ag} (h : Hz w k vo vi ⟨false, 1, xs, ys, 0⟩ b3 v1 v2 W) (c : Ch (Only w.heap.size) W W') : StR w ⟨false, 1, xs, ys, 0⟩ (.returned (.agg #[.bool false, .int .i64 1, v1, v2, .int .i64 0])) W' := StR.mk5 h c
theorem StR.mkQ {cap lost : Nat} {xs : List Int} {ys : List Ag} (h : Hz w k vo vi ⟨true, cap, xs, ys, lost⟩ b3 v1 v2 W) (c : Ch (Only w.heap.size) W W') : StR w ⟨true, cap, xs, ys, lost⟩ (.returned (.agg #[.bool true, .int .i64 (cap : Nat), v1, v2, .int .i64 (lost : Nat)])) W' := StR.mk5 h c
theorem Hw.start {cap lost : Nat} {xs : List Int} {ys : List Ag} (h : Hz w k vo vi ⟨true, cap, xs, ys, lost⟩ b3 v1 v2 W) : Hw k cap lost b3 v1 v2 (World.drew W) := by
  obtain ⟨c2, c3⟩ := h.p.q.c2
  exact ⟨c2, c3, cell_of h.b 0, cell_of h.b 1, lt_of_block h.p.q.bk, lt_of_block h.b⟩
theorem Hw.st {cap lost : Nat} (s : Hw k cap lost b3 v1 v2 W) (c : Ch (Only w.heap.size) W W') (h : Hz w k vo vi x b3 v1 v2 W) : Hw k cap lost b3 v1 v2 W' := by
  have n1 : ¬ Only w.heap.size k := fun e => by
    have e1 : k = w.heap.size := e
    have hk := h.p.q.bk
    rw [e1, h.p.r] at hk
    unfold cellsP at hk
    split at hk <;> (injection hk with hk; injection hk with _ t1; exact absurd t1 (by decide))
  have n2 : ¬ Only w.heap.size b3 := fun e => by
    have e1 : b3 = w.heap.size := e
    have hk := h.b
    rw [e1, h.p.r] at hk
    injection hk with hk
    injection hk with _ t1
    exact absurd t1 (by decide)
  exact ⟨(c.cell s.l0 n1).trans s.c2, (c.cell s.l0 n1).trans s.c3, (c.cell s.l1 n2).trans s.d0, (c.cell s.l1 n2).trans s.d1, Nat.lt_of_lt_of_le s.l0 c.size, Nat.lt_of_lt_of_le s.l1 c.size⟩
end
end Go.Proofs.Ytnpbehcfbceclaa.Lt
