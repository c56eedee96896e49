/-
  Channels in memory, where nobody asks whose a block is: what is known of one of them, and what is left when a part of it is set. No conditions.
-/
import Derived.Test.YtalmiphddgmfbabCnCopy
namespace Go.Proofs.Ytalmiphddgmfbab.Lt
open Go.RowKit Wd

/-- channels in memory -/
def Nx (base : Nat) (w : World) (v : Value) (cs : List Cn) : Prop := ∃ (t : Nat → Tg) (xs : List Rw), NL t base w v xs cs
theorem Nx.gr {base : Nat} {w w' : World} {v : Value} {cs : List Cn} (h : Nx base w v cs) (g : Gr w w') : Nx base w' v cs := by
  obtain ⟨t, xs, h⟩ := h
  exact ⟨t, xs, h.gr g⟩
theorem Nx.drew {base : Nat} {w : World} {v : Value} {cs : List Cn} (h : Nx base w v cs) : Nx base w.drew v cs := h.gr (Ch.drew (Gr.refl w))
theorem Nx.rds {base : Nat} {w : World} {v : Value} {cs : List Cn} (h : Nx base w v cs) : Rds (base ≤ ·) w v cs := by
  obtain ⟨t, xs, h⟩ := h
  exact h.rds
theorem Nx.form {base : Nat} {w : World} {v : Value} {cs : List Cn} (h : Nx base w v cs) : ∃ ao cap, v = .slice ao cs.length cap := h.rds.form
theorem Nx.lower {base base' : Nat} {w : World} {v : Value} {cs : List Cn} (h : Nx base w v cs) (hb : base' ≤ base) : Nx base' w v cs := by
  obtain ⟨t, xs, h⟩ := h
  exact ⟨t, xs, h.o.lower hb, h.to, h.n, fun i x c hx hc => by
    have y := h.f i x c hx hc
    exact ⟨y.cap, y.cl, y.v.lower hb, y.tv, y.s.lower hb, y.ts, y.r.lower hb, y.tr⟩⟩
/-- where a block is kept that is none of theirs -/
theorem Nx.ch {base : Nat} {w w' : World} {v : Value} {cs : List Cn} {S : Nat → Prop} (h : Nx base w v cs) (k : Ch S w w') (hS : ∀ q, S q → q < base) : Nx base w' v cs := by
  obtain ⟨t, xs, h⟩ := h
  refine ⟨t, xs, h.o.ch k (fun q hq hs => ?_), h.to, h.n, fun i x c hx hc => ?_⟩
  · have := (h.o.blk hq).1; have := hS q hs; omega
  · have y := h.f i x c hx hc
    exact ⟨y.cap, y.cl, y.v.ch k (fun q hq hs => by have := (y.v.blk hq).1; have := hS q hs; omega), y.tv, y.s.ch k (fun q hq hs => by have := (y.s.blk hq).1; have := hS q hs; omega), y.ts, y.r.ch k (fun q hq hs => by have := (y.r.blk hq).1; have := hS q hs; omega), y.tr⟩
/-- one of them: its cells, its lists, and what is left when one of these is set -/
structure NxA (base : Nat) (w : World) (gO n ca : Nat) (cs : List Cn) (i : Nat) (c : Cn) (x : Rw) : Prop where
  cap : x.cap = c.cap
  cl : x.cl = c.cl
  c0 : w.cell? ⟨gO, i * 5, none⟩ = some (.int .i64 x.cap)
  c1 : w.cell? ⟨gO, i * 5 + 1, none⟩ = some x.v
  c2 : w.cell? ⟨gO, i * 5 + 2, none⟩ = some x.s
  c3 : w.cell? ⟨gO, i * 5 + 3, none⟩ = some x.r
  c4 : w.cell? ⟨gO, i * 5 + 4, none⟩ = some (.bool x.cl)
  v : Ow eI 1 2 base w x.v c.vs
  s : Ow eW 4 95 base w x.s c.ss
  r : Ow eW 4 95 base w x.r c.rs
  lo : base ≤ gO
  hi : gO < w.heap.size
  dv : ¬ Blk x.v gO
  ds : ¬ Blk x.s gO
  dr : ¬ Blk x.r gO
  wv : ∀ (w1 : World) (u : Value) (us : List Int), Ch (Blk x.v) w w1 → Ow eI 1 2 base w1 u us → (∀ q, Blk u q → Blk x.v q ∨ w.heap.size ≤ q) → w1.cell? ⟨gO, i * 5 + 1, none⟩ = some x.v ∧ w1.frozen? ⟨gO, i * 5 + 1, none⟩ = false ∧ gO < w1.heap.size ∧ Nx base (w1.setCell ⟨gO, i * 5 + 1, none⟩ u) (.slice (some ⟨gO, 0, none⟩) n ca) (cs.set i ⟨c.cap, us, c.ss, c.rs, c.cl⟩)
  ws : ∀ (w1 : World) (u : Value) (us : List Wt), Ch (Blk x.s) w w1 → Ow eW 4 95 base w1 u us → (∀ q, Blk u q → Blk x.s q ∨ w.heap.size ≤ q) → w1.cell? ⟨gO, i * 5 + 2, none⟩ = some x.s ∧ w1.frozen? ⟨gO, i * 5 + 2, none⟩ = false ∧ gO < w1.heap.size ∧ Nx base (w1.setCell ⟨gO, i * 5 + 2, none⟩ u) (.slice (some ⟨gO, 0, none⟩) n ca) (cs.set i ⟨c.cap, c.vs, us, c.rs, c.cl⟩)
  wr : ∀ (w1 : World) (u : Value) (us : List Wt), Ch (Blk x.r) w w1 → Ow eW 4 95 base w1 u us → (∀ q, Blk u q → Blk x.r q ∨ w.heap.size ≤ q) → w1.cell? ⟨gO, i * 5 + 3, none⟩ = some x.r ∧ w1.frozen? ⟨gO, i * 5 + 3, none⟩ = false ∧ gO < w1.heap.size ∧ Nx base (w1.setCell ⟨gO, i * 5 + 3, none⟩ u) (.slice (some ⟨gO, 0, none⟩) n ca) (cs.set i ⟨c.cap, c.vs, c.ss, us, c.cl⟩)
theorem Nx.at {base : Nat} {w : World} {gO n ca i : Nat} {cs : List Cn} {c : Cn} (h : Nx base w (.slice (some ⟨gO, 0, none⟩) n ca) cs) (hc : cs[i]? = some c) : ∃ x : Rw, NxA base w gO n ca cs i c x := by
  obtain ⟨t, xs, h⟩ := h
  obtain ⟨x, hx⟩ : ∃ x, xs[i]? = some x := ⟨_, List.getElem?_eq_getElem (by rw [h.n]; exact (List.getElem?_eq_some_iff.1 hc).1)⟩
  have y := h.f i x c hx hc
  obtain ⟨g, ca', e, hb, hg, hl, hcs, -, -⟩ := h.o.get eR_len hx
  injection e with e _ _
  injection e with e
  injection e with e _ _
  subst e
  have tg : t gO = .out := h.to gO rfl
  refine ⟨x, y.cap, y.cl, hcs 0 _ rfl, hcs 1 _ rfl, hcs 2 _ rfl, hcs 3 _ rfl, hcs 4 _ rfl, y.v, y.s, y.r, hb, hg, fun q => ?_, fun q => ?_, fun q => ?_, ?_, ?_, ?_⟩
  · have := y.tv _ q; rw [tg] at this; cases this
  · have := y.ts _ q; rw [tg] at this; cases this
  · have := y.tr _ q; rw [tg] at this; cases this
  · intro w1 u us k o hu
    obtain ⟨g, ca', t', ev, hg, -, h1, h2, -, -, h3⟩ := h.setv hx hc k o hu
    injection ev with ev _ _
    injection ev with ev
    injection ev with ev _ _
    subst ev
    exact ⟨h1, h2, Nat.lt_of_lt_of_le hg k.size, t', _, h3⟩
  · intro w1 u us k o hu
    obtain ⟨g, ca', t', ev, hg, -, h1, h2, -, -, h3⟩ := h.sets hx hc k o hu
    injection ev with ev _ _
    injection ev with ev
    injection ev with ev _ _
    subst ev
    exact ⟨h1, h2, Nat.lt_of_lt_of_le hg k.size, t', _, h3⟩
  · intro w1 u us k o hu
    obtain ⟨g, ca', t', ev, hg, -, h1, h2, -, -, h3⟩ := h.setr hx hc k o hu
    injection ev with ev _ _
    injection ev with ev
    injection ev with ev _ _
    subst ev
    exact ⟨h1, h2, Nat.lt_of_lt_of_le hg k.size, t', _, h3⟩
end Go.Proofs.Ytalmiphddgmfbab.Lt
