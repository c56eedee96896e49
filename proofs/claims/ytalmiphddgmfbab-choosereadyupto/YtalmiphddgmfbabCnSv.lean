/-
  A channel's values are set to a list that lies below all of the channels. No conditions.
-/
import Derived.Test.YtalmiphddgmfbabCnWk
namespace Go.Proofs.Ytalmiphddgmfbab.Lt
open Go.RowKit Wd

open Classical in
theorem NL.setvL {t : Nat → Tg} {base base0 : Nat} {w : World} {v u : Value} {xs : List Rw} {cs : List Cn} {i : Nat} {x : Rw} {c : Cn} {us : List Int} (h : NL t base w v xs cs) (hx : xs[i]? = some x) (hc : cs[i]? = some c) (hb0 : base0 ≤ base) (o : Ow eI 1 2 base0 w u us) (hu : ∀ q, Blk u q → q < base) :
    ∃ g ca t', v = .slice (some ⟨g, 0, none⟩) xs.length ca ∧ base ≤ g ∧ g < w.heap.size ∧ w.cell? ⟨g, i * 5 + 1, none⟩ = some x.v ∧ w.frozen? ⟨g, i * 5 + 1, none⟩ = false ∧ NL t' base0 (w.setCell ⟨g, i * 5 + 1, none⟩ u) v (xs.set i ⟨x.cap, u, x.s, x.r, x.cl⟩) (cs.set i ⟨c.cap, us, c.ss, c.rs, c.cl⟩) := by
  have hx1 := h.f i x c hx hc
  obtain ⟨g, ca, e, hb, hg, hl, hcs, hfz, hst⟩ := h.o.get eR_len hx
  have tg : t g = .out := h.to g (by rw [e]; rfl)
  have kk : Ch (Only g) w (w.setCell ⟨g, i * 5 + 1, none⟩ u) := (Ch.refl _ _).own _ _
  have e0 : ∀ q, base ≤ q → (if Blk u q then Tg.vs i else t q) = t q := fun q hq => if_neg (fun hbb => by have := hu q hbb; omega)
  refine ⟨g, ca, fun q => if Blk u q then .vs i else t q, e, hb, hg, hcs 1 _ rfl, hfz _, (hst 1 u ⟨x.cap, u, x.s, x.r, x.cl⟩ (by omega) rfl).lower hb0, fun q hq => (e0 q (h.o.blk hq).1).trans (h.to q hq), by rw [List.length_set, List.length_set]; exact h.n, ?_⟩
  intro j y d hy hd
  by_cases hj : i = j
  · subst hj
    rw [List.getElem?_set_self (List.getElem?_eq_some_iff.1 hx).1] at hy
    rw [List.getElem?_set_self (List.getElem?_eq_some_iff.1 hc).1] at hd
    injection hy with hy
    injection hd with hd
    subst hy hd
    exact ⟨hx1.cap, hx1.cl, o.ch kk (fun q hq hbb => by have e1 : q = g := hbb; have := hu q hq; omega), fun q hq => if_pos hq, (hx1.s.ch kk (fun q hq hbb => by have e1 : q = g := hbb; have e2 := hx1.ts q hq; rw [e1, tg] at e2; cases e2)).lower hb0, fun q hq => (e0 q (hx1.s.blk hq).1).trans (hx1.ts q hq), (hx1.r.ch kk (fun q hq hbb => by have e1 : q = g := hbb; have e2 := hx1.tr q hq; rw [e1, tg] at e2; cases e2)).lower hb0, fun q hq => (e0 q (hx1.r.blk hq).1).trans (hx1.tr q hq)⟩
  · rw [List.getElem?_set_ne hj] at hy hd
    have y1 := h.f j y d hy hd
    exact ⟨y1.cap, y1.cl, (y1.v.ch kk (fun q hq hbb => by have e1 : q = g := hbb; have e2 := y1.tv q hq; rw [e1, tg] at e2; cases e2)).lower hb0, fun q hq => (e0 q (y1.v.blk hq).1).trans (y1.tv q hq), (y1.s.ch kk (fun q hq hbb => by have e1 : q = g := hbb; have e2 := y1.ts q hq; rw [e1, tg] at e2; cases e2)).lower hb0, fun q hq => (e0 q (y1.s.blk hq).1).trans (y1.ts q hq), (y1.r.ch kk (fun q hq hbb => by have e1 : q = g := hbb; have e2 := y1.tr q hq; rw [e1, tg] at e2; cases e2)).lower hb0, fun q hq => (e0 q (y1.r.blk hq).1).trans (y1.tr q hq)⟩
/-- the same, where nobody asks whose a block is -/
theorem Nx.setvL {base base0 : Nat} {w : World} {v u : Value} {cs : List Cn} {i : Nat} {c : Cn} {us : List Int} (h : Nx base w v cs) (hc : cs[i]? = some c) (hb0 : base0 ≤ base) (o : Ow eI 1 2 base0 w u us) (hu : ∀ q, Blk u q → q < base) :
    ∃ (g ca : Nat) (xo : Option Addr) (xn xc : Nat), v = .slice (some ⟨g, 0, none⟩) cs.length ca ∧ base ≤ g ∧ g < w.heap.size ∧ w.cell? ⟨g, i * 5 + 1, none⟩ = some (.slice xo xn xc) ∧ w.frozen? ⟨g, i * 5 + 1, none⟩ = false ∧ Nx base0 (w.setCell ⟨g, i * 5 + 1, none⟩ u) v (cs.set i ⟨c.cap, us, c.ss, c.rs, c.cl⟩) := by
  obtain ⟨t, xs, h⟩ := h
  obtain ⟨x, hx⟩ : ∃ x, xs[i]? = some x := ⟨_, List.getElem?_eq_getElem (by rw [h.n]; exact (List.getElem?_eq_some_iff.1 hc).1)⟩
  obtain ⟨g, ca, t', e, h1, h2, h3, h4, h5⟩ := h.setvL hx hc hb0 o hu
  obtain ⟨a, k, ev⟩ := (h.f i x c hx hc).v.form
  rw [ev] at h3
  exact ⟨g, ca, a, _, k, by rw [e, h.n], h1, h2, h3, h4, t', _, h5⟩
end Go.Proofs.Ytalmiphddgmfbab.Lt
