/-
  What stands between two calls of a slab beside the document's state. Condition: the list of calls is there, and shorter than 2^43.
-/
import Derived.Test.YtfbkifkfhgkdbabSbCallA
import Derived.Handy
namespace Go.Proofs.Ytfbkifkfhgkdbab.Sb
open Go.RowKit
open Classical
attribute [local go_sem ↓] Go.wp_at_zero Go.wp_at_succ

theorem calls_any (S P : Nat → Prop) (base hb b : Nat) (L d p pk s0 gn : Int) (x : Sl) (vg va vc vf v : Value) (cv : List Value) (gs : List (Int × Int)) (w : World) (h : Jn S P base hb w b L x vg va vc vf cv v gs) (hgl : gs.length < 8796093022208) :
    Calls Try.prog 23 #[.pointer (some ⟨b, 0, none⟩), .agg #[.int .i64 L, vg, va, vc, vf], .agg #[.int .i64 d, .int .i64 p, .int .i64 pk, .int .i64 s0, .int .i64 gn], v] w fun e w' => Called S P base hb w b L v gs e w' := by
  by_cases h0 : d = 0
  · subst h0
    exact calls_take S P base hb b L p pk s0 gn x vg va vc vf v cv gs w h hgl
  · by_cases h1 : d = 1
    · subst h1
      exact calls_give S P base hb b L p pk s0 gn x vg va vc vf v cv gs w h
    · by_cases h2 : d = 2
      · subst h2
        exact calls_flush S P base hb b L p pk s0 gn x vg va vc vf v cv gs w h
      · exact calls_ask S P base hb b L d p pk s0 gn x vg va vc vf v cv gs w h (by simpa using h0) (by simpa using h1) (by simpa using h2)

/-- a list of calls -/
def OpL (w : World) (v : Value) (n : Nat) : Prop := ∃ ao cap, v = .slice ao n cap ∧ n ≤ 3518437208880 ∧ (n = 0 ∨ ∃ g p, ao = some ⟨g, p, none⟩ ∧ g < w.heap.size ∧ ∀ j, j < n → ∃ d pp pk s0 gn : Int, w.cell? ⟨g, p + j * 5, none⟩ = some (.int .i64 d) ∧ w.cell? ⟨g, p + j * 5 + 1, none⟩ = some (.int .i64 pp) ∧ w.cell? ⟨g, p + j * 5 + 2, none⟩ = some (.int .i64 pk) ∧ w.cell? ⟨g, p + j * 5 + 3, none⟩ = some (.int .i64 s0) ∧ w.cell? ⟨g, p + j * 5 + 4, none⟩ = some (.int .i64 gn))

theorem Fv.put5 {T : Nat} {w : World} {k : Nat} {c0 c1 c2 c3 c4 : Value} (h : Fv T w k c0 c1 c2 c3 c4) (d0 d1 d2 d3 d4 : Value) :
    Fv T (((((w.setCell ⟨k, 0, none⟩ d0).setCell ⟨k, 1, none⟩ d1).setCell ⟨k, 2, none⟩ d2).setCell ⟨k, 3, none⟩ d3).setCell ⟨k, 4, none⟩ d4) k d0 d1 d2 d3 d4 :=
  setCell_block (setCell_block (setCell_block (setCell_block (setCell_block h 0 d0) 1 d1) 2 d2) 3 d3) 4 d4
theorem Jn.put {S P T : Nat → Prop} {base hb : Nat} {w w3 : World} {b : Nat} {L : Int} {x : Sl} {vg va vc vf v : Value} {cv : List Value} {gs : List (Int × Int)} (h : Jn S P base hb w b L x vg va vc vf cv v gs) (g : Ch T w w3) (hs : ∀ q, S q → ¬ T q) (hp : ∀ q, P q → ¬ T q) (hv : ∀ q, Blk v q → ¬ T q) : Jn S P base hb w3 b L x vg va vc vf cv v gs :=
  { s := h.s.ch g hs, r := h.r.ch g (fun q _ a => hp q a), p := h.p.ch g hv, m := h.m, sb := Nat.le_trans h.sb g.size, hb := Nat.le_trans h.hb g.size, sp := h.sp, vs := h.vs, vp := h.vp, pl := fun q a => Nat.lt_of_lt_of_le (h.pl q a) g.size }

/-- between two calls: a slab, a state in its variable, a list of names, all apart -/
def Inv (w : World) (bm b base hb : Nat) (L : Int) (vo : Value) (j : Nat) (v : Value) (wr : World) : Prop :=
  ∃ S P x vg va vc vf cv gs, Jn S P base hb wr b L x vg va vc vf cv v gs ∧ Fv 45 wr bm (.int .i64 L) vg va vc vf ∧ gs.length ≤ j ∧ Ch NoB w wr ∧ (∀ q, S q → w.heap.size < q ∧ q ≠ bm) ∧ (∀ q, P q → q ≠ bm) ∧ (∀ q, Blk v q → w.heap.size < q ∧ q ≠ bm) ∧ w.heap.size < bm ∧ wr.cell? ⟨w.heap.size, 2, none⟩ = some vo
theorem Inv.still {w w1 wr : World} {bm b base hb j : Nat} {L : Int} {vo v : Value} (h : Inv w bm b base hb L vo j v wr) (g : Ch NoB wr w1) : Inv w bm b base hb L vo j v w1 := by
  obtain ⟨S, P, x, vg, va, vc, vf, cv, gs, h1, h2, h3, h4, h5, h6, h7, h8, h9⟩ := h
  exact ⟨S, P, x, vg, va, vc, vf, cv, gs, h1.same g, h2.ch g (noB _), h3, h4.trans' g, h5, h6, h7, h8, (g.cell (by have := h2.lt; omega) (noB _)).trans h9⟩
/-- behind a call, its state stored -/
theorem Inv.step {w wr w1 w5 : World} {bm b base hb j : Nat} {L : Int} {vo v v' : Value} {S P S' P' : Nat → Prop} {x' : Sl} {vg va vc vf vg' va' vc' vf' : Value} {cv' : List Value} {gs gs' : List (Int × Int)}
    (hf : Fv 45 wr bm (.int .i64 L) vg va vc vf) (hl : gs.length ≤ j) (g : Ch NoB w wr) (hS : ∀ q, S q → w.heap.size < q ∧ q ≠ bm) (hP : ∀ q, P q → q ≠ bm) (hV : ∀ q, Blk v q → w.heap.size < q ∧ q ≠ bm) (hbm : w.heap.size < bm) (hbx : wr.cell? ⟨w.heap.size, 2, none⟩ = some vo)
    (J : Jn S' P' base hb w1 b L x' vg' va' vc' vf' cv' v' gs') (hl' : gs'.length ≤ gs.length + 1) (gC : Ch (fun q => S q ∨ Blk v q) wr w1) (nS : ∀ q, S' q → S q ∨ wr.heap.size ≤ q) (nP : ∀ q, P' q → P q ∨ wr.heap.size ≤ q) (nV : ∀ q, Blk v' q → Blk v q ∨ wr.heap.size ≤ q)
    (g5 : Ch (Only bm) w1 w5) (f5 : Fv 45 w5 bm (.int .i64 L) vg' va' vc' vf') : Inv w bm b base hb L vo (j + 1) v' w5 := by
  have hlt := hf.lt
  have g1 : Ch NoB w w1 := g.trans gC (fun q e => .inr (e.elim (fun a => Nat.le_of_lt (hS q a).1) (fun a => Nat.le_of_lt (hV q a).1)))
  have s1 := g.size
  have sS : ∀ q, S' q → w.heap.size < q ∧ q ≠ bm := fun q a => (nS q a).elim (hS q) (fun a => ⟨by omega, by omega⟩)
  have sP : ∀ q, P' q → q ≠ bm := fun q a => (nP q a).elim (hP q) (fun a => by omega)
  have sV : ∀ q, Blk v' q → w.heap.size < q ∧ q ≠ bm := fun q a => (nV q a).elim (hV q) (fun a => ⟨by omega, by omega⟩)
  refine ⟨S', P', x', vg', va', vc', vf', cv', gs', J.put g5 (fun q a e => (sS q a).2 e) (fun q a e => sP q a e) (fun q a e => (sV q a).2 e), f5, by omega, g1.trans g5 (fun q e => .inr (by have e1 : q = bm := e; omega)), sS, sP, sV, hbm, ?_⟩
  have k1 := (gC.cell (b := w.heap.size) (o := 2) (by omega) (fun e => e.elim (fun a => by have := (hS _ a).1; omega) (fun a => by have := (hV _ a).1; omega))).trans hbx
  exact (g5.cell (b := w.heap.size) (o := 2) (by have := gC.size; omega) (fun e => by have e1 : w.heap.size = bm := e; omega)).trans k1

/-- what SlabPlays stands on when its first call begins -/
theorem Inv.new {w w0 w1 w2 : World} {b n cap : Nat} {L : Int} {ca : Option Addr} {vo : Value} {o0 o1 : Value} {T0 : Nat} (e0 : w0 = w.alloc (.cells #[o0, o1, vo] T0)) (hL : Sized L n) (hb : w0.heap.size ≤ b) (s1 : SlabAt w0.heap.size w1 b L (newSl n)) (g1 : Ch NoB w0 w1) (o2 : Ow 41 w1.heap.size w2 (.slice ca n cap) (List.replicate n (.slice none 0 0))) (g2 : Ch NoB w1 w2) :
    Inv w w2.heap.size b w0.heap.size (w2.heap.size + 1) L vo 0 (.slice none 0 0) (w2.alloc (.cells #[.int .i64 L, .slice none 0 0, .slice none 0 0, .slice ca n cap, .slice none 0 0] 45)) := by
  have h0 : w0.heap.size = w.heap.size + 1 := by rw [e0]; simp
  have k1 := g1.size
  have k2 := g2.size
  obtain ⟨vg, va, vc, vf, cv, f1, t1, n1⟩ := s1
  have hbl : b < w1.heap.size := f1.lt
  have i1 : SlabIn (fun q => w0.heap.size ≤ q ∧ q < w1.heap.size) w0.heap.size w1 b L (newSl n) := ⟨vg, va, vc, vf, cv, f1, t1, n1, ⟨hb, hbl⟩, fun q a => t1.blk a, fun q a => a.2⟩
  have gA : Ch NoB w2 (w2.alloc (.cells #[.int .i64 L, .slice none 0 0, .slice none 0 0, .slice ca n cap, .slice none 0 0] 45)) := (Ch.refl _ _).alloc _
  have st := St.nils o2
  have hlt2 : w2.heap.size + 1 ≤ (w2.alloc (.cells #[.int .i64 L, .slice none 0 0, .slice none 0 0, .slice ca n cap, .slice none 0 0] 45)).heap.size := by simp
  refine ⟨fun q => w0.heap.size ≤ q ∧ q < w1.heap.size, fun q => w1.heap.size ≤ q ∧ q < w2.heap.size, newSl n, _, _, _, _, _, [], ⟨(i1.ch g2 (fun _ _ => noB _)).ch gA (fun _ _ => noB _), (st.rd.mono (fun q _ a => st.blk a)).ch gA (fun _ _ _ => noB _), Pr.nil _ _, May.new hL.1.1 hL.1.2 (by have := hL.2.1; omega) (by have := hL.2.2; omega), (by omega), hlt2, fun q a e => (by omega), fun q a => (by cases a), fun q a => (by cases a), fun q a => Nat.lt_of_lt_of_le a.2 (by simp)⟩, Fv.new _ w2 _ _ _ _ _, by simp, ?_, fun q a => ⟨by omega, by omega⟩, fun q a => (by omega), fun q a => (by cases a), by omega, ?_⟩
  · have g0 : Ch NoB w w0 := by rw [e0]; exact (Ch.refl _ _).alloc _
    exact ((g0.trans' g1).trans' g2).trans' gA
  · have c0 : w0.cell? ⟨w.heap.size, 2, none⟩ = some vo := by rw [e0]; simp
    exact (((g1.trans' g2).trans' gA).cell (by omega) (noB _)).trans c0
end Go.Proofs.Ytfbkifkfhgkdbab.Sb
