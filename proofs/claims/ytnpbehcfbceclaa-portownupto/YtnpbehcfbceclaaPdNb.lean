/-
  A port and a state's two lists, apart, and away from some blocks that are to stay. No conditions but those that each theorem names.
-/
import Derived.Test.YtnpbehcfbceclaaPdTwo
namespace Go.Proofs.Ytnpbehcfbceclaa.Lt
open Go.RowKit Wd

def Nb (B : Nat → Prop) (w W : World) (p : Nat) (x : Pt) (v1 v2 : Value) (y : Pt) : Prop := Gr w W ∧ x.ok ∧ y.ok ∧ ∃ T, Pm T W p x ∧ (∀ g, T g → w.heap.size ≤ g ∧ ¬ B g) ∧ Ls eI (fun g => ¬ T g ∧ ¬ B g) W v1 y.out ∧ Ls eG (fun g => ¬ T g ∧ ¬ B g) W v2 y.inn
section
variable {B B' : Nat → Prop} {w W W' : World} {p : Nat} {x x' y y' : Pt} {v1 v2 u1 u2 : Value}
theorem Nd.nb (h : Nd w W p x v1 v2 y) (hB : ∀ g, B g → W.heap.size ≤ g) : Nb B w W p x v1 v2 y := by
  obtain ⟨g, a, b, T, h1, h2, h3, h4⟩ := h
  refine ⟨g, a, b, T, h1, fun q hq => ⟨h2 q hq, fun e => by have := h1.1 q hq; have := hB q e; omega⟩, h3.mono (fun q hq e => ⟨e, fun k => by have := hB q k; omega⟩), h4.mono (fun q hq e => ⟨e, fun k => by have := hB q k; omega⟩)⟩
theorem Nb.nd (h : Nb B w W p x v1 v2 y) : Nd w W p x v1 v2 y := by
  obtain ⟨g, a, b, T, h1, h2, h3, h4⟩ := h
  exact ⟨g, a, b, T, h1, fun q hq => (h2 q hq).1, h3.mono (fun _ _ e => e.1), h4.mono (fun _ _ e => e.1)⟩
theorem Nb.add (h : Nb B w W p x v1 v2 y) (hB : ∀ g, B' g → B g ∨ W.heap.size ≤ g) : Nb B' w W p x v1 v2 y := by
  obtain ⟨g, a, b, T, h1, h2, h3, h4⟩ := h
  refine ⟨g, a, b, T, h1, fun q hq => ⟨(h2 q hq).1, fun e => (hB q e).elim (h2 q hq).2 (fun e => by have := h1.1 q hq; omega)⟩, h3.mono (fun q hq e => ⟨e.1, fun k => (hB q k).elim e.2 (fun k => by omega)⟩), h4.mono (fun q hq e => ⟨e.1, fun k => (hB q k).elim e.2 (fun k => by omega)⟩)⟩
theorem Nb.gr (h : Nb B w W p x v1 v2 y) (g : Gr W W') : Nb B w W' p x v1 v2 y := by
  obtain ⟨c, a, b, T, h1, h2, h3, h4⟩ := h
  exact ⟨Gr.trans c g, a, b, T, h1.gr g, h2, h3.gr g, h4.gr g⟩
/-- blocks that are to stay are written -/
theorem Nb.st {S : Nat → Prop} (h : Nb B w W p x v1 v2 y) (c : Ch S W W') (hS : ∀ g, S g → B g) (hw : ∀ g, S g → w.heap.size ≤ g) : Nb B w W' p x v1 v2 y := by
  obtain ⟨g, a, b, T, h1, h2, h3, h4⟩ := h
  exact ⟨Ch.trans g c (fun q e => .inr (hw q e)), a, b, T, h1.ch c (fun q hq e => (h2 q hq).2 (hS q e)), h2, h3.ch c (fun q _ e k => e.2 (hS q k)), h4.ch c (fun q _ e k => e.2 (hS q k))⟩
theorem Nb.pl {T : Nat → Prop} (g : Gr w W) (b : y.ok) (h1 : Pm T W p x) (h2 : ∀ g, T g → w.heap.size ≤ g ∧ ¬ B g) (h3 : Ls eI (fun g => ¬ T g ∧ ¬ B g) W v1 y.out) (h4 : Ls eG (fun g => ¬ T g ∧ ¬ B g) W v2 y.inn) (hB : ∀ g, B g → g < W.heap.size) (hp : PL T W W' p x') (hok : x'.ok) : Nb B w W' p x' v1 v2 y ∧ Ch (fun g => ¬ B g) W W' := by
  have _ := h1
  obtain ⟨c, T', k1, k2⟩ := hp
  have ha : ∀ g, g < W.heap.size → ¬ T g → ¬ T' g := fun q hq hn e => (k2 q e).elim hn (fun e => by omega)
  refine ⟨⟨Ch.trans g c (fun r e => .inr (h2 r e).1), hok, b, T', k1, fun r e => ⟨(k2 r e).elim (fun q => (h2 r q).1) (fun e => Nat.le_trans g.size e), fun k => (k2 r e).elim (fun q => (h2 r q).2 k) (fun q => by have := hB r k; omega)⟩, ((h3.mono (Q := fun g => ¬ T g ∧ ¬ T' g ∧ ¬ B g) (fun q hq e => ⟨e.1, ha q hq e.1, e.2⟩)).ch c (fun _ _ e => e.1)).mono (fun _ _ e => e.2), ((h4.mono (Q := fun g => ¬ T g ∧ ¬ T' g ∧ ¬ B g) (fun q hq e => ⟨e.1, ha q hq e.1, e.2⟩)).ch c (fun _ _ e => e.1)).mono (fun _ _ e => e.2)⟩, c.mono (fun q e => .inl (h2 q e).2)⟩
theorem bput (v : Int) (h : Nb B w W p x v1 v2 y) (hB : ∀ g, B g → g < W.heap.size) : Calls Try.prog 19 #[.pointer (some ⟨p, 0, none⟩), .int .i64 v] W fun e W' => e = .returned (.bool (putP x v).2) ∧ Nb B w W' p (putP x v).1 v1 v2 y ∧ Ch (fun g => ¬ B g) W W' := by
  obtain ⟨g, k, b, T, h1, h2, h3, h4⟩ := h
  refine (put_any v h1 k).mono ?_
  rintro e W' ⟨k1, k2⟩
  exact ⟨k1, Nb.pl g b h1 h2 h3 h4 hB k2 (k.put v)⟩
theorem bget (h : Nb B w W p x v1 v2 y) (hB : ∀ g, B g → g < W.heap.size) : Calls Try.prog 20 #[.pointer (some ⟨p, 0, none⟩)] W fun e W' => e = .returned (.tuple #[.int .i64 (firstG x.inn).1, .int .i64 (firstG x.inn).2]) ∧ Nb B w W' p (getP x) v1 v2 y ∧ Ch (fun g => ¬ B g) W W' := by
  obtain ⟨g, k, b, T, h1, h2, h3, h4⟩ := h
  refine (get_any h1 k).mono ?_
  rintro e W' ⟨k1, k2⟩
  exact ⟨k1, Nb.pl g b h1 h2 h3 h4 hB k2 k.get⟩
theorem bdeliver (h : Nb B w W p x v1 v2 y) (hB : ∀ g, B g → g < W.heap.size) : Calls Try.prog 21 #[.pointer (some ⟨p, 0, none⟩)] W fun e W' => e = .returned (.tuple #[]) ∧ Nb B w W' p (dlvP x) v1 v2 y ∧ Ch (fun g => ¬ B g) W W' := by
  obtain ⟨g, k, b, T, h1, h2, h3, h4⟩ := h
  refine (deliver_any h1 k).mono ?_
  rintro e W' ⟨k1, k2⟩
  exact ⟨k1, Nb.pl g b h1 h2 h3 h4 hB k2 k.dlv⟩
theorem Nb.rd {T : Nat → Prop} (g : Gr w W) (k : x.ok) (h1 : Pm T W p x) (h2 : ∀ g, T g → w.heap.size ≤ g ∧ ¬ B g) (hB : ∀ g, B g → g < W.heap.size) (hr : RdR (fun g => ¬ T g ∧ ¬ B g) (fun g => ¬ T g ∧ ¬ B g) W y' u1 u2 W') (b : y'.ok) : Nb B w W' p x u1 u2 y' ∧ Gr W W' := by
  obtain ⟨l1, l2, k2⟩ := hr
  have ha : ∀ q, q < W'.heap.size → ((¬ T q ∧ ¬ B q) ∨ W.heap.size ≤ q) → ¬ T q ∧ ¬ B q := fun q _ e => e.elim id (fun e => ⟨fun e' => by have := h1.1 q e'; omega, fun e' => by have := hB q e'; omega⟩)
  exact ⟨⟨Gr.trans g k2, k, b, T, h1.gr k2, h2, l1.mono ha, l2.mono ha⟩, k2⟩
theorem brput (v : Int) (h : Nb B w W p x v1 v2 y) (hB : ∀ g, B g → g < W.heap.size) : Calls Try.prog 25 #[stV y v1 v2, .int .i64 v] W fun e W' => ∃ u1 u2, e = .returned (.tuple #[stV (putP y v).1 u1 u2, .bool (putP y v).2]) ∧ Nb B w W' p x u1 u2 (putP y v).1 ∧ Gr W W' := by
  obtain ⟨g, k, b, T, h1, h2, h3, h4⟩ := h
  refine (rput_any W y v v1 v2 h3 h4 b).mono ?_
  rintro e W' ⟨u1, u2, k1, hr⟩
  exact ⟨u1, u2, k1, Nb.rd g k h1 h2 hB hr (b.put v)⟩
theorem brget (h : Nb B w W p x v1 v2 y) (hB : ∀ g, B g → g < W.heap.size) : Calls Try.prog 26 #[stV y v1 v2] W fun e W' => ∃ u1 u2, e = .returned (.tuple #[stV (getP y) u1 u2, .int .i64 (firstG y.inn).1, .int .i64 (firstG y.inn).2]) ∧ Nb B w W' p x u1 u2 (getP y) ∧ Gr W W' := by
  obtain ⟨g, k, b, T, h1, h2, h3, h4⟩ := h
  refine (rget_any W y v1 v2 h3 h4 b).mono ?_
  rintro e W' ⟨u1, u2, k1, hr⟩
  exact ⟨u1, u2, k1, Nb.rd g k h1 h2 hB hr b.get⟩
theorem brdeliver (h : Nb B w W p x v1 v2 y) (hB : ∀ g, B g → g < W.heap.size) : Calls Try.prog 27 #[stV y v1 v2] W fun e W' => ∃ u1 u2, e = .returned (stV (dlvP y) u1 u2) ∧ Nb B w W' p x u1 u2 (dlvP y) ∧ Gr W W' := by
  obtain ⟨g, k, b, T, h1, h2, h3, h4⟩ := h
  refine (rdlv_any W y v1 v2 h3 h4 b).mono ?_
  rintro e W' ⟨u1, u2, k1, hr⟩
  exact ⟨u1, u2, k1, Nb.rd g k h1 h2 hB hr b.dlv⟩
theorem bstate (h : Nb B w W p x v1 v2 y) : Calls Try.prog 14 #[.pointer (some ⟨p, 0, none⟩)] W fun e W' => ∃ u1 u2, e = .returned (stV x u1 u2) ∧ Ow eI 1 2 W.heap.size W' u1 x.out ∧ Ow eG 2 59 W.heap.size W' u2 x.inn ∧ Nb B w W' p x v1 v2 y ∧ Gr W W' := by
  have h0 := h
  obtain ⟨g, k, b, T, h1, h2, h3, h4⟩ := h
  refine (state_any h1 k).mono ?_
  rintro e W' ⟨u1, u2, k1, l1, l2, k2⟩
  exact ⟨u1, u2, k1, l1, l2, h0.gr k2, k2⟩
theorem bsame {P1 P2 : Nat → Prop} (h : Nb B w W p x v1 v2 x) (l1 : Ls eI P1 W u1 x.out) (l2 : Ls eG P2 W u2 x.inn) : Calls Try.prog 13 #[stV x u1 u2, stV x v1 v2] W fun e W' => e = .returned (.bool true) ∧ Nb B w W' p x v1 v2 x ∧ Gr W W' := by
  have h0 := h
  obtain ⟨g, k, b, T, h1, h2, h3, h4⟩ := h
  have m1 : x.out.length ≤ 1024 := Nat.le_trans k.o k.c2
  have m2 : x.inn.length ≤ 1024 := Nat.le_trans k.i k.c2
  obtain ⟨a1, c1, rfl⟩ := l1.form
  obtain ⟨a2, c2, rfl⟩ := l2.form
  obtain ⟨a3, c3, rfl⟩ := h3.form
  obtain ⟨a4, c4, rfl⟩ := h4.form
  refine (rsame_any W x.q x.cap x.lost a1 a2 a3 a4 _ _ c1 c2 c3 c4 x.out x.inn l1 l2 h3 h4 (by omega) (by omega)).mono ?_
  rintro e W' ⟨k1, k2⟩
  exact ⟨k1, h0.gr k2, k2⟩
end
end Go.Proofs.Ytnpbehcfbceclaa.Lt
