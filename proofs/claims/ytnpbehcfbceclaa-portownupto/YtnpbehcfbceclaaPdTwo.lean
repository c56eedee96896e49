/-
  A port that was made since, and a state of the document's beside it, apart; what calls on either side leave of them. No conditions but that both may be.
-/
import Derived.Test.YtnpbehcfbceclaaPdDlvQ
namespace Go.Proofs.Ytnpbehcfbceclaa.Lt
open Go.RowKit Wd

/-- the document's Get, whole -/
theorem rget_any {P Q : Nat → Prop} (w : World) (x : Pt) (v1 v2 : Value) (h1 : Ls eI P w v1 x.out) (h2 : Ls eG Q w v2 x.inn) (hok : x.ok) :
    Calls Try.prog 26 #[stV x v1 v2] w fun e w' => ∃ u1 u2, e = .returned (.tuple #[stV (getP x) u1 u2, .int .i64 (firstG x.inn).1, .int .i64 (firstG x.inn).2]) ∧ RdR P Q w (getP x) u1 u2 w' := by
  obtain ⟨q, cap, out, inn, lost⟩ := x
  have k1 : out.length ≤ 1024 := Nat.le_trans hok.o hok.c2
  have k2 : inn.length ≤ 1024 := Nat.le_trans hok.i hok.c2
  dsimp only at h1 h2
  cases inn with
  | nil =>
    have e : getP ⟨q, cap, out, [], lost⟩ = ⟨q, cap, out, [], lost⟩ := by cases q <;> rfl
    rw [e]
    exact rget0_any w ⟨q, cap, out, [], lost⟩ v1 v2 h1 h2 rfl
  | cons u us =>
    obtain ⟨uv, ua⟩ := u
    obtain ⟨a1, c1, rfl⟩ := h1.form
    obtain ⟨g, o, c2, rfl, _⟩ := h2.get eG_len (i := 0) (a := ⟨uv, ua⟩) rfl
    cases q
    · exact rgets_any w cap lost a1 _ _ c1 c2 g o out uv ua us h1 h2
    · exact rgetq_any w cap lost a1 _ _ c1 c2 g o out uv ua us h1 h2 k1 k2
/-- the document's Deliver, whole -/
theorem rdlv_any {P Q : Nat → Prop} (w : World) (x : Pt) (v1 v2 : Value) (h1 : Ls eI P w v1 x.out) (h2 : Ls eG Q w v2 x.inn) (hok : x.ok) :
    Calls Try.prog 27 #[stV x v1 v2] w fun e w' => ∃ u1 u2, e = .returned (stV (dlvP x) u1 u2) ∧ RdR P Q w (dlvP x) u1 u2 w' := by
  obtain ⟨q, cap, out, inn, lost⟩ := x
  dsimp only at h1 h2
  obtain ⟨a1, c1, rfl⟩ := h1.form
  obtain ⟨a2, c2, rfl⟩ := h2.form
  cases q
  · exact rdlvs_any w cap lost a1 a2 _ _ c1 c2 out inn h1 h2 hok
  · exact rdlvq_any w cap lost a1 a2 _ _ c1 c2 out inn h1 h2 hok
/-- a port and a state's two lists, apart -/
def Nd (w W : World) (p : Nat) (x : Pt) (v1 v2 : Value) (y : Pt) : Prop := Gr w W ∧ x.ok ∧ y.ok ∧ ∃ T, Pm T W p x ∧ (∀ g, T g → w.heap.size ≤ g) ∧ Ls eI (fun g => ¬ T g) W v1 y.out ∧ Ls eG (fun g => ¬ T g) W v2 y.inn
section
variable {w W W' : World} {p : Nat} {x x' y y' : Pt} {v1 v2 u1 u2 : Value}
theorem Nd.of (h : Nw w W p x) (hy : y.ok) (h1 : y.out = []) (h2 : y.inn = []) : Nd w W p x (.slice none 0 0) (.slice none 0 0) y := by
  obtain ⟨g, k, T, k1, k2⟩ := h
  refine ⟨g, k, hy, T, k1, k2, ?_, ?_⟩
  · rw [h1]
    exact Ls.nil _ _ _
  · rw [h2]
    exact Ls.nil _ _ _
theorem Nd.gr (h : Nd w W p x v1 v2 y) (g : Gr W W') : Nd w W' p x v1 v2 y := by
  obtain ⟨c, a, b, T, h1, h2, h3, h4⟩ := h
  exact ⟨Gr.trans c g, a, b, T, h1.gr g, h2, h3.gr g, h4.gr g⟩
theorem Nd.pl {T : Nat → Prop} (g : Gr w W) (b : y.ok) (h1 : Pm T W p x) (h2 : ∀ g, T g → w.heap.size ≤ g) (h3 : Ls eI (fun g => ¬ T g) W v1 y.out) (h4 : Ls eG (fun g => ¬ T g) W v2 y.inn) (hp : PL T W W' p x') (hok : x'.ok) : Nd w W' p x' v1 v2 y := by
  have _ := h1
  obtain ⟨c, T', k1, k2⟩ := hp
  have ha : ∀ g, g < W.heap.size → ¬ T g → ¬ T' g := fun q hq hn e => (k2 q e).elim hn (fun e => by omega)
  exact ⟨Ch.trans g c (fun r e => .inr (h2 r e)), hok, b, T', k1, fun r e => (k2 r e).elim (h2 r) (fun e => Nat.le_trans g.size e), ((h3.mono (Q := fun g => ¬ T g ∧ ¬ T' g) (fun q hq e => ⟨e, ha q hq e⟩)).ch c (fun _ _ e => e.1)).mono (fun _ _ e => e.2), ((h4.mono (Q := fun g => ¬ T g ∧ ¬ T' g) (fun q hq e => ⟨e, ha q hq e⟩)).ch c (fun _ _ e => e.1)).mono (fun _ _ e => e.2)⟩
theorem dput (v : Int) (h : Nd w W p x v1 v2 y) : Calls Try.prog 19 #[.pointer (some ⟨p, 0, none⟩), .int .i64 v] W fun e W' => e = .returned (.bool (putP x v).2) ∧ Nd w W' p (putP x v).1 v1 v2 y := by
  obtain ⟨g, k, b, T, h1, h2, h3, h4⟩ := h
  refine (put_any v h1 k).mono ?_
  rintro e W' ⟨k1, k2⟩
  exact ⟨k1, Nd.pl g b h1 h2 h3 h4 k2 (k.put v)⟩
theorem dget (h : Nd w W p x v1 v2 y) : Calls Try.prog 20 #[.pointer (some ⟨p, 0, none⟩)] W fun e W' => e = .returned (.tuple #[.int .i64 (firstG x.inn).1, .int .i64 (firstG x.inn).2]) ∧ Nd w W' p (getP x) v1 v2 y := by
  obtain ⟨g, k, b, T, h1, h2, h3, h4⟩ := h
  refine (get_any h1 k).mono ?_
  rintro e W' ⟨k1, k2⟩
  exact ⟨k1, Nd.pl g b h1 h2 h3 h4 k2 k.get⟩
theorem ddeliver (h : Nd w W p x v1 v2 y) : Calls Try.prog 21 #[.pointer (some ⟨p, 0, none⟩)] W fun e W' => e = .returned (.tuple #[]) ∧ Nd w W' p (dlvP x) v1 v2 y := by
  obtain ⟨g, k, b, T, h1, h2, h3, h4⟩ := h
  refine (deliver_any h1 k).mono ?_
  rintro e W' ⟨k1, k2⟩
  exact ⟨k1, Nd.pl g b h1 h2 h3 h4 k2 k.dlv⟩
theorem rput (v : Int) (h : Nd w W p x v1 v2 y) : Calls Try.prog 25 #[stV y v1 v2, .int .i64 v] W fun e W' => ∃ u1 u2, e = .returned (.tuple #[stV (putP y v).1 u1 u2, .bool (putP y v).2]) ∧ Nd w W' p x u1 u2 (putP y v).1 := by
  obtain ⟨g, k, b, T, h1, h2, h3, h4⟩ := h
  refine (rput_any W y v v1 v2 h3 h4 b).mono ?_
  rintro e W' ⟨u1, u2, k1, l1, l2, k2⟩
  have ha : ∀ q, q < W'.heap.size → (¬ T q ∨ W.heap.size ≤ q) → ¬ T q := fun q _ e e' => e.elim (fun e => e e') (fun e => by have := h1.1 q e'; omega)
  exact ⟨u1, u2, k1, Gr.trans g k2, k, b.put v, T, h1.gr k2, h2, l1.mono ha, l2.mono ha⟩
theorem rget (h : Nd w W p x v1 v2 y) : Calls Try.prog 26 #[stV y v1 v2] W fun e W' => ∃ u1 u2, e = .returned (.tuple #[stV (getP y) u1 u2, .int .i64 (firstG y.inn).1, .int .i64 (firstG y.inn).2]) ∧ Nd w W' p x u1 u2 (getP y) := by
  obtain ⟨g, k, b, T, h1, h2, h3, h4⟩ := h
  refine (rget_any W y v1 v2 h3 h4 b).mono ?_
  rintro e W' ⟨u1, u2, k1, l1, l2, k2⟩
  have ha : ∀ q, q < W'.heap.size → (¬ T q ∨ W.heap.size ≤ q) → ¬ T q := fun q _ e e' => e.elim (fun e => e e') (fun e => by have := h1.1 q e'; omega)
  exact ⟨u1, u2, k1, Gr.trans g k2, k, b.get, T, h1.gr k2, h2, l1.mono ha, l2.mono ha⟩
theorem rdeliver (h : Nd w W p x v1 v2 y) : Calls Try.prog 27 #[stV y v1 v2] W fun e W' => ∃ u1 u2, e = .returned (stV (dlvP y) u1 u2) ∧ Nd w W' p x u1 u2 (dlvP y) := by
  obtain ⟨g, k, b, T, h1, h2, h3, h4⟩ := h
  refine (rdlv_any W y v1 v2 h3 h4 b).mono ?_
  rintro e W' ⟨u1, u2, k1, l1, l2, k2⟩
  have ha : ∀ q, q < W'.heap.size → (¬ T q ∨ W.heap.size ≤ q) → ¬ T q := fun q _ e e' => e.elim (fun e => e e') (fun e => by have := h1.1 q e'; omega)
  exact ⟨u1, u2, k1, Gr.trans g k2, k, b.dlv, T, h1.gr k2, h2, l1.mono ha, l2.mono ha⟩
/-- the program's State, and the document's Same of it -/
theorem dstate (h : Nd w W p x v1 v2 y) : Calls Try.prog 14 #[.pointer (some ⟨p, 0, none⟩)] W fun e W' => ∃ u1 u2, e = .returned (stV x u1 u2) ∧ Ow eI 1 2 W.heap.size W' u1 x.out ∧ Ow eG 2 59 W.heap.size W' u2 x.inn ∧ Nd w W' p x v1 v2 y := by
  have h0 := h
  obtain ⟨g, k, b, T, h1, h2, h3, h4⟩ := h
  refine (state_any h1 k).mono ?_
  rintro e W' ⟨u1, u2, k1, l1, l2, k2⟩
  exact ⟨u1, u2, k1, l1, l2, h0.gr k2⟩
theorem dsame {P1 P2 : Nat → Prop} (h : Nd w W p x v1 v2 x) (l1 : Ls eI P1 W u1 x.out) (l2 : Ls eG P2 W u2 x.inn) : Calls Try.prog 13 #[stV x u1 u2, stV x v1 v2] W fun e W' => e = .returned (.bool true) ∧ Nd w W' p x v1 v2 x := by
  have h0 := h
  obtain ⟨g, k, b, T, h1, h2, h3, h4⟩ := h
  have m1 : x.out.length ≤ 1024 := Nat.le_trans k.o k.c2
  have m2 : x.inn.length ≤ 1024 := Nat.le_trans k.i k.c2
  obtain ⟨a1, c1, rfl⟩ := l1.form
  obtain ⟨a2, c2, rfl⟩ := l2.form
  obtain ⟨a3, c3, rfl⟩ := h3.form
  obtain ⟨a4, c4, rfl⟩ := h4.form
  refine (rsame_any W x.q x.cap x.lost a1 a2 a3 a4 _ _ c1 c2 c3 c4 x.out x.inn l1 l2 h3 h4 (by omega) (by omega)).mono ?_
  rintro e W' ⟨k1, k2⟩
  exact ⟨k1, h0.gr k2⟩
end
end Go.Proofs.Ytnpbehcfbceclaa.Lt
