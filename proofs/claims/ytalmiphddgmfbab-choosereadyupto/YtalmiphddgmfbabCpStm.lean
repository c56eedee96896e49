/-
  A channel of a list in memory is set whole; a channel's copy of the program. Condition: lists are not too long.
  What the program's State of layer 11 answers. Condition: lists are not too long.
-/
import Derived.Test.YtalmiphddgmfbabCpMk
import Derived.Deep.Cut
import Derived.Test.YtalmiphddgmfbabCnNx
namespace Go.Proofs.Ytalmiphddgmfbab.Lt
open Go.RowKit Wd
attribute [local go_sem ↓] Go.wp_at_zero Go.wp_at_succ

/-- five cells of a block are set -/
def put5 (w : World) (g o : Nat) (x : Rw) : World := ((((w.setCell ⟨g, o, none⟩ (.int .i64 x.cap)).setCell ⟨g, o + 1, none⟩ x.v).setCell ⟨g, o + 2, none⟩ x.s).setCell ⟨g, o + 3, none⟩ x.r).setCell ⟨g, o + 4, none⟩ (.bool x.cl)
theorem put5_ch (w : World) (g o : Nat) (x : Rw) : Ch (Only g) w (put5 w g o x) := (((((Ch.refl _ _).own _ _).own _ _).own _ _).own _ _).own _ _
theorem Ow.row5 {T base : Nat} {w : World} {v : Value} {xs : List Rw} {i : Nat} {x : Rw} (h : Ow eR 5 T base w v xs) (hx : xs[i]? = some x) (y : Rw) : ∃ g ca, v = .slice (some ⟨g, 0, none⟩) xs.length ca ∧ base ≤ g ∧ g < w.heap.size ∧ (∀ o, w.frozen? ⟨g, o, none⟩ = false) ∧ (∀ j u, (eR x)[j]? = some u → w.cell? ⟨g, i * 5 + j, none⟩ = some u) ∧ Ow eR 5 T base (put5 w g (i * 5) y) v (xs.set i y) := by
  have hi := (List.getElem?_eq_some_iff.1 hx).1
  obtain ⟨g, ca, e, hb, hg, hl, hcs, hfz, hst⟩ := h.get eR_len hx
  refine ⟨g, ca, e, hb, hg, hfz, hcs, ?_⟩
  have same : ∀ {W : World} {zs : List Rw} {g' ca' : Nat}, v = .slice (some ⟨g', 0, none⟩) zs.length ca' → g' = g := by
    intro W zs g' ca' q
    rw [e] at q
    injection q with q _ _
    injection q with q
    injection q with q _ _
    exact q.symm
  have h0 := hst 0 (.int .i64 y.cap) ⟨y.cap, x.v, x.s, x.r, x.cl⟩ (by omega) rfl
  obtain ⟨g1, c1, e1, -, -, -, -, -, st1⟩ := h0.get eR_len (List.getElem?_set_self hi)
  obtain rfl := same (W := w) e1
  have h1 := st1 1 y.v ⟨y.cap, y.v, x.s, x.r, x.cl⟩ (by omega) rfl
  obtain ⟨g2, c2, e2, -, -, -, -, -, st2⟩ := h1.get eR_len (i := i) (List.getElem?_set_self (by simpa using hi))
  obtain rfl := same (W := w) e2
  have h2 := st2 2 y.s ⟨y.cap, y.v, y.s, x.r, x.cl⟩ (by omega) rfl
  obtain ⟨g3, c3, e3, -, -, -, -, -, st3⟩ := h2.get eR_len (i := i) (List.getElem?_set_self (by simpa using hi))
  obtain rfl := same (W := w) e3
  have h3 := st3 3 y.r ⟨y.cap, y.v, y.s, y.r, x.cl⟩ (by omega) rfl
  obtain ⟨g4, c4, e4, -, -, -, -, -, st4⟩ := h3.get eR_len (i := i) (List.getElem?_set_self (by simpa using hi))
  obtain rfl := same (W := w) e4
  have h4 := st4 4 (.bool y.cl) ⟨y.cap, y.v, y.s, y.r, y.cl⟩ (by omega) rfl
  simp only [List.set_set] at h4
  exact h4
open Classical in
/-- a channel is another, whose lists are new -/
theorem NL.row {t : Nat → Tg} {base : Nat} {w w1 : World} {v : Value} {xs : List Rw} {cs : List Cn} {i : Nat} {x : Rw} {c : Cn} (h : NL t base w v xs cs) (hx : xs[i]? = some x) (hc : cs[i]? = some c) (g : Gr w w1) (y : Rw) (d : Cn) (hcap : y.cap = d.cap) (hcl : y.cl = d.cl)
    (hv : Ow eI 1 2 base w1 y.v d.vs) (hs : Ow eW 4 95 base w1 y.s d.ss) (hr : Ow eW 4 95 base w1 y.r d.rs)
    (nv : ∀ q, Blk y.v q → w.heap.size ≤ q) (ns : ∀ q, Blk y.s q → w.heap.size ≤ q ∧ ¬ Blk y.v q) (nr : ∀ q, Blk y.r q → w.heap.size ≤ q ∧ ¬ Blk y.v q ∧ ¬ Blk y.s q) :
    ∃ gO ca t', v = .slice (some ⟨gO, 0, none⟩) xs.length ca ∧ gO < w.heap.size ∧ (∀ o, w1.frozen? ⟨gO, o, none⟩ = false) ∧ (∀ j u, (eR x)[j]? = some u → w1.cell? ⟨gO, i * 5 + j, none⟩ = some u) ∧ (∀ q, q < w.heap.size → t' q = t q) ∧ NL t' base (put5 w1 gO (i * 5) y) v (xs.set i y) (cs.set i d) := by
  have h1 := h.gr g
  obtain ⟨gO, ca, e, hb, hg1, hfz, hcs, hO⟩ := h1.o.row5 hx y
  have hg : gO < w.heap.size := (h.o.blk (by rw [e]; rfl)).2
  have tO : t gO = .out := h.to gO (by rw [e]; rfl)
  have kk := put5_ch w1 gO (i * 5) y
  have hvb : ∀ q, Blk v q → q < w.heap.size := fun q hq => (h.o.blk hq).2
  have e0 : ∀ q, q < w.heap.size → (if q < w.heap.size then t q else if Blk y.v q then Tg.vs i else if Blk y.s q then .ss i else if Blk y.r q then .rs i else .no) = t q := fun q hq => if_pos hq
  refine ⟨gO, ca, fun q => if q < w.heap.size then t q else if Blk y.v q then .vs i else if Blk y.s q then .ss i else if Blk y.r q then .rs i else .no, e, hg, hfz, hcs, e0, hO, ?_, by rw [List.length_set, List.length_set]; exact h.n, ?_⟩
  · intro q hq
    exact (e0 q (hvb q hq)).trans (h.to q hq)
  · intro j z f hz hf
    by_cases hj : i = j
    · subst hj
      rw [List.getElem?_set_self (List.getElem?_eq_some_iff.1 hx).1] at hz
      rw [List.getElem?_set_self (List.getElem?_eq_some_iff.1 hc).1] at hf
      injection hz with hz
      injection hf with hf
      subst hz hf
      refine ⟨hcap, hcl, hv.ch kk (fun q hq hbb => ?_), fun q hq => ?_, hs.ch kk (fun q hq hbb => ?_), fun q hq => ?_, hr.ch kk (fun q hq hbb => ?_), fun q hq => ?_⟩
      · have e1 : q = gO := hbb; have := nv q hq; omega
      · show (if q < w.heap.size then t q else if Blk y.v q then Tg.vs i else _) = _
        rw [if_neg (by have := nv q hq; omega), if_pos hq]
      · have e1 : q = gO := hbb; have := (ns q hq).1; omega
      · show (if q < w.heap.size then t q else if Blk y.v q then Tg.vs i else if Blk y.s q then .ss i else _) = _
        rw [if_neg (by have := (ns q hq).1; omega), if_neg (ns q hq).2, if_pos hq]
      · have e1 : q = gO := hbb; have := (nr q hq).1; omega
      · show (if q < w.heap.size then t q else if Blk y.v q then Tg.vs i else if Blk y.s q then .ss i else if Blk y.r q then .rs i else .no) = _
        rw [if_neg (by have := (nr q hq).1; omega), if_neg (nr q hq).2.1, if_neg (nr q hq).2.2, if_pos hq]
    · rw [List.getElem?_set_ne hj] at hz hf
      have y1 := h1.f j z f hz hf
      have y0 := h.f j z f hz hf
      exact ⟨y1.cap, y1.cl, y1.v.ch kk (fun q hq hbb => by have e1 : q = gO := hbb; have e2 := y1.tv q hq; rw [e1, tO] at e2; cases e2), (fun q hq => (e0 q (y0.v.blk hq).2).trans (y0.tv q hq)), y1.s.ch kk (fun q hq hbb => by have e1 : q = gO := hbb; have e2 := y1.ts q hq; rw [e1, tO] at e2; cases e2), (fun q hq => (e0 q (y0.s.blk hq).2).trans (y0.ts q hq)), y1.r.ch kk (fun q hq hbb => by have e1 : q = gO := hbb; have e2 := y1.tr q hq; rw [e1, tO] at e2; cases e2), (fun q hq => (e0 q (y0.r.blk hq).2).trans (y0.tr q hq))⟩
/-- what copied tells -/
structure Cpd (w : World) (c : Cn) (y : Rw) (w' : World) : Prop where
  cap : y.cap = c.cap
  cl : y.cl = c.cl
  v : Ow eI 1 2 w.heap.size w' y.v c.vs
  s : Ow eW 4 95 w.heap.size w' y.s c.ss
  r : Ow eW 4 95 w.heap.size w' y.r c.rs
  ns : ∀ q, Blk y.s q → ¬ Blk y.v q
  nr : ∀ q, Blk y.r q → ¬ Blk y.v q ∧ ¬ Blk y.s q
  g : Gr w w'
def CpdR (w : World) (c : Cn) (e : Ending) (w' : World) : Prop := ∃ y, e = .returned (.agg #[.int .i64 y.cap, y.v, y.s, y.r, .bool y.cl]) ∧ Cpd w c y w'
theorem set5 {w : World} {B : Nat} {a b c d e u : Value} {T : TypeId} (h : w.heap[B]? = some (.cells #[a, b, c, d, e] T (0, 0))) :
    (w.setCell ⟨B, 1, none⟩ u).heap[B]? = some (.cells #[a, u, c, d, e] T (0, 0)) ∧ (w.setCell ⟨B, 2, none⟩ u).heap[B]? = some (.cells #[a, b, u, d, e] T (0, 0)) ∧ (w.setCell ⟨B, 3, none⟩ u).heap[B]? = some (.cells #[a, b, c, u, e] T (0, 0)) :=
  ⟨by simpa using setCell_block h 1 u, by simpa using setCell_block h 2 u, by simpa using setCell_block h 3 u⟩
set_option maxRecDepth 20000 in
set_option maxHeartbeats 4000000 in
theorem copied_any (P : Nat → Prop) (w : World) (x : Rw) (c : Cn) (hcap : x.cap = c.cap) (hcl : x.cl = c.cl) (hv : Ls eI P w x.v c.vs) (hs : Ls eW P w x.s c.ss) (hr : Ls eW P w x.r c.rs) (lv : c.vs.length ≤ 17592186044416) (ls : c.ss.length ≤ 4398046511104) (lr : c.rs.length ≤ 4398046511104) :
    Calls Try.prog 23 #[.agg #[.int .i64 x.cap, x.v, x.s, x.r, .bool x.cl]] w (CpdR w c) := by
  obtain ⟨cap, xv, xs, xr, cl⟩ := x
  dsimp only at hcap hcl hv hs hr ⊢
  obtain ⟨vo, vk, ev⟩ := hv.form
  obtain ⟨so, sk, es⟩ := hs.form
  obtain ⟨ro, rk, er⟩ := hr.form
  obtain ⟨vn, hvn⟩ : ∃ n, n = c.vs.length := ⟨_, rfl⟩
  obtain ⟨sn, hsn⟩ : ∃ n, n = c.ss.length := ⟨_, rfl⟩
  obtain ⟨rn, hrn⟩ : ∃ n, n = c.rs.length := ⟨_, rfl⟩
  rw [← hvn] at ev
  rw [← hsn] at es
  rw [← hrn] at er
  subst ev es er
  obtain ⟨W0, hW0⟩ : ∃ W0, W0 = (w.alloc (.cells #[.int .i64 cap, .slice vo vn vk, .slice so sn sk, .slice ro rn rk, .bool cl] 70)).alloc (.cells #[.int .i64 0, .slice none 0 0, .slice none 0 0, .slice none 0 0, .bool false] 70) := ⟨_, rfl⟩
  have g0 : Gr w W0 := by rw [hW0]; exact Ch.alloc (Ch.alloc (Gr.refl w) _) _
  have B0 := hid (show W0.heap[w.heap.size]? = some (.cells #[.int .i64 cap, .slice vo vn vk, .slice so sn sk, .slice ro rn rk, .bool cl] 70 (0, 0)) from by rw [hW0]; exact al_blk (MapKept.heap_alloc w _).1 _)
  have R0 := hid (show W0.heap[w.heap.size + 1]? = some (.cells #[.int .i64 0, .slice none 0 0, .slice none 0 0, .slice none 0 0, .bool false] 70 (0, 0)) from by rw [hW0]; exact al_at _ (by simp))
  have HC1 := hid (clone_any P _ _ W0 (hv.gr g0) lv)
  have HS := hid hs
  have HR := hid hr
  have G0 := hid g0
  have HCAP := hid hcap
  have HCL := hid hcl
  have LS := hid ls
  have LR := hid lr
  rw [hW0] at HC1
  clear hv hs hr hcap hcl lv ls lr g0 hvn hsn hrn
  go_enter Try.func23, Try.ntmps23
  go_upto_region 2 with (go_at_call 48; refine HC1.out.mono ?_; rintro e w1 ⟨v1, rfl, o1, g1⟩; rw [← hW0] at g1 o1; have G1 := hid g1; have O1 := hid o1; clear g1 o1; obtain ⟨a1, k1, rfl⟩ := O1.out.form; have b1 := gr_blk B0.out G1.out; have q1 := cell_of b1 1; have f1 := frozen_of b1 1; have l1 := lt_of_block b1; simp at q1; clear hW0)
  have B1 := hid (set5 (u := .slice a1 c.vs.length k1) b1).1
  have R1 := hid (show (w1.setCell ⟨w.heap.size, 1, none⟩ (.slice a1 c.vs.length k1)).heap[w.heap.size + 1]? = _ from (((Ch.refl (Only w.heap.size) w1).own 1 _).block _ (lt_of_block (gr_blk R0.out G1.out)) (fun e => by have e1 : w.heap.size + 1 = w.heap.size := e; omega)).trans (gr_blk R0.out G1.out))
  have GT1 := hid (show Gr w (w1.setCell ⟨w.heap.size, 1, none⟩ (.slice a1 c.vs.length k1)) from (Gr.trans G0.out G1.out).setCell (.inr (Nat.le_refl _)) _)
  have OT1 := hid (show Ow eI 1 2 (w.heap.size + 2) (w1.setCell ⟨w.heap.size, 1, none⟩ (.slice a1 c.vs.length k1)) (.slice a1 c.vs.length k1) c.vs from (O1.out.ch ((Ch.refl (Only w.heap.size) w1).own 1 _) (fun q hq e => by have e1 : q = w.heap.size := e; have := (O1.out.blk hq).1; have := lt_of_block R0.out; omega)).lower (by have := lt_of_block R0.out; omega))
  generalize (w1.setCell ⟨w.heap.size, 1, none⟩ (.slice a1 c.vs.length k1)) = w2 at B1 R1 GT1 OT1 ⊢
  clear b1 q1 f1 l1 O1 G1
  have p2 := cell_of B1.out 2
  simp at p2
  have HC2 := hid (clonew_any P _ _ w2 (HS.out.gr GT1.out) LS.out)
  go_upto_region 3 with (go_at_call 49; refine HC2.out.mono ?_; rintro e w3 ⟨v3, rfl, o3, g3⟩; have G3 := hid g3; have O3 := hid o3; clear g3 o3; obtain ⟨a3, k3, rfl⟩ := O3.out.form; have b3 := gr_blk B1.out G3.out; have q3 := cell_of b3 2; have f3 := frozen_of b3 2; have l3 := lt_of_block b3; simp at q3)
  have K3 := hid (show Ch (Only w.heap.size) w3 (w3.setCell ⟨w.heap.size, 2, none⟩ (.slice a3 c.ss.length k3)) from (Ch.refl _ _).own 2 _)
  have B3 := hid (set5 (u := .slice a3 c.ss.length k3) b3).2.1
  have R3 := hid ((K3.out.block _ (lt_of_block (gr_blk R1.out G3.out)) (fun e => by have e1 : w.heap.size + 1 = w.heap.size := e; omega)).trans (gr_blk R1.out G3.out))
  have GT3 := hid (show Gr w (w3.setCell ⟨w.heap.size, 2, none⟩ (.slice a3 c.ss.length k3)) from (Gr.trans GT1.out G3.out).setCell (.inr (Nat.le_refl _)) _)
  have OT2 := hid ((OT1.out.gr G3.out).ch K3.out (fun q hq e => by have e1 : q = w.heap.size := e; have := (OT1.out.blk hq).1; omega))
  have OT3 := hid (O3.out.ch K3.out (fun q hq e => by have e1 : q = w.heap.size := e; have := (O3.out.blk hq).1; have := lt_of_block R1.out; omega))
  have ND := hid (show ∀ q, Blk (.slice a3 c.ss.length k3) q → ¬ Blk (.slice a1 c.vs.length k1) q from fun q h1 h2 => by have := (O3.out.blk h1).1; have := (OT1.out.blk h2).2; omega)
  have LB := hid (show w.heap.size + 2 ≤ w2.heap.size from by have := lt_of_block R1.out; omega)
  generalize (w3.setCell ⟨w.heap.size, 2, none⟩ (.slice a3 c.ss.length k3)) = w4 at K3 B3 R3 GT3 OT2 OT3 ⊢
  clear b3 q3 f3 l3 O3 G3 OT1 K3
  have p3 := cell_of B3.out 3
  simp at p3
  have HC3 := hid (clonew_any P _ _ w4 (HR.out.gr GT3.out) LR.out)
  go_upto_region 4 with (go_at_call 49; refine HC3.out.mono ?_; rintro e w5 ⟨v5, rfl, o5, g5⟩; have G5 := hid g5; have O5 := hid o5; clear g5 o5; obtain ⟨a5, k5, rfl⟩ := O5.out.form; have b5 := gr_blk B3.out G5.out; have q5 := cell_of b5 3; have f5 := frozen_of b5 3; have l5 := lt_of_block b5; simp at q5)
  have K5 := hid (show Ch (Only w.heap.size) w5 (w5.setCell ⟨w.heap.size, 3, none⟩ (.slice a5 c.rs.length k5)) from (Ch.refl _ _).own 3 _)
  have B5 := hid (set5 (u := .slice a5 c.rs.length k5) b5).2.2
  have R5 := hid ((K5.out.block _ (lt_of_block (gr_blk R3.out G5.out)) (fun e => by have e1 : w.heap.size + 1 = w.heap.size := e; omega)).trans (gr_blk R3.out G5.out))
  have GT5 := hid (show Gr w (w5.setCell ⟨w.heap.size, 3, none⟩ (.slice a5 c.rs.length k5)) from (Gr.trans GT3.out G5.out).setCell (.inr (Nat.le_refl _)) _)
  have OT4 := hid ((OT2.out.gr G5.out).ch K5.out (fun q hq e => by have e1 : q = w.heap.size := e; have := (OT2.out.blk hq).1; omega))
  have OT5 := hid ((OT3.out.gr G5.out).ch K5.out (fun q hq e => by have e1 : q = w.heap.size := e; have := (OT3.out.blk hq).1; have := LB.out; omega))
  have OT6 := hid (O5.out.ch K5.out (fun q hq e => by have e1 : q = w.heap.size := e; have := (O5.out.blk hq).1; have := lt_of_block R3.out; omega))
  have NR := hid (show ∀ q, Blk (.slice a5 c.rs.length k5) q → ¬ Blk (.slice a1 c.vs.length k1) q ∧ ¬ Blk (.slice a3 c.ss.length k3) q from fun q h1 => ⟨fun h2 => by have := (O5.out.blk h1).1; have := (OT2.out.blk h2).2; omega, fun h2 => by have := (O5.out.blk h1).1; have := (OT3.out.blk h2).2; omega⟩)
  have LC := hid (show w.heap.size + 2 ≤ w4.heap.size from by have := lt_of_block R3.out; omega)
  generalize (w5.setCell ⟨w.heap.size, 3, none⟩ (.slice a5 c.rs.length k5)) = w6 at K5 B5 R5 GT5 OT4 OT5 OT6 ⊢
  clear b5 q5 f5 l5 O5 G5 OT2 OT3 K5
  go_wp2_with (first
    | (refine wpList_load_row rfl 70 (.tmp 1) rfl w.heap.size rfl _ _ _ _ B5.out Try.underlying70 rfl chn_size ?_)
    | (refine st_row rfl 70 (.tmp 2) (.tmp 15) rfl (w.heap.size + 1) _ rfl rfl _ _ R5.out chn_size rfl (by simp [Value.oneCell']) ?_; intro w9 b9 k9; have M9 := hid b9; have K9 := hid k9; clear b9 k9))
  have nq : ∀ q, w.heap.size + 2 ≤ q → ¬ Only (w.heap.size + 1) q := fun q hq e => by have e1 : q = w.heap.size + 1 := e; omega
  have b1 := LB.out
  have b2 := LC.out
  refine bodyPost_ret (results_cell_row rfl _ _ (w.heap.size + 1) _ _ _ _ rfl M9.out Try.underlying70 rfl chn_size) rfl ⟨⟨cap, .slice a1 c.vs.length k1, .slice a3 c.ss.length k3, .slice a5 c.rs.length k5, cl⟩, rfl, HCAP.out, HCL.out, (OT4.out.ch K9.out (fun q hq => nq q (OT4.out.blk hq).1)).lower (by omega), (OT5.out.ch K9.out (fun q hq => nq q (Nat.le_trans b1 (OT5.out.blk hq).1))).lower (by omega), (OT6.out.ch K9.out (fun q hq => nq q (Nat.le_trans b2 (OT6.out.blk hq).1))).lower (by omega), ND.out, NR.out, Ch.trans (show Ch NoB w w6 from GT5.out) K9.out (fun q e => .inr (by have e1 : q = w.heap.size + 1 := e; omega))⟩
end Go.Proofs.Ytalmiphddgmfbab.Lt

namespace Go.Proofs.Ytalmiphddgmfbab.Lt
open Go.RowKit Wd
attribute [local go_sem ↓] Go.wp_at_zero Go.wp_at_succ

def zR : Rw := ⟨0, .slice none 0 0, .slice none 0 0, .slice none 0 0, false⟩
def zC : Cn := ⟨0, [], [], [], false⟩
theorem zR_one (t : Nat → Tg) (base : Nat) (w : World) (i : Nat) : One t base w i zR zC :=
  ⟨rfl, rfl, Ow.nil _ _ _ _ _, fun q hq => (by cases hq), Ow.nil _ _ _ _ _, fun q hq => (by cases hq), Ow.nil _ _ _ _ _, fun q hq => (by cases hq)⟩
theorem zR_made (n : Nat) : (madeCells (Value.agg #[.int .i64 0, .slice none 0 0, .slice none 0 0, .slice none 0 0, .bool false]).cells (n * 5)).toList = (List.replicate n zR).flatMap eR := by
  apply List.ext_getElem?
  intro k
  by_cases hk : k < n * 5
  · have h1 : (List.replicate n zR)[k / 5]? = some zR := by rw [List.getElem?_replicate, if_pos (by omega)]
    have h5 : k % 5 < 5 := Nat.mod_lt _ (by omega)
    have e : k / 5 * 5 + k % 5 = k := by omega
    have key : ∀ x, (eR zR)[k % 5]? = some x → ((List.replicate n zR).flatMap eR)[k]? = some x := fun x hx => by
      have := flat_get eR_len (List.replicate n zR) (k / 5) (k % 5) zR x h1 hx
      rwa [e] at this
    have hL : (madeCells (Value.agg #[.int .i64 0, .slice none 0 0, .slice none 0 0, .slice none 0 0, .bool false]).cells (n * 5)).toList[k]? = (eR zR)[k % 5]? := by
      simp only [madeCells, Value.cells, Array.toList_map, Array.toList_range, List.getElem?_map, List.getElem?_range hk, Option.map_some]
      have : k % 5 = 0 ∨ k % 5 = 1 ∨ k % 5 = 2 ∨ k % 5 = 3 ∨ k % 5 = 4 := by omega
      rcases this with h | h | h | h | h <;> simp [h, eR, zR]
    obtain ⟨x, hx⟩ : ∃ x, (eR zR)[k % 5]? = some x := ⟨_, List.getElem?_eq_getElem (by rw [eR_len]; exact h5)⟩
    rw [hL, hx, key x hx]
  · rw [List.getElem?_eq_none (by simp [madeCells]; omega), List.getElem?_eq_none (by rw [flat_len eR_len]; simp; omega)]
theorem nx_zero {base : Nat} {w : World} {v : Value} {n : Nat} (h : Ow eR 5 70 base w v (List.replicate n zR)) : Nx base w v (List.replicate n zC) :=
  ⟨fun _ => .out, _, h, fun _ _ => rfl, by simp, fun i x c hx hc => by
    have e1 := List.eq_of_mem_replicate (List.mem_of_getElem? hx)
    have e2 := List.eq_of_mem_replicate (List.mem_of_getElem? hc)
    rw [e1, e2]
    exact zR_one _ _ _ _⟩
/-- what State tells -/
def SaR (w : World) (cs : List Cn) (e : Ending) (w' : World) : Prop := ∃ v, e = .returned v ∧ Nx w.heap.size w' v cs ∧ Gr w w'
theorem mid_set {cs : List Cn} {n j : Nat} {c : Cn} (hn : n = cs.length) (hc : cs[j]? = some c) : (cs.take j ++ List.replicate (n - j) zC).set j c = cs.take (j + 1) ++ List.replicate (n - (j + 1)) zC := by
  have hj := (List.getElem?_eq_some_iff.1 hc).1
  have e : n - j = (n - (j + 1)) + 1 := by omega
  have hl : (cs.take j).length = j := by rw [List.length_take]; omega
  rw [e, List.replicate_succ, List.set_append_right _ _ (by omega), hl, Nat.sub_self, List.set_cons_zero, take_one hc, List.append_assoc]
  rfl
theorem mid_get {cs : List Cn} {n j : Nat} (hn : n = cs.length) (hj : j < n) : (cs.take j ++ List.replicate (n - j) zC)[j]? = some zC := by
  have hl : (cs.take j).length = j := by rw [List.length_take]; omega
  rw [List.getElem?_append_right (by omega), hl, Nat.sub_self, List.getElem?_replicate, if_pos (by omega)]
set_option maxRecDepth 20000 in
set_option maxHeartbeats 4000000 in
theorem state_any {t : Nat → Tg} {w : World} {b : Nat} {cs : List Cn} (h : Cs t w b cs) (hn : cs.length ≤ 1024) (hb : Bd cs) : Calls Try.prog 21 #[.pointer (some ⟨b, 0, none⟩)] w (SaR w cs) := by
  obtain ⟨k, v, xs, M, clock, H⟩ := h
  have HG := hid (given_any H.me)
  obtain ⟨ao, ca, ev⟩ := H.nl.o.form
  have me0 := cell_of H.me 0
  have hnn := H.nl.n
  rw [ev, hnn] at me0
  simp at me0
  obtain ⟨i0, hi, hz0, hz1, hz2⟩ := info_parts chn_info
  have HH := hid H
  have EV := hid ev
  have HBD := hid hb
  have HNN := hid hnn
  obtain ⟨n, hnl⟩ : ∃ n, n = cs.length := ⟨_, rfl⟩
  rw [← hnl] at me0 hn
  have HNL := hid hnl
  have lb := lt_of_block H.me
  clear H ev hb hnn hnl
  go_enter Try.func21, Try.ntmps21
  go_upto_region 4 with (first
    | (go_at_call 27; refine HG.out.mono ?_; rintro e w2 ⟨rfl, hw⟩; obtain rfl := hw.symm; clear hw)
    | (at_make; refine wpList_make_full _ rfl _ _ 22 rfl w.heap.size 70 i0 _ 5 Try.underlying22 hi hz0 hz1 _ _ _ _ n rfl rfl (by omega) (by omega) (by rw [hz2]; omega) (by unfold maxLen; omega) (Nat.le_refl _) ?_; intro w1 hown hgrow; have HO1 := hid (show Ow eR 5 70 w.heap.size w1 (.slice (some ⟨w.heap.size, 0, none⟩) n n) (List.replicate n zR) from (by unfold Ow; rw [List.length_replicate, ← zR_made]; exact hown)); have HG1 := hid (show Gr w w1 from (Ch.refl NoB w).grown hgrow (fun k hk => by cases hk)); clear hown hgrow))
  have me1 := (HG1.out.cell lb).trans me0
  go_wp2_with fail
  go_loopg [20] n (fun q v20 wr => ∃ (j : Nat), j + q = n ∧ v20 = .int .i64 (j : Int) ∧ Nx w.heap.size wr (.slice (some ⟨w.heap.size, 0, none⟩) n n) (cs.take j ++ List.replicate (n - j) zC) ∧ Gr w wr)
  case atStart => exact ⟨0, by omega, rfl, by rw [List.take_zero, List.nil_append]; exact nx_zero HO1.out, HG1.out⟩
  case round =>
    obtain ⟨j, hjq, rfl, hN, hG⟩ := hrel
    have HN := hid hN
    have HGR := hid hG
    clear hN hG
    by_cases hj : j < n
    · obtain ⟨c, hc⟩ : ∃ c, cs[j]? = some c := ⟨_, List.getElem?_eq_getElem (by rw [← HNL.out]; exact hj)⟩
      obtain ⟨x, hx⟩ : ∃ x, xs[j]? = some x := ⟨_, List.getElem?_eq_getElem (by rw [HNN.out, ← HNL.out]; exact hj)⟩
      have HR := HH.out.gr HGR.out
      obtain ⟨gO, ca', x', ev', -, hx', ho, h5⟩ := HR.nl.at hc
      rw [EV.out] at ev'
      injection ev' with ev' evn evc
      clear evn evc
      subst ev'
      obtain ⟨vo, vk, ex⟩ := ho.v.form
      obtain ⟨so, sk, ey⟩ := ho.s.form
      obtain ⟨ro, rk, ez⟩ := ho.r.form
      have c0 := h5.c0
      have c1 := h5.c1
      have c2 := h5.c2
      have c3 := h5.c3
      have c4 := h5.c4
      obtain ⟨xcap, xv, xs', xr, xcl⟩ := x'
      dsimp only at ex ey ez c0 c1 c2 c3 c4
      subst ex ey ez
      have mem := List.mem_of_getElem? hc
      obtain ⟨W1, hW1⟩ : ∃ W1, W1 = wr.alloc (.cells #[.int .i64 xcap, .slice vo c.vs.length vk, .slice so c.ss.length sk, .slice ro c.rs.length rk, .bool xcl] 70) := ⟨_, rfl⟩
      have GA := hid (show Gr wr W1 from by rw [hW1]; exact Ch.alloc (Gr.refl wr) _)
      have HCP := hid (copied_any (0 ≤ ·) W1 ⟨xcap, .slice vo c.vs.length vk, .slice so c.ss.length sk, .slice ro c.rs.length rk, xcl⟩ c ho.cap ho.cl (ho.v.lst.gr GA.out) (ho.s.lst.gr GA.out) (ho.r.lst.gr GA.out) (HBD.out.v c mem) (HBD.out.s c mem) (HBD.out.r c mem))
      rw [hW1] at HCP
      dsimp only at HCP
      have j0 : (0 : Int) ≤ (j : Int) := by omega
      have j1 : (j : Int) < (n : Int) := by omega
      have HC := hid hc
      have BXA := hid (show W1.heap[wr.heap.size]? = some (.cells #[.int .i64 xcap, .slice vo c.vs.length vk, .slice so c.ss.length sk, .slice ro c.rs.length rk, .bool xcl] 70 (0, 0)) from by rw [hW1]; exact (MapKept.heap_alloc wr _).1)
      rw [hW1] at BXA
      clear ho h5 hx' hc hx mem HR
      go_upto_region 8 with (first
        | (refine wpList_load_row rfl 70 (.tmp 5) rfl wr.heap.size rfl _ _ _ _ BXA.out Try.underlying70 rfl chn_size ?_)
        | (go_at_call 23; refine HCP.out.mono ?_; rintro e w5 ⟨⟨ycap, yv, ys, yr, ycl⟩, rfl, cp⟩; rw [← hW1] at cp; have CP := hid cp; clear cp; obtain ⟨t2, xs2, nl2⟩ := HN.out; obtain ⟨x2, hx2⟩ : ∃ x, xs2[j]? = some x := ⟨_, List.getElem?_eq_getElem (by rw [nl2.n, List.length_append, List.length_take, List.length_replicate, ← HNL.out]; omega)⟩; obtain ⟨gO2, ca2, t3, e2, l2, f2, q2, -, nl3⟩ := nl2.row hx2 (mid_get HNL.out hj) (Gr.trans GA.out CP.out.g) ⟨ycap, yv, ys, yr, ycl⟩ c CP.out.cap CP.out.cl (CP.out.v.lower (Nat.le_trans HGR.out.size GA.out.size)) (CP.out.s.lower (Nat.le_trans HGR.out.size GA.out.size)) (CP.out.r.lower (Nat.le_trans HGR.out.size GA.out.size)) (fun q hq => Nat.le_trans GA.out.size (CP.out.v.blk hq).1) (fun q hq => ⟨Nat.le_trans GA.out.size (CP.out.s.blk hq).1, CP.out.ns q hq⟩) (fun q hq => ⟨Nat.le_trans GA.out.size (CP.out.r.blk hq).1, CP.out.nr q hq⟩); injection e2 with e2 e2n e2c; clear e2n e2c; injection e2 with e2; injection e2 with e2 _ _; subst e2; have NL3 := hid nl3; have z0 := q2 0 _ rfl; have z1 := q2 1 _ rfl; have z2 := q2 2 _ rfl; have z3 := q2 3 _ rfl; have z4 := q2 4 _ rfl; rw [Nat.add_zero] at z0; obtain ⟨a1, k1, ev1⟩ := CP.out.v.form; obtain ⟨a2, k2, ev2⟩ := CP.out.s.form; obtain ⟨a3, k3, ev3⟩ := CP.out.r.form; dsimp only at ev1 ev2 ev3; subst ev1 ev2 ev3; have l5 : w.heap.size < w5.heap.size := Nat.lt_of_lt_of_le l2 (Gr.trans GA.out CP.out.g).size; clear nl2 nl3 hx2 q2 l2))
      have GF := hid (show Gr w (put5 w5 w.heap.size (j * 5) ⟨ycap, .slice a1 c.vs.length k1, .slice a2 c.ss.length k2, .slice a3 c.rs.length k3, ycl⟩) from Ch.trans (show Ch NoB w w5 from Gr.trans HGR.out (Gr.trans GA.out CP.out.g)) (put5_ch _ _ _ _) (fun q e => .inr (by have e1 : q = w.heap.size := e; omega)))
      have NF := hid (show Nx w.heap.size (put5 w5 w.heap.size (j * 5) ⟨ycap, .slice a1 c.vs.length k1, .slice a2 c.ss.length k2, .slice a3 c.rs.length k3, ycl⟩) (.slice (some ⟨w.heap.size, 0, none⟩) n n) (cs.take (j + 1) ++ List.replicate (n - (j + 1)) zC) from ⟨t3, _, by have := NL3.out; rw [mid_set HNL.out HC.out] at this; exact this⟩)
      unfold put5 at GF NF
      dsimp only at GF NF
      go_wp2
      go_roundg (gk - 1)
      case measure => omega
      case rel => exact ⟨j + 1, by omega, by simp, NF.out, GF.out⟩
    · have jn : ¬ (j : Int) < (n : Int) := by omega
      have HE := hid (show cs.take j ++ List.replicate (n - j) zC = cs from by rw [List.take_of_length_le (by rw [← HNL.out]; omega), show n - j = 0 by omega]; simp)
      rw [HE.out] at HN
      go_wp2
      go_ret
      exact ⟨_, rfl, HN.out, HGR.out⟩
end Go.Proofs.Ytalmiphddgmfbab.Lt
