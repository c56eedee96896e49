/-
  What is left of a reader in memory where its last function grows by a word, or its last table by a case. No conditions.
-/
import Derived.Test.YtbehlhnnfdkmaaaGreatDoorLtRd2
namespace Go.Proofs.YtbehlhnnfdkmaaaGreatDoor.Lt
open Go.RowKit Wd

theorem modify_last' {α : Type} (l : List α) (m : Nat) (a : α) (f : α → α) (hl : l.length = m + 1) (ha : l[m]? = some a) : l.modify (l.length - 1) f = l.set m (f a) := by
  have e : l.length - 1 = m := by omega
  rw [e]
  apply List.ext_getElem?
  intro i
  rw [List.getElem?_modify, List.getElem?_set]
  by_cases h : m = i
  · subst h
    rw [ha]
    simp [hl]
  · simp [h]
section
variable {base R M : Nat} {w w1 w2 : World} {va vf vt : Value} {ts : List Tb} {x : Rs}
theorem Rd.bumpF (h : Rd base R M w va vf vt ts x) {m : Nat} {f : Nat × Nat} (hm : x.fn[m]? = some f) : ∃ g cap, vf = .slice (some ⟨g, 0, none⟩) x.fn.length cap ∧ base ≤ g ∧ g < w.heap.size ∧ x.fn.length ≤ cap ∧ w.cell? ⟨g, m * 2 + 1, none⟩ = some (.int .i64 (f.2 : Nat)) ∧ w.frozen? ⟨g, m * 2 + 1, none⟩ = false ∧
    Rd base R M (w.setCell ⟨g, m * 2 + 1, none⟩ (.int .i64 ((f.2 + 1 : Nat) : Int))) va vf vt ts { x with fn := x.fn.set m (f.1, f.2 + 1) } := by
  obtain ⟨g, cap, hv, hb, hl, hc, hcs, hfz, hst⟩ := h.f.get eF_len hm
  refine ⟨g, cap, hv, hb, hl, hc, hcs 1 _ rfl, hfz _, ?_⟩
  obtain ⟨⟨d1, d2, d3⟩, d4, d5⟩ := h.parts
  have C : Ch (Only g) w (w.setCell ⟨g, m * 2 + 1, none⟩ (.int .i64 ((f.2 + 1 : Nat) : Int))) := (Ch.refl _ _).own _ _
  have gB : Blk vf g := by rw [hv]; rfl
  have nR : ¬ Only g R := fun e => by have e1 : R = g := e; have := h.ltR; omega
  have nM : ¬ Only g M := fun e => by have e1 : M = g := e; have := h.ltM; omega
  have far : ∀ {u : Value}, Dj vf u → ∀ q, Blk u q → ¬ Only g q := fun d q hq e => by
    have e1 : q = g := e
    subst e1
    exact d q gB hq
  exact
    { blk := (C.block R (lt_of_block h.blk) nR).trans h.blk
      a := h.a.ch C (far d1.symm)
      f := by
        have := hst 1 (.int .i64 ((f.2 + 1 : Nat) : Int)) (f.1, f.2 + 1) (by omega) rfl
        exact this
      t := h.t.ch C (far d3), tsq := h.tsq
      cs := fun t ht => (h.cs t ht).ch C (far (d4 t ht).2.1)
      m := (C.block M (lt_of_block h.m) nM).trans h.m
      mo := h.mo, dj := h.dj, ltR := h.ltR, ltM := h.ltM, ne := h.ne, ltB := Nat.le_trans h.ltB C.size }
theorem Rd.tableAt (h : Rd base R M w va vf vt ts x) {m : Nat} {t : Tb} (hm : ts[m]? = some t) : ∃ g cap, vt = .slice (some ⟨g, 0, none⟩) ts.length cap ∧ base ≤ g ∧ g < w.heap.size ∧ ts.length ≤ cap ∧ w.cell? ⟨g, m * 2, none⟩ = some t.cv ∧ ∀ o, w.frozen? ⟨g, o, none⟩ = false := by
  obtain ⟨g, cap, hv, hb, hl, hc, hcs, hfz, _⟩ := h.t.get eT_len hm
  exact ⟨g, cap, hv, hb, hl, hc, hcs 0 _ rfl, hfz⟩
theorem Rd.newC (h : Rd base R M w va vf vt ts x) {m g n cap : Nat} {t : Tb} (hm : ts[m]? = some t) (hv : vt = .slice (some ⟨g, 0, none⟩) n cap) {cv' : Value} {cs' : List Cs} (k1 : Gr w w1) (ho : Ow eC 4 46 base w2 cv' cs') (k : Ch (Blk t.cv) w1 w2) (hb : ∀ q, Blk cv' q → Blk t.cv q ∨ w1.heap.size ≤ q) :
    Rd base R M (w2.setCell ⟨g, m * 2, none⟩ cv') va vf vt (ts.set m ⟨cs', cv', t.df⟩) { x with tb := x.tb.set m (cs', t.df) } := by
  have tm := List.mem_of_getElem? hm
  obtain ⟨⟨d1, d2, d3⟩, d4, d5⟩ := h.parts
  obtain ⟨e1, e2, e3⟩ := d4 t tm
  have lo : ∀ {α : Type} {enc : α → List Value} {K e : Nat} {u : Value} {xs : List α}, Ow enc K e base w u xs → ∀ q, Blk u q → q < w1.heap.size := fun o q hq => by
    have := (o.blk hq).2
    have := k1.size
    omega
  have ht2 : Ow eT 2 44 base w2 vt ts := (h.t.gr k1).ch k (fun g hg e => e3 g hg e)
  obtain ⟨g', cap', hv', hb', hl', _, _, _, hst⟩ := ht2.get eT_len hm
  have gg : g' = g := by
    rw [hv] at hv'
    injection hv' with q1 q2 q3
    injection q1 with q1
    injection q1 with q1
    exact q1.symm
  subst gg
  have C : Ch (Only g') w2 (w2.setCell ⟨g', m * 2, none⟩ cv') := (Ch.refl _ _).own _ _
  have gB : Blk vt g' := by rw [hv]; rfl
  have nR : ¬ Only g' R := fun e => by have q1 : R = g' := e; have := h.ltR; omega
  have nM : ¬ Only g' M := fun e => by have q1 : M = g' := e; have := h.ltM; omega
  have far : ∀ {u : Value}, Dj vt u → ∀ q, Blk u q → ¬ Only g' q := fun d q hq e => by
    have e1 : q = g' := e
    subst e1
    exact d q gB hq
  have nR2 : ¬ Blk t.cv R := fun e => by have := ((h.cs t tm).blk e).1; have := h.ltR; omega
  have nM2 : ¬ Blk t.cv M := fun e => by have := ((h.cs t tm).blk e).1; have := h.ltM; omega
  have pw := List.pairwise_iff_getElem.1 d5
  have other : ∀ i u, ts[i]? = some u → i ≠ m → Dj u.cv t.cv := fun i u hu hi => by
    have li : i < (ts.map (·.cv)).length := by rw [List.length_map]; exact (List.getElem?_eq_some_iff.1 hu).1
    have lm : m < (ts.map (·.cv)).length := by rw [List.length_map]; exact (List.getElem?_eq_some_iff.1 hm).1
    have gi : (ts.map (·.cv))[i] = u.cv := by rw [List.getElem_map]; rw [(List.getElem?_eq_some_iff.1 hu).2]
    have gm : (ts.map (·.cv))[m] = t.cv := by rw [List.getElem_map]; rw [(List.getElem?_eq_some_iff.1 hm).2]
    rcases Nat.lt_or_gt_of_ne hi with hlt | hgt
    · have := pw i m li lm hlt
      rwa [gi, gm] at this
    · have := pw m i lm li hgt
      rw [gi, gm] at this
      exact this.symm
  have mem : ∀ u ∈ ts.set m ⟨cs', cv', t.df⟩, u = ⟨cs', cv', t.df⟩ ∨ ∃ i, i ≠ m ∧ ts[i]? = some u := fun u hu => by
    obtain ⟨i, hi⟩ := List.getElem?_of_mem hu
    rw [List.getElem?_set] at hi
    by_cases e : m = i
    · subst e
      rw [if_pos rfl, if_pos (List.getElem?_eq_some_iff.1 hm).1] at hi
      injection hi with hi
      exact .inl hi.symm
    · rw [if_neg e] at hi
      exact .inr ⟨i, fun q => e q.symm, hi⟩
  have hall : ∀ u ∈ ts.set m ⟨cs', cv', t.df⟩, Ow eC 4 46 base (w2.setCell ⟨g', m * 2, none⟩ cv') u.cv u.cs := fun u hu => by
    rcases mem u hu with rfl | ⟨i, hi, hu'⟩
    · refine ho.ch C (fun q hq e => ?_)
      have e1 : q = g' := e
      subst e1
      rcases hb q hq with a | a
      · exact e3 q gB a
      · have := lo h.t q gB
        omega
    · have um := List.mem_of_getElem? hu'
      exact (((h.cs u um).gr k1).ch k (fun q hq e => other i u hu' hi q hq e)).ch C (far (d4 u um).2.2)
  exact
    { blk := (C.block R (Nat.lt_of_lt_of_le (lt_of_block h.blk) (Nat.le_trans k1.size k.size)) nR).trans ((k.block R (Nat.lt_of_lt_of_le (lt_of_block h.blk) k1.size) nR2).trans (gr_blk h.blk k1))
      a := ((h.a.gr k1).ch k (fun q hq e => e1 q hq e)).ch C (far d2.symm)
      f := ((h.f.gr k1).ch k (fun q hq e => e2 q hq e)).ch C (far d3.symm)
      t := by
        have := hst 0 cv' ⟨cs', cv', t.df⟩ (by omega) rfl
        exact this
      tsq := by rw [List.map_set, h.tsq]
      cs := hall
      m := (C.block M (Nat.lt_of_lt_of_le (lt_of_block h.m) (Nat.le_trans k1.size k.size)) nM).trans ((k.block M (Nat.lt_of_lt_of_le (lt_of_block h.m) k1.size) nM2).trans (gr_blk h.m k1))
      mo := h.mo
      dj := dj_of ⟨d1, d2, d3⟩ (fun u hu => by
          rcases mem u hu with rfl | ⟨i, hi, hu'⟩
          · exact ⟨(Dj.new hb (lo h.a) e1.symm).symm, (Dj.new hb (lo h.f) e2.symm).symm, (Dj.new hb (lo h.t) e3.symm).symm⟩
          · exact d4 u (List.mem_of_getElem? hu')) (by
          rw [List.map_set]
          refine List.pairwise_iff_getElem.2 (fun i j hi hj hij => ?_)
          rw [List.length_set, List.length_map] at hi hj
          rw [List.getElem_set, List.getElem_set]
          by_cases ei : m = i
          · subst ei
            rw [if_pos rfl, if_neg (by omega), List.getElem_map]
            have hu : ts[j]? = some ts[j] := List.getElem?_eq_getElem hj
            exact Dj.new hb (lo (h.cs _ (List.mem_of_getElem? hu))) (other j _ hu (by omega)).symm
          · rw [if_neg ei, List.getElem_map]
            have hu : ts[i]? = some ts[i] := List.getElem?_eq_getElem hi
            by_cases ej : m = j
            · subst ej
              rw [if_pos rfl]
              exact (Dj.new hb (lo (h.cs _ (List.mem_of_getElem? hu))) (other i _ hu (by omega)).symm).symm
            · rw [if_neg ej, List.getElem_map]
              have := pw i j (by rw [List.length_map]; exact hi) (by rw [List.length_map]; exact hj) hij
              rwa [List.getElem_map, List.getElem_map] at this)
      ltR := h.ltR, ltM := h.ltM, ne := h.ne, ltB := Nat.le_trans h.ltB (Nat.le_trans k1.size (Nat.le_trans k.size C.size)) }
end
end Go.Proofs.YtbehlhnnfdkmaaaGreatDoor.Lt
