/-
  A program that an argument tells, and its copy as it grows, in memory. No conditions.
-/
import Derived.Test.YtbehlhnnfdkmaaaGreatDoorLtOp3
import Derived.Test.YtbehlhnnfdkmaaaGreatDoorLtMp
namespace Go.Proofs.YtbehlhnnfdkmaaaGreatDoor.Lt
open Go.RowKit Wd

/-- a function's two numbers, whatever they are -/
def eG (f : Int × Int) : List Value := [.int .i64 f.1, .int .i64 f.2]
theorem eG_len (f : Int × Int) : (eG f).length = 2 := rfl
theorem eG_one {a : Int × Int} : ∀ u ∈ [a].flatMap eG, u.oneCell' = true := by
  intro u hu
  simp [eG] at hu
  rcases hu with rfl | rfl <;> rfl
/-- a program in memory, whosever it is -/
structure Pin (P : Nat → Prop) (w : World) (vc vf vt : Value) (cs : List Int) (fs : List (Int × Int)) (ts : List Tb) : Prop where
  c : Ls eU P w vc cs
  f : Ls eG P w vf fs
  t : Ls eT P w vt ts
  cs : ∀ t ∈ ts, Ls eC P w t.cv t.cs
theorem Pin.gr {P : Nat → Prop} {w w' : World} {vc vf vt : Value} {cs : List Int} {fs : List (Int × Int)} {ts : List Tb} (h : Pin P w vc vf vt cs fs ts) (k : Gr w w') : Pin P w' vc vf vt cs fs ts := ⟨h.c.gr k, h.f.gr k, h.t.gr k, fun t ht => (h.cs t ht).gr k⟩
/-- the copy: as far as it is -/
structure Tw (w : World) (ia ib ic : Value) (q : World) (vc vf vt : Value) (cs : List Int) (fs : List (Int × Int)) (ts : List Tb) : Prop where
  g : Gr w q
  b0 : q.heap[w.heap.size]? = some (.cells #[ia, ib, ic] 26 (0, 0))
  b1 : q.heap[w.heap.size + 1]? = some (.cells #[.slice none 0 0, .slice none 0 0, .slice none 0 0] 26 (0, 0))
  b2 : q.heap[w.heap.size + 2]? = some (.cells #[vc, vf, vt] 26 (0, 0))
  lt : w.heap.size + 3 ≤ q.heap.size
  c : Ow eU 1 39 (w.heap.size + 3) q vc cs
  f : Ow eG 2 41 (w.heap.size + 3) q vf fs
  t : Ow eT 2 44 (w.heap.size + 3) q vt ts
  cs : ∀ t ∈ ts, Ow eC 4 46 (w.heap.size + 3) q t.cv t.cs
  dj : (vc :: vf :: vt :: ts.map (·.cv)).Pairwise Dj
section
variable {w q w1 w2 : World} {ia ib ic vc vf vt : Value} {cs : List Int} {fs : List (Int × Int)} {ts : List Tb}
theorem Tw.gr (h : Tw w ia ib ic q vc vf vt cs fs ts) (k : Gr q w1) : Tw w ia ib ic w1 vc vf vt cs fs ts :=
  ⟨Gr.trans h.g k, gr_blk h.b0 k, gr_blk h.b1 k, gr_blk h.b2 k, Nat.le_trans h.lt k.size, h.c.gr k, h.f.gr k, h.t.gr k, fun t ht => (h.cs t ht).gr k, h.dj⟩
theorem Tw.parts (h : Tw w ia ib ic q vc vf vt cs fs ts) : (Dj vc vf ∧ Dj vc vt ∧ Dj vf vt) ∧ (∀ t ∈ ts, Dj vc t.cv ∧ Dj vf t.cv ∧ Dj vt t.cv) ∧ (ts.map (·.cv)).Pairwise Dj := by
  have d := h.dj
  simp only [List.pairwise_cons, List.mem_cons, List.mem_map] at d
  obtain ⟨d1, d2, d3, d4⟩ := d
  refine ⟨⟨d1 _ (.inl rfl), d1 _ (.inr (.inl rfl)), d2 _ (.inl rfl)⟩, fun t ht => ⟨d1 _ (.inr (.inr ⟨t, ht, rfl⟩)), d2 _ (.inr ⟨t, ht, rfl⟩), d3 _ ⟨t, ht, rfl⟩⟩, d4⟩
/-- what stays where one list's block turns and its cell -/
theorem Tw.stay (h : Tw w ia ib ic q vc vf vt cs fs ts) {v : Value} (hv : ∀ g, Blk v g → w.heap.size + 3 ≤ g) (k1 : Gr q w1) (k : Ch (Blk v) w1 w2) (i : Nat) (z : Value) :
    Gr w (w2.setCell ⟨w.heap.size + 2, i, none⟩ z) ∧ (w2.setCell ⟨w.heap.size + 2, i, none⟩ z).heap[w.heap.size]? = some (.cells #[ia, ib, ic] 26 (0, 0)) ∧ (w2.setCell ⟨w.heap.size + 2, i, none⟩ z).heap[w.heap.size + 1]? = some (.cells #[.slice none 0 0, .slice none 0 0, .slice none 0 0] 26 (0, 0)) ∧ w2.heap[w.heap.size + 2]? = some (.cells #[vc, vf, vt] 26 (0, 0)) ∧ w.heap.size + 3 ≤ (w2.setCell ⟨w.heap.size + 2, i, none⟩ z).heap.size := by
  have C : Ch (Only (w.heap.size + 2)) w2 (w2.setCell ⟨w.heap.size + 2, i, none⟩ z) := (Ch.refl _ w2).own i z
  have l := h.lt
  have l1 := k1.size
  have l2 := k.size
  refine ⟨Ch.trans (Ch.trans (Gr.trans h.g k1) k (fun g e => .inr (by have := hv g e; omega))) C (fun g e => .inr (by have e1 : g = w.heap.size + 2 := e; omega)), ?_, ?_, ?_, ?_⟩
  · exact (C.block _ (by omega) (fun e => by have e1 : w.heap.size = w.heap.size + 2 := e; omega)).trans ((k.block _ (by omega) (fun e => by have := hv _ e; omega)).trans (gr_blk h.b0 k1))
  · exact (C.block _ (by omega) (fun e => by have e1 : w.heap.size + 1 = w.heap.size + 2 := e; omega)).trans ((k.block _ (by omega) (fun e => by have := hv _ e; omega)).trans (gr_blk h.b1 k1))
  · exact (k.block _ (by omega) (fun e => by have := hv _ e; omega)).trans (gr_blk h.b2 k1)
  · exact Nat.le_trans (Nat.le_trans h.lt l1) (Nat.le_trans l2 C.size)
theorem Tw.newC (h : Tw w ia ib ic q vc vf vt cs fs ts) {v' : Value} {xs : List Int} (k1 : Gr q w1) (ho : Ow eU 1 39 (w.heap.size + 3) w2 v' xs) (k : Ch (Blk vc) w1 w2) (hb : ∀ g, Blk v' g → Blk vc g ∨ w1.heap.size ≤ g) :
    Tw w ia ib ic (w2.setCell ⟨w.heap.size + 2, 0, none⟩ v') v' vf vt xs fs ts := by
  obtain ⟨⟨d1, d2, d3⟩, d4, d5⟩ := h.parts
  have lo : ∀ {α : Type} {enc : α → List Value} {K e : Nat} {u : Value} {xs : List α}, Ow enc K e (w.heap.size + 3) q u xs → ∀ g, Blk u g → g < w1.heap.size := fun o g hg => by
    have := (o.blk hg).2
    have := k1.size
    omega
  obtain ⟨s1, s2, s3, s4, s5⟩ := h.stay (fun g e => (h.c.blk e).1) k1 k 0 v'
  have C := (Ch.refl (Only (w.heap.size + 2)) w2).own 0 v'
  exact
    { g := s1, b0 := s2, b1 := s3, lt := s5
      b2 := by simpa using setCell_block s4 0 v'
      c := ho.ch C (fun g hg e => by have := (ho.blk hg).1; have e1 : g = w.heap.size + 2 := e; omega)
      f := h.f.past (by omega) k1 k d1.symm
      t := h.t.past (by omega) k1 k d2.symm
      cs := fun t ht => (h.cs t ht).past (by omega) k1 k (d4 t ht).1.symm
      dj := dj_of ⟨Dj.new hb (lo h.f) d1, Dj.new hb (lo h.t) d2, d3⟩ (fun t ht => ⟨Dj.new hb (lo (h.cs t ht)) (d4 t ht).1, (d4 t ht).2.1, (d4 t ht).2.2⟩) d5 }
theorem Tw.newF (h : Tw w ia ib ic q vc vf vt cs fs ts) {v' : Value} {xs : List (Int × Int)} (k1 : Gr q w1) (ho : Ow eG 2 41 (w.heap.size + 3) w2 v' xs) (k : Ch (Blk vf) w1 w2) (hb : ∀ g, Blk v' g → Blk vf g ∨ w1.heap.size ≤ g) :
    Tw w ia ib ic (w2.setCell ⟨w.heap.size + 2, 1, none⟩ v') vc v' vt cs xs ts := by
  obtain ⟨⟨d1, d2, d3⟩, d4, d5⟩ := h.parts
  have lo : ∀ {α : Type} {enc : α → List Value} {K e : Nat} {u : Value} {xs : List α}, Ow enc K e (w.heap.size + 3) q u xs → ∀ g, Blk u g → g < w1.heap.size := fun o g hg => by
    have := (o.blk hg).2
    have := k1.size
    omega
  obtain ⟨s1, s2, s3, s4, s5⟩ := h.stay (fun g e => (h.f.blk e).1) k1 k 1 v'
  have C := (Ch.refl (Only (w.heap.size + 2)) w2).own 1 v'
  exact
    { g := s1, b0 := s2, b1 := s3, lt := s5
      b2 := by simpa using setCell_block s4 1 v'
      c := h.c.past (by omega) k1 k d1
      f := ho.ch C (fun g hg e => by have := (ho.blk hg).1; have e1 : g = w.heap.size + 2 := e; omega)
      t := h.t.past (by omega) k1 k d3.symm
      cs := fun t ht => (h.cs t ht).past (by omega) k1 k (d4 t ht).2.1.symm
      dj := dj_of ⟨(Dj.new hb (lo h.c) d1.symm).symm, d2, Dj.new hb (lo h.t) d3⟩ (fun t ht => ⟨(d4 t ht).1, Dj.new hb (lo (h.cs t ht)) (d4 t ht).2.1, (d4 t ht).2.2⟩) d5 }
theorem Tw.newT (h : Tw w ia ib ic q vc vf vt cs fs ts) {v' : Value} {tb : Tb} (k1 : Gr q w1) (hc : Ow eC 4 46 q.heap.size w1 tb.cv tb.cs) (ho : Ow eT 2 44 (w.heap.size + 3) w2 v' (ts ++ [tb])) (k : Ch (Blk vt) w1 w2) (hb : ∀ g, Blk v' g → Blk vt g ∨ w1.heap.size ≤ g) :
    Tw w ia ib ic (w2.setCell ⟨w.heap.size + 2, 2, none⟩ v') vc vf v' cs fs (ts ++ [tb]) := by
  obtain ⟨⟨d1, d2, d3⟩, d4, d5⟩ := h.parts
  have lo : ∀ {α : Type} {enc : α → List Value} {K e : Nat} {u : Value} {xs : List α}, Ow enc K e (w.heap.size + 3) q u xs → ∀ g, Blk u g → g < w1.heap.size := fun o g hg => by
    have := (o.blk hg).2
    have := k1.size
    omega
  have lq : ∀ {α : Type} {enc : α → List Value} {K e : Nat} {u : Value} {xs : List α}, Ow enc K e (w.heap.size + 3) q u xs → Dj u tb.cv := fun o g hg e => by
    have := (o.blk hg).2
    have := (hc.blk e).1
    omega
  obtain ⟨s1, s2, s3, s4, s5⟩ := h.stay (fun g e => (h.t.blk e).1) k1 k 2 v'
  have C := (Ch.refl (Only (w.heap.size + 2)) w2).own 2 v'
  have dn : Dj v' tb.cv := fun g e f => (hb g e).elim (fun e1 => lq h.t g e1 f) (fun e1 => by have := (hc.blk f).2; omega)
  exact
    { g := s1, b0 := s2, b1 := s3, lt := s5
      b2 := by simpa using setCell_block s4 2 v'
      c := h.c.past (by omega) k1 k d2
      f := h.f.past (by omega) k1 k d3
      t := ho.ch C (fun g hg e => by have := (ho.blk hg).1; have e1 : g = w.heap.size + 2 := e; omega)
      cs := fun t ht => by
        rcases List.mem_append.1 ht with ht | ht
        · exact (h.cs t ht).past (by omega) k1 k (d4 t ht).2.2.symm
        · have e : t = tb := by simpa using ht
          rw [e]
          exact ((hc.lower h.lt).past (by omega) (Gr.refl w1) k (lq h.t).symm)
      dj := dj_of ⟨d1, (Dj.new hb (lo h.c) d2.symm).symm, (Dj.new hb (lo h.f) d3.symm).symm⟩ (fun t ht => by
          rcases List.mem_append.1 ht with ht | ht
          · exact ⟨(d4 t ht).1, (d4 t ht).2.1, Dj.new hb (lo (h.cs t ht)) (d4 t ht).2.2⟩
          · have e : t = tb := by simpa using ht
            rw [e]
            exact ⟨lq h.c, lq h.f, dn⟩) (by
          rw [List.map_append, List.pairwise_append]
          refine ⟨d5, by simp, fun a ha b hb => ?_⟩
          have e : b = tb.cv := by simpa using hb
          obtain ⟨t, ht, rfl⟩ := List.mem_map.1 ha
          rw [e]
          exact lq (h.cs t ht)) }
end
/-- the copy, whole -/
def TwR (w : World) (cs : List Int) (fs : List (Int × Int)) (tb : List (List Cs × Bool)) (e : Ending) (w' : World) : Prop :=
  ∃ vc vf vt ts, e = .returned (.agg #[vc, vf, vt]) ∧ ts.map (fun t => (t.cs, t.df)) = tb ∧ Ow eU 1 39 (w.heap.size + 3) w' vc cs ∧ Ow eG 2 41 (w.heap.size + 3) w' vf fs ∧ Ow eT 2 44 (w.heap.size + 3) w' vt ts ∧ (∀ t ∈ ts, Ow eC 4 46 (w.heap.size + 3) w' t.cv t.cs) ∧ (vc :: vf :: vt :: ts.map (·.cv)).Pairwise Dj ∧ Gr w w'
theorem TwR.of {w q : World} {ia ib ic vc vf vt : Value} {cs : List Int} {fs : List (Int × Int)} {ts : List Tb} {tb : List (List Cs × Bool)} (h : Tw w ia ib ic q vc vf vt cs fs ts) (ht : ts.map (fun t => (t.cs, t.df)) = tb) {q' : World} (k : Ch (Only (w.heap.size + 1)) q q') : TwR w cs fs tb (.returned (.agg #[vc, vf, vt])) q' := by
  have far : ∀ {α : Type} {enc : α → List Value} {K e : Nat} {u : Value} {xs : List α}, Ow enc K e (w.heap.size + 3) q u xs → Ow enc K e (w.heap.size + 3) q' u xs := fun ho => ho.ch k (fun g hg e => by
    have := (ho.blk hg).1
    have e1 : g = w.heap.size + 1 := e
    omega)
  exact ⟨vc, vf, vt, ts, rfl, ht, far h.c, far h.f, far h.t, fun t hm => far (h.cs t hm), h.dj, Ch.trans h.g k (fun g e => .inr (by have e1 : g = w.heap.size + 1 := e; omega))⟩
theorem take_one {α : Type} {xs : List α} {j : Nat} {a : α} (h : xs[j]? = some a) : xs.take (j + 1) = xs.take j ++ [a] := by
  rw [List.take_add_one, h]
  rfl
end Go.Proofs.YtbehlhnnfdkmaaaGreatDoor.Lt
