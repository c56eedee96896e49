/-
  The words in which the walks of layer 4 speak of a state that a call owns: five parts, no two in one block. No conditions.
-/
import Derived.Test.YtfbkifkfhgkdbabSbClone
namespace Go.Proofs.Ytfbkifkfhgkdbab.Sb
open Go.RowKit

theorem Ow.get1 {e base n cap : Nat} {w : World} {ao : Option Addr} {us : List Value} (h : Ow e base w (.slice ao n cap) us) {i : Nat} {x : Value} (hx : us[i]? = some x) :
    ∃ g, ao = some ⟨g, 0, none⟩ ∧ base ≤ g ∧ g < w.heap.size ∧ n ≤ cap ∧ w.cell? ⟨g, i, none⟩ = some x ∧ w.frozen? ⟨g, i, none⟩ = false ∧ ∀ u, Ow e base (w.setCell ⟨g, i, none⟩ u) (.slice (some ⟨g, 0, none⟩) n cap) (us.set i u) := by
  obtain ⟨g, c, e1, h1, h2, h3, h4, h5, h6⟩ := h.get hx
  injection e1 with a1 a2 a3
  subst a1 a2 a3
  exact ⟨g, rfl, h1, h2, h3, h4, h5, h6⟩

/-- two values lie in no block together -/
def Dj (u v : Value) : Prop := ∀ q, Blk u q → ¬ Blk v q
theorem Dj.symm {u v : Value} (h : Dj u v) : Dj v u := fun q a b => h q b a
theorem Dj.nil (u : Value) : Dj u (.slice none 0 0) := fun q _ b => by cases b
theorem Dj.nil' (u : Value) : Dj (.slice none 0 0) u := fun q b _ => by cases b
theorem Dj.far {e base : Nat} {w : World} {v u : Value} {us : List Value} (h : Ow e base w v us) (hu : ∀ q, Blk u q → q < base) : Dj u v := fun q a b => by
  have := hu q a
  have := (h.blk b).1
  omega

/-- a list of lists reads so -/
def Cs (P : Nat → Prop) (w : World) (cv : List Value) (C : List (List Int)) : Prop := cv.length = C.length ∧ ∀ (i : Nat) u c, cv[i]? = some u → C[i]? = some c → Ls P w u (iv c)
theorem Cs.ch {P S : Nat → Prop} {w w' : World} {cv : List Value} {C : List (List Int)} (h : Cs P w cv C) (k : Ch S w w') (hs : ∀ g, g < w.heap.size → P g → ¬ S g) : Cs P w' cv C :=
  ⟨h.1, fun i u c hu hc => (h.2 i u c hu hc).ch k hs⟩
theorem Cs.one {P : Nat → Prop} {w : World} {cv : List Value} {C : List (List Int)} (h : Cs P w cv C) : ∀ u ∈ cv, u.oneCell' = true := fun u hu => by
  obtain ⟨i, hi⟩ := List.mem_iff_getElem?.1 hu
  have hl : i < C.length := by rw [← h.1]; exact (List.getElem?_eq_some_iff.1 hi).1
  obtain ⟨ao, cap, e⟩ := (h.2 i u _ hi (List.getElem?_eq_getElem hl)).form
  rw [e]
  rfl

/-- the lists of a slab -/
structure Sl where
  G : List Int
  A : List Bool
  C : List (List Int)
  F : List Int
/-- none is too long to be copied -/
structure Sl.Fits (x : Sl) : Prop where
  g : x.G.length ≤ 4294967296
  a : x.A.length ≤ 4294967296
  c : x.C.length ≤ 4294967296
  f : x.F.length ≤ 4294967296
  e : ∀ (i : Nat) (l : List Int), x.C[i]? = some l → l.length ≤ 4294967296

/-- a state that reads so -/
structure Rd (P : Nat → Prop) (w : World) (vg va vc vf : Value) (cv : List Value) (x : Sl) : Prop where
  g : Ls P w vg (iv x.G)
  a : Ls P w va (bv x.A)
  c : Ls P w vc cv
  f : Ls P w vf (iv x.F)
  e : Cs P w cv x.C

/-- a state that a call owns -/
structure St (base : Nat) (w : World) (vg va vc vf : Value) (cv : List Value) (x : Sl) : Prop where
  g : Ow 3 base w vg (iv x.G)
  a : Ow 4 base w va (bv x.A)
  c : Ow 41 base w vc cv
  f : Ow 3 base w vf (iv x.F)
  cl : cv.length = x.C.length
  e : ∀ (i : Nat) u c, cv[i]? = some u → x.C[i]? = some c → Ow 3 base w u (iv c)
  ga : Dj vg va
  gc : Dj vg vc
  gf : Dj vg vf
  ac : Dj va vc
  af : Dj va vf
  cf : Dj vc vf
  eg : ∀ (i : Nat) u, cv[i]? = some u → Dj u vg
  ea : ∀ (i : Nat) u, cv[i]? = some u → Dj u va
  ec : ∀ (i : Nat) u, cv[i]? = some u → Dj u vc
  ef : ∀ (i : Nat) u, cv[i]? = some u → Dj u vf
  ee : ∀ (i j : Nat) u v, i ≠ j → cv[i]? = some u → cv[j]? = some v → Dj u v
/-- the blocks of a state -/
def SB (vg va vc vf : Value) (cv : List Value) : Nat → Prop := fun q => Blk vg q ∨ Blk va q ∨ Blk vc q ∨ Blk vf q ∨ ∃ u ∈ cv, Blk u q
theorem St.get {base : Nat} {w : World} {vg va vc vf : Value} {cv : List Value} {x : Sl} (h : St base w vg va vc vf cv x) {i : Nat} {u : Value} (hu : cv[i]? = some u) : ∃ c, x.C[i]? = some c ∧ Ow 3 base w u (iv c) := by
  have hl : i < x.C.length := by rw [← h.cl]; exact (List.getElem?_eq_some_iff.1 hu).1
  exact ⟨_, List.getElem?_eq_getElem hl, h.e i u _ hu (List.getElem?_eq_getElem hl)⟩
theorem St.blk {base : Nat} {w : World} {vg va vc vf : Value} {cv : List Value} {x : Sl} (h : St base w vg va vc vf cv x) {q : Nat} (hq : SB vg va vc vf cv q) : base ≤ q ∧ q < w.heap.size := by
  rcases hq with k | k | k | k | ⟨u, hu, k⟩
  · exact h.g.blk k
  · exact h.a.blk k
  · exact h.c.blk k
  · exact h.f.blk k
  · obtain ⟨i, hi⟩ := List.mem_iff_getElem?.1 hu
    obtain ⟨c, _, ho⟩ := h.get hi
    exact ho.blk k
theorem St.ch {S : Nat → Prop} {base : Nat} {w w' : World} {vg va vc vf : Value} {cv : List Value} {x : Sl} (h : St base w vg va vc vf cv x) (k : Ch S w w') (hs : ∀ q, SB vg va vc vf cv q → ¬ S q) : St base w' vg va vc vf cv x :=
  { h with
    g := h.g.ch k (fun q b => hs q (.inl b))
    a := h.a.ch k (fun q b => hs q (.inr (.inl b)))
    c := h.c.ch k (fun q b => hs q (.inr (.inr (.inl b))))
    f := h.f.ch k (fun q b => hs q (.inr (.inr (.inr (.inl b)))))
    e := fun i u c hu hc => (h.e i u c hu hc).ch k (fun q b => hs q (.inr (.inr (.inr (.inr ⟨u, List.mem_iff_getElem?.2 ⟨i, hu⟩, b⟩))))) }
theorem St.lower {base base' : Nat} {w : World} {vg va vc vf : Value} {cv : List Value} {x : Sl} (h : St base w vg va vc vf cv x) (hb : base' ≤ base) : St base' w vg va vc vf cv x :=
  { h with
    g := h.g.lower hb
    a := h.a.lower hb
    c := h.c.lower hb
    f := h.f.lower hb
    e := fun i u c hu hc => (h.e i u c hu hc).lower hb }
theorem St.rd {base : Nat} {w : World} {vg va vc vf : Value} {cv : List Value} {x : Sl} (h : St base w vg va vc vf cv x) : Rd (SB vg va vc vf cv) w vg va vc vf cv x where
  g := h.g.lstB.mono (fun _ _ b => .inl b)
  a := h.a.lstB.mono (fun _ _ b => .inr (.inl b))
  c := h.c.lstB.mono (fun _ _ b => .inr (.inr (.inl b)))
  f := h.f.lstB.mono (fun _ _ b => .inr (.inr (.inr (.inl b))))
  e := ⟨h.cl, fun i u c hu hc => (h.e i u c hu hc).lstB.mono (fun _ _ b => .inr (.inr (.inr (.inr ⟨u, List.mem_iff_getElem?.2 ⟨i, hu⟩, b⟩))))⟩
theorem Rd.mono {P Q : Nat → Prop} {w : World} {vg va vc vf : Value} {cv : List Value} {x : Sl} (h : Rd P w vg va vc vf cv x) (hq : ∀ g, g < w.heap.size → P g → Q g) : Rd Q w vg va vc vf cv x where
  g := h.g.mono hq
  a := h.a.mono hq
  c := h.c.mono hq
  f := h.f.mono hq
  e := ⟨h.e.1, fun i u c hu hc => (h.e.2 i u c hu hc).mono hq⟩
theorem Rd.ch {P S : Nat → Prop} {w w' : World} {vg va vc vf : Value} {cv : List Value} {x : Sl} (h : Rd P w vg va vc vf cv x) (k : Ch S w w') (hs : ∀ g, g < w.heap.size → P g → ¬ S g) : Rd P w' vg va vc vf cv x where
  g := h.g.ch k hs
  a := h.a.ch k hs
  c := h.c.ch k hs
  f := h.f.ch k hs
  e := h.e.ch k hs

/-- five cells in a block -/
def Fv (t : Nat) (w : World) (k : Nat) (c0 c1 c2 c3 c4 : Value) : Prop := w.heap[k]? = some (.cells #[c0, c1, c2, c3, c4] t (0, 0))
section
variable {S : Nat → Prop} {t : Nat} {w w' : World} {k : Nat} {c0 c1 c2 c3 c4 : Value}
theorem Fv.new (t : Nat) (w : World) (c0 c1 c2 c3 c4 : Value) : Fv t (w.alloc (.cells #[c0, c1, c2, c3, c4] t)) w.heap.size c0 c1 c2 c3 c4 := (MapKept.heap_alloc w _).1
theorem Fv.lt (h : Fv t w k c0 c1 c2 c3 c4) : k < w.heap.size := lt_of_block h
theorem Fv.ch (h : Fv t w k c0 c1 c2 c3 c4) (g : Ch S w w') (hn : ¬ S k) : Fv t w' k c0 c1 c2 c3 c4 := (g.block k (lt_of_block h) hn).trans h
theorem Fv.alloc (h : Fv t w k c0 c1 c2 c3 c4) (o : Obj) : Fv t (w.alloc o) k c0 c1 c2 c3 c4 := (Below.heap_alloc _ _ _ h.lt).trans h
theorem Fv.cells (h : Fv t w k c0 c1 c2 c3 c4) : w.cell? ⟨k, 0, none⟩ = some c0 ∧ w.cell? ⟨k, 1, none⟩ = some c1 ∧ w.cell? ⟨k, 2, none⟩ = some c2 ∧ w.cell? ⟨k, 3, none⟩ = some c3 ∧ w.cell? ⟨k, 4, none⟩ = some c4 :=
  ⟨(cell_of h 0).trans rfl, (cell_of h 1).trans rfl, (cell_of h 2).trans rfl, (cell_of h 3).trans rfl, (cell_of h 4).trans rfl⟩
theorem Fv.fz (h : Fv t w k c0 c1 c2 c3 c4) : w.frozen? ⟨k, 0, none⟩ = false ∧ w.frozen? ⟨k, 1, none⟩ = false ∧ w.frozen? ⟨k, 2, none⟩ = false ∧ w.frozen? ⟨k, 3, none⟩ = false ∧ w.frozen? ⟨k, 4, none⟩ = false :=
  ⟨frozen_of h 0, frozen_of h 1, frozen_of h 2, frozen_of h 3, frozen_of h 4⟩
end
end Go.Proofs.Ytfbkifkfhgkdbab.Sb
