/-
  The words in which names is walked: a slab, the names that were told, those that are alive, a list of calls; and what is left of them behind a call. No conditions.
-/
import Derived.Test.YtfbkifkfhgkdbabSbBook
import Derived.Test.YtfbkifkfhgkdbabSbPairs
namespace Go.Proofs.Ytfbkifkfhgkdbab.Sb
open Go.RowKit
open Classical
attribute [local go_sem ↓] Go.wp_at_zero Go.wp_at_succ

/-- a list of calls -/
def OpL (w : World) (v : Value) (n : Nat) : Prop := ∃ ao cap, v = .slice ao n cap ∧ n ≤ 3518437208880 ∧ (n = 0 ∨ ∃ g p, ao = some ⟨g, p, none⟩ ∧ g < w.heap.size ∧ ∀ j, j < n → ∃ d pp pk s0 gn : Int, w.cell? ⟨g, p + j * 5, none⟩ = some (.int .i64 d) ∧ w.cell? ⟨g, p + j * 5 + 1, none⟩ = some (.int .i64 pp) ∧ w.cell? ⟨g, p + j * 5 + 2, none⟩ = some (.int .i64 pk) ∧ w.cell? ⟨g, p + j * 5 + 3, none⟩ = some (.int .i64 s0) ∧ w.cell? ⟨g, p + j * 5 + 4, none⟩ = some (.int .i64 gn))
/-- a list of calls, apart from a slab -/
def OpA (S0 : Nat → Prop) (w : World) (v : Value) (n : Nat) : Prop := ∃ ao cap, v = .slice ao n cap ∧ (n = 0 ∨ ∃ g p, ao = some ⟨g, p, none⟩ ∧ g < w.heap.size ∧ ¬ S0 g ∧ ∀ j, j < n → ∃ d pp pk s0 gn : Int, w.cell? ⟨g, p + j * 5, none⟩ = some (.int .i64 d) ∧ w.cell? ⟨g, p + j * 5 + 1, none⟩ = some (.int .i64 pp) ∧ w.cell? ⟨g, p + j * 5 + 2, none⟩ = some (.int .i64 pk) ∧ w.cell? ⟨g, p + j * 5 + 3, none⟩ = some (.int .i64 s0) ∧ w.cell? ⟨g, p + j * 5 + 4, none⟩ = some (.int .i64 gn))
/-- a list of calls that lay there ahead of a slab -/
theorem OpL.apart {S0 : Nat → Prop} {w w' : World} {v : Value} {n : Nat} (h : OpL w v n) (g : Ch NoB w w') (hS : ∀ q, S0 q → w.heap.size ≤ q) : OpA S0 w' v n := by
  obtain ⟨ao, cap, rfl, _, h0⟩ := h
  refine ⟨ao, cap, rfl, ?_⟩
  rcases h0 with h0 | ⟨gg, p, rfl, hg, hx⟩
  · exact .inl h0
  · refine .inr ⟨gg, p, rfl, Nat.lt_of_lt_of_le hg g.size, fun a => (by have := hS _ a; omega), fun j hj => ?_⟩
    obtain ⟨d, pp, pk, s0, gn, k0, k1, k2, k3, k4⟩ := hx j hj
    exact ⟨d, pp, pk, s0, gn, (g.cell hg (noB _)).trans k0, (g.cell hg (noB _)).trans k1, (g.cell hg (noB _)).trans k2, (g.cell hg (noB _)).trans k3, (g.cell hg (noB _)).trans k4⟩

/-- a slab, two lists of names, apart from one another, and what the book says -/
structure Nb (S : Nat → Prop) (base hb : Nat) (w : World) (b : Nat) (L : Int) (n : Nat) (x : Sl) (vh va : Value) (gs al : List (Int × Int)) : Prop where
  s : SlabIn S base w b L x
  h : Pr hb w vh gs
  a : Pr hb w va al
  d : Dj vh va
  k : Book L n x gs al
  sb : base ≤ w.heap.size
  hb : hb ≤ w.heap.size
  hs : ∀ q, Blk vh q → ¬ S q
  sa : ∀ q, Blk va q → ¬ S q
theorem Nb.ch {S T : Nat → Prop} {base hb : Nat} {w w' : World} {b : Nat} {L : Int} {n : Nat} {x : Sl} {vh va : Value} {gs al : List (Int × Int)} (h : Nb S base hb w b L n x vh va gs al) (g : Ch T w w') (h1 : ∀ q, S q → ¬ T q) (h2 : ∀ q, Blk vh q → ¬ T q) (h3 : ∀ q, Blk va q → ¬ T q) : Nb S base hb w' b L n x vh va gs al :=
  { s := h.s.ch g h1, h := h.h.ch g h2, a := h.a.ch g h3, d := h.d, k := h.k, sb := Nat.le_trans h.sb g.size, hb := Nat.le_trans h.hb g.size, hs := h.hs, sa := h.sa }
theorem Nb.still {S : Nat → Prop} {base hb : Nat} {w w' : World} {b : Nat} {L : Int} {n : Nat} {x : Sl} {vh va : Value} {gs al : List (Int × Int)} (h : Nb S base hb w b L n x vh va gs al) (g : Ch NoB w w') : Nb S base hb w' b L n x vh va gs al :=
  h.ch g (fun _ _ => noB _) (fun _ _ => noB _) (fun _ _ => noB _)
/-- behind a call of the slab, the lists as they were -/
theorem Nb.left {S S' : Nat → Prop} {base hb : Nat} {w w' : World} {b : Nat} {L : Int} {n : Nat} {x x' : Sl} {vh va : Value} {gs al gs' al' : List (Int × Int)} (h : Nb S base hb w b L n x vh va gs al) (i : SlabIn S' base w' b L x') (g : Ch S w w') (k : ∀ q, S' q → S q ∨ w.heap.size ≤ q) (eg : gs' = gs) (ea : al' = al) (hk : Book L n x' gs' al') : Nb S' base hb w' b L n x' vh va gs' al' := by
  subst eg ea
  exact { s := i, h := h.h.ch g h.hs, a := h.a.ch g h.sa, d := h.d, k := hk, sb := Nat.le_trans h.sb g.size, hb := Nat.le_trans h.hb g.size,
          hs := fun q a e => (k q e).elim (h.hs q a) (fun e => by have := (h.h.blk a).2; omega), sa := fun q a e => (k q e).elim (h.sa q a) (fun e => by have := (h.a.blk a).2; omega) }
theorem Book.few {L : Int} {n : Nat} {x : Sl} {gs al : List (Int × Int)} (b : Book L n x gs al) : al.length ≤ 4096 := by
  have h1 : cnt x.A ≤ x.A.length := cnt_le _
  have := b.len
  have := b.m.ag
  have := b.m.gl2
  omega

/-- names stands behind j calls -/
def Nm (S0 : Nat → Prop) (base : Nat) (w : World) (b : Nat) (L : Int) (n : Nat) (vo : Value) (j : Nat) (vh va : Value) (wr : World) : Prop :=
  ∃ S x gs al, Nb S base (w.heap.size + 1) wr b L n x vh va gs al ∧ gs.length ≤ j ∧ Ch S0 w wr ∧ (∀ q, S q → S0 q ∨ w.heap.size < q) ∧ wr.heap[w.heap.size]? = some (.cells #[.int .i64 L, .int .i64 (n : Int), vo] 24 (0, 0))
/-- what names tells and leaves -/
def Named (S0 : Nat → Prop) (base : Nat) (w : World) (b : Nat) (L : Int) (n N : Nat) (e : Ending) (w' : World) : Prop :=
  ∃ S x gs al ha hc aa ac, e = .returned (.tuple #[.slice ha gs.length hc, .slice aa al.length ac, .bool true]) ∧ Nb S base w.heap.size w' b L n x (.slice ha gs.length hc) (.slice aa al.length ac) gs al ∧ gs.length ≤ N ∧ Ch S0 w w' ∧ (∀ q, S q → S0 q ∨ w.heap.size ≤ q)

/-- two names, compared -/
theorem eql_gid (s g s' g' : Int) (w : World) : (binOp .eql 34 (.agg #[.int .i64 s, .int .i64 g]) (.agg #[.int .i64 s', .int .i64 g'])).run Try.prog w = .ok (.bool (decide ((s, g) = (s', g')))) w := by
  by_cases h1 : s = s'
  · by_cases h2 : g = g'
    · subst h1 h2
      go_simp
    · subst h1
      go_simp
  · go_simp


theorem Pr.len {base m cap : Nat} {w : World} {ao : Option Addr} {gs : List (Int × Int)} (h : Pr base w (.slice ao m cap) gs) : m = gs.length ∧ m ≤ cap ∧ (ao = none → cap = 0) := by
  rcases h.2 with ⟨h1, h0⟩ | ⟨g, cap', cur, h1, hb, hg, hc, hm, hs, ht⟩
  · cases h1
    exact ⟨h0.symm, Nat.le_refl _, fun _ => rfl⟩
  · injection h1 with a1 a2 a3
    subst a3
    exact ⟨a2, by omega, fun e => by rw [e] at a1; cases a1⟩
theorem Pr.lower {base base' : Nat} {w : World} {v : Value} {gs : List (Int × Int)} (h : Pr base w v gs) (hb : base' ≤ base) : Pr base' w v gs := by
  refine ⟨h.1, h.2.imp id ?_⟩
  rintro ⟨g, cap, cur, hv, h1, r⟩
  exact ⟨g, cap, cur, hv, Nat.le_trans hb h1, r⟩
theorem rowP_take : ∀ (gs : List (Int × Int)) (k : Nat), rowP (gs.take k) = (rowP gs).take (k * 2)
  | [], k => by simp [rowP]
  | g :: r, 0 => by simp [rowP]
  | g :: r, k + 1 => by
    have e : (k + 1) * 2 = k * 2 + 1 + 1 := by omega
    rw [e]
    simp only [List.take_succ_cons, rowP, rowP_take r k]
theorem rowP_set : ∀ (gs : List (Int × Int)) (k : Nat) (z : Int × Int), rowP (gs.set k z) = ((rowP gs).set (k * 2) (.int .i64 z.1)).set (k * 2 + 1) (.int .i64 z.2)
  | [], k, z => by simp [rowP]
  | g :: r, 0, z => by simp [rowP]
  | g :: r, k + 1, z => by
    have e : (k + 1) * 2 = k * 2 + 1 + 1 := by omega
    rw [e]
    simp only [List.set_cons_succ, rowP, rowP_set r k z]
theorem Pr.take {base m cap k : Nat} {w : World} {ao : Option Addr} {gs : List (Int × Int)} (h : Pr base w (.slice ao m cap) gs) (hn : k ≤ m) : Pr base w (.slice ao k cap) (gs.take k) := by
  rcases h.2 with ⟨h1, h0⟩ | ⟨g, cap', cur, h1, hb, hg, hc, hm, hs, ht⟩
  · cases h1
    have e1 : gs = [] := List.eq_nil_of_length_eq_zero h0
    subst e1
    have e2 : k = 0 := by omega
    subst e2
    exact Pr.nil _ _
  · injection h1 with a1 a2 a3
    subst a1 a3
    subst a2
    have hl : (gs.take k).length = k := by rw [List.length_take]; omega
    refine ⟨rowP_length _, .inr ⟨g, cap, cur, by rw [hl], hb, hg, by omega, hm, hs, ?_⟩⟩
    rw [hl, rowP_take, ← ht, List.take_take, Nat.min_eq_left (by omega)]
theorem Pr.set {base m cap i : Nat} {w : World} {b : Nat} {gs : List (Int × Int)} (h : Pr base w (.slice (some ⟨b, 0, none⟩) m cap) gs) (hi : i < m) (z : Int × Int) :
    Pr base ((w.setCell ⟨b, i * 2, none⟩ (.int .i64 z.1)).setCell ⟨b, i * 2 + 1, none⟩ (.int .i64 z.2)) (.slice (some ⟨b, 0, none⟩) m cap) (gs.set i z) := by
  rcases h.2 with ⟨h1, h0⟩ | ⟨g, cap', cur, h1, hb, hg, hc, hm, hs, ht⟩
  · cases h1
  · injection h1 with a1 a2 a3
    injection a1 with a1
    injection a1 with a1
    subst a1 a3
    subst a2
    refine ⟨rowP_length _, .inr ⟨b, cap, (cur.setIfInBounds (i * 2) (.int .i64 z.1)).setIfInBounds (i * 2 + 1) (.int .i64 z.2), by rw [List.length_set], hb, setCell_block (setCell_block hg _ _) _ _, by rw [List.length_set]; exact hc, hm, by simpa using hs, ?_⟩⟩
    rw [List.length_set, Array.toList_setIfInBounds, Array.toList_setIfInBounds, List.take_set, List.take_set, ht, rowP_set]
theorem Pr.fz {base m cap : Nat} {w : World} {b : Nat} {gs : List (Int × Int)} (h : Pr base w (.slice (some ⟨b, 0, none⟩) m cap) gs) (i : Nat) : w.frozen? ⟨b, i, none⟩ = false := by
  rcases h.2 with ⟨h1, h0⟩ | ⟨g, cap', cur, h1, hb, hg, hc, hm, hs, ht⟩
  · cases h1
  · injection h1 with a1 a2 a3
    injection a1 with a1
    injection a1 with a1
    subst a1
    exact frozen_of hg i

/-- names stands behind a call more -/
theorem Nm.of {S0 S S' T : Nat → Prop} {base : Nat} {w V w' : World} {b : Nat} {L : Int} {n : Nat} {vo : Value} {j : Nat} {vh va : Value} {x : Sl} {gs al : List (Int × Int)} (hlt : ∀ q, S0 q → q < w.heap.size) (hg : Ch S0 w V) (hSS : ∀ q, S q → S0 q ∨ w.heap.size < q) (hbx : V.heap[w.heap.size]? = some (.cells #[.int .i64 L, .int .i64 (n : Int), vo] 24 (0, 0)))
    (gT : Ch T V w') (hT : ∀ q, T q → S q ∨ w.heap.size + 1 ≤ q) (hS' : ∀ q, S' q → S q ∨ V.heap.size ≤ q) (nb : Nb S' base (w.heap.size + 1) w' b L n x vh va gs al) (hl : gs.length ≤ j) : Nm S0 base w b L n vo j vh va w' := by
  have hV := lt_of_block hbx
  refine ⟨S', x, gs, al, nb, hl, hg.trans gT (fun q e => (hT q e).elim (fun a => (hSS q a).imp id Nat.le_of_lt) (fun a => .inr (by omega))), fun q a => (hS' q a).elim (hSS q) (fun e => .inr (by omega)), ?_⟩
  refine (gT.block _ hV (fun e => (hT _ e).elim (fun a => (hSS _ a).elim (fun a => ?_) (fun a => ?_)) (fun a => ?_))).trans hbx
  · have := hlt _ a
    omega
  · omega
  · omega
theorem Nb.named {S S1 : Nat → Prop} {base hb : Nat} {V W2 W3 w5 w6 : World} {b : Nat} {L : Int} {n : Nat} {x x' : Sl} {vh va vh' va' : Value} {gs al : List (Int × Int)} {y : Int × Int} (h : Nb S base hb V b L n x vh va gs al) (g2 : Ch S V W2) (i2 : SlabIn S1 base W2 b L x') (n2 : ∀ q, S1 q → S q ∨ V.heap.size ≤ q) (g3 : Ch NoB W2 W3)
    (gC5 : Ch (Blk vh) W3 w5) (p5 : Pr hb w5 vh' (gs ++ [y])) (b5 : ∀ q, Blk vh' q → Blk vh q ∨ W3.heap.size ≤ q) (gC6 : Ch (Blk va) w5 w6) (p6 : Pr hb w6 va' (al ++ [y])) (b6 : ∀ q, Blk va' q → Blk va q ∨ w5.heap.size ≤ q) (hk : Book L n x' (gs ++ [y]) (al ++ [y])) :
    Nb S1 base hb w6 b L n x' vh' va' (gs ++ [y]) (al ++ [y]) ∧ Ch (fun q => S q ∨ Blk vh q ∨ Blk va q) V w6 := by
  have z2 := g2.size
  have z3 := g3.size
  have z5 := gC5.size
  have z6 := gC6.size
  have S1l := i2.lt
  have vS : ∀ q, S1 q → ¬ Blk vh q := fun q a e => (n2 q a).elim (h.hs q e) (fun a => by have := (h.h.blk e).2; omega)
  have aS : ∀ q, S1 q → ¬ Blk va q := fun q a e => (n2 q a).elim (h.sa q e) (fun a => by have := (h.a.blk e).2; omega)
  refine ⟨{ s := ((i2.ch g3 (fun _ _ => noB _)).ch gC5 vS).ch gC6 aS, h := p5.ch gC6 (fun q a e => ?_), a := p6, d := fun q a e => ?_, k := hk, sb := by have := h.sb; omega, hb := by have := h.hb; omega, hs := fun q a e => ?_, sa := fun q a e => ?_ }, ?_⟩
  · rcases b5 q a with a | a
    · exact h.d q a e
    · have := (h.a.blk e).2
      omega
  · have l5 := (p5.blk a).2
    rcases b5 q a with a | a
    · rcases b6 q e with e | e
      · exact h.d q a e
      · have := (h.h.blk a).2
        omega
    · rcases b6 q e with e | e
      · have := (h.a.blk e).2
        omega
      · omega
  · rcases b5 q a with a | a
    · exact vS q e a
    · have := S1l q e
      omega
  · rcases b6 q a with a | a
    · exact aS q e a
    · have := S1l q e
      omega
  · exact (((g2.mono (T := fun q => S q ∨ Blk vh q ∨ Blk va q) (fun q a => .inl (.inl a))).trans g3 (fun q e => e.elim)).trans gC5 (fun q e => .inl (.inr (.inl e)))).trans gC6 (fun q e => .inl (.inr (.inr e)))
theorem Nb.low {S : Nat → Prop} {base hb hb' : Nat} {w : World} {b : Nat} {L : Int} {n : Nat} {x : Sl} {vh va : Value} {gs al : List (Int × Int)} (h : Nb S base hb w b L n x vh va gs al) (hl : hb' ≤ hb) : Nb S base hb' w b L n x vh va gs al :=
  { h with h := h.h.lower hl, a := h.a.lower hl, hb := Nat.le_trans hl h.hb }
/-- behind Give of a name that is alive -/
theorem Nb.gave {S S1 : Nat → Prop} {base hb : Nat} {V w1 w2 : World} {b : Nat} {L : Int} {n : Nat} {x x' : Sl} {vh va va' : Value} {gs al al' : List (Int × Int)} (h : Nb S base hb V b L n x vh va gs al) (g1 : Ch S V w1) (i1 : SlabIn S1 base w1 b L x') (n1 : ∀ q, S1 q → S q ∨ V.heap.size ≤ q)
    (g2 : Ch (Blk va) w1 w2) (p2 : Pr hb w2 va' al') (b2 : ∀ q, Blk va' q → Blk va q) (hk : Book L n x' gs al') : Nb S1 base hb w2 b L n x' vh va' gs al' ∧ Ch (fun q => S q ∨ Blk va q) V w2 := by
  have z1 := g1.size
  have z2 := g2.size
  have vS : ∀ q, S1 q → ¬ Blk vh q := fun q a e => (n1 q a).elim (h.hs q e) (fun a => by have := (h.h.blk e).2; omega)
  have aS : ∀ q, S1 q → ¬ Blk va q := fun q a e => (n1 q a).elim (h.sa q e) (fun a => by have := (h.a.blk e).2; omega)
  exact ⟨{ s := i1.ch g2 aS, h := (h.h.ch g1 h.hs).ch g2 (fun q a => h.d q a), a := p2, d := fun q a e => h.d q a (b2 q e), k := hk, sb := by have := h.sb; omega, hb := by have := h.hb; omega, hs := fun q a e => vS q e a, sa := fun q a e => aS q e (b2 q a) }, (g1.mono (T := fun q => S q ∨ Blk va q) (fun q a => .inl (.inl a))).trans g2 (fun q e => .inl (.inr e))⟩
/-- Give, by the book: a name that is not alive -/
theorem giveR_not {L : Int} {n : Nat} {x : Sl} {gs al : List (Int × Int)} {p s g : Int} (b : Book L n x gs al) (h : (s, g) ∉ al) : ((giveR x p s g).1 == 0) = false ∧ (giveR x p s g).2 = x := by
  have ha : aliveB x s g = false := by
    cases e : aliveB x s g with
    | false => rfl
    | true => exact absurd ((b.a (s, g)).2 e) h
  unfold giveR
  split
  · rw [if_neg (by rw [ha]; decide)]
    exact ⟨rfl, rfl⟩
  · exact ⟨rfl, rfl⟩
theorem giveR_out {x : Sl} {p s g : Int} (h : ¬ HasP x p) : giveR x p s g = (1, x) := if_neg h
/-- a name that is alive -/
theorem giveR_in {L : Int} {n : Nat} {x : Sl} {gs al : List (Int × Int)} {p s g : Int} {i : Nat} {z : Int × Int} (b : Book L n x gs al) (hp : HasP x p) (hi : al[i]? = some (s, g)) (hz : al[al.length - 1]? = some z) (hh : gs.length < 2147483647) : (giveR x p s g).1 = 0 ∧ Book L n (giveR x p s g).2 gs (outL al i z) := by
  have ha : aliveB x s g = true := (b.a (s, g)).1 (List.mem_of_getElem? hi)
  obtain ⟨m, c, rfl, hc⟩ := hasP_nat hp
  obtain ⟨k, rfl, hG, hA⟩ := alive_nat b.m.ag ha
  rw [giveR_good hc hG hA]
  exact ⟨rfl, b.give hc hG hA hi hz hh⟩
theorem Nm.new {S0 : Nat → Prop} {base : Nat} {w : World} {b : Nat} {L : Int} {n : Nat} {vo : Value} (hs : SlabIn S0 base w b L (newSl n)) (hbase : base ≤ w.heap.size) (hS : Sized L n) : Nm S0 base w b L n vo 0 (.slice none 0 0) (.slice none 0 0) (w.alloc (.cells #[.int .i64 L, .int .i64 (n : Int), vo] 24)) := by
  have g : Ch NoB w (w.alloc (.cells #[.int .i64 L, .int .i64 (n : Int), vo] 24)) := (Ch.refl _ _).alloc _
  have z : (w.alloc (.cells #[.int .i64 L, .int .i64 (n : Int), vo] 24)).heap.size = w.heap.size + 1 := by simp
  refine ⟨S0, newSl n, [], [], { s := hs.ch g (fun _ _ => noB _), h := Pr.nil _ _, a := Pr.nil _ _, d := Dj.nil _, k := Book.new hS.1.1 hS.1.2 (by have := hS.2.1; omega) (by have := hS.2.2; omega), sb := by omega, hb := by omega, hs := fun q a => (by cases a), sa := fun q a => (by cases a) }, Nat.le_refl _, g.any, fun q a => .inl a, (MapKept.heap_alloc w _).1⟩
theorem flushR_book {L : Int} {n : Nat} {x : Sl} {gs al : List (Int × Int)} {p : Int} (b : Book L n x gs al) : Book L n (flushR x p).2 gs al := by
  by_cases hp : HasP x p
  · obtain ⟨k, c, rfl, hc⟩ := hasP_nat hp
    rw [flushR_good hc]
    exact b.flush hc
  · rw [flushR, if_neg hp]
    exact b
theorem flushR_fst (x : Sl) (p : Int) : (flushR x p).1 = if HasP x p then 0 else 1 := by
  unfold flushR
  split <;> rfl
end Go.Proofs.Ytfbkifkfhgkdbab.Sb
