/-
  Channels in memory: what they own, and how a part of one is set; what reads as channels. No conditions.
-/
import Derived.Test.YtalmiphddgmfbabCnBase
namespace Go.Proofs.Ytalmiphddgmfbab.Lt
open Go.RowKit Wd

/-- whose a block is: a kind, a place, a goroutine -/
structure Tg where
  k : Nat
  i : Nat
  s : Int
  g : Int
abbrev Tg.no : Tg := ⟨0, 0, 0, 0⟩
abbrev Tg.out : Tg := ⟨1, 0, 0, 0⟩
abbrev Tg.me : Tg := ⟨2, 0, 0, 0⟩
abbrev Tg.mp : Tg := ⟨3, 0, 0, 0⟩
abbrev Tg.vs (i : Nat) : Tg := ⟨4, i, 0, 0⟩
abbrev Tg.ss (i : Nat) : Tg := ⟨5, i, 0, 0⟩
abbrev Tg.rs (i : Nat) : Tg := ⟨6, i, 0, 0⟩
abbrev Tg.pl (s g : Int) : Tg := ⟨7, 0, s, g⟩
/-- is it a block of the channels? -/
abbrev Tg.in_ (t : Tg) : Prop := (t.k == 1 || t.k == 4 || t.k == 5 || t.k == 6) = true
/-- would it not wait? -/
def goes (c : Cn) (sd : Bool) : Bool := if c.cl = true then true else if sd = true then (decide (0 < c.rs.length) || decide ((c.vs.length : Int) < c.cap)) else (decide (0 < c.vs.length) || decide (0 < c.ss.length))
/-- one that is woken: its slot and generation, its case, its value, Ok, its trap -/
structure Wk where
  s : Int
  g : Int
  c : Int
  v : Int
  ok : Bool
  t : Int
def eK (x : Wk) : List Value := [.int .i64 x.s, .int .i64 x.g, .int .i64 x.c, .int .i64 x.v, .bool x.ok, .int .i64 x.t]
theorem eK_len (x : Wk) : (eK x).length = 6 := rfl
theorem eK_one (xs : List Wk) : ∀ u ∈ xs.flatMap eK, u.oneCell' = true := by
  intro u hu
  rw [List.mem_flatMap] at hu
  obtain ⟨x, _, hx⟩ := hu
  simp only [eK, List.mem_cons, List.not_mem_nil, or_false] at hx
  rcases hx with h | h | h | h | h | h <;> rw [h] <;> rfl
/-- a channel in memory, at its place -/
structure One (t : Nat → Tg) (base : Nat) (w : World) (i : Nat) (x : Rw) (c : Cn) : Prop where
  cap : x.cap = c.cap
  cl : x.cl = c.cl
  v : Ow eI 1 2 base w x.v c.vs
  tv : ∀ q, Blk x.v q → t q = .vs i
  s : Ow eW 4 95 base w x.s c.ss
  ts : ∀ q, Blk x.s q → t q = .ss i
  r : Ow eW 4 95 base w x.r c.rs
  tr : ∀ q, Blk x.r q → t q = .rs i
theorem One.ch {t : Nat → Tg} {base : Nat} {w w' : World} {i : Nat} {x : Rw} {c : Cn} {S : Nat → Prop} (h : One t base w i x c) (k : Ch S w w') (hS : ∀ q, S q → ¬ (t q).in_) : One t base w' i x c :=
  ⟨h.cap, h.cl, h.v.ch k (fun q hq hs => hS q hs (by rw [h.tv q hq]; trivial)), h.tv, h.s.ch k (fun q hq hs => hS q hs (by rw [h.ts q hq]; trivial)), h.ts, h.r.ch k (fun q hq hs => hS q hs (by rw [h.tr q hq]; trivial)), h.tr⟩
theorem One.tag {t t' : Nat → Tg} {base : Nat} {w : World} {i : Nat} {x : Rw} {c : Cn} (h : One t base w i x c) (k : ∀ q, q < w.heap.size → (t q).in_ → t' q = t q) : One t' base w i x c :=
  ⟨h.cap, h.cl, h.v, fun q hq => (k q (h.v.blk hq).2 (by rw [h.tv q hq]; trivial)).trans (h.tv q hq), h.s, fun q hq => (k q (h.s.blk hq).2 (by rw [h.ts q hq]; trivial)).trans (h.ts q hq), h.r, fun q hq => (k q (h.r.blk hq).2 (by rw [h.tr q hq]; trivial)).trans (h.tr q hq)⟩
/-- channels in memory -/
structure NL (t : Nat → Tg) (base : Nat) (w : World) (v : Value) (xs : List Rw) (cs : List Cn) : Prop where
  o : Ow eR 5 70 base w v xs
  to : ∀ q, Blk v q → t q = .out
  n : xs.length = cs.length
  f : ∀ (i : Nat) (x : Rw) (c : Cn), xs[i]? = some x → cs[i]? = some c → One t base w i x c
section
variable {t t' : Nat → Tg} {base : Nat} {w w' : World} {v : Value} {xs : List Rw} {cs : List Cn} {S : Nat → Prop}
theorem NL.ch (h : NL t base w v xs cs) (k : Ch S w w') (hS : ∀ q, S q → ¬ (t q).in_) : NL t base w' v xs cs :=
  ⟨h.o.ch k (fun q hq hs => hS q hs (by rw [h.to q hq]; trivial)), h.to, h.n, fun i x c hx hc => (h.f i x c hx hc).ch k hS⟩
theorem NL.gr (h : NL t base w v xs cs) (k : Gr w w') : NL t base w' v xs cs := h.ch k (fun _ q => q.elim)
theorem NL.tag (h : NL t base w v xs cs) (k : ∀ q, q < w.heap.size → (t q).in_ → t' q = t q) : NL t' base w v xs cs :=
  ⟨h.o, fun q hq => (k q (h.o.blk hq).2 (by rw [h.to q hq]; trivial)).trans (h.to q hq), h.n, fun i x c hx hc => (h.f i x c hx hc).tag k⟩
end
open Classical in
/-- a channel's vs are others -/
theorem NL.setv {t : Nat → Tg} {base : Nat} {w w1 : World} {v u : Value} {xs : List Rw} {cs : List Cn} {i : Nat} {x : Rw} {c : Cn} {us : List Int} (h : NL t base w v xs cs) (hx : xs[i]? = some x) (hc : cs[i]? = some c) (k : Ch (Blk x.v) w w1) (o : Ow eI 1 2 base w1 u us) (hu : ∀ q, Blk u q → Blk x.v q ∨ w.heap.size ≤ q) :
    ∃ g ca t', v = .slice (some ⟨g, 0, none⟩) xs.length ca ∧ g < w.heap.size ∧ t g = .out ∧ w1.cell? ⟨g, i * 5 + 1, none⟩ = some x.v ∧ w1.frozen? ⟨g, i * 5 + 1, none⟩ = false ∧
      (∀ q, q < w.heap.size → t' q = t q) ∧ (∀ q, w.heap.size ≤ q → ¬ Blk u q → t' q = t q) ∧ NL t' base (w1.setCell ⟨g, i * 5 + 1, none⟩ u) v (xs.set i ⟨x.cap, u, x.s, x.r, x.cl⟩) (cs.set i ⟨c.cap, us, c.ss, c.rs, c.cl⟩) := by
  have hx1 := h.f i x c hx hc
  have h1 : Ow eR 5 70 base w1 v xs := h.o.ch k (fun q hq hb => by have e1 := h.to q hq; rw [hx1.tv q hb] at e1; cases e1)
  obtain ⟨g, ca, e, hb, hg, hl, hcs, hfz, hst⟩ := h1.get eR_len hx
  obtain ⟨g', ca', e', hb', hg', -, -, -, -⟩ := h.o.get eR_len hx
  have eg : g' = g := by
    rw [e] at e'
    injection e' with e1 _ _
    injection e1 with e1
    injection e1 with e1 _ _
    exact e1.symm
  subst eg
  have tg : t g' = .out := h.to g' (by rw [e]; rfl)
  have kk : Ch (Only g') w1 (w1.setCell ⟨g', i * 5 + 1, none⟩ u) := (Ch.refl _ _).own _ _
  refine ⟨g', ca, fun q => if Blk u q then .vs i else t q, e, hg', tg, hcs 1 _ rfl, hfz _, fun q hq => ?_, fun q _ hn => if_neg hn, ?_, ?_, ?_, ?_⟩
  · show (if Blk u q then Tg.vs i else t q) = t q
    split
    · rename_i hb2
      rcases hu q hb2 with h2 | h2
      · exact (hx1.tv q h2).symm
      · omega
    · rfl
  · exact hst 1 u ⟨x.cap, u, x.s, x.r, x.cl⟩ (by omega) rfl
  · intro q hq
    refine (if_neg (fun hb2 => ?_)).trans (h.to q hq)
    rcases hu q hb2 with h2 | h2
    · have e1 := h.to q hq
      rw [hx1.tv q h2] at e1
      cases e1
    · have := (h.o.blk hq).2
      omega
  · rw [List.length_set, List.length_set]
    exact h.n
  · intro j y d hy hd
    by_cases hj : i = j
    · subst hj
      have y1 := hx1
      rw [List.getElem?_set_self (List.getElem?_eq_some_iff.1 hx).1] at hy
      rw [List.getElem?_set_self (List.getElem?_eq_some_iff.1 hc).1] at hd
      injection hy with hy
      injection hd with hd
      subst hy hd
      exact ⟨hx1.cap, hx1.cl, (o.ch kk (fun q hq hb => (hu q hq).elim (fun h1 => by have e2 : q = g' := hb; have e1 := hx1.tv q h1; rw [e2, tg] at e1; cases e1) (fun h1 => by have e2 : q = g' := hb; omega))), (fun q hq => if_pos hq), ((y1.s.ch k (fun q hq hb => by have e1 := y1.ts q hq; rw [hx1.tv q hb] at e1; first | (cases e1; done) | (injection e1 with e1; omega))).ch kk (fun q hq hb => by have e1 := y1.ts q hq; have e2 : q = g' := hb; rw [e2, tg] at e1; cases e1)), (fun q hq => (if_neg (fun hb => (hu q hb).elim (fun hb => by have e1 := y1.ts q hq; rw [hx1.tv q hb] at e1; first | (cases e1; done) | (injection e1 with e1; omega)) (fun hb => by have := (y1.s.blk hq).2; omega))).trans (y1.ts q hq)), ((y1.r.ch k (fun q hq hb => by have e1 := y1.tr q hq; rw [hx1.tv q hb] at e1; first | (cases e1; done) | (injection e1 with e1; omega))).ch kk (fun q hq hb => by have e1 := y1.tr q hq; have e2 : q = g' := hb; rw [e2, tg] at e1; cases e1)), (fun q hq => (if_neg (fun hb => (hu q hb).elim (fun hb => by have e1 := y1.tr q hq; rw [hx1.tv q hb] at e1; first | (cases e1; done) | (injection e1 with e1; omega)) (fun hb => by have := (y1.r.blk hq).2; omega))).trans (y1.tr q hq))⟩
    · rw [List.getElem?_set_ne hj] at hy hd
      have y1 := h.f j y d hy hd
      exact ⟨y1.cap, y1.cl, ((y1.v.ch k (fun q hq hb => by have e1 := y1.tv q hq; rw [hx1.tv q hb] at e1; first | (cases e1; done) | (injection e1 with e1; omega))).ch kk (fun q hq hb => by have e1 := y1.tv q hq; have e2 : q = g' := hb; rw [e2, tg] at e1; cases e1)), (fun q hq => (if_neg (fun hb => (hu q hb).elim (fun hb => by have e1 := y1.tv q hq; rw [hx1.tv q hb] at e1; first | (cases e1; done) | (injection e1 with e1; omega)) (fun hb => by have := (y1.v.blk hq).2; omega))).trans (y1.tv q hq)), ((y1.s.ch k (fun q hq hb => by have e1 := y1.ts q hq; rw [hx1.tv q hb] at e1; first | (cases e1; done) | (injection e1 with e1; omega))).ch kk (fun q hq hb => by have e1 := y1.ts q hq; have e2 : q = g' := hb; rw [e2, tg] at e1; cases e1)), (fun q hq => (if_neg (fun hb => (hu q hb).elim (fun hb => by have e1 := y1.ts q hq; rw [hx1.tv q hb] at e1; first | (cases e1; done) | (injection e1 with e1; omega)) (fun hb => by have := (y1.s.blk hq).2; omega))).trans (y1.ts q hq)), ((y1.r.ch k (fun q hq hb => by have e1 := y1.tr q hq; rw [hx1.tv q hb] at e1; first | (cases e1; done) | (injection e1 with e1; omega))).ch kk (fun q hq hb => by have e1 := y1.tr q hq; have e2 : q = g' := hb; rw [e2, tg] at e1; cases e1)), (fun q hq => (if_neg (fun hb => (hu q hb).elim (fun hb => by have e1 := y1.tr q hq; rw [hx1.tv q hb] at e1; first | (cases e1; done) | (injection e1 with e1; omega)) (fun hb => by have := (y1.r.blk hq).2; omega))).trans (y1.tr q hq))⟩
open Classical in
/-- a channel's ss are others -/
theorem NL.sets {t : Nat → Tg} {base : Nat} {w w1 : World} {v u : Value} {xs : List Rw} {cs : List Cn} {i : Nat} {x : Rw} {c : Cn} {us : List Wt} (h : NL t base w v xs cs) (hx : xs[i]? = some x) (hc : cs[i]? = some c) (k : Ch (Blk x.s) w w1) (o : Ow eW 4 95 base w1 u us) (hu : ∀ q, Blk u q → Blk x.s q ∨ w.heap.size ≤ q) :
    ∃ g ca t', v = .slice (some ⟨g, 0, none⟩) xs.length ca ∧ g < w.heap.size ∧ t g = .out ∧ w1.cell? ⟨g, i * 5 + 2, none⟩ = some x.s ∧ w1.frozen? ⟨g, i * 5 + 2, none⟩ = false ∧
      (∀ q, q < w.heap.size → t' q = t q) ∧ (∀ q, w.heap.size ≤ q → ¬ Blk u q → t' q = t q) ∧ NL t' base (w1.setCell ⟨g, i * 5 + 2, none⟩ u) v (xs.set i ⟨x.cap, x.v, u, x.r, x.cl⟩) (cs.set i ⟨c.cap, c.vs, us, c.rs, c.cl⟩) := by
  have hx1 := h.f i x c hx hc
  have h1 : Ow eR 5 70 base w1 v xs := h.o.ch k (fun q hq hb => by have e1 := h.to q hq; rw [hx1.ts q hb] at e1; cases e1)
  obtain ⟨g, ca, e, hb, hg, hl, hcs, hfz, hst⟩ := h1.get eR_len hx
  obtain ⟨g', ca', e', hb', hg', -, -, -, -⟩ := h.o.get eR_len hx
  have eg : g' = g := by
    rw [e] at e'
    injection e' with e1 _ _
    injection e1 with e1
    injection e1 with e1 _ _
    exact e1.symm
  subst eg
  have tg : t g' = .out := h.to g' (by rw [e]; rfl)
  have kk : Ch (Only g') w1 (w1.setCell ⟨g', i * 5 + 2, none⟩ u) := (Ch.refl _ _).own _ _
  refine ⟨g', ca, fun q => if Blk u q then .ss i else t q, e, hg', tg, hcs 2 _ rfl, hfz _, fun q hq => ?_, fun q _ hn => if_neg hn, ?_, ?_, ?_, ?_⟩
  · show (if Blk u q then Tg.ss i else t q) = t q
    split
    · rename_i hb2
      rcases hu q hb2 with h2 | h2
      · exact (hx1.ts q h2).symm
      · omega
    · rfl
  · exact hst 2 u ⟨x.cap, x.v, u, x.r, x.cl⟩ (by omega) rfl
  · intro q hq
    refine (if_neg (fun hb2 => ?_)).trans (h.to q hq)
    rcases hu q hb2 with h2 | h2
    · have e1 := h.to q hq
      rw [hx1.ts q h2] at e1
      cases e1
    · have := (h.o.blk hq).2
      omega
  · rw [List.length_set, List.length_set]
    exact h.n
  · intro j y d hy hd
    by_cases hj : i = j
    · subst hj
      have y1 := hx1
      rw [List.getElem?_set_self (List.getElem?_eq_some_iff.1 hx).1] at hy
      rw [List.getElem?_set_self (List.getElem?_eq_some_iff.1 hc).1] at hd
      injection hy with hy
      injection hd with hd
      subst hy hd
      exact ⟨hx1.cap, hx1.cl, ((y1.v.ch k (fun q hq hb => by have e1 := y1.tv q hq; rw [hx1.ts q hb] at e1; first | (cases e1; done) | (injection e1 with e1; omega))).ch kk (fun q hq hb => by have e1 := y1.tv q hq; have e2 : q = g' := hb; rw [e2, tg] at e1; cases e1)), (fun q hq => (if_neg (fun hb => (hu q hb).elim (fun hb => by have e1 := y1.tv q hq; rw [hx1.ts q hb] at e1; first | (cases e1; done) | (injection e1 with e1; omega)) (fun hb => by have := (y1.v.blk hq).2; omega))).trans (y1.tv q hq)), (o.ch kk (fun q hq hb => (hu q hq).elim (fun h1 => by have e2 : q = g' := hb; have e1 := hx1.ts q h1; rw [e2, tg] at e1; cases e1) (fun h1 => by have e2 : q = g' := hb; omega))), (fun q hq => if_pos hq), ((y1.r.ch k (fun q hq hb => by have e1 := y1.tr q hq; rw [hx1.ts q hb] at e1; first | (cases e1; done) | (injection e1 with e1; omega))).ch kk (fun q hq hb => by have e1 := y1.tr q hq; have e2 : q = g' := hb; rw [e2, tg] at e1; cases e1)), (fun q hq => (if_neg (fun hb => (hu q hb).elim (fun hb => by have e1 := y1.tr q hq; rw [hx1.ts q hb] at e1; first | (cases e1; done) | (injection e1 with e1; omega)) (fun hb => by have := (y1.r.blk hq).2; omega))).trans (y1.tr q hq))⟩
    · rw [List.getElem?_set_ne hj] at hy hd
      have y1 := h.f j y d hy hd
      exact ⟨y1.cap, y1.cl, ((y1.v.ch k (fun q hq hb => by have e1 := y1.tv q hq; rw [hx1.ts q hb] at e1; first | (cases e1; done) | (injection e1 with e1; omega))).ch kk (fun q hq hb => by have e1 := y1.tv q hq; have e2 : q = g' := hb; rw [e2, tg] at e1; cases e1)), (fun q hq => (if_neg (fun hb => (hu q hb).elim (fun hb => by have e1 := y1.tv q hq; rw [hx1.ts q hb] at e1; first | (cases e1; done) | (injection e1 with e1; omega)) (fun hb => by have := (y1.v.blk hq).2; omega))).trans (y1.tv q hq)), ((y1.s.ch k (fun q hq hb => by have e1 := y1.ts q hq; rw [hx1.ts q hb] at e1; first | (cases e1; done) | (injection e1 with e1; omega))).ch kk (fun q hq hb => by have e1 := y1.ts q hq; have e2 : q = g' := hb; rw [e2, tg] at e1; cases e1)), (fun q hq => (if_neg (fun hb => (hu q hb).elim (fun hb => by have e1 := y1.ts q hq; rw [hx1.ts q hb] at e1; first | (cases e1; done) | (injection e1 with e1; omega)) (fun hb => by have := (y1.s.blk hq).2; omega))).trans (y1.ts q hq)), ((y1.r.ch k (fun q hq hb => by have e1 := y1.tr q hq; rw [hx1.ts q hb] at e1; first | (cases e1; done) | (injection e1 with e1; omega))).ch kk (fun q hq hb => by have e1 := y1.tr q hq; have e2 : q = g' := hb; rw [e2, tg] at e1; cases e1)), (fun q hq => (if_neg (fun hb => (hu q hb).elim (fun hb => by have e1 := y1.tr q hq; rw [hx1.ts q hb] at e1; first | (cases e1; done) | (injection e1 with e1; omega)) (fun hb => by have := (y1.r.blk hq).2; omega))).trans (y1.tr q hq))⟩
open Classical in
/-- a channel's rs are others -/
theorem NL.setr {t : Nat → Tg} {base : Nat} {w w1 : World} {v u : Value} {xs : List Rw} {cs : List Cn} {i : Nat} {x : Rw} {c : Cn} {us : List Wt} (h : NL t base w v xs cs) (hx : xs[i]? = some x) (hc : cs[i]? = some c) (k : Ch (Blk x.r) w w1) (o : Ow eW 4 95 base w1 u us) (hu : ∀ q, Blk u q → Blk x.r q ∨ w.heap.size ≤ q) :
    ∃ g ca t', v = .slice (some ⟨g, 0, none⟩) xs.length ca ∧ g < w.heap.size ∧ t g = .out ∧ w1.cell? ⟨g, i * 5 + 3, none⟩ = some x.r ∧ w1.frozen? ⟨g, i * 5 + 3, none⟩ = false ∧
      (∀ q, q < w.heap.size → t' q = t q) ∧ (∀ q, w.heap.size ≤ q → ¬ Blk u q → t' q = t q) ∧ NL t' base (w1.setCell ⟨g, i * 5 + 3, none⟩ u) v (xs.set i ⟨x.cap, x.v, x.s, u, x.cl⟩) (cs.set i ⟨c.cap, c.vs, c.ss, us, c.cl⟩) := by
  have hx1 := h.f i x c hx hc
  have h1 : Ow eR 5 70 base w1 v xs := h.o.ch k (fun q hq hb => by have e1 := h.to q hq; rw [hx1.tr q hb] at e1; cases e1)
  obtain ⟨g, ca, e, hb, hg, hl, hcs, hfz, hst⟩ := h1.get eR_len hx
  obtain ⟨g', ca', e', hb', hg', -, -, -, -⟩ := h.o.get eR_len hx
  have eg : g' = g := by
    rw [e] at e'
    injection e' with e1 _ _
    injection e1 with e1
    injection e1 with e1 _ _
    exact e1.symm
  subst eg
  have tg : t g' = .out := h.to g' (by rw [e]; rfl)
  have kk : Ch (Only g') w1 (w1.setCell ⟨g', i * 5 + 3, none⟩ u) := (Ch.refl _ _).own _ _
  refine ⟨g', ca, fun q => if Blk u q then .rs i else t q, e, hg', tg, hcs 3 _ rfl, hfz _, fun q hq => ?_, fun q _ hn => if_neg hn, ?_, ?_, ?_, ?_⟩
  · show (if Blk u q then Tg.rs i else t q) = t q
    split
    · rename_i hb2
      rcases hu q hb2 with h2 | h2
      · exact (hx1.tr q h2).symm
      · omega
    · rfl
  · exact hst 3 u ⟨x.cap, x.v, x.s, u, x.cl⟩ (by omega) rfl
  · intro q hq
    refine (if_neg (fun hb2 => ?_)).trans (h.to q hq)
    rcases hu q hb2 with h2 | h2
    · have e1 := h.to q hq
      rw [hx1.tr q h2] at e1
      cases e1
    · have := (h.o.blk hq).2
      omega
  · rw [List.length_set, List.length_set]
    exact h.n
  · intro j y d hy hd
    by_cases hj : i = j
    · subst hj
      have y1 := hx1
      rw [List.getElem?_set_self (List.getElem?_eq_some_iff.1 hx).1] at hy
      rw [List.getElem?_set_self (List.getElem?_eq_some_iff.1 hc).1] at hd
      injection hy with hy
      injection hd with hd
      subst hy hd
      exact ⟨hx1.cap, hx1.cl, ((y1.v.ch k (fun q hq hb => by have e1 := y1.tv q hq; rw [hx1.tr q hb] at e1; first | (cases e1; done) | (injection e1 with e1; omega))).ch kk (fun q hq hb => by have e1 := y1.tv q hq; have e2 : q = g' := hb; rw [e2, tg] at e1; cases e1)), (fun q hq => (if_neg (fun hb => (hu q hb).elim (fun hb => by have e1 := y1.tv q hq; rw [hx1.tr q hb] at e1; first | (cases e1; done) | (injection e1 with e1; omega)) (fun hb => by have := (y1.v.blk hq).2; omega))).trans (y1.tv q hq)), ((y1.s.ch k (fun q hq hb => by have e1 := y1.ts q hq; rw [hx1.tr q hb] at e1; first | (cases e1; done) | (injection e1 with e1; omega))).ch kk (fun q hq hb => by have e1 := y1.ts q hq; have e2 : q = g' := hb; rw [e2, tg] at e1; cases e1)), (fun q hq => (if_neg (fun hb => (hu q hb).elim (fun hb => by have e1 := y1.ts q hq; rw [hx1.tr q hb] at e1; first | (cases e1; done) | (injection e1 with e1; omega)) (fun hb => by have := (y1.s.blk hq).2; omega))).trans (y1.ts q hq)), (o.ch kk (fun q hq hb => (hu q hq).elim (fun h1 => by have e2 : q = g' := hb; have e1 := hx1.tr q h1; rw [e2, tg] at e1; cases e1) (fun h1 => by have e2 : q = g' := hb; omega))), (fun q hq => if_pos hq)⟩
    · rw [List.getElem?_set_ne hj] at hy hd
      have y1 := h.f j y d hy hd
      exact ⟨y1.cap, y1.cl, ((y1.v.ch k (fun q hq hb => by have e1 := y1.tv q hq; rw [hx1.tr q hb] at e1; first | (cases e1; done) | (injection e1 with e1; omega))).ch kk (fun q hq hb => by have e1 := y1.tv q hq; have e2 : q = g' := hb; rw [e2, tg] at e1; cases e1)), (fun q hq => (if_neg (fun hb => (hu q hb).elim (fun hb => by have e1 := y1.tv q hq; rw [hx1.tr q hb] at e1; first | (cases e1; done) | (injection e1 with e1; omega)) (fun hb => by have := (y1.v.blk hq).2; omega))).trans (y1.tv q hq)), ((y1.s.ch k (fun q hq hb => by have e1 := y1.ts q hq; rw [hx1.tr q hb] at e1; first | (cases e1; done) | (injection e1 with e1; omega))).ch kk (fun q hq hb => by have e1 := y1.ts q hq; have e2 : q = g' := hb; rw [e2, tg] at e1; cases e1)), (fun q hq => (if_neg (fun hb => (hu q hb).elim (fun hb => by have e1 := y1.ts q hq; rw [hx1.tr q hb] at e1; first | (cases e1; done) | (injection e1 with e1; omega)) (fun hb => by have := (y1.s.blk hq).2; omega))).trans (y1.ts q hq)), ((y1.r.ch k (fun q hq hb => by have e1 := y1.tr q hq; rw [hx1.tr q hb] at e1; first | (cases e1; done) | (injection e1 with e1; omega))).ch kk (fun q hq hb => by have e1 := y1.tr q hq; have e2 : q = g' := hb; rw [e2, tg] at e1; cases e1)), (fun q hq => (if_neg (fun hb => (hu q hb).elim (fun hb => by have e1 := y1.tr q hq; rw [hx1.tr q hb] at e1; first | (cases e1; done) | (injection e1 with e1; omega)) (fun hb => by have := (y1.r.blk hq).2; omega))).trans (y1.tr q hq))⟩
open Classical in
/-- one more channel, whose lists are new -/
theorem NL.snoc {t : Nat → Tg} {base : Nat} {w0 w w1 : World} {v v1 : Value} {xs : List Rw} {cs : List Cn} {x : Rw} {c : Cn} (h : NL t base w0 v xs cs) (g : Gr w0 w) (hcap : x.cap = c.cap) (hcl : x.cl = c.cl)
    (hv : Ow eI 1 2 base w x.v c.vs) (hs : Ow eW 4 95 base w x.s c.ss) (hr : Ow eW 4 95 base w x.r c.rs)
    (nv : ∀ q, Blk x.v q → w0.heap.size ≤ q) (ns : ∀ q, Blk x.s q → w0.heap.size ≤ q ∧ ¬ Blk x.v q) (nr : ∀ q, Blk x.r q → w0.heap.size ≤ q ∧ ¬ Blk x.v q ∧ ¬ Blk x.s q)
    (o : Ow eR 5 70 base w1 v1 (xs ++ [x])) (k : Ch (Blk v) w w1) (hb : ∀ q, Blk v1 q → Blk v q ∨ w.heap.size ≤ q) :
    ∃ t', (∀ q, q < w0.heap.size → t' q = t q) ∧ NL t' base w1 v1 (xs ++ [x]) (cs ++ [c]) := by
  have h1 := h.gr g
  have hvb : ∀ q, Blk v q → q < w0.heap.size := fun q hq => (h.o.blk hq).2
  refine ⟨fun q => if q < w0.heap.size then t q else if Blk x.v q then .vs xs.length else if Blk x.s q then .ss xs.length else if Blk x.r q then .rs xs.length else .out, fun q hq => if_pos hq, o, ?_, by rw [List.length_append, List.length_append, h.n]; rfl, ?_⟩
  · intro q hq
    rcases hb q hq with h2 | h2
    · show (if q < w0.heap.size then t q else _) = _
      rw [if_pos (hvb q h2)]
      exact h.to q h2
    · have g1 := g.size
      show (if q < w0.heap.size then t q else if Blk x.v q then Tg.vs xs.length else if Blk x.s q then .ss xs.length else if Blk x.r q then .rs xs.length else .out) = _
      rw [if_neg (by omega), if_neg (fun e => by have := (hv.blk e).2; omega), if_neg (fun e => by have := (hs.blk e).2; omega), if_neg (fun e => by have := (hr.blk e).2; omega)]
  · intro i y d hy hd
    by_cases hi : i < xs.length
    · rw [List.getElem?_append_left hi] at hy
      rw [List.getElem?_append_left (by rw [← h.n]; exact hi)] at hd
      have y1 := h1.f i y d hy hd
      have y0 := h.f i y d hy hd
      have e0 : ∀ q, q < w0.heap.size → (if q < w0.heap.size then t q else if Blk x.v q then Tg.vs xs.length else if Blk x.s q then .ss xs.length else if Blk x.r q then .rs xs.length else .out) = t q := fun q hq => if_pos hq
      exact ⟨y1.cap, y1.cl, y1.v.ch k (fun q hq hbb => by have e1 := y1.tv q hq; rw [h.to q hbb] at e1; cases e1), (fun q hq => (e0 q (y0.v.blk hq).2).trans (y0.tv q hq)), y1.s.ch k (fun q hq hbb => by have e1 := y1.ts q hq; rw [h.to q hbb] at e1; cases e1), (fun q hq => (e0 q (y0.s.blk hq).2).trans (y0.ts q hq)), y1.r.ch k (fun q hq hbb => by have e1 := y1.tr q hq; rw [h.to q hbb] at e1; cases e1), (fun q hq => (e0 q (y0.r.blk hq).2).trans (y0.tr q hq))⟩
    · have e1 : i = xs.length := by
        have := (List.getElem?_eq_some_iff.1 hy).1
        rw [List.length_append] at this
        simp at this
        omega
      subst e1
      rw [List.getElem?_append_right (Nat.le_refl _), Nat.sub_self, List.getElem?_cons_zero] at hy
      rw [h.n, List.getElem?_append_right (Nat.le_refl _), Nat.sub_self, List.getElem?_cons_zero] at hd
      injection hy with hy
      injection hd with hd
      subst hy hd
      refine ⟨hcap, hcl, hv.ch k (fun q hq hbb => ?_), fun q hq => ?_, hs.ch k (fun q hq hbb => ?_), fun q hq => ?_, hr.ch k (fun q hq hbb => ?_), fun q hq => ?_⟩
      · have := nv q hq; have := hvb q hbb; omega
      · show (if q < w0.heap.size then t q else if Blk x.v q then Tg.vs xs.length else _) = _
        rw [if_neg (by have := nv q hq; omega), if_pos hq]
      · have := (ns q hq).1; have := hvb q hbb; omega
      · show (if q < w0.heap.size then t q else if Blk x.v q then Tg.vs xs.length else if Blk x.s q then .ss xs.length else _) = _
        rw [if_neg (by have := (ns q hq).1; omega), if_neg (ns q hq).2, if_pos hq]
      · have := (nr q hq).1; have := hvb q hbb; omega
      · show (if q < w0.heap.size then t q else if Blk x.v q then Tg.vs xs.length else if Blk x.s q then .ss xs.length else if Blk x.r q then .rs xs.length else .out) = _
        rw [if_neg (by have := (nr q hq).1; omega), if_neg (nr q hq).2.1, if_neg (nr q hq).2.2, if_pos hq]
/-- what reads as a channel -/
structure Rd (P : Nat → Prop) (w : World) (x : Rw) (c : Cn) : Prop where
  cap : x.cap = c.cap
  cl : x.cl = c.cl
  v : Ls eI P w x.v c.vs
  s : Ls eW P w x.s c.ss
  r : Ls eW P w x.r c.rs
/-- what reads as channels -/
def Rds (P : Nat → Prop) (w : World) (v : Value) (cs : List Cn) : Prop := ∃ xs : List Rw, Ls eR P w v xs ∧ xs.length = cs.length ∧ ∀ (i : Nat) (x : Rw) (c : Cn), xs[i]? = some x → cs[i]? = some c → Rd P w x c
section
variable {P Q S : Nat → Prop} {w w' : World} {v : Value} {cs : List Cn}
theorem Rd.ch {x : Rw} {c : Cn} (h : Rd P w x c) (k : Ch S w w') (hs : ∀ g, g < w.heap.size → P g → ¬ S g) : Rd P w' x c := ⟨h.cap, h.cl, h.v.ch k hs, h.s.ch k hs, h.r.ch k hs⟩
theorem Rd.mono {x : Rw} {c : Cn} (h : Rd P w x c) (hq : ∀ g, g < w.heap.size → P g → Q g) : Rd Q w x c := ⟨h.cap, h.cl, h.v.mono hq, h.s.mono hq, h.r.mono hq⟩
theorem Rds.ch (h : Rds P w v cs) (k : Ch S w w') (hs : ∀ g, g < w.heap.size → P g → ¬ S g) : Rds P w' v cs := by
  obtain ⟨xs, h1, h2, h3⟩ := h
  exact ⟨xs, h1.ch k hs, h2, fun i x c hx hc => (h3 i x c hx hc).ch k hs⟩
theorem Rds.gr (h : Rds P w v cs) (k : Gr w w') : Rds P w' v cs := h.ch k (fun _ _ _ => noB _)
theorem Rds.mono (h : Rds P w v cs) (hq : ∀ g, g < w.heap.size → P g → Q g) : Rds Q w v cs := by
  obtain ⟨xs, h1, h2, h3⟩ := h
  exact ⟨xs, h1.mono hq, h2, fun i x c hx hc => (h3 i x c hx hc).mono hq⟩
theorem Rds.form (h : Rds P w v cs) : ∃ ao cap, v = .slice ao cs.length cap := by
  obtain ⟨xs, h1, h2, h3⟩ := h
  obtain ⟨ao, cap, e⟩ := h1.form
  exact ⟨ao, cap, by rw [e, h2]⟩
theorem NL.rds {t : Nat → Tg} {base : Nat} {xs : List Rw} (h : NL t base w v xs cs) : Rds (base ≤ ·) w v cs :=
  ⟨xs, h.o.lst, h.n, fun i x c hx hc => by
    have y := h.f i x c hx hc
    exact ⟨y.cap, y.cl, y.v.lst, y.s.lst, y.r.lst⟩⟩
end
end Go.Proofs.Ytalmiphddgmfbab.Lt
