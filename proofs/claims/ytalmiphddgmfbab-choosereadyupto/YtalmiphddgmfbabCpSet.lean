/-
  A list of one of the program's channels is set: what is left. No conditions.
-/
import Derived.Test.YtalmiphddgmfbabCpMk
namespace Go.Proofs.Ytalmiphddgmfbab.Lt
open Go.RowKit Wd

/-- the channels of a Chans, the map of places behind another state of them -/
structure Cb (t : Nat → Tg) (w : World) (b k : Nat) (v : Value) (xs : List Rw) (M : List Me) (clock : Nat) (cs ds : List Cn) : Prop where
  me : w.heap[b]? = some (.cells #[v, .map (some k)] 74 (0, 0))
  tb : t b = .me
  tk : t k = .mp
  nl : NL t 0 w v xs cs
  mp : Pm t w k M clock ds
  hi : ∀ q, t q ≠ .no → q < w.heap.size
theorem Ca.b {t : Nat → Tg} {w : World} {b k : Nat} {v : Value} {xs : List Rw} {M : List Me} {clock : Nat} {cs : List Cn} (h : Ca t w b k v xs M clock cs) : Cb t w b k v xs M clock cs cs := ⟨h.me, h.tb, h.tk, h.nl, h.mp, h.hi⟩
theorem Cb.a {t : Nat → Tg} {w : World} {b k : Nat} {v : Value} {xs : List Rw} {M : List Me} {clock : Nat} {cs ds : List Cn} (h : Cb t w b k v xs M clock cs ds) (hp : ∀ s g, plA s g 0 cs = plA s g 0 ds) : Ca t w b k v xs M clock cs :=
  ⟨h.me, h.tb, h.tk, h.nl, h.mp.to h.tk (Ch.refl NoB w) (fun _ _ q => q.elim) (fun _ _ _ => rfl) hp, h.hi⟩
theorem Cb.ch {t : Nat → Tg} {w w' : World} {b k : Nat} {v : Value} {xs : List Rw} {M : List Me} {clock : Nat} {cs ds : List Cn} {S : Nat → Prop} (h : Cb t w b k v xs M clock cs ds) (c : Ch S w w') (hS : ∀ q, S q → t q = .no) : Cb t w' b k v xs M clock cs ds :=
  ⟨(c.block b (lt_of_block h.me) (fun hs => by have := hS b hs; rw [h.tb] at this; cases this)).trans h.me, h.tb, h.tk, h.nl.ch c (fun q hs => by rw [hS q hs]; decide),
    h.mp.ch h.tk c (fun q hs => by rw [hS q hs]; decide), fun q hq => Nat.lt_of_lt_of_le (h.hi q hq) c.size⟩
theorem Cb.gr {t : Nat → Tg} {w w' : World} {b k : Nat} {v : Value} {xs : List Rw} {M : List Me} {clock : Nat} {cs ds : List Cn} (h : Cb t w b k v xs M clock cs ds) (c : Gr w w') : Cb t w' b k v xs M clock cs ds := h.ch c (fun _ q => q.elim)
/-- a Chans whose map of places speaks of other channels; its channels lie there -/
def Ct (t : Nat → Tg) (w : World) (b : Nat) (v : Value) (cs fs : List Cn) : Prop := ∃ k xs M clock, Cb t w b k v xs M clock cs fs
theorem Cs.t {t : Nat → Tg} {w : World} {b : Nat} {cs : List Cn} (h : Cs t w b cs) : ∃ v, Ct t w b v cs cs := by
  obtain ⟨k, v, xs, M, clock, h⟩ := h
  exact ⟨v, k, xs, M, clock, h.b⟩
section
variable {t : Nat → Tg} {w w' : World} {b : Nat} {v : Value} {cs fs : List Cn}
theorem Ct.s (h : Ct t w b v cs fs) (hp : ∀ s g, plA s g 0 cs = plA s g 0 fs) : Cs t w b cs := by
  obtain ⟨k, xs, M, clock, h⟩ := h
  exact ⟨k, v, xs, M, clock, h.a hp⟩
theorem Ct.gr (h : Ct t w b v cs fs) (g : Gr w w') : Ct t w' b v cs fs := by
  obtain ⟨k, xs, M, clock, h⟩ := h
  exact ⟨k, xs, M, clock, h.gr g⟩
theorem Ct.ch {S : Nat → Prop} (h : Ct t w b v cs fs) (c : Ch S w w') (hS : ∀ q, S q → t q = .no) : Ct t w' b v cs fs := by
  obtain ⟨k, xs, M, clock, h⟩ := h
  exact ⟨k, xs, M, clock, h.ch c hS⟩
theorem Ct.hi (h : Ct t w b v cs fs) : ∀ q, w.heap.size ≤ q → t q = .no := by
  obtain ⟨k, xs, M, clock, h⟩ := h
  intro q hq
  rcases Classical.em (t q = .no) with e | e
  · exact e
  · have := h.hi q e; omega
end
theorem plA_set {s g : Int} {c d : Cn} (hp : d.pl s g = c.pl s g) : ∀ (i j : Nat) (cs : List Cn), cs[j]? = some c → plA s g i (cs.set j d) = plA s g i cs
  | i, j, [], h => by simp at h
  | i, 0, e :: r, h => by
    simp at h
    subst h
    rw [List.set_cons_zero, plA, plA, hp]
  | i, j + 1, e :: r, h => by
    rw [List.getElem?_cons_succ] at h
    rw [List.set_cons_succ, plA, plA, plA_set hp (i + 1) j r h]
theorem Cb.setv {t : Nat → Tg} {w w1 : World} {b k : Nat} {v u : Value} {xs : List Rw} {M : List Me} {clock : Nat} {cs ds : List Cn} {i : Nat} {x : Rw} {c : Cn} {us : List Int} (h : Cb t w b k v xs M clock cs ds) (hx : xs[i]? = some x) (hc : cs[i]? = some c) (kc : Ch (Blk x.v) w w1) (o : Ow eI 1 2 0 w1 u us) (hu : ∀ q, Blk u q → Blk x.v q ∨ w.heap.size ≤ q) :
    ∃ gO ca t', v = .slice (some ⟨gO, 0, none⟩) xs.length ca ∧ gO < w1.heap.size ∧ w1.cell? ⟨gO, i * 5 + 1, none⟩ = some x.v ∧ w1.frozen? ⟨gO, i * 5 + 1, none⟩ = false ∧
      Cb t' (w1.setCell ⟨gO, i * 5 + 1, none⟩ u) b k v (xs.set i ⟨x.cap, u, x.s, x.r, x.cl⟩) M clock (cs.set i ⟨c.cap, us, c.ss, c.rs, c.cl⟩) ds ∧ Tn t t' w (w1.setCell ⟨gO, i * 5 + 1, none⟩ u) ∧ Ch (fun q => (t q).in_) w (w1.setCell ⟨gO, i * 5 + 1, none⟩ u) ∧ (∀ q, q < w.heap.size → t' q = t q) := by
  obtain ⟨gO, ca, t', e, hg, tg, hcell, hfz, h1, h2, hnl⟩ := h.nl.setv hx hc kc o hu
  have hx1 := h.nl.f i x c hx hc
  have kk : Ch (fun q => t q = .vs i ∨ t q = .out) w (w1.setCell ⟨gO, i * 5 + 1, none⟩ u) := (kc.mono (T := fun q => t q = .vs i ∨ t q = .out) (fun q hq => .inl (.inl (hx1.tv q hq)))).setCell (p := ⟨gO, i * 5 + 1, none⟩) (.inl (.inr tg)) u
  refine ⟨gO, ca, t', e, Nat.lt_of_lt_of_le hg kc.size, hcell, hfz, ⟨?_, ?_, ?_, hnl, ?_, ?_⟩, ⟨kk.mono (fun q hq => .inl (by rcases hq with hq | hq <;> rw [hq] <;> exact fun e => by cases e)), fun q hq e => (h1 q hq).trans e⟩, kk.mono (fun q hq => .inl (by show ((t q).k == 1 || (t q).k == 4 || (t q).k == 5 || (t q).k == 6) = true; rcases hq with hq | hq <;> simp [hq])), h1⟩
  · exact (kk.block b (lt_of_block h.me) (fun hq => by rcases hq with hq | hq <;> rw [h.tb] at hq <;> cases hq)).trans h.me
  · exact (h1 b (lt_of_block h.me)).trans h.tb
  · exact (h1 k h.mp.at_.lt).trans h.tk
  · refine h.mp.to h.tk kk (fun q _ hq => ?_) (fun q hq _ => h1 q hq) (fun _ _ => rfl)
    rcases hq with hq | hq <;> rw [hq] <;> exact ⟨by simp, by simp⟩
  · intro q hq
    by_cases hs : q < w.heap.size
    · exact Nat.lt_of_lt_of_le hs kk.size
    · by_cases hb : Blk u q
      · have := (o.blk hb).2
        simpa [World.setCell] using this
      · rw [h2 q (by omega) hb] at hq
        exact (hs (h.hi q hq)).elim
theorem Cb.sets {t : Nat → Tg} {w w1 : World} {b k : Nat} {v u : Value} {xs : List Rw} {M : List Me} {clock : Nat} {cs ds : List Cn} {i : Nat} {x : Rw} {c : Cn} {us : List Wt} (h : Cb t w b k v xs M clock cs ds) (hx : xs[i]? = some x) (hc : cs[i]? = some c) (kc : Ch (Blk x.s) w w1) (o : Ow eW 4 95 0 w1 u us) (hu : ∀ q, Blk u q → Blk x.s q ∨ w.heap.size ≤ q) :
    ∃ gO ca t', v = .slice (some ⟨gO, 0, none⟩) xs.length ca ∧ gO < w1.heap.size ∧ w1.cell? ⟨gO, i * 5 + 2, none⟩ = some x.s ∧ w1.frozen? ⟨gO, i * 5 + 2, none⟩ = false ∧
      Cb t' (w1.setCell ⟨gO, i * 5 + 2, none⟩ u) b k v (xs.set i ⟨x.cap, x.v, u, x.r, x.cl⟩) M clock (cs.set i ⟨c.cap, c.vs, us, c.rs, c.cl⟩) ds ∧ Tn t t' w (w1.setCell ⟨gO, i * 5 + 2, none⟩ u) ∧ Ch (fun q => (t q).in_) w (w1.setCell ⟨gO, i * 5 + 2, none⟩ u) ∧ (∀ q, q < w.heap.size → t' q = t q) := by
  obtain ⟨gO, ca, t', e, hg, tg, hcell, hfz, h1, h2, hnl⟩ := h.nl.sets hx hc kc o hu
  have hx1 := h.nl.f i x c hx hc
  have kk : Ch (fun q => t q = .ss i ∨ t q = .out) w (w1.setCell ⟨gO, i * 5 + 2, none⟩ u) := (kc.mono (T := fun q => t q = .ss i ∨ t q = .out) (fun q hq => .inl (.inl (hx1.ts q hq)))).setCell (p := ⟨gO, i * 5 + 2, none⟩) (.inl (.inr tg)) u
  refine ⟨gO, ca, t', e, Nat.lt_of_lt_of_le hg kc.size, hcell, hfz, ⟨?_, ?_, ?_, hnl, ?_, ?_⟩, ⟨kk.mono (fun q hq => .inl (by rcases hq with hq | hq <;> rw [hq] <;> exact fun e => by cases e)), fun q hq e => (h1 q hq).trans e⟩, kk.mono (fun q hq => .inl (by show ((t q).k == 1 || (t q).k == 4 || (t q).k == 5 || (t q).k == 6) = true; rcases hq with hq | hq <;> simp [hq])), h1⟩
  · exact (kk.block b (lt_of_block h.me) (fun hq => by rcases hq with hq | hq <;> rw [h.tb] at hq <;> cases hq)).trans h.me
  · exact (h1 b (lt_of_block h.me)).trans h.tb
  · exact (h1 k h.mp.at_.lt).trans h.tk
  · refine h.mp.to h.tk kk (fun q _ hq => ?_) (fun q hq _ => h1 q hq) (fun _ _ => rfl)
    rcases hq with hq | hq <;> rw [hq] <;> exact ⟨by simp, by simp⟩
  · intro q hq
    by_cases hs : q < w.heap.size
    · exact Nat.lt_of_lt_of_le hs kk.size
    · by_cases hb : Blk u q
      · have := (o.blk hb).2
        simpa [World.setCell] using this
      · rw [h2 q (by omega) hb] at hq
        exact (hs (h.hi q hq)).elim
theorem Cb.setr {t : Nat → Tg} {w w1 : World} {b k : Nat} {v u : Value} {xs : List Rw} {M : List Me} {clock : Nat} {cs ds : List Cn} {i : Nat} {x : Rw} {c : Cn} {us : List Wt} (h : Cb t w b k v xs M clock cs ds) (hx : xs[i]? = some x) (hc : cs[i]? = some c) (kc : Ch (Blk x.r) w w1) (o : Ow eW 4 95 0 w1 u us) (hu : ∀ q, Blk u q → Blk x.r q ∨ w.heap.size ≤ q) :
    ∃ gO ca t', v = .slice (some ⟨gO, 0, none⟩) xs.length ca ∧ gO < w1.heap.size ∧ w1.cell? ⟨gO, i * 5 + 3, none⟩ = some x.r ∧ w1.frozen? ⟨gO, i * 5 + 3, none⟩ = false ∧
      Cb t' (w1.setCell ⟨gO, i * 5 + 3, none⟩ u) b k v (xs.set i ⟨x.cap, x.v, x.s, u, x.cl⟩) M clock (cs.set i ⟨c.cap, c.vs, c.ss, us, c.cl⟩) ds ∧ Tn t t' w (w1.setCell ⟨gO, i * 5 + 3, none⟩ u) ∧ Ch (fun q => (t q).in_) w (w1.setCell ⟨gO, i * 5 + 3, none⟩ u) ∧ (∀ q, q < w.heap.size → t' q = t q) := by
  obtain ⟨gO, ca, t', e, hg, tg, hcell, hfz, h1, h2, hnl⟩ := h.nl.setr hx hc kc o hu
  have hx1 := h.nl.f i x c hx hc
  have kk : Ch (fun q => t q = .rs i ∨ t q = .out) w (w1.setCell ⟨gO, i * 5 + 3, none⟩ u) := (kc.mono (T := fun q => t q = .rs i ∨ t q = .out) (fun q hq => .inl (.inl (hx1.tr q hq)))).setCell (p := ⟨gO, i * 5 + 3, none⟩) (.inl (.inr tg)) u
  refine ⟨gO, ca, t', e, Nat.lt_of_lt_of_le hg kc.size, hcell, hfz, ⟨?_, ?_, ?_, hnl, ?_, ?_⟩, ⟨kk.mono (fun q hq => .inl (by rcases hq with hq | hq <;> rw [hq] <;> exact fun e => by cases e)), fun q hq e => (h1 q hq).trans e⟩, kk.mono (fun q hq => .inl (by show ((t q).k == 1 || (t q).k == 4 || (t q).k == 5 || (t q).k == 6) = true; rcases hq with hq | hq <;> simp [hq])), h1⟩
  · exact (kk.block b (lt_of_block h.me) (fun hq => by rcases hq with hq | hq <;> rw [h.tb] at hq <;> cases hq)).trans h.me
  · exact (h1 b (lt_of_block h.me)).trans h.tb
  · exact (h1 k h.mp.at_.lt).trans h.tk
  · refine h.mp.to h.tk kk (fun q _ hq => ?_) (fun q hq _ => h1 q hq) (fun _ _ => rfl)
    rcases hq with hq | hq <;> rw [hq] <;> exact ⟨by simp, by simp⟩
  · intro q hq
    by_cases hs : q < w.heap.size
    · exact Nat.lt_of_lt_of_le hs kk.size
    · by_cases hb : Blk u q
      · have := (o.blk hb).2
        simpa [World.setCell] using this
      · rw [h2 q (by omega) hb] at hq
        exact (hs (h.hi q hq)).elim
end Go.Proofs.Ytalmiphddgmfbab.Lt
