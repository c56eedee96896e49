/-
  The program's channels in memory: what they own, whose a block is, and where each goroutine waits. No conditions.
-/
import Derived.Test.YtalmiphddgmfbabCpMap
namespace Go.Proofs.Ytalmiphddgmfbab.Lt
open Go.RowKit Wd

/-- the channel of each place in which a goroutine waits, by rising handles -/
def plA (s g : Int) : Nat → List Cn → List Int
  | _, [] => []
  | i, c :: r => List.replicate (c.pl s g) (((i + 1 : Nat)) : Int) ++ plA s g (i + 1) r
theorem plA_len (s g : Int) (i : Nat) (cs : List Cn) : (plA s g i cs).length = pls cs s g := by
  induction cs generalizing i with
  | nil => rfl
  | cons c r ih => rw [plA, List.length_append, List.length_replicate, ih]; simp [pls]
theorem plA_mem {s g : Int} {x : Int} : ∀ {i : Nat} {cs : List Cn}, x ∈ plA s g i cs ↔ ∃ (j : Nat) (c : Cn), cs[j]? = some c ∧ 0 < c.pl s g ∧ x = ((i + j + 1 : Nat) : Int) := by
  intro i cs
  induction cs generalizing i with
  | nil => simp [plA]
  | cons c r ih =>
    rw [plA, List.mem_append, ih, List.mem_replicate]
    constructor
    · rintro (⟨h1, h2⟩ | ⟨j, d, h1, h2, h3⟩)
      · exact ⟨0, c, rfl, by omega, by rw [h2]⟩
      · exact ⟨j + 1, d, by rw [List.getElem?_cons_succ]; exact h1, h2, by rw [h3]; congr 1; omega⟩
    · rintro ⟨j, d, h1, h2, h3⟩
      cases j with
      | zero =>
        simp at h1
        subst h1
        exact .inl ⟨by omega, by rw [h3]⟩
      | succ j =>
        rw [List.getElem?_cons_succ] at h1
        exact .inr ⟨j, d, h1, h2, by rw [h3]; congr 1; omega⟩
theorem plA_zero {s g : Int} {i : Nat} {cs : List Cn} (h : ∀ c ∈ cs, c.pl s g = 0) : plA s g i cs = [] := by
  induction cs generalizing i with
  | nil => rfl
  | cons c r ih => rw [plA, h c List.mem_cons_self, ih (fun d hd => h d (List.mem_cons_of_mem _ hd))]; rfl
/-- the map of places -/
structure Pm (t : Nat → Tg) (w : World) (k : Nat) (M : List Me) (clock : Nat) (cs : List Cn) : Prop where
  at_ : MAt w k M clock
  ok : ∀ e ∈ M, Gok e.s e.g
  one : (M.map (fun e => (e.s, e.g))).Nodup
  f : ∀ e ∈ M, ∃ hs, Ow eI 1 2 0 w e.v hs ∧ (∀ q, Blk e.v q → t q = .pl e.s e.g) ∧ hs.Perm (plA e.s e.g 0 cs)
  no : ∀ s g, NoG M s g → pls cs s g = 0
  st : (M.map (·.b)).Nodup ∧ ∀ e ∈ M, e.b < clock
/-- the channels of a Chans -/
structure Ca (t : Nat → Tg) (w : World) (b k : Nat) (v : Value) (xs : List Rw) (M : List Me) (clock : Nat) (cs : List Cn) : Prop where
  me : w.heap[b]? = some (.cells #[v, .map (some k)] 74 (0, 0))
  tb : t b = .me
  tk : t k = .mp
  nl : NL t 0 w v xs cs
  mp : Pm t w k M clock cs
  hi : ∀ q, t q ≠ .no → q < w.heap.size
section
variable {t t' : Nat → Tg} {w w' : World} {b k : Nat} {v : Value} {xs : List Rw} {M : List Me} {clock : Nat} {cs : List Cn} {S : Nat → Prop}
theorem Pm.ch (h : Pm t w k M clock cs) (tk : t k = .mp) (c : Ch S w w') (hS : ∀ q, S q → (t q).k ≠ 3 ∧ (t q).k ≠ 7) : Pm t w' k M clock cs :=
  ⟨h.at_.ch c (fun hs => (hS k hs).1 (by rw [tk])), h.ok, h.one, fun e he => by
    obtain ⟨hs, h1, h2, h3⟩ := h.f e he
    exact ⟨hs, h1.ch c (fun q hq hs => (hS q hs).2 (by rw [h2 q hq])), h2, h3⟩, h.no, h.st⟩
theorem Ca.ch (h : Ca t w b k v xs M clock cs) (c : Ch S w w') (hS : ∀ q, S q → t q = .no) : Ca t w' b k v xs M clock cs :=
  ⟨(c.block b (lt_of_block h.me) (fun hs => by have := hS b hs; rw [h.tb] at this; cases this)).trans h.me, h.tb, h.tk, h.nl.ch c (fun q hs => by rw [hS q hs]; decide),
    h.mp.ch h.tk c (fun q hs => by rw [hS q hs]; decide), fun q hq => Nat.lt_of_lt_of_le (h.hi q hq) c.size⟩
theorem Ca.gr (h : Ca t w b k v xs M clock cs) (c : Gr w w') : Ca t w' b k v xs M clock cs := h.ch c (fun _ q => q.elim)
end
/-- a Chans with these channels; t says whose a block is -/
def Cs (t : Nat → Tg) (w : World) (b : Nat) (cs : List Cn) : Prop := ∃ k v xs M clock, Ca t w b k v xs M clock cs
/-- what a call may turn: its own blocks, and no block that was another's becomes its own -/
structure Tn (t t' : Nat → Tg) (w w' : World) : Prop where
  c : Ch (fun q => t q ≠ .no) w w'
  o : ∀ q, q < w.heap.size → t q = .no → t' q = .no
theorem Tn.refl (t : Nat → Tg) (w : World) : Tn t t w w := ⟨Ch.refl _ _, fun _ _ h => h⟩
theorem Tn.gr {t : Nat → Tg} {w w' : World} (g : Gr w w') : Tn t t w w' := ⟨g.any, fun _ _ h => h⟩
theorem Tn.trans {t1 t2 t3 : Nat → Tg} {w1 w2 w3 : World} (h : Tn t1 t2 w1 w2) (k : Tn t2 t3 w2 w3) : Tn t1 t3 w1 w3 :=
  ⟨h.c.trans k.c (fun q hq => by
    by_cases h1 : q < w1.heap.size
    · exact .inl (fun e => hq (h.o q h1 e))
    · exact .inr (by omega)), fun q hq e => k.o q (Nat.lt_of_lt_of_le hq h.c.size) (h.o q hq e)⟩
section
variable {t : Nat → Tg} {w w' : World} {b : Nat} {cs : List Cn}
theorem Cs.gr (h : Cs t w b cs) (g : Gr w w') : Cs t w' b cs := by
  obtain ⟨k, v, xs, M, clock, h⟩ := h
  exact ⟨k, v, xs, M, clock, h.gr g⟩
theorem Cs.ch {S : Nat → Prop} (h : Cs t w b cs) (c : Ch S w w') (hS : ∀ q, S q → t q = .no) : Cs t w' b cs := by
  obtain ⟨k, v, xs, M, clock, h⟩ := h
  exact ⟨k, v, xs, M, clock, h.ch c hS⟩
theorem Cs.lt (h : Cs t w b cs) : b < w.heap.size := by
  obtain ⟨k, v, xs, M, clock, h⟩ := h
  exact lt_of_block h.me
end
/-- a list outside of it stays -/
theorem Tn.ls {α : Type} {enc : α → List Value} {P : Nat → Prop} {t t' : Nat → Tg} {w w' : World} {v : Value} {ys : List α} (h : Tn t t' w w') (l : Ls enc P w v ys) (hP : ∀ q, q < w.heap.size → P q → t q = .no) : Ls enc P w' v ys := l.ch h.c (fun q hq hp hn => hn (hP q hq hp))
end Go.Proofs.Ytalmiphddgmfbab.Lt
