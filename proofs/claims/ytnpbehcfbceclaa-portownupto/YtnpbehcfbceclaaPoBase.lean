/-
  The words in which the walks of layer 15 speak: a value with its age, a port, what a call tells of one and leaves, a port in memory. No conditions.
-/
import Derived.Test.YtnpbehcfbceclaaGnList
import Derived.Test.YtnpbehcfbceclaaGnHeld
import Derived.Test.YtnpbehcfbceclaaGnGrd
import Derived.Lib.SliceRun
import Derived.Laws.Rows
import Derived.Handy
namespace Go.Proofs.Ytnpbehcfbceclaa.Lt
open Go.RowKit Wd

theorem al_blk {w : World} {x : Nat} {o : Obj} (h : w.heap[x]? = some o) (o' : Obj) : (w.alloc o').heap[x]? = some o := (Below.heap_alloc _ _ _ (lt_of_block h)).trans h
theorem al_at {w : World} {x : Nat} (o : Obj) (h : x = w.heap.size) : (w.alloc o).heap[x]? = some o := by
  subst h
  exact (MapKept.heap_alloc w o).1
theorem gr_blk {w w' : World} {x : Nat} {o : Obj} (h : w.heap[x]? = some o) (g : Gr w w') : w'.heap[x]? = some o := (g.block _ (lt_of_block h) (noB _)).trans h
theorem ch_blk {S : Nat → Prop} {w w' : World} {x : Nat} {o : Obj} (h : w.heap[x]? = some o) (g : Ch S w w') (hs : ¬ S x) : w'.heap[x]? = some o := (g.block _ (lt_of_block h) hs).trans h
def eI (n : Int) : List Value := [.int .i64 n]
theorem eI_len (n : Int) : (eI n).length = 1 := rfl
theorem eI_one (xs : List Int) : ∀ u ∈ xs.flatMap eI, u.oneCell' = true := by
  intro u hu
  rw [List.mem_flatMap] at hu
  obtain ⟨x, _, hx⟩ := hu
  simp only [eI, List.mem_cons, List.not_mem_nil, or_false] at hx
  rw [hx]
  rfl
/-- a value and its age -/
structure Ag where
  v : Int
  a : Int
def eG (x : Ag) : List Value := [.int .i64 x.v, .int .i64 x.a]
theorem eG_len (x : Ag) : (eG x).length = 2 := rfl
theorem eG_one (xs : List Ag) : ∀ u ∈ xs.flatMap eG, u.oneCell' = true := by
  intro u hu
  rw [List.mem_flatMap] at hu
  obtain ⟨x, _, hx⟩ := hu
  simp only [eG, List.mem_cons, List.not_mem_nil, or_false] at hx
  rcases hx with h | h <;> rw [h] <;> rfl
theorem i64_info : (Try.prog.info? 2).map (fun i => (i.zero, i.size, i.bytes)) = some (some (.int .i64 0), 1, 8) := by kernel_rfl
theorem agd_info : (Try.prog.info? 59).map (fun i => (i.zero, i.size, i.bytes)) = some (some (.agg #[.int .i64 0, .int .i64 0]), 2, 16) := by kernel_rfl
theorem kpt_size : (Try.prog.info? 66).map (·.size) = some 2 := by kernel_rfl
theorem pst_size : (Try.prog.info? 32).map (·.size) = some 5 := by kernel_rfl
theorem que_size : (Try.prog.info? 70).map (·.size) = some 4 := by kernel_rfl
theorem sam_size : (Try.prog.info? 73).map (·.size) = some 2 := by kernel_rfl
/-- a port -/
structure Pt where
  q : Bool
  cap : Nat
  out : List Int
  inn : List Ag
  lost : Nat
/-- a port that may be -/
structure Pt.ok (x : Pt) : Prop where
  c1 : 1 ≤ x.cap
  c2 : x.cap ≤ 1024
  o : x.out.length ≤ x.cap
  i : x.inn.length ≤ x.cap
  l : x.lost ≤ 2147483647
  ages : ∀ g ∈ x.inn, 0 ≤ g.a ∧ g.a ≤ 2147483647
  s1 : x.q = false → x.cap = 1
  s2 : x.q = false → x.lost = 0
def newP (q : Bool) (c : Nat) : Pt := ⟨q, c, [], [], 0⟩
def putP (x : Pt) (v : Int) : Pt × Bool := if x.q = true then (if x.out.length = x.cap then (x, false) else ({ x with out := x.out ++ [v] }, true)) else ({ x with out := [v] }, true)
/-- the first of a list, and its age -/
def firstG : List Ag → Int × Int
  | [] => (0, -1)
  | g :: _ => (g.v, g.a)
def getP (x : Pt) : Pt := if x.q = true then { x with inn := x.inn.tail } else x
def older (g : Ag) : Ag := if g.a < 2147483647 then ⟨g.v, g.a + 1⟩ else g
def fresh (v : Int) : Ag := ⟨v, 0⟩
/-- how many come -/
def comeN (x : Pt) : Nat := min x.out.length (x.cap - x.inn.length)
def dlvP (x : Pt) : Pt :=
  if x.q = true then { x with out := [], inn := x.inn.map older ++ (x.out.take (comeN x)).map fresh, lost := x.lost + min (x.out.length - comeN x) (2147483647 - x.lost) }
  else { x with out := [], inn := match x.out with | [] => x.inn.map older | v :: _ => [fresh v] }
theorem older_age (g : Ag) (h : 0 ≤ g.a ∧ g.a ≤ 2147483647) : 0 ≤ (older g).a ∧ (older g).a ≤ 2147483647 := by
  unfold older
  split
  · show 0 ≤ g.a + 1 ∧ g.a + 1 ≤ 2147483647
    omega
  · exact h
section
variable {x : Pt}
theorem Pt.ok.new {q : Bool} {c : Nat} (h1 : 1 ≤ c) (h2 : c ≤ 1024) (h3 : q = false → c = 1) : (newP q c).ok := ⟨h1, h2, Nat.zero_le _, Nat.zero_le _, Nat.zero_le _, nofun, h3, fun _ => rfl⟩
theorem Pt.ok.put (h : x.ok) (v : Int) : (putP x v).1.ok := by
  unfold putP
  by_cases hq : x.q = true
  · rw [if_pos hq]
    by_cases hf : x.out.length = x.cap
    · rw [if_pos hf]
      exact h
    · rw [if_neg hf]
      have := h.o
      exact ⟨h.c1, h.c2, by show (x.out ++ [v]).length ≤ x.cap; simp; omega, h.i, h.l, h.ages, h.s1, h.s2⟩
  · rw [if_neg hq]
    exact ⟨h.c1, h.c2, h.c1, h.i, h.l, h.ages, h.s1, h.s2⟩
theorem Pt.ok.get (h : x.ok) : (getP x).ok := by
  unfold getP
  by_cases hq : x.q = true
  · rw [if_pos hq]
    have := h.i
    exact ⟨h.c1, h.c2, h.o, by show x.inn.tail.length ≤ x.cap; simp; omega, h.l, fun g hg => h.ages g (List.mem_of_mem_tail hg), h.s1, h.s2⟩
  · rw [if_neg hq]
    exact h
theorem Pt.ok.dlv (h : x.ok) : (dlvP x).ok := by
  have ho := h.o
  have hi := h.i
  have hl := h.l
  unfold dlvP
  by_cases hq : x.q = true
  · rw [if_pos hq]
    refine ⟨h.c1, h.c2, Nat.zero_le _, ?_, ?_, ?_, h.s1, fun e => ?_⟩
    · show (x.inn.map older ++ (x.out.take (comeN x)).map fresh).length ≤ x.cap
      have : comeN x ≤ x.cap - x.inn.length := Nat.min_le_right _ _
      simp
      omega
    · show x.lost + min (x.out.length - comeN x) (2147483647 - x.lost) ≤ 2147483647
      omega
    · intro g hg
      rcases List.mem_append.1 hg with hg | hg
      · obtain ⟨y, hy, rfl⟩ := List.mem_map.1 hg
        exact older_age y (h.ages y hy)
      · obtain ⟨y, _, rfl⟩ := List.mem_map.1 hg
        exact ⟨by show (0 : Int) ≤ 0; omega, by show (0 : Int) ≤ 2147483647; omega⟩
    · rw [hq] at e
      cases e
  · rw [if_neg hq]
    refine ⟨h.c1, h.c2, Nat.zero_le _, ?_, h.l, ?_, h.s1, h.s2⟩
    · show (match x.out with | [] => x.inn.map older | v :: _ => [fresh v]).length ≤ x.cap
      cases x.out with
      | nil => simpa using hi
      | cons v r => exact h.c1
    · intro g hg
      cases ho : x.out with
      | nil =>
        rw [ho] at hg
        obtain ⟨y, hy, rfl⟩ := List.mem_map.1 hg
        exact older_age y (h.ages y hy)
      | cons v r =>
        rw [ho] at hg
        rcases List.mem_singleton.1 hg with rfl
        exact ⟨by show (0 : Int) ≤ 0; omega, by show (0 : Int) ≤ 2147483647; omega⟩
end
/-- the block of an owned list holds elements of its type -/
theorem Ow.ty {α : Type} {enc : α → List Value} {K e base : Nat} {w : World} {v : Value} {xs : List α} (h : Ow enc K e base w v xs) {g : Nat} (hg : Blk v g) : ∃ c, w.heap[g]? = some (.cells c e (0, 0)) := by
  rcases h.2 with ⟨rfl, _⟩ | ⟨g', cap, cur, rfl, _, h1, _⟩
  · cases hg
  · cases hg
    exact ⟨cur, h1⟩
/-- the cells of the part of a port that does -/
def cellsP (x : Pt) (vo vi : Value) : Obj := if x.q = true then .cells #[vo, vi, .int .i64 (x.cap : Nat), .int .i64 (x.lost : Nat)] 70 (0, 0) else .cells #[vo, vi] 73 (0, 0)
/-- the face's value -/
def faceP (q : Bool) (k : Nat) : Value := .iface (if q = true then 68 else 71) (.pointer (some ⟨k, 0, none⟩))
/-- the part that does, with its lists, within the blocks T -/
structure Kp (T : Nat → Prop) (w : World) (k : Nat) (vo vi : Value) (x : Pt) : Prop where
  bk : w.heap[k]? = some (cellsP x vo vi)
  ho : Ow eI 1 2 0 w vo x.out
  hi : Ow eG 2 59 0 w vi x.inn
  tk : T k
  to : ∀ g, Blk vo g → T g
  ti : ∀ g, Blk vi g → T g
/-- a port in memory, within the blocks T -/
def Pm (T : Nat → Prop) (w : World) (p : Nat) (x : Pt) : Prop := (∀ g, T g → g < w.heap.size) ∧ T p ∧ ∃ k vo vi, w.heap[p]? = some (.cells #[faceP x.q k] 63 (0, 0)) ∧ Kp T w k vo vi x
/-- what a writer leaves -/
def PL (T : Nat → Prop) (w w' : World) (p : Nat) (x : Pt) : Prop := Ch T w w' ∧ ∃ T', Pm T' w' p x ∧ ∀ g, T' g → T g ∨ w.heap.size ≤ g
section
variable {S T : Nat → Prop} {w w' : World} {k p : Nat} {vo vi : Value} {x : Pt}
theorem Kp.gr (h : Kp T w k vo vi x) (g : Gr w w') : Kp T w' k vo vi x := ⟨gr_blk h.bk g, h.ho.gr g, h.hi.gr g, h.tk, h.to, h.ti⟩
theorem Kp.ch (h : Kp T w k vo vi x) (g : Ch S w w') (hs : ∀ q, T q → ¬ S q) : Kp T w' k vo vi x := ⟨ch_blk h.bk g (hs _ h.tk), h.ho.ch g (fun q e => hs _ (h.to q e)), h.hi.ch g (fun q e => hs _ (h.ti q e)), h.tk, h.to, h.ti⟩
theorem Kp.mono (h : Kp T w k vo vi x) (hs : ∀ q, T q → S q) : Kp S w k vo vi x := ⟨h.bk, h.ho, h.hi, hs _ h.tk, fun q e => hs _ (h.to q e), fun q e => hs _ (h.ti q e)⟩
theorem Pm.gr (h : Pm T w p x) (g : Gr w w') : Pm T w' p x := by
  obtain ⟨h1, h2, k, vo, vi, h3, h4⟩ := h
  exact ⟨fun q e => Nat.lt_of_lt_of_le (h1 q e) g.size, h2, k, vo, vi, gr_blk h3 g, h4.gr g⟩
theorem Pm.ch (h : Pm T w p x) (g : Ch S w w') (hs : ∀ q, T q → ¬ S q) : Pm T w' p x := by
  obtain ⟨h1, h2, k, vo, vi, h3, h4⟩ := h
  exact ⟨fun q e => Nat.lt_of_lt_of_le (h1 q e) g.size, h2, k, vo, vi, ch_blk h3 g (hs _ h2), h4.ch g hs⟩
/-- two blocks of two types are two -/
theorem ne_ty {w : World} {a b : Nat} {o o' : Obj} (h : w.heap[a]? = some o) (h' : w.heap[b]? = some o') (hn : o ≠ o') : a ≠ b := fun e => by
  subst e
  rw [h] at h'
  injection h' with h'
  exact hn h'
theorem Kp.so (h : Kp T w k vo vi x) : ¬ Blk vo k := fun e => by
  obtain ⟨c, hc⟩ := h.ho.ty e
  have := h.bk
  unfold cellsP at this
  rw [hc] at this
  split at this <;> (injection this with this; injection this with _ t1; exact absurd t1 (by decide))
theorem Kp.si (h : Kp T w k vo vi x) : ¬ Blk vi k := fun e => by
  obtain ⟨c, hc⟩ := h.hi.ty e
  have := h.bk
  unfold cellsP at this
  rw [hc] at this
  split at this <;> (injection this with this; injection this with _ t1; exact absurd t1 (by decide))
theorem Kp.oi (h : Kp T w k vo vi x) {g : Nat} (e : Blk vo g) : ¬ Blk vi g := fun e' => by
  obtain ⟨c, hc⟩ := h.ho.ty e
  obtain ⟨c', hc'⟩ := h.hi.ty e'
  rw [hc] at hc'
  injection hc' with this
  injection this with _ t1
  exact absurd t1 (by decide)
/-- the port's own block is none of the others -/
theorem Kp.pp (h : Kp T w k vo vi x) {c : Array Value} (hp : w.heap[p]? = some (.cells c 63 (0, 0))) : p ≠ k ∧ ¬ Blk vo p ∧ ¬ Blk vi p := by
  refine ⟨fun e => ?_, fun e => ?_, fun e => ?_⟩
  · subst e
    have := h.bk
    unfold cellsP at this
    rw [hp] at this
    split at this <;> (injection this with this; injection this with _ t1; exact absurd t1 (by decide))
  · obtain ⟨c', hc⟩ := h.ho.ty e
    rw [hp] at hc
    injection hc with this
    injection this with _ t1
    exact absurd t1 (by decide)
  · obtain ⟨c', hc⟩ := h.hi.ty e
    rw [hp] at hc
    injection hc with this
    injection this with _ t1
    exact absurd t1 (by decide)
/-- a writer of the part that does leaves a port -/
theorem PL.of (h1 : ∀ g, T g → g < w.heap.size) (h2 : T p) (h3 : w.heap[p]? = some (.cells #[faceP x.q k] 63 (0, 0))) {B : Nat → Prop} (hB : ∀ g, B g → T g ∨ w.heap.size ≤ g) (hBp : ¬ B p) (hc : Ch B w w') {vo' vi' : Value} {x' : Pt} (hq : x'.q = x.q)
    {T' : Nat → Prop} (h4 : Kp T' w' k vo' vi' x') (hT : ∀ g, T' g → (T g ∨ w.heap.size ≤ g) ∧ g < w'.heap.size) : PL T w w' p x' := by
  refine ⟨hc.mono hB, fun g => T' g ∨ g = p, ⟨fun g hg => ?_, .inr rfl, k, vo', vi', by rw [hq]; exact ch_blk h3 hc hBp, h4.mono (fun q e => .inl e)⟩, fun g hg => ?_⟩
  · rcases hg with hg | rfl
    · exact (hT g hg).2
    · exact Nat.lt_of_lt_of_le (h1 _ h2) hc.size
  · rcases hg with hg | rfl
    · exact (hT g hg).1
    · exact .inl h2
theorem PL.trans {w'' : World} {x' : Pt} (h : PL T w w' p x) (k : ∀ T', Pm T' w' p x → PL T' w' w'' p x') : PL T w w'' p x' := by
  obtain ⟨c, T', hp, hT⟩ := h
  obtain ⟨c', T'', hp', hT'⟩ := k T' hp
  refine ⟨c.trans c' hT, T'', hp', fun g hg => ?_⟩
  rcases hT' g hg with e | e
  · exact hT g e
  · exact .inr (Nat.le_trans c.size e)
end
end Go.Proofs.Ytnpbehcfbceclaa.Lt
