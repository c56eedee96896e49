/-
  What New, Len, Has, Pop and Drop answer and leave. Condition: the heap is there, and has at most 4294967296 nodes.
-/
import Derived.Test.YtgkapopkjgljjaaThTake
import Derived.Handy
namespace Go.Proofs.Ytgkapopkjgljjaa.Hp
open Go.RowKit Wd
attribute [local go_sem ↓] Go.wp_at_zero Go.wp_at_succ

/-- a heap that nothing was put into -/
def Fresh (w : World) (b : Nat) (nx : Int) : Prop := w.heap[b]? = some (.cells #[.slice none 0 0, .map none, .int .i64 nx] 100 (0, 0))
/-- a heap, its blocks in T -/
structure Hh (T : Nat → Prop) (w : World) (b : Nat) (xs : List W3) (nx : Int) : Prop where
  st : (xs = [] ∧ Fresh w b nx ∧ T b) ∨ ∃ g km cap M clock, HC w b g km cap xs M clock nx ∧ ∀ q, Tri b g km q → T q
  hp : HP xs
  lt : ∀ x ∈ xs, x.n < nx
  nn : Nn xs
  tl : ∀ q, T q → q < w.heap.size
theorem Hh.ch {S T : Nat → Prop} {w w' : World} {b : Nat} {xs : List W3} {nx : Int} (h : Hh T w b xs nx) (k : Ch S w w') (hs : ∀ q, T q → ¬ S q) : Hh T w' b xs nx :=
  { h with
    st := h.st.imp (fun ⟨h1, h2, h3⟩ => ⟨h1, (k.block b (lt_of_block h2) (hs b h3)).trans h2, h3⟩) (fun ⟨g, km, cap, M, clock, h1, h2⟩ => ⟨g, km, cap, M, clock, h1.ch k (fun q e => hs q (h2 q e)), h2⟩)
    tl := fun q e => Nat.lt_of_lt_of_le (h.tl q e) k.size }
theorem Hh.still {T : Nat → Prop} {w w' : World} {b : Nat} {xs : List W3} {nx : Int} (h : Hh T w b xs nx) (k : Ch NoB w w') : Hh T w' b xs nx := h.ch k (fun _ _ => noB _)
/-- what a call that writes leaves of a heap -/
def HLeft (T : Nat → Prop) (w w' : World) (b : Nat) (xs : List W3) (nx : Int) : Prop := ∃ T', Hh T' w' b xs nx ∧ Ch T w w' ∧ ∀ q, T' q → T q ∨ w.heap.size ≤ q
/-- the block's first cell and where it lies -/
theorem Hh.nodes {T : Nat → Prop} {w : World} {b : Nat} {xs : List W3} {nx : Int} (h : Hh T w b xs nx) : ∃ ao cap, w.cell? ⟨b, 0, none⟩ = some (.slice ao xs.length cap) ∧ b < w.heap.size := by
  rcases h.st with ⟨rfl, h1, _⟩ | ⟨g, km, cap, M, clock, h1, _⟩
  · exact ⟨none, 0, (cell_of h1 0).trans rfl, lt_of_block h1⟩
  · exact ⟨_, cap, h1.cell.1, lt_of_block h1.hb⟩
/-- a made one that lost a node -/
theorem HLeft.of {T : Nat → Prop} {w w' : World} {b g km cap : Nat} {xs ys : List W3} {M : List (Int × Int × Nat)} {clock : Nat} {nx : Int} {x : W3} (h : Hh T w b xs nx) (ht : ∀ q, Tri b g km q → T q) (k : HC w' b g km cap ys M clock nx) (p : xs.Perm (x :: ys)) (hp : HP ys) (g1 : Ch (Tri b g km) w w') : HLeft T w w' b ys nx :=
  ⟨Tri b g km, { st := .inr ⟨g, km, cap, M, clock, k, fun _ e => e⟩, hp := hp, lt := fun z hz => h.lt z (p.mem_iff.2 (List.mem_cons_of_mem _ hz)), nn := k.nn, tl := k.lt }, g1.mono (fun q e => .inl (ht q e)), fun q e => .inl (ht q e)⟩

theorem new_any (w : World) : Calls Try.prog 23 #[] w fun e w' => ∃ b, e = .returned (.pointer (some ⟨b, 0, none⟩)) ∧ w.heap.size ≤ b ∧ Hh (Only b) w' b [] 0 ∧ Ch NoB w w' := by
  go_enter Try.func23, Try.ntmps23
  go_wp2
  go_ret
  exact ⟨_, rfl, Nat.le_refl _, ⟨.inl ⟨rfl, (MapKept.heap_alloc w _).1, rfl⟩, HP.nil, fun x hx => by simp at hx, by simp [Nn], fun q e => by have e1 : q = w.heap.size := e; rw [e1]; simp⟩, (Ch.refl _ _).alloc _⟩
theorem len_any (T : Nat → Prop) (b : Nat) (xs : List W3) (nx : Int) (w : World) (h : Hh T w b xs nx) : Calls Try.prog 59 #[.pointer (some ⟨b, 0, none⟩)] w fun e w' => e = .returned (.int .i64 (xs.length : Int)) ∧ w' = w := by
  obtain ⟨ao, cap, c0, bl⟩ := h.nodes
  clear h
  obtain ⟨n, hn⟩ : ∃ n, n = xs.length := ⟨_, rfl⟩
  rw [← hn] at c0 ⊢
  clear hn
  go_enter Try.func59, Try.ntmps59
  go_wp2
  go_ret
  exact ⟨rfl, rfl⟩
theorem has_yes (T : Nat → Prop) (b : Nat) (xs : List W3) (nx : Int) (i : Nat) (x : W3) (w : World) (h : Hh T w b xs nx) (hx : xs[i]? = some x) : Calls Try.prog 69 #[.pointer (some ⟨b, 0, none⟩), .int .i64 x.n] w fun e w' => e = .returned (.bool true) ∧ w' = w := by
  rcases h.st with ⟨rfl, _, _⟩ | ⟨g, km, cap, M, clock, h1, _⟩
  · simp at hx
  · obtain ⟨j, t, hj⟩ := h1.pl.find hx
    have hl := look_some h1.m h1.ok hj true
    have c1 := h1.cell.2.1
    have bl := lt_of_block h1.hb
    clear h h1 hx hj
    go_enter Try.func69, Try.ntmps69
    go_wp2
    go_ret
    exact ⟨rfl, rfl⟩
theorem has_no (T : Nat → Prop) (b : Nat) (xs : List W3) (nx a : Int) (w : World) (h : Hh T w b xs nx) (hx : ∀ x ∈ xs, x.n ≠ a) : Calls Try.prog 69 #[.pointer (some ⟨b, 0, none⟩), .int .i64 a] w fun e w' => e = .returned (.bool false) ∧ w' = w := by
  rcases h.st with ⟨rfl, h1, _⟩ | ⟨g, km, cap, M, clock, h1, _⟩
  · have hl := look_nil a true w
    have c1 : w.cell? ⟨b, 1, none⟩ = some (.map none) := (cell_of h1 1).trans rfl
    have bl := lt_of_block h1
    clear h h1 hx
    go_enter Try.func69, Try.ntmps69
    go_wp2
    go_ret
    exact ⟨rfl, rfl⟩
  · have hn : ∀ e ∈ M, e.1 ≠ a := fun e he ea => by
      obtain ⟨k, v, t⟩ := e
      obtain ⟨i, _, x, h3, h4⟩ := (h1.pl k v).1 ⟨t, he⟩
      exact hx x (List.mem_of_getElem? h3) (h4.trans ea)
    have hl := look_none h1.m hn true
    have c1 := h1.cell.2.1
    have bl := lt_of_block h1.hb
    clear h h1 hx hn
    go_enter Try.func69, Try.ntmps69
    go_wp2
    go_ret
    exact ⟨rfl, rfl⟩
theorem pop_none (T : Nat → Prop) (b : Nat) (nx : Int) (w : World) (h : Hh T w b [] nx) : Calls Try.prog 54 #[.pointer (some ⟨b, 0, none⟩)] w fun e w' => e = .returned (.tuple #[.int .u64 0, .int .i64 0, .int .i64 0, .int .i64 31]) ∧ w' = w := by
  have H := hid h
  clear h
  go_enter Try.func54, Try.ntmps54
  go_wp2_with fail
  refine (len_any T b [] nx _ H.out).mono ?_
  rintro e w1 ⟨rfl, rfl⟩
  go_wp2
  exact bodyPost_ret (v := .tuple #[.int .u64 0, .int .i64 0, .int .i64 0, .int .i64 31]) (by simp [results, Try.results54, go_sem]) rfl ⟨rfl, rfl⟩
/-- what Pop and Drop leave -/
def Popped (T : Nat → Prop) (w : World) (b : Nat) (xs : List W3) (x : W3) (nx : Int) (v : Value) (e : Ending) (w' : World) : Prop := e = .returned v ∧ ∃ ys, xs.Perm (x :: ys) ∧ HLeft T w w' b ys nx
theorem HLeft.still {T : Nat → Prop} {w w1 w2 : World} {b : Nat} {xs : List W3} {nx : Int} (h : HLeft T w w1 b xs nx) (g : Ch NoB w1 w2) : HLeft T w w2 b xs nx := by
  obtain ⟨T', h1, h2, h3⟩ := h
  exact ⟨T', h1.still g, h2.trans g (fun _ e => e.elim), h3⟩
set_option maxHeartbeats 2000000 in
theorem pop_some (T : Nat → Prop) (b : Nat) (xs : List W3) (nx : Int) (x : W3) (w : World) (h : Hh T w b xs nx) (hx : xs[0]? = some x) (hn : xs.length ≤ 4294967296) : Calls Try.prog 54 #[.pointer (some ⟨b, 0, none⟩)] w fun e w' => Popped T w b xs x nx (.tuple #[.int .u64 x.w, .int .i64 x.n, .int .i64 x.v, .int .i64 0]) e w' := by
  have hl : 0 < xs.length := (List.getElem?_eq_some_iff.1 hx).1
  rcases h.st with ⟨rfl, _, _⟩ | ⟨g, km, cap, M, clock, h1, ht⟩
  · simp at hx
  · have H := hid h
    have H1 := hid h1
    have HT := hid ht
    have HX1 := hid hx
    have hz : ((xs.length : Int) == 0) = false := beq_eq_false_iff_ne.2 (by omega)
    have hz2 : ¬ ((xs.length : Int) = 0) := by omega
    clear h h1 ht hx
    go_enter Try.func54, Try.ntmps54
    go_wp2_with fail
    refine (len_any T b xs nx _ H.out).mono ?_
    rintro e w1 ⟨rfl, rfl⟩
    go_wp2_with fail
    refine (takeAt_any b g km cap 0 xs M clock nx x _ H1.out H.out.hp HX1.out hn).mono ?_
    rintro e w2 ⟨rfl, ys, M2, h2, p2, hp2, g2⟩
    have HL := hid (HLeft.of H.out HT.out h2 p2 hp2 g2)
    have HPm := hid p2
    clear h2 p2 hp2 g2 hz hz2
    go_wp2_with fail
    go_quiet (fail)
    go_wp2
    refine bodyPost_ret (v := .tuple #[.int .u64 x.w, .int .i64 x.n, .int .i64 x.v, .int .i64 0]) (by simp [results, Try.results54, go_sem]) rfl ?_
    exact ⟨rfl, ys, HPm.out, HL.out.still (((Ch.refl _ _).alloc _).drewN _)⟩
set_option maxHeartbeats 2000000 in
theorem drop_yes (T : Nat → Prop) (b : Nat) (xs : List W3) (nx : Int) (i : Nat) (x : W3) (w : World) (h : Hh T w b xs nx) (hx : xs[i]? = some x) (hn : xs.length ≤ 4294967296) : Calls Try.prog 61 #[.pointer (some ⟨b, 0, none⟩), .int .i64 x.n] w fun e w' => Popped T w b xs x nx (.tuple #[.int .u64 x.w, .int .i64 x.v, .int .i64 0]) e w' := by
  rcases h.st with ⟨rfl, _, _⟩ | ⟨g, km, cap, M, clock, h1, ht⟩
  · simp at hx
  · obtain ⟨j, t, hj⟩ := h1.pl.find hx
    have hlk := look_some h1.m h1.ok hj false
    have c1 := h1.cell.2.1
    have bl := lt_of_block h1.hb
    have H := hid h
    have H1 := hid h1
    have HT := hid ht
    have HX1 := hid hx
    clear h h1 ht hx hj
    go_enter Try.func61, Try.ntmps61
    go_wp2_with fail
    refine (has_yes T b xs nx i x _ H.out HX1.out).mono ?_
    rintro e w1 ⟨rfl, rfl⟩
    go_wp2_with fail
    refine (takeAt_any b g km cap i xs M clock nx x _ H1.out H.out.hp HX1.out hn).mono ?_
    rintro e w2 ⟨rfl, ys, M2, h2, p2, hp2, g2⟩
    have HL := hid (HLeft.of H.out HT.out h2 p2 hp2 g2)
    have HPm := hid p2
    clear h2 p2 hp2 g2 hlk c1 bl
    go_wp2_with fail
    go_quiet (fail)
    go_wp2
    refine bodyPost_ret (v := .tuple #[.int .u64 x.w, .int .i64 x.v, .int .i64 0]) (by simp [results, Try.results61, go_sem]) rfl ?_
    exact ⟨rfl, ys, HPm.out, HL.out.still (((Ch.refl _ _).alloc _).drewN _)⟩
theorem drop_no (T : Nat → Prop) (b : Nat) (xs : List W3) (nx a : Int) (w : World) (h : Hh T w b xs nx) (hx : ∀ x ∈ xs, x.n ≠ a) : Calls Try.prog 61 #[.pointer (some ⟨b, 0, none⟩), .int .i64 a] w fun e w' => e = .returned (.tuple #[.int .u64 0, .int .i64 0, .int .i64 31]) ∧ w' = w := by
  have H := hid h
  have HX1 := hid hx
  clear h hx
  go_enter Try.func61, Try.ntmps61
  go_wp2_with fail
  refine (has_no T b xs nx a _ H.out HX1.out).mono ?_
  rintro e w1 ⟨rfl, rfl⟩
  go_wp2
  exact bodyPost_ret (v := .tuple #[.int .u64 0, .int .i64 0, .int .i64 31]) (by simp [results, Try.results61, go_sem]) rfl ⟨rfl, rfl⟩
end Go.Proofs.Ytgkapopkjgljjaa.Hp
