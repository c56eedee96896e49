/-
  What the walks of layer 17 share: facts that are hidden, blocks that stay, lists of edges and of numbers in memory. No conditions.
-/
import Derived.Test.YtcoaefojamhloaaGnGrd
import Derived.Test.YtcoaefojamhloaaGnHeld
import Derived.Test.YtcoaefojamhloaaPyPlain
namespace Go.Proofs.Ytcoaefojamhloaa.Lt
open Go.RowKit Wd
attribute [local go_sem ↓] Go.wp_at_zero Go.wp_at_succ

theorem hide {p : Prop} (h : p) : Hid p := h
theorem al_at {w : World} {x : Nat} (o : Obj) (h : x = w.heap.size) : (w.alloc o).heap[x]? = some o := by
  subst h
  exact (MapKept.heap_alloc w o).1
theorem gr_blk {w w' : World} {x : Nat} {o : Obj} (h : w.heap[x]? = some o) (g : Gr w w') : w'.heap[x]? = some o := (g.block _ (lt_of_block h) (noB _)).trans h
theorem box2 {w w1 : World} {T : TypeId} {a b : Value} (g : Gr (w.alloc (.cells #[a, b] T)) w1) :
    w1.cell? ⟨w.heap.size, 0, none⟩ = some a ∧ w1.cell? ⟨w.heap.size, 1, none⟩ = some b ∧ w.heap.size < w1.heap.size ∧ Gr w w1 := by
  have h := gr_blk (al_at (w := w) (.cells #[a, b] T) rfl) g
  exact ⟨cell_of h 0, cell_of h 1, lt_of_block h, Gr.trans (Ch.alloc (Gr.refl w) _) g⟩
def AnyB : Nat → Prop := fun _ => True
theorem AnyB.it (n : Nat) : AnyB n := trivial
def eI (x : Int) : List Value := [.int .i64 x]
theorem eI_len (x : Int) : (eI x).length = 1 := rfl
theorem eI_one (xs : List Int) : ∀ u ∈ xs.flatMap eI, u.oneCell' = true := by
  intro u hu
  obtain ⟨x, _, hx⟩ := List.mem_flatMap.1 hu
  simp only [eI, List.mem_singleton] at hx
  subst hx
  rfl
theorem eE_one (xs : List Eg) : ∀ u ∈ xs.flatMap eE, u.oneCell' = true := by
  intro u hu
  obtain ⟨x, _, hx⟩ := List.mem_flatMap.1 hu
  simp only [eE, List.mem_cons, List.not_mem_nil, or_false] at hx
  rcases hx with rfl | rfl <;> rfl
theorem int_info : (Try.prog.info? 3).map (fun i => (i.zero, i.size, i.bytes)) = some (some (.int .i64 0), 1, 8) := by kernel_rfl
theorem edge_info : (Try.prog.info? 42).map (fun i => (i.zero, i.size, i.bytes)) = some (some (.agg #[.int .i64 0, .int .i64 0]), 2, 16) := by kernel_rfl
/-- one in a new block, where its number is known by another word -/
theorem ls_at {α : Type} {enc : α → List Value} (w : World) (x : α) (T : TypeId) (c : Array Value) (b : Nat) (hb : b = w.heap.size) (hc : c.toList = enc x) : Ls enc (· = b) (w.alloc (.cells c T)) (.slice (some ⟨b, 0, none⟩) 1 1) [x] := by
  subst hb
  exact Ls.single w x T c hc
/-- an edge of a list: where it lies -/
theorem eg_at {w : World} {P : Nat → Prop} {al : Option Addr} {n cl : Nat} {l : List Eg} (h : Ls eE P w (.slice al n cl) l) {i : Nat} {x : Eg} (hi : l[i]? = some x) :
    ∃ g o, al = some ⟨g, o, none⟩ ∧ g < w.heap.size ∧ n ≤ cl ∧ w.cell? ⟨g, o + i * 2, none⟩ = some (.int .i64 x.f) ∧ w.cell? ⟨g, o + i * 2 + 1, none⟩ = some (.int .i64 x.t) := by
  obtain ⟨g, o, cp, e, _, hg, hc, hx⟩ := h.get eE_len hi
  injection e with e1 e2 e3
  have h0 := hx 0 _ rfl
  have h1 := hx 1 _ rfl
  rw [Nat.add_zero] at h0
  exact ⟨g, o, e1, hg, by omega, h0, h1⟩
/-- a number of a list: where it lies -/
theorem in_at {w : World} {P : Nat → Prop} {ao : Option Addr} {n cap : Nat} {xs : List Int} (h : Ls eI P w (.slice ao n cap) xs) {i : Nat} {x : Int} (hi : xs[i]? = some x) :
    ∃ g o, ao = some ⟨g, o, none⟩ ∧ g < w.heap.size ∧ n ≤ cap ∧ w.cell? ⟨g, o + i, none⟩ = some (.int .i64 x) := by
  obtain ⟨g, o, cp, e, _, hg, hc, hx⟩ := h.get eI_len hi
  injection e with e1 e2 e3
  have h0 := hx 0 _ rfl
  rw [Nat.add_zero, Nat.mul_one] at h0
  exact ⟨g, o, e1, hg, by omega, h0⟩
theorem ow_empty (e : Nat) (w : World) : Ow eI 1 e w.heap.size (w.alloc (.cells #[] e)) (.slice (some ⟨w.heap.size, 0, none⟩) 0 0) [] :=
  ⟨rfl, .inr ⟨w.heap.size, 0, #[], rfl, Nat.le_refl _, (MapKept.heap_alloc w _).1, Nat.le_refl _, by simp [maxLen], by simp, by simp⟩⟩
theorem ow_emptyE (w : World) : Ow eE 2 42 w.heap.size (w.alloc (.cells #[] 42)) (.slice (some ⟨w.heap.size, 0, none⟩) 0 0) [] :=
  ⟨rfl, .inr ⟨w.heap.size, 0, #[], rfl, Nat.le_refl _, (MapKept.heap_alloc w _).1, Nat.le_refl _, by simp [maxLen], by simp, by simp⟩⟩
/-- edges that read at a value, whichever block they lie in -/
abbrev Le (w : World) (v : Value) (l : List Eg) : Prop := Ls eE AnyB w v l
end Go.Proofs.Ytcoaefojamhloaa.Lt
