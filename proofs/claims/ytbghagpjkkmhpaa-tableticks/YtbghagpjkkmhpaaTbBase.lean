/-
  A table in memory: a list of lists of slots that reads; the clock's functions in the words of these texts. No conditions.
-/
import Derived.Test.YtbghagpjkkmhpaaGnGrd
import Derived.Test.YtbghagpjkkmhpaaTbPlain
import Derived.Test.YtbghagpjkkmhpaaLeft
namespace Go.Proofs.Ytbghagpjkkmhpaa.Lt
open Go.RowKit Wd
attribute [local go_sem ↓] Go.wp_at_zero Go.wp_at_succ

theorem hide {p : Prop} (h : p) : Hid p := h
theorem gr_of {w w' : World} (h : Tk.Gr w w') : Gr w w' := ⟨h.2.os, h.2.tape, h.2.output, h.2.size, fun k hk _ => h.2.block k hk⟩
theorem al_at {w : World} {x : Nat} (o : Obj) (h : x = w.heap.size) : (w.alloc o).heap[x]? = some o := by
  subst h
  exact (MapKept.heap_alloc w o).1
theorem gr_blk {w w' : World} {x : Nat} {o : Obj} (h : w.heap[x]? = some o) (g : Gr w w') : w'.heap[x]? = some o := (g.block _ (lt_of_block h) (noB _)).trans h
theorem may16 (s l f : Int) (hs : Tk.U s) (hl : Tk.U l) (hf : Tk.U f) (w : World) :
    Calls Try.prog 52 #[.agg #[.int .u64 s, .int .u64 l], .int .u64 f] w fun e w' => e = .returned (.int .i64 (Tk.mayE s l f)) ∧ Gr w w' :=
  (Tk.may_any s l f hs hl hf w).mono fun _ _ h => ⟨h.1, gr_of h.2⟩
theorem left16 (t f s l : Int) (ht : Tk.U t) (hf : Tk.U f) (hs : Tk.U s) (hl : Tk.U l) (w : World) :
    Calls Try.prog 35 #[.int .u64 t, .int .u64 f, .agg #[.int .u64 s, .int .u64 l]] w fun e w' => e = .returned (.tuple #[.int .u64 (Tk.leN t f s l), .int .i64 (Tk.mayE s l f)]) ∧ Gr w w' :=
  (Tk.left_any t f s l ht hf hs hl w).mono fun _ _ h => ⟨h.1, gr_of h.2⟩

/-- a slot handed in lies in a new block -/
theorem box4 {w w1 : World} {T : TypeId} {a b c d : Value} (g : Gr (w.alloc (.cells #[a, b, c, d] T)) w1) :
    w1.cell? ⟨w.heap.size, 0, none⟩ = some a ∧ w1.cell? ⟨w.heap.size, 1, none⟩ = some b ∧ w1.cell? ⟨w.heap.size, 2, none⟩ = some c ∧ w1.cell? ⟨w.heap.size, 3, none⟩ = some d ∧ w.heap.size < w1.heap.size ∧ Gr w w1 := by
  have h := gr_blk (al_at (w := w) (.cells #[a, b, c, d] T) rfl) g
  exact ⟨cell_of h 0, cell_of h 1, cell_of h 2, cell_of h 3, lt_of_block h, Gr.trans (Ch.alloc (Gr.refl w) _) g⟩
theorem box2 {w w1 : World} {T : TypeId} {a b : Value} (g : Gr (w.alloc (.cells #[a, b] T)) w1) :
    w1.cell? ⟨w.heap.size, 0, none⟩ = some a ∧ w1.cell? ⟨w.heap.size, 1, none⟩ = some b ∧ w.heap.size < w1.heap.size ∧ Gr w w1 := by
  have h := gr_blk (al_at (w := w) (.cells #[a, b] T) rfl) g
  exact ⟨cell_of h 0, cell_of h 1, lt_of_block h, Gr.trans (Ch.alloc (Gr.refl w) _) g⟩

def eV (v : Value) : List Value := [v]
theorem eV_len (v : Value) : (eV v).length = 1 := rfl
def AnyB : Nat → Prop := fun _ => True
/-- a slice value that reads as lists of slots -/
def Rw (w : World) (pv : Value) (L : List (List Sl)) : Prop :=
  ∃ vs : List Value, Ls eV AnyB w pv vs ∧ vs.length = L.length ∧ ∀ (i : Nat) (v : Value) (l : List Sl), vs[i]? = some v → L[i]? = some l → Ls eS AnyB w v l
theorem Rw.gr {w w' : World} {pv : Value} {L : List (List Sl)} (h : Rw w pv L) (g : Gr w w') : Rw w' pv L := by
  obtain ⟨vs, a, b, c⟩ := h
  exact ⟨vs, a.gr g, b, fun i v l h1 h2 => (c i v l h1 h2).gr g⟩
theorem Rw.len {w : World} {ao : Option Addr} {n cap : Nat} {L : List (List Sl)} (h : Rw w (.slice ao n cap) L) : n = L.length := by
  obtain ⟨vs, a, b, c⟩ := h
  rw [a.len.1, b]
/-- one of the lists: where its slice value lies -/
theorem Rw.at {w : World} {ao : Option Addr} {n cap : Nat} {L : List (List Sl)} (h : Rw w (.slice ao n cap) L) {i : Nat} {l : List Sl} (hi : L[i]? = some l) :
    ∃ g o al cl, ao = some ⟨g, o, none⟩ ∧ g < w.heap.size ∧ n ≤ cap ∧ w.cell? ⟨g, o + i, none⟩ = some (.slice al l.length cl) ∧ Ls eS AnyB w (.slice al l.length cl) l := by
  obtain ⟨vs, a, b, c⟩ := h
  have hl : i < vs.length := by rw [b]; exact (List.getElem?_eq_some_iff.1 hi).1
  have hv : vs[i]? = some vs[i] := List.getElem?_eq_getElem hl
  obtain ⟨g, o, cp, e, _, hg, hc, hx⟩ := a.get eV_len hv
  injection e with e1 e2 e3
  have hs := c i _ l hv hi
  obtain ⟨al, cl, e4⟩ := hs.form
  have h0 := hx 0 vs[i] rfl
  rw [Nat.add_zero, Nat.mul_one, e4] at h0
  rw [e4] at hs
  exact ⟨g, o, al, cl, e1, hg, by omega, h0, hs⟩
/-- a slot of a list: where it lies -/
theorem slot_at {w : World} {al : Option Addr} {n cl : Nat} {l : List Sl} (h : Ls eS AnyB w (.slice al n cl) l) {i : Nat} {x : Sl} (hi : l[i]? = some x) :
    ∃ g o, al = some ⟨g, o, none⟩ ∧ g < w.heap.size ∧ n ≤ cl ∧ w.cell? ⟨g, o + i * 4, none⟩ = some (.int .i64 x.d) ∧ w.cell? ⟨g, o + i * 4 + 1, none⟩ = some (.int .u64 x.s) ∧ w.cell? ⟨g, o + i * 4 + 2, none⟩ = some (.int .u64 x.l) ∧ w.cell? ⟨g, o + i * 4 + 3, none⟩ = some (.int .u64 x.p) := by
  obtain ⟨g, o, cp, e, _, hg, hc, hx⟩ := h.get eS_len hi
  injection e with e1 e2 e3
  have h0 := hx 0 _ rfl
  have h1 := hx 1 _ rfl
  have h2 := hx 2 _ rfl
  have h3 := hx 3 _ rfl
  rw [Nat.add_zero] at h0
  exact ⟨g, o, e1, hg, by omega, h0, h1, h2, h3⟩
end Go.Proofs.Ytbghagpjkkmhpaa.Lt
