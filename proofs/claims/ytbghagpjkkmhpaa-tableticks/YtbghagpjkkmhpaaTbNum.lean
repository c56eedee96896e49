/-
  Lists of numbers and of windows; a variable that holds a list that the call owns. No conditions.
-/
import Derived.Test.YtbghagpjkkmhpaaTbBase
namespace Go.Proofs.Ytbghagpjkkmhpaa.Lt
open Go.RowKit Wd

def eI (x : Int) : List Value := [.int .i64 x]
def eU (x : Int) : List Value := [.int .u64 x]
def eW (q : Int × Int) : List Value := [.int .u64 q.1, .int .u64 q.2]
theorem eI_len (x : Int) : (eI x).length = 1 := rfl
theorem eU_len (x : Int) : (eU x).length = 1 := rfl
theorem eW_len (q : Int × Int) : (eW q).length = 2 := rfl
theorem eI_one (xs : List Int) : ∀ u ∈ xs.flatMap eI, u.oneCell' = true := by
  intro u hu
  obtain ⟨x, _, hx⟩ := List.mem_flatMap.1 hu
  simp only [eI, List.mem_singleton] at hx
  subst hx
  rfl
theorem eU_one (xs : List Int) : ∀ u ∈ xs.flatMap eU, u.oneCell' = true := by
  intro u hu
  obtain ⟨x, _, hx⟩ := List.mem_flatMap.1 hu
  simp only [eU, List.mem_singleton] at hx
  subst hx
  rfl
theorem eW_one (xs : List (Int × Int)) : ∀ u ∈ xs.flatMap eW, u.oneCell' = true := by
  intro u hu
  obtain ⟨x, _, hx⟩ := List.mem_flatMap.1 hu
  simp only [eW, List.mem_cons, List.not_mem_nil, or_false] at hx
  rcases hx with rfl | rfl <;> rfl
theorem int_info : (Try.prog.info? 3).map (fun i => (i.zero, i.size, i.bytes)) = some (some (.int .i64 0), 1, 8) := by kernel_rfl
theorem u64_info : (Try.prog.info? 22).map (fun i => (i.zero, i.size, i.bytes)) = some (some (.int .u64 0), 1, 8) := by kernel_rfl
theorem win_info : (Try.prog.info? 52).map (fun i => (i.zero, i.size, i.bytes)) = some (some (.agg #[.int .u64 0, .int .u64 0]), 2, 16) := by kernel_rfl
section
variable {α : Type} {enc : α → List Value} {K e T b base : Nat} {S : Nat → Prop} {w w' : World} {xs : List α}
/-- a variable in block b holds a list that lies in blocks from base on -/
def LBox (enc : α → List Value) (K e T b base : Nat) (xs : List α) (w : World) : Prop := ∃ v, w.heap[b]? = some (.cells #[v] T (0, 0)) ∧ Ow enc K e base w v xs
theorem LBox.gr (h : LBox enc K e T b base xs w) (g : Gr w w') : LBox enc K e T b base xs w' := by
  obtain ⟨v, h1, h2⟩ := h
  exact ⟨v, gr_blk h1 g, h2.gr g⟩
theorem LBox.start (h : w.heap[b]? = some (.cells #[.slice none 0 0] T (0, 0))) : LBox enc K e T b base [] w := ⟨_, h, Ow.nil _ _ _ _ _⟩
theorem LBox.form (h : LBox enc K e T b base xs w) : ∃ ao cap, w.heap[b]? = some (.cells #[.slice ao xs.length cap] T (0, 0)) ∧ Ow enc K e base w (.slice ao xs.length cap) xs := by
  obtain ⟨v, h1, h2⟩ := h
  obtain ⟨ao, cap, rfl⟩ := h2.form
  exact ⟨ao, cap, h1, h2⟩
/-- what a call turns that appends to it -/
def Apd (b base : Nat) : Nat → Prop := fun q => q = b ∨ base ≤ q
theorem chApd {A : World} (h : Ch (Only b) A w) (k : Ch (Apd b base) w w') (hb : A.heap.size ≤ base) : Ch (Only b) A w' := h.trans k (fun q e => e.elim .inl (fun e => .inr (by omega)))
/-- the variable is written: the list that was appended to -/
theorem LBox.set {w0 : World} {v : Value} {ao : Option Addr} {k cap : Nat} {v0 : Value} (hb : w0.heap[b]? = some (.cells #[v0] T (0, 0))) (hlt : b < base) (o0 : ∀ q, Blk v q → base ≤ q) (ow : Ow enc K e base w (.slice ao k cap) xs) (cw : Ch (Blk v) w0 w) (bl : ∀ q, Blk (.slice ao k cap) q → Blk v q ∨ w0.heap.size ≤ q) :
    LBox enc K e T b base xs (w.setCell ⟨b, 0, none⟩ (.slice ao k cap)) ∧ Ch (Apd b base) w0 (w.setCell ⟨b, 0, none⟩ (.slice ao k cap)) := by
  have hn : ¬ Blk v b := fun q => by have := o0 b q; omega
  have h1 : w.heap[b]? = some (.cells #[v0] T (0, 0)) := (cw.block b (lt_of_block hb) hn).trans hb
  refine ⟨⟨.slice ao k cap, setCell_block h1 0 _, ow.ch (Ch.own (b := b) (Ch.refl _ w) 0 _) (fun g hg hgb => ?_)⟩, ?_⟩
  · have e1 : g = b := hgb
    rcases bl g hg with q | q
    · have := o0 g q; omega
    · have := lt_of_block hb; omega
  · exact Ch.setCell (cw.mono (fun q hq => .inl (.inr (o0 q hq)))) (.inl (.inl rfl)) _
end
/-- one in a new block, where its number is known by another word -/
theorem ls_at {α : Type} {enc : α → List Value} (w : World) (x : α) (T : TypeId) (c : Array Value) (b : Nat) (hb : b = w.heap.size) (hc : c.toList = enc x) : Ls enc (· = b) (w.alloc (.cells c T)) (.slice (some ⟨b, 0, none⟩) 1 1) [x] := by
  subst hb
  exact Ls.single w x T c hc
end Go.Proofs.Ytbghagpjkkmhpaa.Lt
