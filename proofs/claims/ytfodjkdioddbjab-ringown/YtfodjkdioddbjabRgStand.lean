/-
  The words in which the walks over the statements' lists of calls speak. No conditions.
-/
import Derived.Test.YtfodjkdioddbjabRgOpsList
import Derived.Test.YtfodjkdioddbjabRgAwake
namespace Go.Proofs.Ytfodjkdioddbjab.Rg
open Go.RowKit
attribute [local go_sem ↓] Go.wp_at_zero Go.wp_at_succ

/-- what is proved of 'calls' of the statements, at any call of either ring -/
def CallsAll : Prop := ∀ (b c pk : Nat) (u v : Value) (xs zs : List W3) (nx ny : Option W3) (n d : Int) (x : W3) (w : World),
    RingAt w b xs nx → RingAt w c zs ny → Lst (Av b c pk) w u xs → Lst (Av b c pk) w v zs → pk < w.heap.size → b ≠ c → (n = 0 ∨ n = 1) →
    Calls Try.prog 23 #[.agg #[.pointer (some ⟨b, 0, none⟩), .pointer (some ⟨c, 0, none⟩), u, .bool nx.isSome, .int .i64 (nx.getD W3.zero).s, .int .i64 (nx.getD W3.zero).g, .int .u64 (nx.getD W3.zero).t, v, .bool ny.isSome, .int .i64 (ny.getD W3.zero).s, .int .i64 (ny.getD W3.zero).g, .int .u64 (ny.getD W3.zero).t, .int .i64 n], .agg #[.int .i64 d, .int .i64 x.s, .int .i64 x.g, .int .u64 x.t]] w fun e w' => Out b c pk w e w'

/-- the two rings and the document's, in the variable at block pk; what was there ahead is as it was -/
def Stand (b c pk : Nat) (w wr : World) : Prop :=
  ∃ (xs zs : List W3) (nx ny : Option W3) (u v : Value) (n : Int), (n = 0 ∨ n = 1) ∧ Pair wr pk #[.pointer (some ⟨b, 0, none⟩), .pointer (some ⟨c, 0, none⟩), u, .bool nx.isSome, .int .i64 (nx.getD W3.zero).s, .int .i64 (nx.getD W3.zero).g, .int .u64 (nx.getD W3.zero).t, v, .bool ny.isSome, .int .i64 (ny.getD W3.zero).s, .int .i64 (ny.getD W3.zero).g, .int .u64 (ny.getD W3.zero).t, .int .i64 n] ∧ RingAt wr b xs nx ∧ RingAt wr c zs ny ∧ Lst (Av b c pk) wr u xs ∧ Lst (Av b c pk) wr v zs ∧ Ch NoB w wr

theorem stand_begun {w w1 : World} {b c : Nat} {o : Obj} (h1 : RingAt w1 b [] none) (h2 : RingAt w1 c [] none) (g : Ch NoB w w1) (ho : o = .cells #[.pointer (some ⟨b, 0, none⟩), .pointer (some ⟨c, 0, none⟩), .slice none 0 0, .bool false, .int .i64 0, .int .i64 0, .int .u64 0, .slice none 0 0, .bool false, .int .i64 0, .int .i64 0, .int .u64 0, .int .i64 0] 59) : Stand b c w1.heap.size w (w1.alloc o) := by
  subst ho
  exact ⟨[], [], none, none, _, _, 0, .inl rfl, Pair.new w1 _, h1.alloc _, h2.alloc _, Lst.nil _ _, Lst.nil _ _, g.alloc _⟩

theorem Stand.next {b c pk : Nat} {w wr w1 w2 : World} {xs zs : List W3} {nx ny : Option W3} {u v : Value} {n : Int} (hb : w.heap.size ≤ b) (hc : w.heap.size ≤ c) (hp : w.heap.size ≤ pk) (hbp : b ≠ pk) (hcp : c ≠ pk) (g0 : Ch NoB w wr)
    (hn : n = 0 ∨ n = 1) (r1 : RingAt w1 b xs nx) (r2 : RingAt w1 c zs ny) (l1 : Lst (Av b c pk) w1 u xs) (l2 : Lst (Av b c pk) w1 v zs) (g1 : Ch (Two b c) wr w1)
    (hw : Pair w2 pk #[.pointer (some ⟨b, 0, none⟩), .pointer (some ⟨c, 0, none⟩), u, .bool nx.isSome, .int .i64 (nx.getD W3.zero).s, .int .i64 (nx.getD W3.zero).g, .int .u64 (nx.getD W3.zero).t, v, .bool ny.isSome, .int .i64 (ny.getD W3.zero).s, .int .i64 (ny.getD W3.zero).g, .int .u64 (ny.getD W3.zero).t, .int .i64 n]) (g : Ch (Only pk) w1 w2) : Stand b c pk w w2 := by
  have hnb : ¬ Only pk b := fun e => hbp e
  have hnc : ¬ Only pk c := fun e => hcp e
  refine ⟨xs, zs, nx, ny, u, v, n, hn, hw, r1.ch g hnb, r2.ch g hnc, l1.ch g (fun _ _ h e => h.three e), l2.ch g (fun _ _ h e => h.three e), ?_⟩
  exact (g0.trans g1 (fun x e => .inr (by rcases e with e | e <;> omega))).trans g (fun x e => .inr (by have : x = pk := e; omega))
theorem Stand.ch {b c pk : Nat} {w wr w1 : World} (h : Stand b c pk w wr) (g : Ch NoB wr w1) : Stand b c pk w w1 := by
  obtain ⟨xs, zs, nx, ny, u, v, n, hn, hp, r1, r2, l1, l2, g0⟩ := h
  exact ⟨xs, zs, nx, ny, u, v, n, hn, hp.ch g (noB _), r1.ch g (noB _), r2.ch g (noB _), l1.ch g (fun _ _ _ => noB _), l2.ch g (fun _ _ _ => noB _), g0.trans' g⟩
/-- all thirteen cells are written anew -/
theorem Pair.all {w : World} {k : Nat} {c0 c1 c2 c3 c4 c5 c6 c7 c8 c9 c10 c11 c12 : Value} (h : Pair w k #[c0, c1, c2, c3, c4, c5, c6, c7, c8, c9, c10, c11, c12]) (d0 d1 d2 d3 d4 d5 d6 d7 d8 d9 d10 d11 d12 : Value) : Pair (((((((((((((w.setCell ⟨k, 0, none⟩ d0).setCell ⟨k, 1, none⟩ d1).setCell ⟨k, 2, none⟩ d2).setCell ⟨k, 3, none⟩ d3).setCell ⟨k, 4, none⟩ d4).setCell ⟨k, 5, none⟩ d5).setCell ⟨k, 6, none⟩ d6).setCell ⟨k, 7, none⟩ d7).setCell ⟨k, 8, none⟩ d8).setCell ⟨k, 9, none⟩ d9).setCell ⟨k, 10, none⟩ d10).setCell ⟨k, 11, none⟩ d11).setCell ⟨k, 12, none⟩ d12) k #[d0, d1, d2, d3, d4, d5, d6, d7, d8, d9, d10, d11, d12] := by
  have := setCell_block (setCell_block (setCell_block (setCell_block (setCell_block (setCell_block (setCell_block (setCell_block (setCell_block (setCell_block (setCell_block (setCell_block (setCell_block h 0 d0) 1 d1) 2 d2) 3 d3) 4 d4) 5 d5) 6 d6) 7 d7) 8 d8) 9 d9) 10 d10) 11 d11) 12 d12
  simp only [List.setIfInBounds_toArray, List.set_cons_zero, List.set_cons_succ] at this
  exact this
/-- what a call left is written into the variable -/
theorem Stand.put {b c pk : Nat} {w wr w1 : World} {xs zs : List W3} {nx ny : Option W3} {u v : Value} {n : Int} {c0 c1 c2 c3 c4 c5 c6 c7 c8 c9 c10 c11 c12 : Value} (hb : w.heap.size ≤ b) (hc : w.heap.size ≤ c) (hp : w.heap.size ≤ pk) (hbp : b ≠ pk) (hcp : c ≠ pk) (g0 : Ch NoB w wr)
    (hn : n = 0 ∨ n = 1) (r1 : RingAt w1 b xs nx) (r2 : RingAt w1 c zs ny) (l1 : Lst (Av b c pk) w1 u xs) (l2 : Lst (Av b c pk) w1 v zs) (g1 : Ch (Two b c) wr w1) (h : Pair w1 pk #[c0, c1, c2, c3, c4, c5, c6, c7, c8, c9, c10, c11, c12]) :
    Stand b c pk w (((((((((((((w1.setCell ⟨pk, 0, none⟩ (.pointer (some ⟨b, 0, none⟩))).setCell ⟨pk, 1, none⟩ (.pointer (some ⟨c, 0, none⟩))).setCell ⟨pk, 2, none⟩ (u)).setCell ⟨pk, 3, none⟩ (.bool nx.isSome)).setCell ⟨pk, 4, none⟩ (.int .i64 (nx.getD W3.zero).s)).setCell ⟨pk, 5, none⟩ (.int .i64 (nx.getD W3.zero).g)).setCell ⟨pk, 6, none⟩ (.int .u64 (nx.getD W3.zero).t)).setCell ⟨pk, 7, none⟩ (v)).setCell ⟨pk, 8, none⟩ (.bool ny.isSome)).setCell ⟨pk, 9, none⟩ (.int .i64 (ny.getD W3.zero).s)).setCell ⟨pk, 10, none⟩ (.int .i64 (ny.getD W3.zero).g)).setCell ⟨pk, 11, none⟩ (.int .u64 (ny.getD W3.zero).t)).setCell ⟨pk, 12, none⟩ (.int .i64 n)) := by
  have hw := h.all (.pointer (some ⟨b, 0, none⟩)) (.pointer (some ⟨c, 0, none⟩)) (u) (.bool nx.isSome) (.int .i64 (nx.getD W3.zero).s) (.int .i64 (nx.getD W3.zero).g) (.int .u64 (nx.getD W3.zero).t) (v) (.bool ny.isSome) (.int .i64 (ny.getD W3.zero).s) (.int .i64 (ny.getD W3.zero).g) (.int .u64 (ny.getD W3.zero).t) (.int .i64 n)
  refine Stand.next hb hc hp hbp hcp g0 hn r1 r2 l1 l2 g1 hw ?_
  exact Ch.own (Ch.own (Ch.own (Ch.own (Ch.own (Ch.own (Ch.own (Ch.own (Ch.own (Ch.own (Ch.own (Ch.own (Ch.own (Ch.refl _ _) _ _) _ _) _ _) _ _) _ _) _ _) _ _) _ _) _ _) _ _) _ _) _ _) _ _
end Go.Proofs.Ytfodjkdioddbjab.Rg
