/-
  What the document's Make and Waits of layer 11 answer. Conditions: the lists are not too long.
-/
import Derived.Test.YtalmiphddgmfbabCnRef2
namespace Go.Proofs.Ytalmiphddgmfbab.Lt
open Go.RowKit Wd
attribute [local go_sem ↓] Go.wp_at_zero Go.wp_at_succ

/-- may one more be made? -/
def mkB (n : Nat) (x : Int) : Prop := 0 ≤ x ∧ x ≤ 1024 ∧ n < 1024
/-- what Make tells where one more is made -/
def MkR (w : World) (cs : List Cn) (x : Int) (e : Ending) (w' : World) : Prop := ∃ v, e = .returned (.tuple #[v, .int .i64 ((cs.length + 1 : Nat) : Int), .int .i64 0]) ∧ Nx w.heap.size w' v (cs ++ [⟨x, [], [], [], false⟩]) ∧ Gr w w'
theorem rwaits_any (P : Nat → Prop) (w : World) (v : Value) (cs : List Cn) (s g : Int) (h : Rds P w v cs) (hb : Bd cs) (hn : cs.length ≤ 1024) : Calls Try.prog 38 #[v, .agg #[.int .i64 s, .int .i64 g]] w fun e w' => e = .returned (.bool (decide (0 < pls cs s g))) ∧ Gr w w' := by
  have HL := hid (fun (W : World) (p : Gr w W) => rleave_any P W v cs s g (h.gr p) hb hn)
  have G0 := hid (show Gr w (w.alloc (.cells #[.int .i64 s, .int .i64 g] 24)) from Ch.alloc (Gr.refl w) _)
  clear h hb hn
  unfold LvR at HL
  generalize pls cs s g = p at HL ⊢
  have hbx : (w.alloc (.cells #[.int .i64 s, .int .i64 g] 24)).heap[w.heap.size]? = some (.cells #[.int .i64 s, .int .i64 g] 24 (0, 0)) := (MapKept.heap_alloc w _).1
  go_enter Try.func38, Try.ntmps38
  go_wp2_with (go_at_call 56; refine (HL.out _ G0.out).mono ?_; rintro e w1 ⟨v1, rfl, -, g1⟩; have G1 := hid (Gr.trans G0.out g1); clear g1)
  go_ret
  exact ⟨rfl, G1.out⟩
end Go.Proofs.Ytalmiphddgmfbab.Lt
