/-
  The statements' own small table, and that what is asked of it is answered. No conditions.
-/
import Derived.Test.YtbghagpjkkmhpaaTbOwn
import Derived.Test.YtbghagpjkkmhpaaTbLft
namespace Go.Proofs.Ytbghagpjkkmhpaa.Lt
open Go.RowKit Wd
attribute [local go_sem ↓] Go.wp_at_zero Go.wp_at_succ
set_option maxRecDepth 20000

theorem tab_size : (Try.prog.info? 25).map (·.size) = some 2 := by kernel_rfl
def L0 : List (List Sl) := [[⟨1, 0, 3, 1⟩]]
theorem L0_rg : Rgs L0 := by
  intro l hl x hx
  simp only [L0, List.mem_cons, List.not_mem_nil, or_false] at hl
  subst hl
  simp only [List.mem_cons, List.not_mem_nil, or_false] at hx
  subst hx
  exact ⟨⟨by decide, by decide⟩, ⟨by decide, by decide⟩, ⟨by decide, by decide⟩, ⟨by decide, by decide⟩⟩
theorem ls_of {α : Type} {enc : α → List Value} {w : World} {b : Nat} {T : TypeId} {x : α} {c : Array Value} (h : w.heap[b]? = some (.cells c T (0, 0))) (hc : c.toList = enc x) : Ls enc AnyB w (.slice (some ⟨b, 0, none⟩) 1 1) [x] := by
  refine ⟨_, 1, rfl, ⟨by simp, fun h => by cases h⟩, .inr ⟨b, 0, rfl, trivial, lt_of_block h, ?_⟩⟩
  intro i y hy
  have e : [x].flatMap enc = enc x := by simp
  rw [e, ← hc, Array.getElem?_toList] at hy
  rw [cell_of h, Nat.zero_add]
  exact hy
theorem rw_of {w : World} {b0 b1 : Nat} (h0 : w.heap[b0]? = some (.cells #[.int .i64 1, .int .u64 0, .int .u64 3, .int .u64 1] 54 (0, 0))) (h1 : w.heap[b1]? = some (.cells #[.slice (some ⟨b0, 0, none⟩) 1 1] 49 (0, 0))) : Rw w (.slice (some ⟨b1, 0, none⟩) 1 1) L0 := by
  refine ⟨[.slice (some ⟨b0, 0, none⟩) 1 1], ls_of h1 rfl, rfl, ?_⟩
  intro i v l e1 e2
  cases i with
  | succ i => simp at e1
  | zero =>
    simp only [List.getElem?_cons_zero, Option.some.injEq] at e1
    subst e1
    simp only [L0, List.getElem?_cons_zero, Option.some.injEq] at e2
    subst e2
    exact ls_of (x := (⟨1, 0, 3, 1⟩ : Sl)) h0 rfl
theorem small_any (w : World) : Calls Try.prog 31 #[] w fun e w' => ∃ a, e = .returned (.agg #[.int .u64 3, .slice a 1 1]) ∧ Rw w' (.slice a 1 1) L0 ∧ Gr w w' := by
  have B0 := hide (al_at (w := w) (.cells #[.int .u64 0, .slice none 0 0] 25) rfl)
  have G1 := hide (show Gr (w.alloc (.cells #[.int .u64 0, .slice none 0 0] 25)) (((w.alloc (.cells #[.int .u64 0, .slice none 0 0] 25)).alloc (.cells #[.int .i64 1, .int .u64 0, .int .u64 3, .int .u64 1] 54)).alloc (.cells #[.slice (some ⟨w.heap.size + 1, 0, none⟩) 1 1] 49)) from Ch.alloc (Ch.alloc (Gr.refl _) _) _)
  have B1 := hide (gr_blk B0.out G1.out)
  go_enter Try.func31, Try.ntmps31
  go_wp2_with (refine st_row rfl 25 (.tmp 0) (.tmp 5) rfl w.heap.size #[.int .u64 3, .slice (some ⟨w.heap.size + 2, 0, none⟩) 1 1] rfl rfl _ _ B1.out tab_size rfl (by simp [Value.oneCell']) ?_; intro w8 b8 k8; have B8 := hide b8; have K8 := hide k8; clear b8 k8)
  refine bodyPost_ret (results_cell_row rfl _ _ w.heap.size _ _ _ _ rfl B8.out Try.underlying25 rfl tab_size) rfl ⟨_, rfl, ?_, ?_⟩
  · have q1 := gr_blk (al_at (x := w.heap.size + 1) (w := w.alloc (.cells #[.int .u64 0, .slice none 0 0] 25)) (.cells #[.int .i64 1, .int .u64 0, .int .u64 3, .int .u64 1] 54) (by simp)) (Ch.alloc (Gr.refl _) (.cells #[.slice (some ⟨w.heap.size + 1, 0, none⟩) 1 1] 49))
    have q2 := al_at (x := w.heap.size + 2) (w := (w.alloc (.cells #[.int .u64 0, .slice none 0 0] 25)).alloc (.cells #[.int .i64 1, .int .u64 0, .int .u64 3, .int .u64 1] 54)) (.cells #[.slice (some ⟨w.heap.size + 1, 0, none⟩) 1 1] 49) (by simp)
    exact rw_of ((K8.out.block _ (lt_of_block q1) (fun e => by have e1 : w.heap.size + 1 = w.heap.size := e; omega)).trans q1) ((K8.out.block _ (lt_of_block q2) (fun e => by have e1 : w.heap.size + 2 = w.heap.size := e; omega)).trans q2)
  · exact gr_own (Gr.trans (Ch.alloc (Gr.refl w) _) G1.out) K8.out (Nat.le_refl _)
theorem own0 : ownE 3 L0 0 = 0 ∧ ownD 3 L0 4 0 = 1 ∧ lftN 3 L0 4 0 = 1 := by decide
set_option maxHeartbeats 2000000 in
theorem awake_any (w : World) : Calls Try.prog 11 #[] w fun e w' => e = .returned (.bool true) ∧ Gr w w' := by
  obtain ⟨k1, k2, k3⟩ := own0
  have U3 : Tk.U 3 := ⟨by decide, by decide⟩
  have U4 : Tk.U 4 := ⟨by decide, by decide⟩
  have HO := hide (fun W a (h : Rw W (.slice a 1 1) L0) => owner_any W a 1 1 L0 h L0_rg 3 4 0 U3 U4)
  have HL := hide (fun W a (h : Rw W (.slice a 1 1) L0) => left_any W a 1 1 L0 h L0_rg 3 4 0 U3 U4)
  rw [k1, k2] at HO
  rw [k1, k3] at HL
  clear k1 k2 k3 U3 U4
  go_enter Try.func11, Try.ntmps11
  go_wp2_with fail
  refine (small_any _).mono ?_
  rintro e w1 ⟨a1, rfl, r1, g1⟩
  go_wp2_with fail
  refine (HO.out _ _ r1).mono ?_
  rintro e w2 ⟨rfl, g2⟩
  have G2 := hide (Gr.trans g1 g2)
  clear r1 g1 g2
  go_wp2_with fail
  refine (small_any _).mono ?_
  rintro e w3 ⟨a3, rfl, r3, g3⟩
  go_wp2_with fail
  refine (HL.out _ _ r3).mono ?_
  rintro e w4 ⟨rfl, g4⟩
  have G4 := hide (Gr.trans G2.out (Gr.trans g3 g4))
  clear r3 g3 g4
  go_wp2
  go_ret
  exact ⟨rfl, G4.out⟩
end Go.Proofs.Ytbghagpjkkmhpaa.Lt
