/-
  One that is woken, in memory; the document's SameMoved of layer 11 tells answers that are the same. Condition: the list is not too long.
-/
import Derived.Test.YtalmiphddgmfbabCnRef1
namespace Go.Proofs.Ytalmiphddgmfbab.Lt
open Go.RowKit Wd
attribute [local go_sem ↓] Go.wp_at_zero Go.wp_at_succ

theorem mcells {w : World} {X : Nat} {a b c d e : Value} {T : TypeId} (h : w.heap[X]? = some (.cells #[a, b, c, d, e] T (0, 0))) : w.cell? ⟨X, 0, none⟩ = some a ∧ w.cell? ⟨X, 1, none⟩ = some b ∧ w.cell? ⟨X, 2, none⟩ = some c ∧ w.cell? ⟨X, 3, none⟩ = some d ∧ w.cell? ⟨X, 4, none⟩ = some e :=
  ⟨(cell_of h 0).trans rfl, (cell_of h 1).trans rfl, (cell_of h 2).trans rfl, (cell_of h 3).trans rfl, (cell_of h 4).trans rfl⟩
set_option maxHeartbeats 4000000 in
set_option maxRecDepth 20000 in
theorem rsamem_any (P Q : Nat → Prop) (w : World) (a b : Bool) (x t : Int) (po qo : Option Addr) (n pc qc : Nat) (ks : List Wk) (h : Ls eK P w (.slice po n pc) ks) (k : Ls eK Q w (.slice qo n qc) ks) (hn : n ≤ 2932031007402) :
    Calls Try.prog 43 #[.agg #[.bool a, .int .i64 x, .bool b, .int .i64 t, .slice po n pc], .agg #[.bool a, .int .i64 x, .bool b, .int .i64 t, .slice qo n qc]] w fun e w' => e = .returned (.bool true) ∧ Gr w w' := by
  have HL := hid h.len.1
  have HB := hid h
  have HK := hid k
  have A0 := hid (show ((w.alloc (.cells #[.bool a, .int .i64 x, .bool b, .int .i64 t, .slice po n pc] 43)).alloc (.cells #[.bool a, .int .i64 x, .bool b, .int .i64 t, .slice qo n qc] 43)).heap[w.heap.size]? = some (.cells #[.bool a, .int .i64 x, .bool b, .int .i64 t, .slice po n pc] 43 (0, 0)) from al_blk (MapKept.heap_alloc w _).1 _)
  have B0 := hid (show ((w.alloc (.cells #[.bool a, .int .i64 x, .bool b, .int .i64 t, .slice po n pc] 43)).alloc (.cells #[.bool a, .int .i64 x, .bool b, .int .i64 t, .slice qo n qc] 43)).heap[w.heap.size + 1]? = some (.cells #[.bool a, .int .i64 x, .bool b, .int .i64 t, .slice qo n qc] 43 (0, 0)) from by simpa using (MapKept.heap_alloc (w.alloc (.cells #[.bool a, .int .i64 x, .bool b, .int .i64 t, .slice po n pc] 43)) (.cells #[.bool a, .int .i64 x, .bool b, .int .i64 t, .slice qo n qc] 43)).1)
  have G0 := hid (show Gr w ((w.alloc (.cells #[.bool a, .int .i64 x, .bool b, .int .i64 t, .slice po n pc] 43)).alloc (.cells #[.bool a, .int .i64 x, .bool b, .int .i64 t, .slice qo n qc] 43)) from Ch.alloc (Ch.alloc (Gr.refl w) _) _)
  clear h k
  go_enter Try.func43, Try.ntmps43
  go_wp2_with fail
  go_loopg [5] n (fun m i wq => ∃ j : Nat, j + m = n ∧ i = .int .i64 ((j : Nat) : Int) ∧ Gr w wq ∧ wq.heap[w.heap.size]? = some (.cells #[.bool a, .int .i64 x, .bool b, .int .i64 t, .slice po n pc] 43 (0, 0)) ∧ wq.heap[w.heap.size + 1]? = some (.cells #[.bool a, .int .i64 x, .bool b, .int .i64 t, .slice qo n qc] 43 (0, 0)))
  case atStart => exact ⟨0, by omega, rfl, G0.out, A0.out, B0.out⟩
  case round =>
    obtain ⟨j, hjm, rfl, hG, hA, hB⟩ := hrel
    have HG := hid hG
    have HA := hid hA
    have HB2 := hid hB
    obtain ⟨-, -, -, -, r4⟩ := mcells hA
    obtain ⟨-, -, -, -, s4⟩ := mcells hB
    clear hG hA hB
    by_cases hj : j < n
    · obtain ⟨⟨x0, x1, x2, x3, x4, x5⟩, hx⟩ : ∃ x, ks[j]? = some x := ⟨_, List.getElem?_eq_getElem (by rw [← HL.out]; exact hj)⟩
      obtain ⟨gg, oo, cap', hv, _, hgl, _, hcs⟩ := (HB.out.gr HG.out).get eK_len hx
      obtain ⟨gk2, ok, capk, hvk, _, hglk, _, hck⟩ := (HK.out.gr HG.out).get eK_len hx
      injection hv with hv1 hv2 hv3
      injection hvk with hk1 hk2 hk3
      subst hv1 hk1
      have c0 := hcs 0 _ rfl
      have c1 := hcs 1 _ rfl
      have c2 := hcs 2 _ rfl
      have c3 := hcs 3 _ rfl
      have c4 := hcs 4 _ rfl
      have c5 := hcs 5 _ rfl
      have d0 := hck 0 _ rfl
      have d1 := hck 1 _ rfl
      have d2 := hck 2 _ rfl
      have d3 := hck 3 _ rfl
      have d4 := hck 4 _ rfl
      have d5 := hck 5 _ rfl
      dsimp only [Nat.add_zero] at c0 c1 c2 c3 c4 c5 d0 d1 d2 d3 d4 d5
      have j0 : (0 : Int) ≤ (j : Int) := by omega
      have j1 : (j : Int) < (n : Int) := by omega
      clear hcs hck hv2 hv3 hk2 hk3 hx hgl hglk
      go_wp2_with fail
      go_region
      all_goals go_wp2
      all_goals go_roundg (n - (j + 1))
      all_goals first | omega | skip
      all_goals exact ⟨j + 1, by omega, by simp, HG.out.drew, HA.out, HB2.out⟩
    · have jn : ¬ (j : Int) < (n : Int) := by omega
      go_wp2
      go_ret
      exact ⟨rfl, HG.out⟩
end Go.Proofs.Ytalmiphddgmfbab.Lt
