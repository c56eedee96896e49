/-
  What the law's small and awake answer. Condition: the tables lie where they lie.
-/
import Derived.Test.YtollfepggicehabDoorPpCheck
namespace Go.Proofs.YtollfepggicehabDoor.Lt
open Go.RowKit Wd

/-- a program of one function that ends at once, in memory -/
def SmR (w : World) (e : Ending) (w' : World) : Prop := ∃ bc bf : Nat, e = .returned (.agg #[.slice (some ⟨bc, 0, none⟩) 1 1, .slice (some ⟨bf, 0, none⟩) 1 1, .slice none 0 0]) ∧ w'.heap[bc]? = some (.cells #[.int .u32 402653184] 40 (0, 0)) ∧ w'.heap[bf]? = some (.cells #[.int .i64 0, .int .i64 1] 45 (0, 0)) ∧ w.heap.size ≤ bf ∧ bc ≠ bf ∧ Gr w w'
theorem small_any (w : World) : Calls Tryd.prog 19 #[] w (SmR w) := by
  have H0 := hid (show (((w.alloc (.cells #[.slice (some ⟨w.heap.size + 1, 0, none⟩) 1 1, .slice (some ⟨w.heap.size + 1 + 1, 0, none⟩) 1 1, .slice none 0 0] 26)).alloc (.cells #[.int .u32 402653184] 40)).alloc (.cells #[.int .i64 0, .int .i64 1] 45)).heap[w.heap.size]? = some (.cells #[.slice (some ⟨w.heap.size + 1, 0, none⟩) 1 1, .slice (some ⟨w.heap.size + 1 + 1, 0, none⟩) 1 1, .slice none 0 0] 26 (0, 0)) from al_blk (al_blk (MapKept.heap_alloc w _).1 _) _)
  have H1 := hid (show (((w.alloc (.cells #[.slice (some ⟨w.heap.size + 1, 0, none⟩) 1 1, .slice (some ⟨w.heap.size + 1 + 1, 0, none⟩) 1 1, .slice none 0 0] 26)).alloc (.cells #[.int .u32 402653184] 40)).alloc (.cells #[.int .i64 0, .int .i64 1] 45)).heap[w.heap.size + 1]? = some (.cells #[.int .u32 402653184] 40 (0, 0)) from al_blk (by simpa using (MapKept.heap_alloc (w.alloc (.cells #[.slice (some ⟨w.heap.size + 1, 0, none⟩) 1 1, .slice (some ⟨w.heap.size + 1 + 1, 0, none⟩) 1 1, .slice none 0 0] 26)) (.cells #[.int .u32 402653184] 40)).1) _)
  have H2 := hid (show (((w.alloc (.cells #[.slice (some ⟨w.heap.size + 1, 0, none⟩) 1 1, .slice (some ⟨w.heap.size + 1 + 1, 0, none⟩) 1 1, .slice none 0 0] 26)).alloc (.cells #[.int .u32 402653184] 40)).alloc (.cells #[.int .i64 0, .int .i64 1] 45)).heap[w.heap.size + 1 + 1]? = some (.cells #[.int .i64 0, .int .i64 1] 45 (0, 0)) by simpa using (MapKept.heap_alloc ((w.alloc (.cells #[.slice (some ⟨w.heap.size + 1, 0, none⟩) 1 1, .slice (some ⟨w.heap.size + 1 + 1, 0, none⟩) 1 1, .slice none 0 0] 26)).alloc (.cells #[.int .u32 402653184] 40)) (.cells #[.int .i64 0, .int .i64 1] 45)).1)
  go_enter Tryd.func19, Tryd.ntmps19
  go_wp2
  refine bodyPost_ret (v := .agg #[.slice (some ⟨w.heap.size + 1, 0, none⟩) 1 1, .slice (some ⟨w.heap.size + 1 + 1, 0, none⟩) 1 1, .slice none 0 0]) (by simp [results, Tryd.results19, go_sem, cell_of H0.out]) rfl ?_
  exact ⟨w.heap.size + 1, w.heap.size + 1 + 1, rfl, H1.out, H2.out, by omega, by omega, Ch.alloc (Ch.alloc (Ch.alloc (Gr.refl w) _) _) _⟩
theorem ck1 : chk [402653184] [(0, 1)] [] = (0, 0) := by decide +kernel
theorem ck2 : chk [402653184] [(0, 2)] [] = (0, 81) := by decide +kernel
/-- what lies at a block's beginning is a list -/
theorem ls_blk {α : Type} {enc : α → List Value} {w : World} {b : Nat} {c : Array Value} {T : TypeId} {fr : Nat × Nat} (h : w.heap[b]? = some (.cells c T fr)) (xs : List α) (hc : xs.flatMap enc = c.toList) (n : Nat) (hn : n = xs.length) : Ls enc (fun _ => True) w (.slice (some ⟨b, 0, none⟩) n n) xs := by
  subst hn
  refine ⟨_, _, rfl, ⟨Nat.le_refl _, fun q => by cases q⟩, .inr ⟨b, 0, rfl, trivial, lt_of_block h, fun j x hx => ?_⟩⟩
  rw [hc, Array.getElem?_toList] at hx
  rw [cell_of h, Nat.zero_add]
  exact hx
theorem u1 : U32s [402653184] := fun n hn => by
  have : n = 402653184 := by simpa using hn
  omega
set_option maxRecDepth 20000 in
theorem awake_any (w : World) (hg : Glb w) : Calls Tryd.prog 7 #[] w fun e w' => e = .returned (.bool true) ∧ Gr w w' := by
  have HG := hid hg
  have HS := hid (fun (W : World) => small_any W)
  have HC1 := hid (fun (W : World) (bc bf : Nat) (p : W.heap[bc]? = some (.cells #[.int .u32 402653184] 40 (0, 0))) (q : W.heap[bf]? = some (.cells #[.int .i64 0, .int .i64 1] 45 (0, 0))) (g : Glb W) => check_any (fun _ => True) W (.slice (some ⟨bc, 0, none⟩) 1 1) (.slice (some ⟨bf, 0, none⟩) 1 1) (.slice none 0 0) [402653184] [(0, 1)] [] ⟨ls_blk p _ rfl 1 rfl, ls_blk q _ rfl 1 rfl, Ls.nil _ _ _, fun t ht => by cases ht⟩ u1 g)
  have HC2 := hid (fun (W : World) (bc bf : Nat) (p : W.heap[bc]? = some (.cells #[.int .u32 402653184] 40 (0, 0))) (q : W.heap[bf]? = some (.cells #[.int .i64 0, .int .i64 2] 45 (0, 0))) (g : Glb W) => check_any (fun _ => True) W (.slice (some ⟨bc, 0, none⟩) 1 1) (.slice (some ⟨bf, 0, none⟩) 1 1) (.slice none 0 0) [402653184] [(0, 2)] [] ⟨ls_blk p _ rfl 1 rfl, ls_blk q _ rfl 1 rfl, Ls.nil _ _ _, fun t ht => by cases ht⟩ u1 g)
  rw [ck1] at HC1
  rw [ck2] at HC2
  clear hg
  go_enter Tryd.func7, Tryd.ntmps7
  go_wp2_with (first | (go_at_call 19; refine (HS.out _).mono ?_; rintro e w1 ⟨bc, bf, rfl, h1, h2, lf, ne, g1⟩; have H1 := hid (al_blk h1 (.cells #[.slice (some ⟨bc, 0, none⟩) 1 1, .slice (some ⟨bf, 0, none⟩) 1 1, .slice none 0 0] 26)); have H2 := hid (al_blk h2 (.cells #[.slice (some ⟨bc, 0, none⟩) 1 1, .slice (some ⟨bf, 0, none⟩) 1 1, .slice none 0 0] 26)); have G1 := hid (Ch.alloc g1 (.cells #[.slice (some ⟨bc, 0, none⟩) 1 1, .slice (some ⟨bf, 0, none⟩) 1 1, .slice none 0 0] 26)); have BB := hid (MapKept.heap_alloc w1 (.cells #[.slice (some ⟨bc, 0, none⟩) 1 1, .slice (some ⟨bf, 0, none⟩) 1 1, .slice none 0 0] 26)).1; have LF := hid lf; have NE := hid ne; have lf1 := lt_of_block h2; clear h1 h2 lf ne g1) | (go_at_call 12; refine (HC1.out _ bc bf H1.out H2.out (HG.out.gr G1.out)).mono ?_; rintro e w2 ⟨rfl, g2⟩; have J1 := hid (gr_blk H1.out g2); have j2 := gr_blk H2.out g2; have J2 := hid j2; have J0 := hid (gr_blk BB.out g2); have G2 := hid (Gr.trans G1.out g2); have p0 : w2.cell? ⟨w1.heap.size, 0, none⟩ = some (.slice (some ⟨bc, 0, none⟩) 1 1) := (cell_of J0.out 0).trans rfl; have p1 : w2.cell? ⟨w1.heap.size, 1, none⟩ = some (.slice (some ⟨bf, 0, none⟩) 1 1) := (cell_of J0.out 1).trans rfl; have p2 : w2.cell? ⟨w1.heap.size, 2, none⟩ = some (.slice none 0 0) := (cell_of J0.out 2).trans rfl; have c1 : w2.cell? ⟨bf, 1, none⟩ = some (.int .i64 1) := (cell_of j2 1).trans rfl; have z1 := frozen_of j2 1; have lb := lt_of_block j2; have l0 := lt_of_block J0.out; have K0 := hid (((Ch.refl (Only bf) w2).own 1 (.int .i64 2)).block w1.heap.size l0 (fun e => by have e1 : w1.heap.size = bf := e; omega)); have q0 : (w2.setCell ⟨bf, 1, none⟩ (.int .i64 2)).cell? ⟨w1.heap.size, 0, none⟩ = some (.slice (some ⟨bc, 0, none⟩) 1 1) := (cell_of (K0.out.trans J0.out) 0).trans rfl; have q1 : (w2.setCell ⟨bf, 1, none⟩ (.int .i64 2)).cell? ⟨w1.heap.size, 1, none⟩ = some (.slice (some ⟨bf, 0, none⟩) 1 1) := (cell_of (K0.out.trans J0.out) 1).trans rfl; have q2 : (w2.setCell ⟨bf, 1, none⟩ (.int .i64 2)).cell? ⟨w1.heap.size, 2, none⟩ = some (.slice none 0 0) := (cell_of (K0.out.trans J0.out) 2).trans rfl; clear g2 j2) | (go_at_call 12; refine (HC2.out _ bc bf ((((Ch.refl (Only bf) w2).own 1 (.int .i64 2)).block bc (lt_of_block J1.out) (fun e => NE.out e)).trans J1.out) (by simpa using setCell_block J2.out 1 (.int .i64 2)) (HG.out.gr (Ch.fresh G2.out LF.out 1 (.int .i64 2)))).mono ?_; rintro e w3 ⟨rfl, g3⟩; have G3 := hid (Gr.trans (Ch.fresh G2.out LF.out 1 (.int .i64 2)) g3); clear g3))
  go_ret
  exact ⟨rfl, G3.out⟩
end Go.Proofs.YtollfepggicehabDoor.Lt
