/-
  What the program's New, given, find, Len, Cap and Waits of layer 11 answer. Conditions: a goroutine's numbers are ints.
-/
import Derived.Test.YtalmiphddgmfbabCpBase
import Derived.Test.YtalmiphddgmfbabGnRegion
import Derived.Test.YtalmiphddgmfbabGnHeld
namespace Go.Proofs.Ytalmiphddgmfbab.Lt
open Go.RowKit Wd
attribute [local go_sem ↓] Go.wp_at_zero Go.wp_at_succ

/-- what the tags of other blocks are does not matter -/
theorem NL.retag {t t' : Nat → Tg} {base : Nat} {w : World} {v : Value} {xs : List Rw} {cs : List Cn} (h : NL t base w v xs cs) (k : ∀ q, (Blk v q ∨ ∃ (i : Nat) (x : Rw), xs[i]? = some x ∧ (Blk x.v q ∨ Blk x.s q ∨ Blk x.r q)) → t' q = t q) : NL t' base w v xs cs :=
  ⟨h.o, fun q hq => (k q (.inl hq)).trans (h.to q hq), h.n, fun i x c hx hc => by
    have y := h.f i x c hx hc
    exact ⟨y.cap, y.cl, y.v, fun q hq => (k q (.inr ⟨i, x, hx, .inl hq⟩)).trans (y.tv q hq), y.s, fun q hq => (k q (.inr ⟨i, x, hx, .inr (.inl hq)⟩)).trans (y.ts q hq), y.r, fun q hq => (k q (.inr ⟨i, x, hx, .inr (.inr hq)⟩)).trans (y.tr q hq)⟩⟩
/-- one of the channels: its cells -/
structure At5 (w : World) (gO i : Nat) (x : Rw) : Prop where
  c0 : w.cell? ⟨gO, i * 5, none⟩ = some (.int .i64 x.cap)
  c1 : w.cell? ⟨gO, i * 5 + 1, none⟩ = some x.v
  c2 : w.cell? ⟨gO, i * 5 + 2, none⟩ = some x.s
  c3 : w.cell? ⟨gO, i * 5 + 3, none⟩ = some x.r
  c4 : w.cell? ⟨gO, i * 5 + 4, none⟩ = some (.bool x.cl)
  lt : gO < w.heap.size
  fz : ∀ o, w.frozen? ⟨gO, o, none⟩ = false
theorem NL.at {t : Nat → Tg} {base : Nat} {w : World} {v : Value} {xs : List Rw} {cs : List Cn} {i : Nat} {c : Cn} (h : NL t base w v xs cs) (hc : cs[i]? = some c) : ∃ gO ca x, v = .slice (some ⟨gO, 0, none⟩) cs.length ca ∧ t gO = .out ∧ xs[i]? = some x ∧ One t base w i x c ∧ At5 w gO i x := by
  obtain ⟨x, hx⟩ : ∃ x, xs[i]? = some x := ⟨_, List.getElem?_eq_getElem (by rw [h.n]; exact (List.getElem?_eq_some_iff.1 hc).1)⟩
  obtain ⟨g, ca, e, hb, hg, hl, hcs, hf, -⟩ := h.o.get eR_len hx
  exact ⟨g, ca, x, by rw [e, h.n], h.to g (by rw [e]; rfl), hx, h.f i x c hx hc, ⟨hcs 0 _ rfl, hcs 1 _ rfl, hcs 2 _ rfl, hcs 3 _ rfl, hcs 4 _ rfl, hg, hf⟩⟩
theorem given_nil (w : World) : Calls Try.prog 27 #[.pointer none] w fun e w' => e = .returned (.bool false) ∧ w' = w := by
  go_enter Try.func27, Try.ntmps27
  go_wp2
  go_ret
  exact ⟨rfl, rfl⟩
theorem neq_map (k : Nat) : ∀ w : World, (binOp .neq 72 (.map (some k)) (.map none)).run Try.prog w = .ok (.bool true) w := fun w => by kernel_rfl
set_option maxRecDepth 20000 in
theorem given_any {w : World} {b k : Nat} {v : Value} (h : w.heap[b]? = some (.cells #[v, .map (some k)] 74 (0, 0))) : Calls Try.prog 27 #[.pointer (some ⟨b, 0, none⟩)] w fun e w' => e = .returned (.bool true) ∧ w' = w := by
  have c1 := cell_of h 1
  simp at c1
  clear h
  have hm := neq_map k
  go_enter Try.func27, Try.ntmps27
  go_wp2
  go_ret
  exact ⟨rfl, rfl⟩
/-- a new Chans -/
def NwR (w : World) (e : Ending) (w' : World) : Prop := ∃ b t, e = .returned (.pointer (some ⟨b, 0, none⟩)) ∧ Cs t w' b [] ∧ Gr w w' ∧ ∀ q, q < w.heap.size → t q = .no
theorem nl_nil (t : Nat → Tg) (base : Nat) (w : World) : NL t base w (.slice none 0 0) [] [] := ⟨Ow.nil _ _ _ _ _, fun q hq => (by cases hq), rfl, fun i x c hx => (by simp at hx)⟩
theorem pm_nil {t : Nat → Tg} {w : World} {k clock : Nat} (h : MAt w k [] clock) : Pm t w k [] clock [] := ⟨h, fun e he => (by cases he), List.nodup_nil, fun e he => (by cases he), fun s g _ => rfl, List.nodup_nil, fun e he => (by cases he)⟩
theorem new_any (w : World) : Calls Try.prog 12 #[] w (NwR w) := by
  have hmm := @run_makeMap Try.prog
  go_enter Try.func12, Try.ntmps12
  go_wp2
  go_ret
  refine ⟨w.heap.size + 1, fun q => if q = w.heap.size + 1 then .me else if q = w.heap.size then .mp else .no, by simp, ⟨w.heap.size, .slice none 0 0, [], [], 0, ⟨?_, if_pos rfl, by rw [if_neg (by omega), if_pos rfl], nl_nil _ _ _, pm_nil ?_, ?_⟩⟩, ?_, ?_⟩
  · exact al_at _ (by simp)
  · exact al_blk (MapKept.heap_alloc w _).1 _
  · intro q hq
    by_cases h1 : q = w.heap.size + 1
    · simp; omega
    · by_cases h2 : q = w.heap.size
      · simp; omega
      · simp [h1, h2] at hq
  · exact Ch.alloc (Ch.alloc (Gr.refl w) _) _
  · exact fun q hq => (if_neg (by omega)).trans (if_neg (by omega))
theorem find_nobody (ch : Int) (w : World) : Calls Try.prog 26 #[.pointer none, .int .i64 ch] w fun e w' => e = .returned (.tuple #[.pointer none, .int .i64 4]) ∧ w' = w := by
  have HG := hid (given_nil w)
  go_enter Try.func26, Try.ntmps26
  go_wp2_with (go_at_call 27; refine HG.out.mono ?_; rintro e w1 ⟨rfl, rfl⟩)
  exact bodyPost_ret (v := .tuple #[.pointer none, .int .i64 4]) (by simp [results, Try.results26, go_sem]) rfl ⟨rfl, rfl⟩
theorem find_no {w : World} {b k n ca : Nat} {ao : Option Addr} (h : w.heap[b]? = some (.cells #[.slice ao n ca, .map (some k)] 74 (0, 0))) (ch : Int) (hc : ¬ (0 ≤ ch ∧ ch ≤ (n : Int))) : Calls Try.prog 26 #[.pointer (some ⟨b, 0, none⟩), .int .i64 ch] w fun e w' => e = .returned (.tuple #[.pointer none, .int .i64 4]) ∧ w' = w := by
  have HG := hid (given_any h)
  have c0 := cell_of h 0
  simp at c0
  clear h
  by_cases h0 : ch < 0
  · clear hc
    go_enter Try.func26, Try.ntmps26
    go_wp2_with (go_at_call 27; refine HG.out.mono ?_; rintro e w1 ⟨rfl, rfl⟩)
    exact bodyPost_ret (v := .tuple #[.pointer none, .int .i64 4]) (by simp [results, Try.results26, go_sem]) rfl ⟨rfl, rfl⟩
  · have h1 : (n : Int) < ch := by omega
    clear hc
    go_enter Try.func26, Try.ntmps26
    go_wp2_with (go_at_call 27; refine HG.out.mono ?_; rintro e w1 ⟨rfl, rfl⟩)
    exact bodyPost_ret (v := .tuple #[.pointer none, .int .i64 4]) (by simp [results, Try.results26, go_sem]) rfl ⟨rfl, rfl⟩
theorem find_zero {w : World} {b k n ca : Nat} {ao : Option Addr} (h : w.heap[b]? = some (.cells #[.slice ao n ca, .map (some k)] 74 (0, 0))) : Calls Try.prog 26 #[.pointer (some ⟨b, 0, none⟩), .int .i64 0] w fun e w' => e = .returned (.tuple #[.pointer none, .int .i64 0]) ∧ w' = w := by
  have HG := hid (given_any h)
  have c0 := cell_of h 0
  simp at c0
  have n0 : ¬ (n : Int) < 0 := by omega
  clear h
  go_enter Try.func26, Try.ntmps26
  go_wp2_with (go_at_call 27; refine HG.out.mono ?_; rintro e w1 ⟨rfl, rfl⟩)
  exact bodyPost_ret (v := .tuple #[.pointer none, .int .i64 0]) (by simp [results, Try.results26, go_sem]) rfl ⟨rfl, rfl⟩
theorem find_yes {w : World} {b k n ca gO : Nat} (h : w.heap[b]? = some (.cells #[.slice (some ⟨gO, 0, none⟩) n ca, .map (some k)] 74 (0, 0))) (i : Nat) (hi : i < n) (hn : n ≤ 1024) : Calls Try.prog 26 #[.pointer (some ⟨b, 0, none⟩), .int .i64 ((i : Int) + 1)] w fun e w' => e = .returned (.tuple #[.pointer (some ⟨gO, i * 5, none⟩), .int .i64 0]) ∧ w' = w := by
  have HG := hid (given_any h)
  have c0 := cell_of h 0
  simp at c0
  have n0 : ¬ (i : Int) + 1 < 0 := by omega
  have n1 : ¬ (n : Int) < (i : Int) + 1 := by omega
  have n2 : ((i : Int) + 1 == 0) = false := by simpa using (show (i : Int) + 1 ≠ 0 by omega)
  have i0 : (0 : Int) ≤ (i : Int) := by omega
  have i1 : (i : Int) < (n : Int) := by omega
  have w1 : wrap64 ((i : Int) + 1 - 1) = (i : Int) := by unfold wrap64; omega
  clear h
  go_enter Try.func26, Try.ntmps26
  go_wp2_with (go_at_call 27; refine HG.out.mono ?_; rintro e w1 ⟨rfl, rfl⟩)
  exact bodyPost_ret (v := .tuple #[.pointer (some ⟨gO, i * 5, none⟩), .int .i64 0]) (by simp [results, Try.results26, go_sem]) rfl ⟨rfl, rfl⟩
end Go.Proofs.Ytalmiphddgmfbab.Lt
