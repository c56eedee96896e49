/-
  What carryOut of the select answers and leaves, by what Send and Recv do. No conditions besides.
-/
import Derived.Test.YtalmiphddgmfbabChSel
namespace Go.Proofs.Ytalmiphddgmfbab.Lt
open Go.RowKit Wd
attribute [local go_sem ↓] Go.wp_at_zero Go.wp_at_succ

/-- what carryOut tells and leaves -/
def CaR (t : Nat → Tg) (w : World) (b : Nat) (cs : List Cn) (wa : Bool) (va : Int) (ok : Bool) (tr : Int) (ks : List Wk) (e : Ending) (w' : World) : Prop := ∃ mo mn mc, e = .returned (.agg #[.bool wa, .int .i64 va, .bool ok, .int .i64 tr, .slice mo mn mc]) ∧ Ow eK 6 114 w.heap.size w' (.slice mo mn mc) ks ∧ ∃ t', Cs t' w' b cs ∧ Tn t t' w w' ∧ ∀ q, Blk (.slice mo mn mc) q → t' q = .no
set_option maxRecDepth 20000 in
set_option maxHeartbeats 4000000 in
theorem carry_send {t : Nat → Tg} {w : World} {b : Nat} {cs : List Cn} {s g ch v : Int} {wa : Bool} {va : Int} {ok : Bool} {tr : Int} {ks : List Wk} (hi : ∀ q, w.heap.size ≤ q → t q = .no) (hS : ∀ W, Gr w W → Calls Try.prog 50 #[.pointer (some ⟨b, 0, none⟩), .int .i64 ch, .agg #[.int .i64 s, .int .i64 g], .int .i64 v] W (MvR t W b cs wa va ok tr ks 0)) :
    Calls Try.prog 30 #[.pointer (some ⟨b, 0, none⟩), .agg #[.int .i64 s, .int .i64 g], .agg #[.bool true, .int .i64 ch, .int .i64 v]] w (CaR t w b cs wa va ok tr ks) := by
  obtain ⟨W0, hW0⟩ : ∃ W0, W0 = ((w.alloc (.cells #[.int .i64 s, .int .i64 g] 24)).alloc (.cells #[.bool true, .int .i64 ch, .int .i64 v] 39)).alloc (.cells mz 43) := ⟨_, rfl⟩
  have g0 : Gr w W0 := by rw [hW0]; exact Ch.alloc (Ch.alloc (Ch.alloc (Gr.refl w) _) _) _
  have HS := hid (hS W0 g0)
  have hbx : W0.heap[w.heap.size]? = some (.cells #[.int .i64 s, .int .i64 g] 24 (0, 0)) := by rw [hW0]; exact al_blk (al_blk (MapKept.heap_alloc w _).1 _) _
  have hmv : W0.heap[w.heap.size + 2]? = some (.cells mz 43 (0, 0)) := by rw [hW0]; exact al_at _ (by simp)
  have HMV := hid hmv
  have HNO := hid (hi (w.heap.size + 2) (by omega))
  have G0 := hid g0
  rw [hW0] at HS hbx
  clear hS hmv hi g0
  go_enter Try.func30, Try.ntmps30
  go_wp2_with (first
    | (refine wpList_load_row rfl 24 (.tmp 4) rfl w.heap.size rfl _ _ _ _ hbx Try.underlying24 rfl gid_size ?_)
    | (go_at_call 50; refine HS.out.mono ?_; rintro e w1 ⟨mo, mn, mc, rfl, o1, t1, c1, n1, z1⟩; rw [← hW0] at o1 n1; have O1 := hid o1; have C1 := hid c1; have N1 := hid n1; have Z1 := hid z1; have M1 := hid ((n1.c.block _ (lt_of_block HMV.out) (fun q => q HNO.out)).trans HMV.out); have T1 := hid (n1.o _ (lt_of_block HMV.out) HNO.out); clear o1 c1 n1 z1)
    | (refine wpList_load_row rfl 43 (.tmp 7) rfl w1.heap.size rfl _ _ _ _ (MapKept.heap_alloc w1 (.cells #[.bool wa, .int .i64 va, .bool ok, .int .i64 tr, .slice mo mn mc] 43)).1 Try.underlying43 rfl mov_size ?_)
    | (refine st_row rfl 43 (.tmp 6) (.tmp 23) rfl (w.heap.size + 2) _ rfl rfl _ _ (al_blk M1.out _) mov_size rfl (one_mov _ _ _ _ _ _ _) ?_; intro w9 b9 k9; have M9 := hid b9; have K9 := hid k9; clear b9 k9))
  have GA : Gr w1 (w1.alloc (.cells #[.bool wa, .int .i64 va, .bool ok, .int .i64 tr, .slice mo mn mc] 43)) := Ch.alloc (Gr.refl w1) _
  refine bodyPost_ret (results_cell_row rfl _ _ (w.heap.size + 2) _ _ _ _ rfl M9.out Try.underlying43 rfl mov_size) rfl ⟨mo, mn, mc, rfl, ?_, t1, ?_, ((Tn.ahead G0.out N1.out).then GA).own K9.out (by omega), Z1.out⟩
  · refine ((O1.out.gr GA).ch K9.out (fun q hq e => ?_)).lower G0.out.size
    have e1 : q = w.heap.size + 2 := e
    have := (O1.out.blk hq).1
    have := lt_of_block HMV.out
    omega
  · exact (C1.out.gr GA).ch K9.out (fun q e => by have e1 : q = w.heap.size + 2 := e; rw [e1]; exact T1.out)
set_option maxRecDepth 20000 in
set_option maxHeartbeats 4000000 in
theorem carry_recv {t : Nat → Tg} {w : World} {b : Nat} {cs : List Cn} {s g ch v : Int} {wa : Bool} {va : Int} {ok : Bool} {tr : Int} {ks : List Wk} (hi : ∀ q, w.heap.size ≤ q → t q = .no) (hS : ∀ W, Gr w W → Calls Try.prog 51 #[.pointer (some ⟨b, 0, none⟩), .int .i64 ch, .agg #[.int .i64 s, .int .i64 g]] W (MvR t W b cs wa va ok tr ks 0)) :
    Calls Try.prog 30 #[.pointer (some ⟨b, 0, none⟩), .agg #[.int .i64 s, .int .i64 g], .agg #[.bool false, .int .i64 ch, .int .i64 v]] w (CaR t w b cs wa va ok tr ks) := by
  obtain ⟨W0, hW0⟩ : ∃ W0, W0 = ((w.alloc (.cells #[.int .i64 s, .int .i64 g] 24)).alloc (.cells #[.bool false, .int .i64 ch, .int .i64 v] 39)).alloc (.cells mz 43) := ⟨_, rfl⟩
  have g0 : Gr w W0 := by rw [hW0]; exact Ch.alloc (Ch.alloc (Ch.alloc (Gr.refl w) _) _) _
  have HS := hid (hS W0 g0)
  have hbx : W0.heap[w.heap.size]? = some (.cells #[.int .i64 s, .int .i64 g] 24 (0, 0)) := by rw [hW0]; exact al_blk (al_blk (MapKept.heap_alloc w _).1 _) _
  have hmv : W0.heap[w.heap.size + 2]? = some (.cells mz 43 (0, 0)) := by rw [hW0]; exact al_at _ (by simp)
  have HMV := hid hmv
  have HNO := hid (hi (w.heap.size + 2) (by omega))
  have G0 := hid g0
  rw [hW0] at HS hbx
  clear hS hmv hi g0
  go_enter Try.func30, Try.ntmps30
  go_wp2_with (first
    | (refine wpList_load_row rfl 24 (.tmp 4) rfl w.heap.size rfl _ _ _ _ hbx Try.underlying24 rfl gid_size ?_)
    | (go_at_call 51; refine HS.out.mono ?_; rintro e w1 ⟨mo, mn, mc, rfl, o1, t1, c1, n1, z1⟩; rw [← hW0] at o1 n1; have O1 := hid o1; have C1 := hid c1; have N1 := hid n1; have Z1 := hid z1; have M1 := hid ((n1.c.block _ (lt_of_block HMV.out) (fun q => q HNO.out)).trans HMV.out); have T1 := hid (n1.o _ (lt_of_block HMV.out) HNO.out); clear o1 c1 n1 z1)
    | (refine wpList_load_row rfl 43 (.tmp 9) rfl w1.heap.size rfl _ _ _ _ (MapKept.heap_alloc w1 (.cells #[.bool wa, .int .i64 va, .bool ok, .int .i64 tr, .slice mo mn mc] 43)).1 Try.underlying43 rfl mov_size ?_)
    | (refine st_row rfl 43 (.tmp 6) (.tmp 32) rfl (w.heap.size + 2) _ rfl rfl _ _ (al_blk M1.out _) mov_size rfl (one_mov _ _ _ _ _ _ _) ?_; intro w9 b9 k9; have M9 := hid b9; have K9 := hid k9; clear b9 k9))
  have GA : Gr w1 (w1.alloc (.cells #[.bool wa, .int .i64 va, .bool ok, .int .i64 tr, .slice mo mn mc] 43)) := Ch.alloc (Gr.refl w1) _
  refine bodyPost_ret (results_cell_row rfl _ _ (w.heap.size + 2) _ _ _ _ rfl M9.out Try.underlying43 rfl mov_size) rfl ⟨mo, mn, mc, rfl, ?_, t1, ?_, ((Tn.ahead G0.out N1.out).then GA).own K9.out (by omega), Z1.out⟩
  · refine ((O1.out.gr GA).ch K9.out (fun q hq e => ?_)).lower G0.out.size
    have e1 : q = w.heap.size + 2 := e
    have := (O1.out.blk hq).1
    have := lt_of_block HMV.out
    omega
  · exact (C1.out.gr GA).ch K9.out (fun q e => by have e1 : q = w.heap.size + 2 := e; rw [e1]; exact T1.out)
end Go.Proofs.Ytalmiphddgmfbab.Lt
