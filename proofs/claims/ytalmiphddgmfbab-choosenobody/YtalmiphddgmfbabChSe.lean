/-
  What Select answers where no case goes on: refused, waiting already, a case without a channel, the default, nothing to wait for. Conditions: what its callees answer.
-/
import Derived.Test.YtalmiphddgmfbabChSl
namespace Go.Proofs.Ytalmiphddgmfbab.Lt
open Go.RowKit Wd
attribute [local go_sem ↓] Go.wp_at_zero Go.wp_at_succ

set_option maxRecDepth 40000 in
set_option maxHeartbeats 4000000 in
theorem sel_err {w : World} {s g : Int} {er : Int} (cv : Option Addr) (ao : Option Addr) (n cap : Nat) (df : Bool) (dv : Value) (her : er ≠ 0) (hO : ∀ W, Gr w W → Calls Try.prog 16 #[.int .i64 (n : Int), dv] W fun e w' => e = .returned (.tuple #[.slice none 0 0, .int .i64 er]) ∧ w' = W) :
    Calls Try.prog 11 #[.pointer cv, .agg #[.int .i64 s, .int .i64 g], .slice ao n cap, .bool df, dv] w fun e w' => e = .returned (.tuple #[.agg #[.int .i64 (-1), .bool false, .bool false, .int .i64 0, .bool false, .int .i64 0, .slice none 0 0], .int .i64 er]) ∧ Gr w w' := by
  have HO := hid hO
  obtain ⟨W0, hW0⟩ : ∃ W0, W0 = (w.alloc (.cells #[.int .i64 s, .int .i64 g] 24)).alloc (.cells cz 45) := ⟨_, rfl⟩
  have G0 := hid (show Gr w W0 from by rw [hW0]; exact Ch.alloc (Ch.alloc (Gr.refl w) _) _)
  have B0 := hid (show W0.heap[w.heap.size]? = some (.cells #[.int .i64 s, .int .i64 g] 24 (0, 0)) from by rw [hW0]; exact al_blk (MapKept.heap_alloc w _).1 _)
  have Z0 := hid (show W0.heap[w.heap.size + 1]? = some (.cells cz 45 (0, 0)) from by rw [hW0]; exact al_at _ (by simp))
  clear hO
  have e1 : (er == 0) = false := by simpa using her
  clear her
  go_enter Try.func11, Try.ntmps11
  go_wp2_with (first
    | (go_at_call 16; rw [← hW0]; refine (HO.out _ G0.out).mono ?_; rintro e w1 ⟨rfl, hw1⟩; subst hw1; clear hW0; have G1 := hid G0.out; have B1 := hid B0.out; have Z1 := hid Z0.out)
    | (refine st_row rfl 45 (.tmp 10) (.tmp 25) rfl (w.heap.size + 1) _ rfl rfl _ _ Z1.out cho_size rfl (one_cho _ _ _ _ _ _ _ _ _) ?_; intro w9 b9 k9; have M9 := hid b9; have K9 := hid k9; clear b9 k9))
  exact bodyPost_ret (results_cell_tmp2 rfl _ _ (w.heap.size + 1) _ rfl (run_loadVar_row _ _ _ _ _ _ _ M9.out Try.underlying45 rfl cho_size)) rfl ⟨rfl, Ch.trans G1.out K9.out (fun q e => .inr (by have e1 : q = w.heap.size + 1 := e; omega))⟩
set_option maxRecDepth 40000 in
set_option maxHeartbeats 4000000 in
theorem sel_busy {w : World} {s g : Int} (cv : Option Addr) (ao : Option Addr) (n cap : Nat) (df : Bool) (dv : Value) (l : List Int) (hO : ∀ W, Gr w W → Calls Try.prog 16 #[.int .i64 (n : Int), dv] W (OrR W n l)) (hW : ∀ W, Gr w W → Calls Try.prog 10 #[.pointer cv, .agg #[.int .i64 s, .int .i64 g]] W fun e w' => e = .returned (.bool true) ∧ Gr W w') :
    Calls Try.prog 11 #[.pointer cv, .agg #[.int .i64 s, .int .i64 g], .slice ao n cap, .bool df, dv] w fun e w' => e = .returned (.tuple #[.agg #[.int .i64 (-1), .bool false, .bool false, .int .i64 0, .bool false, .int .i64 0, .slice none 0 0], .int .i64 111]) ∧ Gr w w' := by
  have HO := hid hO
  have HW := hid hW
  obtain ⟨W0, hW0⟩ : ∃ W0, W0 = (w.alloc (.cells #[.int .i64 s, .int .i64 g] 24)).alloc (.cells cz 45) := ⟨_, rfl⟩
  have G0 := hid (show Gr w W0 from by rw [hW0]; exact Ch.alloc (Ch.alloc (Gr.refl w) _) _)
  have B0 := hid (show W0.heap[w.heap.size]? = some (.cells #[.int .i64 s, .int .i64 g] 24 (0, 0)) from by rw [hW0]; exact al_blk (MapKept.heap_alloc w _).1 _)
  have Z0 := hid (show W0.heap[w.heap.size + 1]? = some (.cells cz 45 (0, 0)) from by rw [hW0]; exact al_at _ (by simp))
  clear hO hW
  go_enter Try.func11, Try.ntmps11
  go_wp2_with (first
    | (go_at_call 16; rw [← hW0]; refine (HO.out _ G0.out).mono ?_; rintro e w1 ⟨oo, co, rfl, o1, g1⟩; have G1 := hid (Gr.trans G0.out g1); have O1 := hid (o1.lst.mono (Q := fun q => w.heap.size ≤ q) (fun q _ hq => Nat.le_trans G0.out.size hq)); have B1 := hid (gr_blk B0.out g1); have Z1 := hid (gr_blk Z0.out g1); clear o1 g1)
    | (refine wpList_load_row rfl 24 (.tmp 6) rfl w.heap.size rfl _ _ _ _ B1.out Try.underlying24 rfl gid_size ?_)
    | (go_at_call 10; refine (HW.out _ G1.out).mono ?_; rintro e w2 ⟨rfl, g2⟩; have G2 := hid (Gr.trans G1.out g2); have O2 := hid (O1.out.gr g2); have B2 := hid (gr_blk B1.out g2); have Z2 := hid (gr_blk Z1.out g2); clear g2)
    | (refine st_row rfl 45 (.tmp 10) (.tmp 31) rfl (w.heap.size + 1) _ rfl rfl _ _ Z2.out cho_size rfl (one_cho _ _ _ _ _ _ _ _ _) ?_; intro w9 b9 k9; have M9 := hid b9; have K9 := hid k9; clear b9 k9))
  exact bodyPost_ret (results_cell_tmp2 rfl _ _ (w.heap.size + 1) _ rfl (run_loadVar_row _ _ _ _ _ _ _ M9.out Try.underlying45 rfl cho_size)) rfl ⟨rfl, Ch.trans G2.out K9.out (fun q e => .inr (by have e1 : q = w.heap.size + 1 := e; omega))⟩
set_option maxRecDepth 40000 in
set_option maxHeartbeats 4000000 in
theorem sel_trap {w : World} {s g : Int} (cv : Option Addr) (ao : Option Addr) (n cap : Nat) (df : Bool) (dv : Value) (l : List Int) (hO : ∀ W, Gr w W → Calls Try.prog 16 #[.int .i64 (n : Int), dv] W (OrR W n l)) (hW : ∀ W, Gr w W → Calls Try.prog 10 #[.pointer cv, .agg #[.int .i64 s, .int .i64 g]] W fun e w' => e = .returned (.bool false) ∧ Gr W w') (hC : ∀ W, Gr w W → Calls Try.prog 28 #[.pointer cv, .slice ao n cap] W fun e w' => e = .returned (.bool false) ∧ Gr W w') :
    Calls Try.prog 11 #[.pointer cv, .agg #[.int .i64 s, .int .i64 g], .slice ao n cap, .bool df, dv] w fun e w' => e = .returned (.tuple #[.agg #[.int .i64 (-1), .bool false, .bool false, .int .i64 0, .bool false, .int .i64 4, .slice none 0 0], .int .i64 0]) ∧ Gr w w' := by
  have HO := hid hO
  have HW := hid hW
  have HC := hid hC
  obtain ⟨W0, hW0⟩ : ∃ W0, W0 = (w.alloc (.cells #[.int .i64 s, .int .i64 g] 24)).alloc (.cells cz 45) := ⟨_, rfl⟩
  have G0 := hid (show Gr w W0 from by rw [hW0]; exact Ch.alloc (Ch.alloc (Gr.refl w) _) _)
  have B0 := hid (show W0.heap[w.heap.size]? = some (.cells #[.int .i64 s, .int .i64 g] 24 (0, 0)) from by rw [hW0]; exact al_blk (MapKept.heap_alloc w _).1 _)
  have Z0 := hid (show W0.heap[w.heap.size + 1]? = some (.cells cz 45 (0, 0)) from by rw [hW0]; exact al_at _ (by simp))
  clear hO hW hC
  go_enter Try.func11, Try.ntmps11
  go_wp2_with (first
    | (go_at_call 16; rw [← hW0]; refine (HO.out _ G0.out).mono ?_; rintro e w1 ⟨oo, co, rfl, o1, g1⟩; have G1 := hid (Gr.trans G0.out g1); have O1 := hid (o1.lst.mono (Q := fun q => w.heap.size ≤ q) (fun q _ hq => Nat.le_trans G0.out.size hq)); have B1 := hid (gr_blk B0.out g1); have Z1 := hid (gr_blk Z0.out g1); clear o1 g1)
    | (refine wpList_load_row rfl 24 (.tmp 6) rfl w.heap.size rfl _ _ _ _ B1.out Try.underlying24 rfl gid_size ?_)
    | (go_at_call 10; refine (HW.out _ G1.out).mono ?_; rintro e w2 ⟨rfl, g2⟩; have G2 := hid (Gr.trans G1.out g2); have O2 := hid (O1.out.gr g2); have B2 := hid (gr_blk B1.out g2); have Z2 := hid (gr_blk Z1.out g2); clear g2)
    | (go_at_call 28; refine (HC.out _ G2.out).mono ?_; rintro e w3 ⟨rfl, g3⟩; have G3 := hid (Gr.trans G2.out g3); have O3 := hid (O2.out.gr g3); have B3 := hid (gr_blk B2.out g3); have Z3 := hid (gr_blk Z2.out g3); clear g3)
    | (refine st_row rfl 45 (.tmp 10) (.tmp 38) rfl (w.heap.size + 1) _ rfl rfl _ _ Z3.out cho_size rfl (one_cho _ _ _ _ _ _ _ _ _) ?_; intro w9 b9 k9; have M9 := hid b9; have K9 := hid k9; clear b9 k9))
  exact bodyPost_ret (results_cell_tmp2 rfl _ _ (w.heap.size + 1) _ rfl (run_loadVar_row _ _ _ _ _ _ _ M9.out Try.underlying45 rfl cho_size)) rfl ⟨rfl, Ch.trans G3.out K9.out (fun q e => .inr (by have e1 : q = w.heap.size + 1 := e; omega))⟩
set_option maxRecDepth 40000 in
set_option maxHeartbeats 4000000 in
theorem sel_def {w : World} {s g : Int} (cv : Option Addr) (ao : Option Addr) (n cap : Nat) (dv : Value) (l : List Int) (hO : ∀ W, Gr w W → Calls Try.prog 16 #[.int .i64 (n : Int), dv] W (OrR W n l)) (hW : ∀ W, Gr w W → Calls Try.prog 10 #[.pointer cv, .agg #[.int .i64 s, .int .i64 g]] W fun e w' => e = .returned (.bool false) ∧ Gr W w') (hC : ∀ W, Gr w W → Calls Try.prog 28 #[.pointer cv, .slice ao n cap] W fun e w' => e = .returned (.bool true) ∧ Gr W w') (hF : ∀ W, Gr w W → ∀ oo co, Ls eI (w.heap.size ≤ ·) W (.slice oo n co) l → Calls Try.prog 29 #[.pointer cv, .slice ao n cap, .slice oo n co] W fun e w' => e = .returned (.int .i64 (-1)) ∧ Gr W w') :
    Calls Try.prog 11 #[.pointer cv, .agg #[.int .i64 s, .int .i64 g], .slice ao n cap, .bool true, dv] w fun e w' => e = .returned (.tuple #[.agg #[.int .i64 (-1), .bool true, .bool false, .int .i64 0, .bool false, .int .i64 0, .slice none 0 0], .int .i64 0]) ∧ Gr w w' := by
  have HO := hid hO
  have HW := hid hW
  have HC := hid hC
  have HF := hid hF
  obtain ⟨W0, hW0⟩ : ∃ W0, W0 = (w.alloc (.cells #[.int .i64 s, .int .i64 g] 24)).alloc (.cells cz 45) := ⟨_, rfl⟩
  have G0 := hid (show Gr w W0 from by rw [hW0]; exact Ch.alloc (Ch.alloc (Gr.refl w) _) _)
  have B0 := hid (show W0.heap[w.heap.size]? = some (.cells #[.int .i64 s, .int .i64 g] 24 (0, 0)) from by rw [hW0]; exact al_blk (MapKept.heap_alloc w _).1 _)
  have Z0 := hid (show W0.heap[w.heap.size + 1]? = some (.cells cz 45 (0, 0)) from by rw [hW0]; exact al_at _ (by simp))
  clear hO hW hC hF
  go_enter Try.func11, Try.ntmps11
  go_wp2_with (first
    | (go_at_call 16; rw [← hW0]; refine (HO.out _ G0.out).mono ?_; rintro e w1 ⟨oo, co, rfl, o1, g1⟩; have G1 := hid (Gr.trans G0.out g1); have O1 := hid (o1.lst.mono (Q := fun q => w.heap.size ≤ q) (fun q _ hq => Nat.le_trans G0.out.size hq)); have B1 := hid (gr_blk B0.out g1); have Z1 := hid (gr_blk Z0.out g1); clear o1 g1)
    | (refine wpList_load_row rfl 24 (.tmp 6) rfl w.heap.size rfl _ _ _ _ B1.out Try.underlying24 rfl gid_size ?_)
    | (go_at_call 10; refine (HW.out _ G1.out).mono ?_; rintro e w2 ⟨rfl, g2⟩; have G2 := hid (Gr.trans G1.out g2); have O2 := hid (O1.out.gr g2); have B2 := hid (gr_blk B1.out g2); have Z2 := hid (gr_blk Z1.out g2); clear g2)
    | (go_at_call 28; refine (HC.out _ G2.out).mono ?_; rintro e w3 ⟨rfl, g3⟩; have G3 := hid (Gr.trans G2.out g3); have O3 := hid (O2.out.gr g3); have B3 := hid (gr_blk B2.out g3); have Z3 := hid (gr_blk Z2.out g3); clear g3)
    | (go_at_call 29; refine (HF.out _ G3.out _ _ O3.out).mono ?_; rintro e w4 ⟨rfl, g4⟩; have G4 := hid (Gr.trans G3.out g4); have O4 := hid (O3.out.gr g4); have B4 := hid (gr_blk B3.out g4); have Z4 := hid (gr_blk Z3.out g4); clear g4)
    | (refine st_row rfl 45 (.tmp 10) (.tmp 55) rfl (w.heap.size + 1) _ rfl rfl _ _ Z4.out cho_size rfl (one_cho _ _ _ _ _ _ _ _ _) ?_; intro w9 b9 k9; have M9 := hid b9; have K9 := hid k9; clear b9 k9))
  exact bodyPost_ret (results_cell_tmp2 rfl _ _ (w.heap.size + 1) _ rfl (run_loadVar_row _ _ _ _ _ _ _ M9.out Try.underlying45 rfl cho_size)) rfl ⟨rfl, Ch.trans G4.out K9.out (fun q e => .inr (by have e1 : q = w.heap.size + 1 := e; omega))⟩
set_option maxRecDepth 40000 in
set_option maxHeartbeats 4000000 in
theorem sel_none {w : World} {s g : Int} (cv : Option Addr) (ao : Option Addr) (n cap : Nat) (dv : Value) (l : List Int) (hO : ∀ W, Gr w W → Calls Try.prog 16 #[.int .i64 (n : Int), dv] W (OrR W n l)) (hW : ∀ W, Gr w W → Calls Try.prog 10 #[.pointer cv, .agg #[.int .i64 s, .int .i64 g]] W fun e w' => e = .returned (.bool false) ∧ Gr W w') (hC : ∀ W, Gr w W → Calls Try.prog 28 #[.pointer cv, .slice ao n cap] W fun e w' => e = .returned (.bool true) ∧ Gr W w') (hF : ∀ W, Gr w W → ∀ oo co, Ls eI (w.heap.size ≤ ·) W (.slice oo n co) l → Calls Try.prog 29 #[.pointer cv, .slice ao n cap, .slice oo n co] W fun e w' => e = .returned (.int .i64 (-1)) ∧ Gr W w') (hA : ∀ W, Gr w W → Calls Try.prog 31 #[.pointer cv, .agg #[.int .i64 s, .int .i64 g], .slice ao n cap] W fun e w' => e = .returned (.tuple #[]) ∧ Gr W w') :
    Calls Try.prog 11 #[.pointer cv, .agg #[.int .i64 s, .int .i64 g], .slice ao n cap, .bool false, dv] w fun e w' => e = .returned (.tuple #[.agg #[.int .i64 (-1), .bool false, .bool true, .int .i64 0, .bool false, .int .i64 0, .slice none 0 0], .int .i64 0]) ∧ Gr w w' := by
  have HO := hid hO
  have HW := hid hW
  have HC := hid hC
  have HF := hid hF
  have HA := hid hA
  obtain ⟨W0, hW0⟩ : ∃ W0, W0 = (w.alloc (.cells #[.int .i64 s, .int .i64 g] 24)).alloc (.cells cz 45) := ⟨_, rfl⟩
  have G0 := hid (show Gr w W0 from by rw [hW0]; exact Ch.alloc (Ch.alloc (Gr.refl w) _) _)
  have B0 := hid (show W0.heap[w.heap.size]? = some (.cells #[.int .i64 s, .int .i64 g] 24 (0, 0)) from by rw [hW0]; exact al_blk (MapKept.heap_alloc w _).1 _)
  have Z0 := hid (show W0.heap[w.heap.size + 1]? = some (.cells cz 45 (0, 0)) from by rw [hW0]; exact al_at _ (by simp))
  clear hO hW hC hF hA
  go_enter Try.func11, Try.ntmps11
  go_wp2_with (first
    | (go_at_call 16; rw [← hW0]; refine (HO.out _ G0.out).mono ?_; rintro e w1 ⟨oo, co, rfl, o1, g1⟩; have G1 := hid (Gr.trans G0.out g1); have O1 := hid (o1.lst.mono (Q := fun q => w.heap.size ≤ q) (fun q _ hq => Nat.le_trans G0.out.size hq)); have B1 := hid (gr_blk B0.out g1); have Z1 := hid (gr_blk Z0.out g1); clear o1 g1)
    | (refine wpList_load_row rfl 24 (.tmp 6) rfl w.heap.size rfl _ _ _ _ B4.out Try.underlying24 rfl gid_size ?_)
    | (refine wpList_load_row rfl 24 (.tmp 6) rfl w.heap.size rfl _ _ _ _ B1.out Try.underlying24 rfl gid_size ?_)
    | (go_at_call 10; refine (HW.out _ G1.out).mono ?_; rintro e w2 ⟨rfl, g2⟩; have G2 := hid (Gr.trans G1.out g2); have O2 := hid (O1.out.gr g2); have B2 := hid (gr_blk B1.out g2); have Z2 := hid (gr_blk Z1.out g2); clear g2)
    | (go_at_call 28; refine (HC.out _ G2.out).mono ?_; rintro e w3 ⟨rfl, g3⟩; have G3 := hid (Gr.trans G2.out g3); have O3 := hid (O2.out.gr g3); have B3 := hid (gr_blk B2.out g3); have Z3 := hid (gr_blk Z2.out g3); clear g3)
    | (go_at_call 29; refine (HF.out _ G3.out _ _ O3.out).mono ?_; rintro e w4 ⟨rfl, g4⟩; have G4 := hid (Gr.trans G3.out g4); have O4 := hid (O3.out.gr g4); have B4 := hid (gr_blk B3.out g4); have Z4 := hid (gr_blk Z3.out g4); clear g4)
    | (go_at_call 31; refine (HA.out _ G4.out).mono ?_; rintro e w5 ⟨rfl, g5⟩; have G5 := hid (Gr.trans G4.out g5); have O5 := hid (O4.out.gr g5); have B5 := hid (gr_blk B4.out g5); have Z5 := hid (gr_blk Z4.out g5); clear g5)
    | (refine st_row rfl 45 (.tmp 10) (.tmp 61) rfl (w.heap.size + 1) _ rfl rfl _ _ Z5.out cho_size rfl (one_cho _ _ _ _ _ _ _ _ _) ?_; intro w9 b9 k9; have M9 := hid b9; have K9 := hid k9; clear b9 k9))
  exact bodyPost_ret (results_cell_tmp2 rfl _ _ (w.heap.size + 1) _ rfl (run_loadVar_row _ _ _ _ _ _ _ M9.out Try.underlying45 rfl cho_size)) rfl ⟨rfl, Ch.trans G5.out K9.out (fun q e => .inr (by have e1 : q = w.heap.size + 1 := e; omega))⟩
theorem wait_none (cv : Option Addr) (ao : Option Addr) (cap : Nat) (s g : Int) (w : World) : Calls Try.prog 31 #[.pointer cv, .agg #[.int .i64 s, .int .i64 g], .slice ao 0 cap] w fun e w' => e = .returned (.tuple #[]) ∧ Gr w w' := by
  go_enter Try.func31, Try.ntmps31
  go_wp2_with fail
  go_loopg [10] 0 (fun q i wr => i = .int .i64 0 ∧ Gr w wr)
  case atStart => exact ⟨rfl, Ch.alloc (Gr.refl w) _⟩
  case round =>
    obtain ⟨rfl, hG⟩ := hrel
    have HG := hid hG
    clear hG
    go_wp2
    go_end0
    exact ⟨rfl, HG.out⟩
end Go.Proofs.Ytalmiphddgmfbab.Lt
