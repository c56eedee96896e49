/-
  What the small functions of the program's timers answer: given, full, line, dueIn, again. No conditions but that numbers are numbers of their kinds.
-/
import Derived.Test.YtgkapopkjgljjaaTmSt
import Derived.Test.YtgkapopkjgljjaaTmRow
import Derived.Handy
namespace Go.Proofs.Ytgkapopkjgljjaa.Lt
open Go.RowKit Wd
attribute [local go_sem ↓] Go.wp_at_zero Go.wp_at_succ
set_option maxRecDepth 20000

theorem neq_mapB (k : Nat) : ∀ w : World, (binOp .neq 66 (.map (some k)) (.map none)).run Try.prog w = .ok (.bool true) w := fun w => by kernel_rfl
theorem given_w {T1 T2 : Nat → Prop} {w : World} {b : Nat} {last : Int} {d : Dt} (h : Tw T1 T2 w b last d) : Calls Try.prog 42 #[.pointer (some ⟨b, 0, none⟩)] w fun e w' => e = .returned (.bool true) ∧ w = w' := by
  have c3 := cell_of h.hb 3
  simp at c3
  have bl := lt_of_block h.hb
  have hm := neq_mapB d.mr
  clear h
  go_enter Try.func42, Try.ntmps42
  go_wp2
  go_ret
  exact ⟨rfl, rfl⟩
theorem given_any {T : Nat → Prop} {w : World} {b : Nat} {last : Int} {L : List Tk} {B : Int} (h : Tm T w b last L B) : Calls Try.prog 42 #[.pointer (some ⟨b, 0, none⟩)] w fun e w' => e = .returned (.bool true) ∧ w = w' := by
  obtain ⟨T1, T2, d, h1, _⟩ := h
  exact given_w h1
theorem len_M {w : World} {k : Nat} {M : List Me} {clock : Nat} (h : MAt w k M clock) (ty : TypeId) : (Builtin.len_ #[66] ty #[.map (some k)]).run Try.prog w = .ok (.int .i64 (M.length : Int)) w := by
  simp [Builtin.len_, run_underlying Try.underlying66, MapKept.run_getObj_map h, Result.andThen, goInt]
/-- whether nothing more can run -/
def fullL (last : Int) (L : List Tk) : Bool := decide (1024 ≤ (L.length : Int)) || (last == 9223372036854775807)
theorem full_any {T : Nat → Prop} {w : World} {b : Nat} {last : Int} {L : List Tk} {B : Int} (h : Tm T w b last L B) : Calls Try.prog 60 #[.pointer (some ⟨b, 0, none⟩)] w fun e w' => e = .returned (.bool (fullL last L)) ∧ w = w' := by
  obtain ⟨T1, T2, d, h1, h2, _⟩ := h
  have c3 := cell_of h1.hb 3
  have c0 := cell_of h1.hb 0
  simp at c3 c0
  have bl := lt_of_block h1.hb
  have hl := len_M h1.m 3
  obtain ⟨n, hn⟩ : ∃ n, n = L.length := ⟨_, rfl⟩
  rw [h2.len, ← hn] at hl
  unfold fullL
  rw [← hn]
  clear h1 h2 hn
  by_cases k1 : (1024 : Int) ≤ (n : Int)
  · have k2 : decide ((1024 : Int) ≤ (n : Int)) = true := decide_eq_true k1
    rw [k2]
    clear k1
    go_enter Try.func60, Try.ntmps60
    go_wp2
    go_ret
    exact ⟨rfl, rfl⟩
  · have k2 : decide ((1024 : Int) ≤ (n : Int)) = false := decide_eq_false k1
    rw [k2]
    clear k1
    go_enter Try.func60, Try.ntmps60
    go_wp2
    go_ret
    exact ⟨rfl, rfl⟩
theorem line_w {T1 T2 : Nat → Prop} {w : World} {b : Nat} {last : Int} {d : Dt} (h : Tw T1 T2 w b last d) (x : Tk) : Calls Try.prog 52 #[.pointer (some ⟨b, 0, none⟩), .agg #[.int .i64 x.id, .int .i64 x.kind, .int .i64 x.s, .int .i64 x.g, .int .i64 x.ch, .int .u64 x.wh, .bool x.nv, .int .u64 x.pd]] w fun e w' => e = .returned (.pointer (some ⟨if x.nv then d.bv else d.bd, 0, none⟩)) ∧ Gr w w' := by
  have c1 := cell_of h.hb 1
  have c2 := cell_of h.hb 2
  simp at c1 c2
  have bl := lt_of_block h.hb
  clear h
  obtain ⟨v, hv⟩ : ∃ v, v = x.nv := ⟨_, rfl⟩
  rw [← hv]
  clear hv
  cases v
  · go_enter Try.func52, Try.ntmps52
    go_wp2
    go_ret
    exact ⟨rfl, Ch.alloc (Gr.refl w) _⟩
  · go_enter Try.func52, Try.ntmps52
    go_wp2
    go_ret
    exact ⟨rfl, Ch.alloc (Gr.refl w) _⟩
theorem add_any (a k : Int) (a0 : 0 ≤ a) (a1 : a < 18446744073709551616) (k0 : 0 ≤ k) (k1 : k < 18446744073709551616) (w : World) : Calls Try.prog 66 #[.int .u64 a, .int .u64 k] w fun e w' => e = .returned (.tuple #[.int .u64 (if a + k < 18446744073709551616 then a + k else 0), .int .i64 (if a + k < 18446744073709551616 then 0 else 10)]) ∧ w = w' := by
  have hs : IntKind.u64.wrap (18446744073709551615 - a) = 18446744073709551615 - a := by rw [IntKind.wrap_u64]; omega
  by_cases h : a + k < 18446744073709551616
  · rw [if_pos h, if_pos h]
    have hg : ¬ (18446744073709551615 - a < k) := by omega
    have hw : IntKind.u64.wrap (a + k) = a + k := by rw [IntKind.wrap_u64]; omega
    clear h
    go_enter Try.func66, Try.ntmps66
    go_wp2
    exact bodyPost_ret (v := .tuple #[.int .u64 (a + k), .int .i64 0]) (by simp [results, Try.results66, go_sem]) rfl ⟨rfl, rfl⟩
  · rw [if_neg h, if_neg h]
    have hg : 18446744073709551615 - a < k := by omega
    clear h
    go_enter Try.func66, Try.ntmps66
    go_wp2
    exact bodyPost_ret (v := .tuple #[.int .u64 0, .int .i64 10]) (by simp [results, Try.results66, go_sem]) rfl ⟨rfl, rfl⟩
/-- a timer as a value -/
def tV (t : Tk) : Value := .agg #[.int .i64 t.id, .int .i64 t.kind, .int .i64 t.s, .int .i64 t.g, .int .i64 t.ch, .int .u64 t.wh, .bool t.nv, .int .u64 t.pd]
theorem neq_err0 : ∀ w : World, (binOp .neq 38 (.int .i64 0) (.int .i64 0)).run Try.prog w = .ok (.bool false) w := fun w => by kernel_rfl
theorem neq_err1 : ∀ w : World, (binOp .neq 38 (.int .i64 10) (.int .i64 0)).run Try.prog w = .ok (.bool true) w := fun w => by kernel_rfl
theorem dueIn_any (x : Tk) (a k : Int) (a0 : 0 ≤ a) (a1 : a < 18446744073709551616) (k0 : 0 ≤ k) (k1 : k < 18446744073709551616) (w : World) : Calls Try.prog 56 #[.agg #[.int .i64 x.id, .int .i64 x.kind, .int .i64 x.s, .int .i64 x.g, .int .i64 x.ch, .int .u64 x.wh, .bool x.nv, .int .u64 x.pd], .int .u64 a, .int .u64 k] w fun e w' => e = .returned (tV (laterT x a k)) ∧ Gr w w' := by
  have HA := hid (fun W => add_any a k a0 a1 k0 k1 W)
  by_cases h : a + k < 18446744073709551616
  · have e1 : laterT x a k = { x with wh := a + k, nv := false } := by unfold laterT; rw [if_pos h]
    rw [e1]
    rw [if_pos h, if_pos h] at HA
    clear h e1 a0 a1 k0 k1
    go_enter Try.func56, Try.ntmps56
    go_wp2_with (go_at_call 66; refine (HA.out _).mono ?_; rintro e w1 ⟨rfl, hw⟩; subst hw)
    exact bodyPost_ret (results_cell_row rfl _ _ (w.heap.size + 1) _ _ _ _ rfl (al_at _ (by simp)) Try.underlying46 rfl tmr_size) rfl ⟨rfl, Ch.alloc (Ch.alloc (Gr.refl w) _) _⟩
  · have e1 : laterT x a k = { x with wh := 0, nv := true } := by unfold laterT; rw [if_neg h]
    rw [e1]
    rw [if_neg h, if_neg h] at HA
    clear h e1 a0 a1 k0 k1
    go_enter Try.func56, Try.ntmps56
    go_wp2_with (go_at_call 66; refine (HA.out _).mono ?_; rintro e w1 ⟨rfl, hw⟩; subst hw)
    exact bodyPost_ret (results_cell_row rfl _ _ (w.heap.size + 1) _ _ _ _ rfl (al_at _ (by simp)) Try.underlying46 rfl tmr_size) rfl ⟨rfl, Ch.alloc (Ch.alloc (Gr.refl w) _) _⟩
theorem again_any (x : Tk) (now : Int) (n1 : now < 18446744073709551616) (ok : Tok x) (hw : x.wh ≤ now) (hp : 0 < x.pd) (w : World) : Calls Try.prog 41 #[.agg #[.int .i64 x.id, .int .i64 x.kind, .int .i64 x.s, .int .i64 x.g, .int .i64 x.ch, .int .u64 x.wh, .bool x.nv, .int .u64 x.pd], .int .u64 now] w fun e w' => e = .returned (tV (rearm now x)) ∧ Gr w w' := by
  have w0 := ok.w0
  have p1 := ok.p1
  have m0 := Int.emod_nonneg (now - x.wh) (by omega : x.pd ≠ 0)
  have m1 := Int.emod_lt_of_pos (now - x.wh) hp
  have m2 : (now - x.wh) % x.pd ≤ now - x.wh := by
    rw [Int.emod_def]
    have := Int.mul_nonneg (Int.le_of_lt hp) (Int.ediv_nonneg (show 0 ≤ now - x.wh by omega) (Int.le_of_lt hp))
    omega
  have hs : IntKind.u64.wrap (now - x.wh) = now - x.wh := by rw [IntKind.wrap_u64]; omega
  have hm : (now - x.wh).tmod x.pd = (now - x.wh) % x.pd := Int.tmod_eq_emod_of_nonneg (by omega)
  have hr : IntKind.u64.wrap ((now - x.wh) % x.pd) = (now - x.wh) % x.pd := by rw [IntKind.wrap_u64]; omega
  have hn : IntKind.u64.wrap (now - (now - x.wh) % x.pd) = now - (now - x.wh) % x.pd := by rw [IntKind.wrap_u64]; omega
  have hz : x.pd ≠ 0 := by omega
  have HD := hid (fun W => dueIn_any x (now - (now - x.wh) % x.pd) x.pd (by omega) (by omega) (by omega) p1 W)
  unfold rearm
  obtain ⟨q, hq⟩ : ∃ q, q = (now - x.wh) % x.pd := ⟨_, rfl⟩
  rw [← hq] at hm hr hn HD ⊢
  clear hq m0 m1 m2 w0 p1 ok hw hp
  go_enter Try.func41, Try.ntmps41
  go_wp2_with (first
    | (go_at_call 56; refine (HD.out _).mono ?_; rintro e w1 ⟨rfl, g1⟩; unfold tV; have M1 := hid ((gr_blk (al_at (w := w.alloc (.cells #[.int .i64 x.id, .int .i64 x.kind, .int .i64 x.s, .int .i64 x.g, .int .i64 x.ch, .int .u64 x.wh, .bool x.nv, .int .u64 x.pd] 46)) (x := w.heap.size + 1) (.cells #[.int .i64 0, .int .i64 0, .int .i64 0, .int .i64 0, .int .i64 0, .int .u64 0, .bool false, .int .u64 0] 46) (by simp)) g1)); have G1 := hid (show Gr w w1 from Gr.trans (Ch.alloc (Ch.alloc (Gr.refl w) _) _) g1); clear g1)
    | (refine st_row rfl 46 (.tmp 4) (.tmp 19) rfl (w.heap.size + 1) _ rfl rfl _ _ M1.out tmr_size rfl (one_tmr _ _ _ _ _ _ _ _) ?_; intro w9 b9 k9; have M9 := hid b9; have K9 := hid k9; clear b9 k9))
  exact bodyPost_ret (results_cell_row rfl _ _ (w.heap.size + 1) _ _ _ _ rfl M9.out Try.underlying46 rfl tmr_size) rfl ⟨rfl, Ch.trans G1.out K9.out (fun q e => .inr (by have e1 : q = w.heap.size + 1 := e; omega))⟩
end Go.Proofs.Ytgkapopkjgljjaa.Lt
