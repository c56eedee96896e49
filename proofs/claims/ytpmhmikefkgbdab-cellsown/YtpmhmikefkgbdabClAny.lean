/-
  What the statements' 'calls', 'fit' and 'awake' of layer 10 answer. Condition: the cells lie where New left them.
-/
import Derived.Test.YtpmhmikefkgbdabClC1
import Derived.Test.YtpmhmikefkgbdabClC2
import Derived.Test.YtpmhmikefkgbdabClC3
import Derived.Test.YtpmhmikefkgbdabClC4
namespace Go.Proofs.Ytpmhmikefkgbdab.Lt
open Go.RowKit Wd
attribute [local go_sem ↓] Go.wp_at_zero Go.wp_at_succ

theorem calls_any (P : Nat → Prop) (base : Nat) (w : World) (b : Nat) (v : Value) (vs : List Int) (o : O4) (ao : Option Addr) (cap : Nat) (h : CAt base w b v vs) (hm : Ls eI P w (.slice ao vs.length cap) vs) (hP : ∀ q, P q → q < w.heap.size ∧ ¬ Blk v q) (hl : vs.length ≤ 17592186044416) :
    Calls Try.prog 16 #[.pointer (some ⟨b, 0, none⟩), .slice ao vs.length cap, .agg #[.int .i64 o.k, .int .i64 o.c, .int .i64 o.o, .int .i64 o.v]] w (CsR P base w b v vs o) := by
  cases hk : okK o with
  | false => exact calls_other P base w b v vs o ao cap h hm hk
  | true =>
    have hk' := of_decide_eq_true hk
    rcases (by omega : o.k = 1 ∨ o.k = 2 ∨ o.k = 3 ∨ o.k = 4) with q | q | q | q
    · exact calls_load P base w b v vs o ao cap h hm hP hl q
    · exact calls_store P base w b v vs o ao cap h hm hP hl q
    · exact calls_swap P base w b v vs o ao cap h hm hP hl q
    · exact calls_add P base w b v vs o ao cap h hm hP hl q
/-- a list beside the cells -/
def Bes (w : World) (v : Value) : Nat → Prop := fun q => q < w.heap.size ∧ ¬ Blk v q
/-- 'calls', with a list beside the cells -/
theorem calls_bes (base : Nat) (w : World) (b : Nat) (v : Value) (vs : List Int) (o : O4) (ao : Option Addr) (cap : Nat) (h : CAt base w b v vs) (hm : Ls eI (Bes w v) w (.slice ao vs.length cap) vs) (hl : vs.length ≤ 17592186044416) :
    Calls Try.prog 16 #[.pointer (some ⟨b, 0, none⟩), .slice ao vs.length cap, .agg #[.int .i64 o.k, .int .i64 o.c, .int .i64 o.o, .int .i64 o.v]] w fun e w' => ∃ ao cap, e = .returned (.tuple #[.slice ao vs.length cap, (cTold o vs).val, .bool (cOk o vs), .bool true]) ∧ Ls eI (Bes w' v) w' (.slice ao vs.length cap) (cLeft o vs) ∧ CAt base w' b v (cLeft o vs) ∧ Ch (Blk v) w w' := by
  refine (calls_any _ base w b v vs o ao cap h hm (fun q hq => hq) hl).mono ?_
  rintro e w1 ⟨ao2, cap2, rfl, l1, c1, g1⟩
  refine ⟨ao2, cap2, rfl, l1.mono (fun q q1 hq => ⟨q1, fun e => ?_⟩), c1, g1⟩
  rcases hq with hq | hq
  · exact hq.2 e
  · have := (h.vo.blk e).2
    omega
theorem Ls.bes {α : Type} {enc : α → List Value} {base : Nat} {w w' : World} {b : Nat} {v m : Value} {vs : List Int} {xs : List α} (h : CAt base w b v vs) (hm : Ls enc (w.heap.size ≤ ·) w' m xs) : Ls enc (Bes w' v) w' m xs :=
  hm.mono (fun q q1 hq => ⟨q1, fun e => by have := (h.vo.blk e).2; omega⟩)
theorem Bes.gr {α : Type} {enc : α → List Value} {w w' : World} {v m : Value} {xs : List α} (h : Ls enc (Bes w v) w m xs) (k : Gr w w') : Ls enc (Bes w' v) w' m xs :=
  (h.gr k).mono (fun _ q1 hq => ⟨q1, hq.2⟩)
/-- a number of cells that may be -/
def fitN (n : Int) : Nat := if 0 ≤ n ∧ n ≤ 256 then n.toNat else 3
theorem fitN_le (n : Int) : fitN n ≤ 256 := by
  unfold fitN
  split
  · omega
  · omega
theorem fit_any (n : Int) (w : World) : Calls Try.prog 14 #[.int .i64 n] w fun e w' => e = .returned (.int .i64 (fitN n : Nat)) ∧ w' = w := by
  by_cases h1 : n < 0
  · have d1 : decide (n < 0) = true := decide_eq_true h1
    have e : fitN n = 3 := by unfold fitN; rw [if_neg (by omega)]
    rw [e]
    clear e
    go_enter Try.func14, Try.ntmps14
    go_wp2
    go_ret
    exact ⟨rfl, rfl⟩
  · have d1 : decide (n < 0) = false := decide_eq_false h1
    by_cases h2 : 256 < n
    · have d2 : decide (256 < n) = true := decide_eq_true h2
      have e : fitN n = 3 := by unfold fitN; rw [if_neg (by omega)]
      rw [e]
      clear e
      go_enter Try.func14, Try.ntmps14
      go_wp2
      go_ret
      exact ⟨rfl, rfl⟩
    · have d2 : decide (256 < n) = false := decide_eq_false h2
      have e : ((fitN n : Nat) : Int) = n := by unfold fitN; rw [if_pos (by omega)]; omega
      rw [e]
      clear e
      go_enter Try.func14, Try.ntmps14
      go_wp2
      go_ret
      exact ⟨rfl, rfl⟩
set_option maxHeartbeats 2000000 in
theorem awake_any (w : World) : Calls Try.prog 9 #[] w fun e w' => e = .returned (.bool true) ∧ Gr w w' := by
  have HN := hid (show Calls Try.prog 6 #[.int .i64 1] w (NewR w 1) from new_good 1 w (by omega))
  have HS := hid (show ∀ (W : World) (b : Nat) (v : Value), CAt w.heap.size W b v [0] → Calls Try.prog 7 #[.pointer (some ⟨b, 0, none⟩), .int .i64 0, .int .i64 5] W fun e w' => e = .returned (.tuple #[.agg #[.int .i64 0, .int .i64 2, .int .i64 0, .int .i64 5, .bool true], .int .i64 0]) ∧ CAt w.heap.size w' b v [5] ∧ Ch (Blk v) W w' from fun W b v h => store_any w.heap.size W b v [0] ⟨2, 0, 0, 5⟩ rfl h)
  have HL := hid (show ∀ (W : World) (b : Nat) (v : Value), CAt w.heap.size W b v [5] → Calls Try.prog 10 #[.pointer (some ⟨b, 0, none⟩), .int .i64 0] W fun e w' => e = .returned (.tuple #[.agg #[.int .i64 0, .int .i64 1, .int .i64 5, .int .i64 5, .bool false], .int .i64 0]) ∧ CAt w.heap.size w' b v [5] ∧ Ch (Blk v) W w' from fun W b v h => load_any w.heap.size W b v [5] ⟨1, 0, 0, 0⟩ rfl h)
  go_enter Try.func9, Try.ntmps9
  go_wp2_with (first
    | (go_at_call 6; refine HN.out.mono ?_; rintro e w1 ⟨b, v, rfl, hb, c1, g1⟩; have C1 := hid (show CAt w.heap.size w1 b v [0] from c1); have G1 := hid g1; have HB := hid hb; clear hb c1 g1)
    | (go_at_call 7; refine (HS.out _ b v C1.out).mono ?_; rintro e w2 ⟨rfl, c2, g2⟩; have C2 := hid (c2.gr ((Gr.refl w2).alloc #[.int .i64 0, .int .i64 2, .int .i64 0, .int .i64 5, .bool true] 28)); have G2 := hid (show Gr w _ from Ch.trans G1.out g2 (fun q e => .inr (C1.out.vo.blk e).1)); clear c2 g2)
    | (go_at_call 10; refine (HL.out _ b v C2.out).mono ?_; rintro e w3 ⟨rfl, c3, g3⟩; have G3 := hid (show Gr w w3 from Ch.trans (Ch.alloc G2.out _) g3 (fun q e => .inr (C2.out.vo.blk e).1)); clear c3 g3))
  go_ret
  exact ⟨rfl, Ch.alloc G3.out _⟩
end Go.Proofs.Ytpmhmikefkgbdab.Lt
