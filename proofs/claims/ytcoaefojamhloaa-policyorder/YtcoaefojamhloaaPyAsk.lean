/-
  What Path answers: the program. Condition: the list is not too long.
-/
import Derived.Test.YtcoaefojamhloaaPyPaths
import Derived.Test.YtcoaefojamhloaaPyChk
namespace Go.Proofs.Ytcoaefojamhloaa.Lt
open Go.RowKit Wd
attribute [local go_sem ↓] Go.wp_at_zero Go.wp_at_succ
set_option maxRecDepth 20000

/-- two numbers in a new block -/
theorem ls_two (w : World) (x y : Int) (T : TypeId) (b : Nat) (hb : b = w.heap.size) : Ls eI (· = b) (w.alloc (.cells #[.int .i64 x, .int .i64 y] T)) (.slice (some ⟨b, 0, none⟩) 2 2) [x, y] := by
  subst hb
  refine ⟨some ⟨w.heap.size, 0, none⟩, 2, rfl, ⟨Nat.le_refl _, fun h => by cases h⟩, .inr ⟨w.heap.size, 0, rfl, rfl, by simp, fun j v hv => ?_⟩⟩
  have := cell_of (al_at (w := w) (.cells #[.int .i64 x, .int .i64 y] T) rfl) (0 + j)
  rw [this, Nat.zero_add, ← hv]
  match j with
  | 0 => rfl
  | 1 => rfl
  | j + 2 => simp [eI]
theorem idx_row (c : Array Value) (i : Nat) (hi : i < 16) (w : World) : (Instr.index 55 (.agg c) (.int .i64 (i : Int))).run Try.prog w = .ok (.agg (c.extract (i * 16) (i * 16 + 16))) w := by
  have h0 : (0 : Int) ≤ (i : Int) ∧ (i : Int) < ((16 : Nat) : Int) := by omega
  have hs : (sizeOf 53).run Try.prog w = .ok 16 w := by kernel_rfl
  simp [Instr.index, asIntOf, run_underlying Try.underlying55, hs, go_sem]
  omega
theorem idx_col (c : Array Value) (i j : Nat) (r : Rl) (h : Tbl c r) (hi : i < 16) (hj : j < 16) (w : World) : (Instr.index 53 (.agg (c.extract (i * 16) (i * 16 + 16))) (.int .i64 (j : Int))).run Try.prog w = .ok (.bool (r i j)) w := by
  have h0 : (0 : Int) ≤ (j : Int) ∧ (j : Int) < ((16 : Nat) : Int) := by omega
  have hs : (sizeOf 4).run Try.prog w = .ok 1 w := by kernel_rfl
  have hx : (c.extract (i * 16) (i * 16 + 16))[j]? = some (.bool (r i j)) := by
    rw [Array.getElem?_extract, if_pos (by rw [h.1]; omega)]
    exact h.2 i j hi hj
  simp [Instr.index, asIntOf, run_underlying Try.underlying53, hs, go_sem]
  rw [if_pos hj, hx]
  rfl
def pthB (n : Int) (l : List Eg) (x y : Int) : Bool := if wrgP n l [x, y] = 0 then pthR n.toNat l x.toNat y.toNat else false
def pthE (n : Int) (l : List Eg) (x y : Int) : Ending := .returned (.tuple #[.bool (pthB n l x y), .int .i64 (wrgP n l [x, y])])
set_option maxHeartbeats 4000000 in
theorem path_any (w : World) (n : Int) (a : Option Addr) (m c : Nat) (l : List Eg) (h : Le w (.slice a m c) l) (hm : m ≤ 8796093022208) (x y : Int) :
    Calls Try.prog 15 #[.int .i64 n, .slice a m c, .int .i64 x, .int .i64 y] w fun e w' => e = pthE n l x y ∧ Gr w w' := by
  obtain ⟨A, hA⟩ : ∃ A, A = w.alloc (.cells #[.int .i64 x, .int .i64 y] 3) := ⟨_, rfl⟩
  have GA := hide (show Gr w A by rw [hA]; exact Ch.alloc (Gr.refl w) _)
  have C := hide (wrong_any A n a m c l (h.gr GA.out) hm (· = w.heap.size) (some ⟨w.heap.size, 0, none⟩) 2 2 [x, y] (by rw [hA]; exact ls_two w x y 3 _ rfl) (by omega))
  unfold wrgE at C
  unfold pthE
  by_cases h0 : wrgP n l [x, y] = 0
  · obtain ⟨n1, n2, ok, hd⟩ := wrgP_ok h0
    have hB : pthB n l x y = pthR n.toNat l x.toNat y.toNat := if_pos h0
    have hx := hd x (by simp)
    have hy := hd y (by simp)
    obtain ⟨N, rfl⟩ : ∃ N : Nat, n = (N : Int) := ⟨n.toNat, by omega⟩
    obtain ⟨X, rfl⟩ : ∃ X : Nat, x = (X : Int) := ⟨x.toNat, by omega⟩
    obtain ⟨Y, rfl⟩ : ∃ Y : Nat, y = (Y : Int) := ⟨y.toNat, by omega⟩
    rw [Int.toNat_natCast, Int.toNat_natCast, Int.toNat_natCast] at hB
    have CP := hide (fun W (g : Gr w W) => paths_any W N (by omega) a m c l (h.gr g) hm ok)
    have hX : X < 16 := by omega
    have hY : Y < 16 := by omega
    have HB := hide hB
    rw [h0] at C ⊢
    rw [HB.out]
    generalize pthR N l = r at CP ⊢
    clear h ok hd hB HB n1 n2 h0
    go_enter Try.func15, Try.ntmps15
    go_wp2_with fail
    rw [← hA]
    clear hA
    refine C.out.mono ?_
    rintro e w1 ⟨rfl, g1⟩
    have G1 := hide (Gr.trans GA.out g1)
    clear g1
    go_wp2_with fail
    refine (CP.out _ G1.out).mono ?_
    rintro e w2 ⟨cs, rfl, ts, g2⟩
    have G2 := hide (Gr.trans G1.out g2)
    have i1 := idx_row cs X hX
    have i2 := idx_col cs X Y r ts hX hY
    clear g2 ts
    go_wp2
    go_ret2
    exact ⟨rfl, G2.out⟩
  · have hB : pthB n l x y = false := if_neg h0
    rw [hB]
    generalize wrgP n l [x, y] = E at *
    have hne : (E != 0) = true := by simpa using h0
    clear h hB h0
    go_enter Try.func15, Try.ntmps15
    go_wp2_with fail
    rw [← hA]
    clear hA
    refine C.out.mono ?_
    rintro e w1 ⟨rfl, g1⟩
    have G1 := hide (Gr.trans GA.out g1)
    clear g1
    go_wp2
    go_ret2
    exact ⟨rfl, G1.out⟩
end Go.Proofs.Ytcoaefojamhloaa.Lt
