/-
  The table of paths in memory, and one more that is let in: join. Conditions: all that is so is within the domains, of which there are at most 16.
-/
import Derived.Test.YtcoaefojamhloaaPyBase
namespace Go.Proofs.Ytcoaefojamhloaa.Lt
open Go.RowKit Wd
attribute [local go_sem ↓] Go.wp_at_zero Go.wp_at_succ
set_option maxRecDepth 20000

def Tbl (c : Array Value) (r : Rl) : Prop := c.size = 256 ∧ ∀ i j, i < 16 → j < 16 → c[i * 16 + j]? = some (.bool (r i j))
def RAt (w : World) (p : Nat) (r : Rl) : Prop := ∃ c, w.heap[p]? = some (.cells c 55 (0, 0)) ∧ Tbl c r
theorem RAt.cell {w : World} {p : Nat} {r : Rl} (h : RAt w p r) {i j : Nat} (hi : i < 16) (hj : j < 16) : w.cell? ⟨p, i * 16 + j, none⟩ = some (.bool (r i j)) := by
  obtain ⟨c, h1, h2⟩ := h
  exact (cell_of h1 _).trans (h2.2 i j hi hj)
theorem RAt.lt {w : World} {p : Nat} {r : Rl} (h : RAt w p r) : p < w.heap.size := by
  obtain ⟨c, h1, _⟩ := h
  exact lt_of_block h1
theorem RAt.fr {w : World} {p : Nat} {r : Rl} (h : RAt w p r) (o : Nat) : w.frozen? ⟨p, o, none⟩ = false := by
  obtain ⟨c, h1, _⟩ := h
  exact frozen_of h1 o
theorem RAt.ch {S : Nat → Prop} {w w' : World} {p : Nat} {r : Rl} (h : RAt w p r) (k : Ch S w w') (hn : ¬ S p) : RAt w' p r := by
  obtain ⟨c, h1, h2⟩ := h
  exact ⟨c, (k.block p (lt_of_block h1) hn).trans h1, h2⟩
theorem RAt.gr {w w' : World} {p : Nat} {r : Rl} (h : RAt w p r) (k : Gr w w') : RAt w' p r := h.ch k (noB _)
theorem RAt.same {w : World} {p : Nat} {r r' : Rl} (h : RAt w p r) (e : ∀ i j, i < 16 → j < 16 → r i j = r' i j) : RAt w p r' := by
  obtain ⟨c, h1, h2, h3⟩ := h
  exact ⟨c, h1, h2, fun i j hi hj => by rw [h3 i j hi hj, e i j hi hj]⟩
theorem RAt.set {w : World} {p : Nat} {r r' : Rl} (h : RAt w p r) {i j : Nat} (b : Bool) (hi : i < 16) (hj : j < 16) (e : ∀ a c, a < 16 → c < 16 → r' a c = if a = i ∧ c = j then b else r a c) : RAt (w.setCell ⟨p, i * 16 + j, none⟩ (.bool b)) p r' := by
  obtain ⟨c, h1, h2, h3⟩ := h
  refine ⟨_, setCell_block h1 _ _, by simpa using h2, fun a k ha hk => ?_⟩
  rw [Array.getElem?_setIfInBounds, e a k ha hk]
  by_cases hh : a = i ∧ k = j
  · obtain ⟨rfl, rfl⟩ := hh
    rw [if_pos rfl, if_pos (by rw [h2]; omega), if_pos ⟨rfl, rfl⟩]
  · rw [if_neg (by omega), if_neg hh]
    exact h3 a k ha hk
/-- join, half done: the rows ahead of i0, and of that row what is ahead of j0 -/
def jnP (o i0 j0 : Nat) (r : Rl) : Rl := fun i j => if i < i0 ∨ (i = i0 ∧ j < j0) then jn o r i j else r i j
theorem jnP_row (o i0 j0 i : Nat) (r : Rl) : jnP o i0 j0 r i o = r i o := by
  unfold jnP jn
  split
  · cases r i o <;> simp
  · rfl
theorem jnP_col (o i0 j0 j : Nat) (r : Rl) : jnP o i0 j0 r o j = r o j := by
  unfold jnP jn
  split
  · cases r o j <;> simp
  · rfl
theorem jnP_start (o : Nat) (r : Rl) (i j : Nat) : jnP o 0 0 r i j = r i j := by
  unfold jnP
  rw [if_neg (by omega)]
theorem jnP_next {o n i0 : Nat} {r : Rl} (h : Wn n r) (i j : Nat) : jnP o i0 n r i j = jnP o (i0 + 1) 0 r i j := by
  unfold jnP
  by_cases h1 : i < i0 ∨ (i = i0 ∧ j < n)
  · rw [if_pos h1, if_pos (by omega)]
  · rw [if_neg h1]
    by_cases h2 : i < i0 + 1 ∨ (i = i0 + 1 ∧ j < 0)
    · rw [if_pos h2]
      unfold jn
      cases e : r o j
      · simp
      · exact absurd (h o j e).2 (by omega)
    · rw [if_neg h2]
theorem jnP_end {o n : Nat} {r : Rl} (h : Wn n r) (i j : Nat) : jnP o n 0 r i j = jn o r i j := by
  unfold jnP
  by_cases h1 : i < n ∨ (i = n ∧ j < 0)
  · rw [if_pos h1]
  · rw [if_neg h1]
    unfold jn
    cases e : r i o
    · simp
    · exact absurd (h i o e).1 (by omega)
theorem jnP_no {o i0 j0 : Nat} {r : Rl} (h : (r i0 o && r o j0) = false) (i j : Nat) : jnP o i0 j0 r i j = jnP o i0 (j0 + 1) r i j := by
  unfold jnP
  by_cases h1 : i < i0 ∨ (i = i0 ∧ j < j0)
  · rw [if_pos h1, if_pos (by omega)]
  · rw [if_neg h1]
    by_cases h2 : i < i0 ∨ (i = i0 ∧ j < j0 + 1)
    · have e1 : i = i0 := by omega
      have e2 : j = j0 := by omega
      subst e1 e2
      rw [if_pos h2]
      unfold jn
      rw [h]
      simp
    · rw [if_neg h2]
theorem jnP_yes {o i0 j0 : Nat} {r : Rl} (h : (r i0 o && r o j0) = true) (i j : Nat) : jnP o i0 (j0 + 1) r i j = if i = i0 ∧ j = j0 then true else jnP o i0 j0 r i j := by
  unfold jnP
  by_cases h3 : i = i0 ∧ j = j0
  · obtain ⟨rfl, rfl⟩ := h3
    rw [if_pos (by omega), if_pos ⟨rfl, rfl⟩]
    unfold jn
    rw [h]
    simp
  · rw [if_neg h3]
    by_cases h1 : i < i0 ∨ (i = i0 ∧ j < j0)
    · rw [if_pos h1, if_pos (by omega)]
    · rw [if_neg h1, if_neg (by omega)]

set_option maxHeartbeats 8000000 in
theorem join_any (w : World) (p n o : Nat) (r : Rl) (hn : n ≤ 16) (ho : o < n) (h : RAt w p r) (hw : Wn n r) :
    Calls Try.prog 33 #[.pointer (some ⟨p, 0, none⟩), .int .i64 (n : Int), .int .i64 (o : Int)] w fun e w' => e = .returned (.tuple #[]) ∧ RAt w' p (jn o r) ∧ Ch (Only p) w w' := by
  have HW := hide hw
  have HS := hide (show RAt w p (jnP o 0 0 r) from h.same fun i j _ _ => (jnP_start o r i j).symm)
  have ho16 : o < 16 := by omega
  have ho2 : (o : Int) < 16 := by omega
  have ho0 : (0 : Int) ≤ (o : Int) := by omega
  clear hw h
  go_enter Try.func33, Try.ntmps33
  go_wp2_with fail
  go_loopg [9] n (fun k i wr => ∃ (a : Nat), a + k = n ∧ i = .int .i64 (a : Int) ∧ RAt wr p (jnP o a 0 r) ∧ Ch (Only p) w wr)
  case atStart => exact ⟨0, by omega, rfl, HS.out, Ch.refl _ _⟩
  case round =>
    obtain ⟨a, hak, rfl, hr, hc⟩ := hrel
    have HR := hide hr
    have HC := hide hc
    clear hr hc
    by_cases ha : a < n
    · have ha' : (a : Int) < (n : Int) := by omega
      have ha2 : (a : Int) < 16 := by omega
      have ha0 : (0 : Int) ≤ (a : Int) := by omega
      go_wp2_with fail
      go_loopg [13] n (fun k i wr => ∃ (b : Nat), b + k = n ∧ i = .int .i64 (b : Int) ∧ RAt wr p (jnP o a b r) ∧ Ch (Only p) w wr)
      case atStart => exact ⟨0, by omega, rfl, HR.out, HC.out⟩
      case round =>
        obtain ⟨b, hbk, rfl, hr, hc⟩ := hrel
        have HR2 := hide hr
        have HC2 := hide hc
        by_cases hb : b < n
        · have hb' : (b : Int) < (n : Int) := by omega
          have hb2 : (b : Int) < 16 := by omega
          have hb0 : (0 : Int) ≤ (b : Int) := by omega
          have c0 := hr.cell (i := a) (j := o) (by omega) (by omega)
          have c1 := hr.cell (i := o) (j := b) (by omega) (by omega)
          rw [jnP_row] at c0
          rw [jnP_col] at c1
          have c2 := hr.cell (i := a) (j := b) (by omega) (by omega)
          generalize jnP o a b r a b = old at c2
          have pl := hr.lt
          have fz := hr.fr
          have HX : ∀ q1 q2, r a o = q1 → r o b = q2 → (r a o && r o b) = (q1 && q2) := fun q1 q2 e1 e2 => by rw [e1, e2]
          have HX := hide HX
          clear hr hc
          cases e1 : r a o
          · have HN := hide (jnP_no (o := o) (i0 := a) (j0 := b) (r := r) (by rw [e1]; rfl))
            rw [e1] at c0
            go_wp2
            go_roundg (gk - 1)
            case measure => omega
            case rel =>
              refine ⟨b + 1, by omega, ?_, HR2.out.same (fun i j _ _ => HN.out i j), HC2.out⟩
              first | with_reducible rfl | simp
          · cases e2 : r o b
            · have HN := hide (jnP_no (o := o) (i0 := a) (j0 := b) (r := r) (by rw [e1, e2]; rfl))
              rw [e1] at c0
              rw [e2] at c1
              go_wp2
              go_roundg (gk - 1)
              case measure => omega
              case rel =>
                refine ⟨b + 1, by omega, ?_, HR2.out.same (fun i j _ _ => HN.out i j), HC2.out⟩
                first | with_reducible rfl | simp
            · have HN := hide (jnP_yes (o := o) (i0 := a) (j0 := b) (r := r) (by rw [e1, e2]; rfl))
              rw [e1] at c0
              rw [e2] at c1
              go_wp2
              go_roundg (gk - 1)
              case measure => omega
              case rel =>
                refine ⟨b + 1, by omega, ?_, HR2.out.set true (by omega) (by omega) (fun i j _ _ => HN.out i j), HC2.out.own _ _⟩
                first | with_reducible rfl | simp
        · have hb' : ¬ ((b : Int) < (n : Int)) := by omega
          have hbe : b = n := by omega
          subst hbe
          have HN := hide (jnP_next (o := o) (i0 := a) HW.out)
          clear hr hc
          go_wp2
          go_roundg (b - (a + 1))
          case measure => omega
          case rel =>
            refine ⟨a + 1, by omega, ?_, HR2.out.same (fun i j _ _ => HN.out i j), HC2.out⟩
            first | with_reducible rfl | simp
    · have ha' : ¬ ((a : Int) < (n : Int)) := by omega
      have hae : a = n := by omega
      subst hae
      have HN := hide (jnP_end (o := o) HW.out)
      go_wp2
      go_end0
      exact ⟨rfl, HR.out.same (fun i j _ _ => HN.out i j), HC.out⟩
end Go.Proofs.Ytcoaefojamhloaa.Lt
