/-
  What New, Len, find, Has and what they call answer, of a queue that is there. Condition: the queue's list is there, and shorter than 2^62.
-/
import Derived.Test.YtphohfafehjafaaFfList
namespace Go.Proofs.Ytphohfafehjafaa.Ff
open Go.RowKit
attribute [local go_sem ↓] Go.wp_at_zero Go.wp_at_succ

/-- a queue at a block: its list's value -/
def QAt (w : World) (b : Nat) (v : Value) : Prop := w.heap[b]? = some (.cells #[v] 59 (0, 0))
theorem QAt.cell {w : World} {b : Nat} {v : Value} (h : QAt w b v) : w.cell? ⟨b, 0, none⟩ = some v := (cell_of h 0).trans rfl
theorem QAt.fz {w : World} {b : Nat} {v : Value} (h : QAt w b v) : w.frozen? ⟨b, 0, none⟩ = false := frozen_of h 0
theorem QAt.lt {w : World} {b : Nat} {v : Value} (h : QAt w b v) : b < w.heap.size := lt_of_block h
theorem QAt.ch {S : Nat → Prop} {w w' : World} {b : Nat} {v : Value} (h : QAt w b v) (g : Ch S w w') (hn : ¬ S b) : QAt w' b v := (g.block b (lt_of_block h) hn).trans h
theorem QAt.alloc {w : World} {b : Nat} {v : Value} (h : QAt w b v) (o : Obj) : QAt (w.alloc o) b v := (Below.heap_alloc _ _ _ h.lt).trans h
theorem QAt.drew {w : World} {b : Nat} {v : Value} (h : QAt w b v) : QAt w.drew b v := h
theorem QAt.put {w : World} {b : Nat} {v : Value} (h : QAt w b v) (u : Value) : QAt (w.setCell ⟨b, 0, none⟩ u) b u := setCell_block h 0 u

theorem new_any (w : World) : Calls Try.prog 9 #[] w fun e w' => ∃ b, e = .returned (.pointer (some ⟨b, 0, none⟩)) ∧ w.heap.size ≤ b ∧ QAt w' b (.slice none 0 0) ∧ Ch NoB w w' := by
  go_enter Try.func9, Try.ntmps9
  go_wp2
  go_ret
  exact ⟨_, rfl, Nat.le_refl _, (MapKept.heap_alloc w _).1, (Ch.refl _ _).alloc _⟩

theorem len_any (b : Nat) (ao : Option Addr) (n cap : Nat) (w : World) (h : QAt w b (.slice ao n cap)) :
    Calls Try.prog 21 #[.pointer (some ⟨b, 0, none⟩)] w fun e w' => e = .returned (.int .i64 (n : Int)) ∧ w' = w := by
  have c0 := h.cell
  clear h
  go_enter Try.func21, Try.ntmps21
  go_wp2
  go_ret
  exact ⟨rfl, rfl⟩

/-- is it this goroutine? -/
def isG (s g : Int) (x : W3) : Bool := x.s == s && x.g == g
theorem eql_gid (a b c d : Int) (w : World) : (binOp .eql 30 (.agg #[.int .i64 a, .int .i64 b]) (.agg #[.int .i64 c, .int .i64 d])).run Try.prog w = .ok (.bool (a == c && b == d)) w := by
  by_cases h1 : a = c
  · by_cases h2 : b = d
    · rw [h1, h2]
      go_simp
    · have e : (b == d) = false := by simpa using h2
      rw [h1]
      go_simp
  · have e : (a == c) = false := by simpa using h1
    go_simp

theorem find1_any (k : Nat) (s g : Int) (x : W3) (w : World) (h0 : w.cell? ⟨k, 0, none⟩ = some (.int .i64 s)) (h1 : w.cell? ⟨k, 1, none⟩ = some (.int .i64 g)) (hk : k < w.heap.size) :
    Calls Try.prog 42 #[.agg #[.int .i64 x.s, .int .i64 x.g, .int .u64 x.t], .pointer (some ⟨k, 0, none⟩)] w fun e w' => e = .returned (.bool (isG s g x)) ∧ Ch NoB w w' := by
  have hC := fun w' => eql_gid x.s x.g s g w'
  obtain ⟨B, hB⟩ : ∃ B, B = isG s g x := ⟨_, rfl⟩
  rw [show (x.s == s && x.g == g) = B from hB.symm] at hC
  rw [← hB]
  clear hB
  go_enter Try.func42, Try.ntmps42
  go_wp2
  go_ret
  exact ⟨rfl, (Ch.refl _ _).alloc _⟩

/-- where a goroutine stands, or -1 -/
def atG (s g : Int) (xs : List W3) : Int := match xs.findIdx? (isG s g) with
  | some i => (i : Int)
  | none => -1
theorem atG_hit {s g : Int} {xs : List W3} {j : Nat} {z : W3} (hz : xs[j]? = some z) (hb : isG s g z = true) (hn : ∀ i y, i < j → xs[i]? = some y → isG s g y = false) : atG s g xs = (j : Int) := by
  have : xs.findIdx? (isG s g) = some j := by
    rw [List.findIdx?_eq_some_iff_getElem]
    obtain ⟨h1, h2⟩ := List.getElem?_eq_some_iff.1 hz
    refine ⟨h1, by rw [h2]; exact hb, fun i hi => ?_⟩
    have := hn i xs[i] hi (List.getElem?_eq_getElem (by omega))
    simp [this]
  rw [atG, this]
theorem atG_miss {s g : Int} {xs : List W3} (hn : ∀ i y, i < xs.length → xs[i]? = some y → isG s g y = false) : atG s g xs = -1 := by
  have : xs.findIdx? (isG s g) = none := by
    rw [List.findIdx?_eq_none_iff]
    intro x hx
    obtain ⟨i, h1, h2⟩ := List.getElem_of_mem hx
    have := hn i x h1 (by rw [← h2]; exact List.getElem?_eq_getElem h1)
    simp [this]
  rw [atG, this]

theorem indexFunc_any (P : Nat → Prop) (v : Value) (xs : List W3) (k : Nat) (s g : Int) (w : World) (hx : Lst P w v xs) (hl : xs.length ≤ 4611686018427387903) (h0 : w.cell? ⟨k, 0, none⟩ = some (.int .i64 s)) (h1 : w.cell? ⟨k, 1, none⟩ = some (.int .i64 g)) (hk : k < w.heap.size) :
    Calls Try.prog 41 #[v, .func (.func 42) #[] #[.pointer (some ⟨k, 0, none⟩)]] w fun e w' => e = .returned (.int .i64 (atG s g xs)) ∧ Ch NoB w w' := by
  obtain ⟨ao, cap, rfl⟩ := hx.form
  obtain ⟨n, hn⟩ : ∃ n, n = xs.length := ⟨_, rfl⟩
  rw [← hn] at hx hl ⊢
  have HX := hid hx
  have HN := hid hn
  have HK0 := hid h0
  have HK1 := hid h1
  clear hx hn h0 h1
  go_enter Try.func41, Try.ntmps41
  go_wp2_with fail
  go_loopg [8] n (fun m i wr => ∃ j, j + m = n ∧ i = .int .i64 ((j : Nat) : Int) ∧ (∀ i y, i < j → xs[i]? = some y → isG s g y = false) ∧ Ch NoB w wr)
  case atStart => exact ⟨0, by omega, rfl, fun i y h => by omega, Ch.refl _ _⟩
  case round =>
    obtain ⟨j, hjk, rfl, hno, hg⟩ := hrel
    have HNO := hid hno
    have HG := hid hg
    clear hno
    by_cases hj : j < n
    · obtain ⟨z, hz⟩ : ∃ z, xs[j]? = some z := ⟨_, List.getElem?_eq_getElem (by rw [← HN.out]; exact hj)⟩
      obtain ⟨gb, o, rfl, _, hgl, a0, a1, a2⟩ := (HX.out.ch hg (fun _ _ _ => noB _)).get hz
      have j0 : (0 : Int) ≤ (j : Int) := by omega
      have j1 : (j : Int) < (n : Int) := by omega
      have HZ := hid hz
      have hF := find1_any k s g z wr ((hg.cell hk (noB _)).trans HK0.out) ((hg.cell hk (noB _)).trans HK1.out) (Nat.lt_of_lt_of_le hk hg.size)
      have HF := hid hF
      clear hz hg hF
      go_wp2_with fail
      refine HF.out.mono ?_
      cases hb : isG s g z with
      | true =>
        rintro e w2 ⟨rfl, g2⟩
        have HG2 := hid g2
        have hA := atG_hit HZ.out hb HNO.out
        have HA := hid hA
        clear g2 hA hb
        go_wp2
        go_ret
        exact ⟨by rw [HA.out]; rfl, HG.out.trans' HG2.out⟩
      | false =>
        rintro e w2 ⟨rfl, g2⟩
        have HG2 := hid g2
        have HB := hid hb
        clear g2 hb
        go_wp2
        go_roundg (gk - 1)
        case measure => omega
        case rel =>
          refine ⟨j + 1, by omega, by simp, fun i y hi hy => ?_, HG.out.trans' HG2.out⟩
          by_cases e : i = j
          · subst e
            rw [HZ.out] at hy
            injection hy with hy
            rw [← hy]
            exact HB.out
          · exact HNO.out i y (by omega) hy
    · have hA : atG s g xs = -1 := atG_miss (fun i y hi hy => HNO.out i y (by rw [← HN.out] at hi; omega) hy)
      have HA := hid hA
      clear hA hg
      go_wp2
      go_ret
      exact ⟨by rw [HA.out]; rfl, HG.out⟩

theorem find_any (P : Nat → Prop) (b : Nat) (v : Value) (xs : List W3) (s g : Int) (w : World) (hq : QAt w b v) (hx : Lst P w v xs) (hl : xs.length ≤ 4611686018427387903) :
    Calls Try.prog 32 #[.pointer (some ⟨b, 0, none⟩), .agg #[.int .i64 s, .int .i64 g]] w fun e w' => e = .returned (.int .i64 (atG s g xs)) ∧ Ch NoB w w' := by
  obtain ⟨ao, cap, rfl⟩ := hx.form
  have c0 := hq.cell
  have hb := hq.lt
  have HX := hid hx
  have HL := hid hl
  clear hq hx hl
  go_enter Try.func32, Try.ntmps32
  go_wp2_with fail
  refine (indexFunc_any P _ xs w.heap.size s g _ (HX.out.alloc _) HL.out (by simp) (by simp) (by simp)).mono ?_
  rintro e w1 ⟨rfl, g1⟩
  have HG := hid g1
  clear g1
  go_wp2
  go_ret
  exact ⟨rfl, ((Ch.refl _ _).alloc _).trans' HG.out⟩

theorem has_any (P : Nat → Prop) (b : Nat) (v : Value) (xs : List W3) (s g : Int) (w : World) (hq : QAt w b v) (hx : Lst P w v xs) (hl : xs.length ≤ 4611686018427387903) :
    Calls Try.prog 17 #[.pointer (some ⟨b, 0, none⟩), .agg #[.int .i64 s, .int .i64 g]] w fun e w' => e = .returned (.bool (decide (0 ≤ atG s g xs))) ∧ Ch NoB w w' := by
  have HQ := hid hq
  have HX := hid hx
  have HL := hid hl
  clear hq hx hl
  go_enter Try.func17, Try.ntmps17
  go_wp2_with fail
  refine (find_any P b v xs s g _ (HQ.out.alloc _) (HX.out.alloc _) HL.out).mono ?_
  rintro e w1 ⟨rfl, g1⟩
  have HG := hid g1
  clear g1
  go_wp2
  go_ret
  exact ⟨rfl, ((Ch.refl _ _).alloc _).trans' HG.out⟩
end Go.Proofs.Ytphohfafehjafaa.Ff
