/-
  What counted, rises and boolInt of the statements answer. Condition: the lists are there, and shorter than 2^62.
-/
import Derived.Test.YtfodjkdioddbjaaRgCmp
import Derived.Test.YtfodjkdioddbjaaRgKeep
namespace Go.Proofs.Ytfodjkdioddbjaa.Rg
open Go.RowKit
attribute [local go_sem ↓] Go.wp_at_zero Go.wp_at_succ

/-- are two that wait the same? -/
def eqW (x y : W3) : Bool := x.s == y.s && x.g == y.g && x.t == y.t
theorem eql_w3 (x y : W3) (w : World) : (binOp .eql 30 (.agg #[.int .i64 x.s, .int .i64 x.g, .int .u64 x.t]) (.agg #[.int .i64 y.s, .int .i64 y.g, .int .u64 y.t])).run Try.prog w = .ok (.bool (eqW x y)) w := by
  unfold eqW
  by_cases h1 : x.s = y.s
  · by_cases h2 : x.g = y.g
    · by_cases h3 : x.t = y.t
      · have e : (x.t == y.t) = true := by simpa using h3
        rw [h1, h2, e]
        rw [h3]
        go_simp
      · have e : (x.t == y.t) = false := by simpa using h3
        rw [h1, h2]
        go_simp
    · have e : (x.g == y.g) = false := by simpa using h2
      rw [h1]
      go_simp
  · have e : (x.s == y.s) = false := by simpa using h1
    go_simp

theorem counted_any (P : Nat → Prop) (v : Value) (xs : List W3) (y : W3) (w : World) (hx : Lst P w v xs) (hl : xs.length ≤ 4611686018427387903) :
    Calls Try.prog 17 #[v, .agg #[.int .i64 y.s, .int .i64 y.g, .int .u64 y.t]] w fun e w' => e = .returned (.int .i64 ((xs.countP (fun z => eqW z y) : Nat) : Int)) ∧ Ch NoB w w' := by
  obtain ⟨ao, cap, rfl⟩ := hx.form
  obtain ⟨n, hn⟩ : ∃ n, n = xs.length := ⟨_, rfl⟩
  rw [← hn] at hx hl ⊢
  have HX := hid hx
  have HN := hid hn
  clear hx hn
  go_enter Try.func17, Try.ntmps17
  go_wp2_with fail
  go_loopg [5, 6] n (fun k r i wr => ∃ j, j + k = n ∧ i = .int .i64 ((j : Nat) : Int) ∧ r = .int .i64 (((xs.take j).countP (fun z => eqW z y) : Nat) : Int) ∧ ∃ m, wr = (w.alloc (.cells #[.int .i64 y.s, .int .i64 y.g, .int .u64 y.t] 30)).drewN m)
  case atStart => exact ⟨0, by omega, rfl, rfl, 0, rfl⟩
  case round =>
    obtain ⟨j, hjk, rfl, rfl, m, rfl⟩ := hrel
    by_cases hj : j < n
    · obtain ⟨z, hz⟩ : ∃ z, xs[j]? = some z := ⟨_, List.getElem?_eq_getElem (by rw [← HN.out]; exact hj)⟩
      obtain ⟨g, o, rfl, _, hgl, a0, a1, a2⟩ := HX.out.get hz
      have j0 : (0 : Int) ≤ (j : Int) := by omega
      have j1 : (j : Int) < (n : Int) := by omega
      have ht : xs.take (j + 1) = xs.take j ++ [z] := by rw [List.take_add_one, hz]; rfl
      have hC := fun w' => eql_w3 z y w'
      obtain ⟨q, hq⟩ : ∃ q, q = (xs.take j).countP (fun z => eqW z y) := ⟨_, rfl⟩
      have hqj : q ≤ j := by rw [hq]; exact Nat.le_trans List.countP_le_length (List.length_take_le _ _)
      have hc : (xs.take (j + 1)).countP (fun z => eqW z y) = q + if eqW z y then 1 else 0 := by
        rw [ht, List.countP_append, ← hq]
        simp only [List.countP_cons, List.countP_nil, Nat.zero_add]
      rw [← hq]
      have HQ := hid hc
      clear hz ht hc hq
      cases hb : eqW z y with
      | true =>
        rw [hb] at hC HQ
        go_wp2
        go_quiet (fail)
        go_wp2
        go_roundg (gk - 1)
        case measure => omega
        case rel => exact ⟨j + 1, by omega, by simp, by rw [HQ.out]; simp, _, rfl⟩
      | false =>
        rw [hb] at hC HQ
        go_wp2
        go_quiet (fail)
        go_wp2
        go_roundg (gk - 1)
        case measure => omega
        case rel => exact ⟨j + 1, by omega, by simp, by rw [HQ.out]; simp, _, rfl⟩
    · have e : xs.take j = xs := List.take_of_length_le (by rw [← HN.out]; omega)
      rw [e]
      go_wp2
      go_ret
      exact ⟨rfl, ((Ch.refl _ _).alloc _).drewN _⟩

theorem upB_get : ∀ (l : List W3) (i : Nat) (x y : W3), upB l = true → l[i]? = some x → l[i + 1]? = some y → x.t < y.t
  | [], i, x, y, _, h, _ => by simp at h
  | a :: r, 0, x, y, hu, h1, h2 => by
    simp only [List.getElem?_cons_zero, Option.some.injEq] at h1
    subst h1
    cases r with
    | nil => simp at h2
    | cons b r =>
      simp only [List.getElem?_cons_succ, List.getElem?_cons_zero, Option.some.injEq] at h2
      subst h2
      simp only [upB, headUp, Bool.and_eq_true, decide_eq_true_eq] at hu
      exact hu.1
  | a :: r, i + 1, x, y, hu, h1, h2 => by
    simp only [upB, Bool.and_eq_true] at hu
    exact upB_get r i x y hu.2 (by simpa using h1) (by simpa using h2)

theorem lrises_any (P : Nat → Prop) (v : Value) (xs : List W3) (w : World) (hx : Lst P w v xs) (hl : xs.length ≤ 4611686018427387903) (hu : upB xs = true) :
    Calls Try.prog 20 #[v] w fun e w' => e = .returned (.bool true) ∧ ∃ m, w' = w.drewN m := by
  obtain ⟨ao, cap, rfl⟩ := hx.form
  obtain ⟨n, hn⟩ : ∃ n, n = xs.length := ⟨_, rfl⟩
  rw [← hn] at hx hl ⊢
  have HX := hid hx
  have HN := hid hn
  have HU := hid hu
  clear hx hn hu
  go_enter Try.func20, Try.ntmps20
  go_wp2_with fail
  go_loopg [3] n (fun k i wr => ∃ j, j + k = n ∧ i = .int .i64 (((j : Nat) : Int) + 1) ∧ ∃ m, wr = w.drewN m)
  case atStart => exact ⟨0, by omega, rfl, 0, rfl⟩
  case round =>
    obtain ⟨j, hjk, rfl, m, rfl⟩ := hrel
    by_cases hj : j + 1 < n
    · obtain ⟨z, hz⟩ : ∃ z, xs[j]? = some z := ⟨_, List.getElem?_eq_getElem (by rw [← HN.out]; omega)⟩
      obtain ⟨y, hy⟩ : ∃ y, xs[j + 1]? = some y := ⟨_, List.getElem?_eq_getElem (by rw [← HN.out]; omega)⟩
      have hlt := upB_get xs j z y HU.out hz hy
      obtain ⟨g, o, rfl, _, hgl, a0, a1, a2⟩ := HX.out.get hz
      obtain ⟨g', o', e', _, _, b0, b1, b2⟩ := HX.out.get hy
      simp only [Option.some.injEq, Addr.mk.injEq] at e'
      obtain ⟨rfl, rfl, _⟩ := e'
      have b2' : w.cell? ⟨g, o + (j + 1) * 3 + 2, none⟩ = some (.int .u64 y.t) := b2
      have j0 : (0 : Int) ≤ (j : Int) := by omega
      have j1 : (j : Int) < (n : Int) := by omega
      have j2 : (0 : Int) ≤ (j : Int) + 1 := by omega
      have j3 : (j : Int) + 1 < (n : Int) := by omega
      have j4 : ((j : Int) + 1).toNat = j + 1 := by omega
      have hle : decide (y.t ≤ z.t) = false := by simp; omega
      clear hz hy
      go_wp2
      go_quiet (fail)
      go_wp2
      go_roundg (gk - 1)
      case measure => omega
      case rel => exact ⟨j + 1, by omega, by simp, _, rfl⟩
    · go_wp2
      go_ret
      exact ⟨rfl, _, rfl⟩

theorem boolInt_any (h : Bool) (w : World) : Calls Try.prog 21 #[.bool h] w fun e w' => e = .returned (.int .i64 (if h then 1 else 0)) ∧ w' = w := by
  cases h <;>
  · go_enter Try.func21, Try.ntmps21
    go_wp2
    go_ret
    exact ⟨rfl, rfl⟩
end Go.Proofs.Ytfodjkdioddbjaa.Rg
