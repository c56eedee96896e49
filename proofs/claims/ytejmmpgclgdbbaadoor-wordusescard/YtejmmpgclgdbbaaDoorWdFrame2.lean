/-
  How lists of instructions and of words that are handed in read, and the ranges of numbers. No conditions.
-/
import Derived.Test.YtejmmpgclgdbbaaDoorWdFrame
import Derived.Test.YtejmmpgclgdbbaaDoorWdLists
namespace Go.Proofs.YtejmmpgclgdbbaaDoor.Wd
open Go.ChangeShapes Go.WideShapes Go.ChangeAt Go.RowKit Go.Deep Go.Joins

theorem cellsW : Tryd.prog.cellsOf 32 = 1 := by kernel_rfl
theorem rng_U {x : Int} (h : (Lit.int .u32 x).wf = true) : 0 ≤ x ∧ x < 4294967296 := by
  simp [Lit.wf, IntKind.min, IntKind.max, IntKind.signed, IntKind.bits] at h
  omega
theorem addr_none {w : World} {a : Addr} {v : Value} (h : w.cell? a = some v) : a.spot = none := by
  obtain ⟨g, o, sp⟩ := a
  cases sp with
  | none => rfl
  | some k => simp [World.cell?] at h; split at h <;> simp at h
theorem add_at (g p i j : Nat) : ((⟨g, p, none⟩ : Addr).add i).add j = ⟨g, p + i + j, none⟩ := by
  unfold Addr.add
  by_cases hi : i = 0 <;> by_cases hj : j = 0 <;> simp [hi, hj]

theorem open_listL {H : Type} {enc : TypeId × Value → H} {w : World} {base : Nat} {spare : Nat → Bool} {held : Bool} {r : Reach} {b0 : Nat} {v : Value} {d : DataW H} {p : List MemPlace}
    (hv : Value.okWide Tryd.prog w r b0 31 v) (h : DataW.Trod enc Tryd.prog w base spare held 31 v d p) : ∃ n, InL w v n := by
  obtain ⟨fuel, hf⟩ := h
  obtain ⟨va, vl, vc, rfl⟩ := okWide_slice Tryd.underlying31 hv
  rcases open_slice Tryd.underlying31 hf with ⟨h1, h2⟩ | ⟨a, len, cap, m, n, D, Pl, h1, hb, hl, hm, hmm, hd, hx⟩
  · have e : Value.slice va vl vc = .slice none 0 0 := by simpa [Value.cells] using h1
    rw [e]
    exact ⟨0, none, 0, rfl, by omega, .inl rfl⟩
  · have e : Value.slice va vl vc = .slice (some a) len cap := by simpa [Value.cells] using h1
    rw [e]
    rw [cellsN] at hx
    have hlm : len ≤ m := by rw [hmm]; split <;> omega
    have hmax : len ≤ 9223372036854775807 := by unfold maxLen at hm; omega
    have hel : ∀ i, i < len → ∃ o a' b c m' : Int, w.cell? ((a.add (i * 5)).add 0) = some (.int .i64 o) ∧ w.cell? ((a.add (i * 5)).add 1) = some (.int .i64 a') ∧ w.cell? ((a.add (i * 5)).add 2) = some (.int .i64 b) ∧ w.cell? ((a.add (i * 5)).add 3) = some (.int .i64 c) ∧ w.cell? ((a.add (i * 5)).add 4) = some (.int .i64 m') := by
      intro i hi
      obtain ⟨cs', h2, h3⟩ := hx i (by omega)
      obtain ⟨_, hlen, hc⟩ := World.cells?_some h2
      match cs', hlen with
      | [c0, c1, c2, c3, c4], _ =>
        obtain ⟨o, a', b, c, m', rfl, rfl, rfl, rfl, rfl, _⟩ := trod_five Tryd.underlying36 ⟨rfl, rfl, rfl, rfl, rfl⟩ ⟨rfl, rfl, rfl, rfl, rfl⟩ h3
        exact ⟨o, a', b, c, m', hc 0 (by omega), hc 1 (by omega), hc 2 (by omega), hc 3 (by omega), hc 4 (by omega)⟩
    refine ⟨len, some a, cap, rfl, hmax, ?_⟩
    rcases Nat.eq_zero_or_pos len with h0 | h0
    · exact .inl h0
    · right
      obtain ⟨g, o, sp⟩ := a
      have hsp : sp = none := by
        obtain ⟨_, _, _, _, _, hc, _⟩ := hel 0 h0
        have e : ((⟨g, o, sp⟩ : Addr).add (0 * 5)).add 0 = ⟨g, o, sp⟩ := by simp [Addr.add]
        rw [e] at hc
        exact addr_none hc
      subst hsp
      refine ⟨g, o, rfl, ?_, fun i hi => ?_⟩
      · obtain ⟨_, _, _, _, _, hc, _⟩ := hel 0 h0
        rw [add_at] at hc
        exact lt_of_cell hc
      · obtain ⟨x0, x1, x2, x3, x4, k0, k1, k2, k3, k4⟩ := hel i hi
        rw [add_at] at k0 k1 k2 k3 k4
        exact ⟨x0, x1, x2, x3, x4, k0, k1, k2, k3, k4⟩

theorem open_listD {H : Type} {enc : TypeId × Value → H} {w : World} {base : Nat} {spare : Nat → Bool} {held : Bool} {r : Reach} {b0 : Nat} {v : Value} {d : DataW H} {p : List MemPlace}
    (hv : Value.okWide Tryd.prog w r b0 38 v) (h : DataW.Trod enc Tryd.prog w base spare held 38 v d p) : ∃ n, UL w v n := by
  obtain ⟨fuel, hf⟩ := h
  obtain ⟨va, vl, vc, rfl⟩ := okWide_slice Tryd.underlying38 hv
  rcases open_slice Tryd.underlying38 hf with ⟨h1, h2⟩ | ⟨a, len, cap, m, n, D, Pl, h1, hb, hl, hm, hmm, hd, hx⟩
  · have e : Value.slice va vl vc = .slice none 0 0 := by simpa [Value.cells] using h1
    rw [e]
    exact ⟨0, none, 0, rfl, by omega, .inl rfl⟩
  · have e : Value.slice va vl vc = .slice (some a) len cap := by simpa [Value.cells] using h1
    rw [e]
    rw [cellsW] at hx
    have hlm : len ≤ m := by rw [hmm]; split <;> omega
    have hmax : len ≤ 9223372036854775807 := by unfold maxLen at hm; omega
    have hel : ∀ i, i < len → ∃ x : Int, w.cell? ((a.add (i * 1)).add 0) = some (.int .u32 x) ∧ 0 ≤ x ∧ x < 4294967296 := by
      intro i hi
      obtain ⟨cs', h2, h3⟩ := hx i (by omega)
      obtain ⟨_, hlen, hc⟩ := World.cells?_some h2
      match cs', hlen with
      | [c0], _ =>
        obtain ⟨x, e1, _, hw⟩ := DataW.trod_int Tryd.underlying32 h3
        simp at e1
        have := hc 0 (by omega)
        simp [e1] at this
        exact ⟨x, by simpa [Addr.add] using this, rng_U hw⟩
    refine ⟨len, some a, cap, rfl, hmax, ?_⟩
    rcases Nat.eq_zero_or_pos len with h0 | h0
    · exact .inl h0
    · right
      obtain ⟨g, o, sp⟩ := a
      have hsp : sp = none := by
        obtain ⟨_, hc, _⟩ := hel 0 h0
        have e : ((⟨g, o, sp⟩ : Addr).add (0 * 1)).add 0 = ⟨g, o, sp⟩ := by simp [Addr.add]
        rw [e] at hc
        exact addr_none hc
      subst hsp
      refine ⟨g, o, rfl, ?_, fun i hi => ?_⟩
      · obtain ⟨_, hc, _⟩ := hel 0 h0
        rw [add_at] at hc
        exact lt_of_cell hc
      · obtain ⟨x, k0, k1⟩ := hel i hi
        rw [add_at] at k0
        exact ⟨x, by simpa using k0, k1⟩
end Go.Proofs.YtejmmpgclgdbbaaDoor.Wd
