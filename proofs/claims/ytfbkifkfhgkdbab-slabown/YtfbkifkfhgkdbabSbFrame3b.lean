/-
  How a script, handed in by value, reads: two numbers and a list of calls; and how long that list may be. No conditions.
-/
import Derived.Test.YtfbkifkfhgkdbabSbFrame2
import Derived.Test.YtfbkifkfhgkdbabSbInv
import Derived.SizedLaws
import Derived.Deep.Slices
import Derived.Deep.Strs
namespace Go.Proofs.Ytfbkifkfhgkdbab.Sb
open Go.ChangeShapes Go.WideShapes Go.ChangeAt Go.RowKit Go.Deep Go.Joins
open Classical

theorem cellsX : Try.prog.cellsOf 24 = 3 := by kernel_rfl
theorem cellsL : Try.prog.cellsOf 22 = 1 := by kernel_rfl
theorem bytesO : Try.prog.bytesOf 49 = 40 := by kernel_rfl
theorem arr3 {α : Type} {a : Array α} (h : a.size = 3) : ∃ x y z, a = #[x, y, z] := by
  obtain ⟨l⟩ := a
  match l, h with
  | [x, y, z], _ => exact ⟨x, y, z, rfl⟩
theorem lt_of_cell {w : World} {b o : Nat} {v : Value} (h : w.cell? ⟨b, o, none⟩ = some v) : b < w.heap.size := by
  rcases Nat.lt_or_ge b w.heap.size with h1 | h1
  · exact h1
  · have : w.heap[b]? = none := Array.getElem?_eq_none h1
    simp [World.cell?, this] at h
theorem addr_none {w : World} {a : Addr} {v : Value} (h : w.cell? a = some v) : a.spot = none := by
  obtain ⟨g, o, sp⟩ := a
  cases sp with
  | none => rfl
  | some k => simp [World.cell?] at h; split at h <;> simp at h
theorem add_at (g p i j : Nat) : ((⟨g, p, none⟩ : Addr).add i).add j = ⟨g, p + i + j, none⟩ := by
  unfold Addr.add
  by_cases hi : i = 0 <;> by_cases hj : j = 0 <;> simp [hi, hj]

/-- a list of calls that reads as data, if it is not too long -/
theorem open_opl {H : Type} {enc : TypeId × Value → H} {w : World} {base : Nat} {spare : Nat → Bool} {held : Bool} {fuel : Nat} {c : Value} {y : DataW H × List MemPlace}
    (hf : DataW.trod enc Try.prog w base spare held fuel 22 [c] = some y) (hs : ∀ el sp, y.1 = .slice el sp → (el.length + sp.length) * 40 ≤ 140737488351232) : ∃ n, OpL w c n := by
  rcases open_slice Try.underlying22 hf with ⟨h1, h2⟩ | ⟨a, len, cap, m, n, D, Pl, h1, hb, hl, hm, hmm, hd, hx⟩
  · injection h1 with h1
    subst h1
    exact ⟨0, none, 0, rfl, by omega, .inl rfl⟩
  · injection h1 with h1
    subst h1
    have hz := hs _ _ (by rw [hd])
    simp only [List.length_map, List.length_range] at hz
    rw [cellsO] at hx
    have hlm : len ≤ m := by rw [hmm]; split <;> omega
    have hel : ∀ i, i < len → ∃ d pp pk s0 gn : Int, w.cell? ((a.add (i * 5)).add 0) = some (.int .i64 d) ∧ w.cell? ((a.add (i * 5)).add 1) = some (.int .i64 pp) ∧ w.cell? ((a.add (i * 5)).add 2) = some (.int .i64 pk) ∧ w.cell? ((a.add (i * 5)).add 3) = some (.int .i64 s0) ∧ w.cell? ((a.add (i * 5)).add 4) = some (.int .i64 gn) := by
      intro i hi
      obtain ⟨cs', h2, h3⟩ := hx i (by omega)
      obtain ⟨_, hlen, hc⟩ := World.cells?_some h2
      match cs', hlen with
      | [c0, c1, c2, c3, c4], _ =>
        obtain ⟨o, rfl, rfl, rfl, rfl, rfl⟩ := trod_op h3
        exact ⟨o.d, o.p, o.k, o.s, o.g, hc 0 (by omega), hc 1 (by omega), hc 2 (by omega), hc 3 (by omega), hc 4 (by omega)⟩
    refine ⟨len, some a, cap, rfl, by omega, ?_⟩
    rcases Nat.eq_zero_or_pos len with h0 | h0
    · exact .inl h0
    · right
      obtain ⟨g, o, sp⟩ := a
      have hsp : sp = none := by
        obtain ⟨_, _, _, _, _, hc, _⟩ := hel 0 h0
        have e : ((⟨g, o, sp⟩ : Addr).add (0 * 5)).add 0 = ⟨g, o, sp⟩ := by simp [Addr.add]
        rw [e] at hc
        exact addr_none hc
      subst hsp
      refine ⟨g, o, rfl, ?_, fun i hi => ?_⟩
      · obtain ⟨_, _, _, _, _, hc, _⟩ := hel 0 h0
        rw [add_at] at hc
        exact lt_of_cell hc
      · obtain ⟨x0, x1, x2, x3, x4, k0, k1, k2, k3, k4⟩ := hel i hi
        rw [add_at] at k0 k1 k2 k3 k4
        exact ⟨x0, x1, x2, x3, x4, k0, k1, k2, k3, k4⟩

theorem open_script {H : Type} {enc : TypeId × Value → H} {w : World} {base : Nat} {spare : Nat → Bool} {held : Bool} {r : Reach} {b0 : Nat} {v : Value} {d : DataW H} {p : List MemPlace} {ts : List TypeId} {ds : List (DataW H)} {j : Nat}
    (hv : Value.okWide Try.prog w r b0 24 v) (h : DataW.Trod enc Try.prog w base spare held 24 v d p) (hz : (DataW.weightsEach Try.prog ts ds).all (· ≤ reachBytes) = true) (ht : ts[j]? = some 24) (hd : ds[j]? = some d) :
    ∃ (l q : Int) (vo : Value) (n : Nat), v = .agg #[.int .i64 l, .int .i64 q, vo] ∧ OpL w vo n := by
  obtain ⟨cs, rfl, hsz⟩ := okWide_struct Try.underlying24 hv
  obtain ⟨c0, c1, c2, rfl⟩ := arr3 (hsz.trans cellsX)
  obtain ⟨fuel, hf⟩ := h
  obtain ⟨y0, y1, y2, n, hx, _, h0, h1, h2⟩ := trod_struct3 Try.underlying24 hf
  have h0' : DataW.trod enc Try.prog w base spare held n 3 [c0] = some y0 := by simpa [Value.cells, cellsI] using h0
  have h1' : DataW.trod enc Try.prog w base spare held n 3 [c1] = some y1 := by simpa [Value.cells, cellsI] using h1
  have h2' : DataW.trod enc Try.prog w base spare held n 22 [c2] = some y2 := by simpa [Value.cells, cellsL] using h2
  obtain ⟨l, e0, r0, _⟩ := DataW.trod_int Try.underlying3 h0'
  obtain ⟨q, e1, r1, _⟩ := DataW.trod_int Try.underlying3 h1'
  simp only [Prod.mk.injEq] at hx
  obtain ⟨k, hk⟩ := open_opl h2' (fun el sp e => by
    have e' : reachBytes = 140737488351232 := by decide
    rw [hx.1] at hd
    have := List.all_eq_true.1 hz _ (DataW.weights_mem_each ht hd ((el.length + sp.length) * Try.prog.bytesOf 49) (by simp [DataW.weights, DataW.weightsEach, Try.underlying24, Try.underlying22, e]))
    rw [bytesO] at this
    simp only [decide_eq_true_eq] at this
    omega)
  simp at e0 e1
  subst e0 e1
  exact ⟨l, q, c2, k, rfl, hk⟩
end Go.Proofs.Ytfbkifkfhgkdbab.Sb
