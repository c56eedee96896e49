/-
  How a list of calls, handed in, reads. No conditions.
-/
import Derived.Test.YtfodjkdioddbjabRgFrame2
import Derived.Test.YtfodjkdioddbjabRgOpsList
import Derived.SizedLaws
namespace Go.Proofs.Ytfodjkdioddbjab.Rg
open Go.ChangeShapes Go.WideShapes Go.ChangeAt Go.RowKit Go.Deep Go.Joins

theorem cellsO : Try.prog.cellsOf 63 = 4 := by kernel_rfl
theorem bytesO : Try.prog.bytesOf 63 = 32 := by kernel_rfl

theorem ops_of (f : Nat → Int × W3) (n : Nat) : ∃ xs : List (Int × W3), xs.length = n ∧ ∀ i x, xs[i]? = some x → x = f i := by
  refine ⟨(List.range n).map f, by simp, fun i x h => ?_⟩
  rw [List.getElem?_map] at h
  cases hr : (List.range n)[i]? with
  | none => rw [hr] at h; simp at h
  | some k =>
    rw [hr] at h
    simp only [Option.map_some, Option.some.injEq] at h
    obtain ⟨hi, he⟩ := List.getElem?_eq_some_iff.1 hr
    rw [List.getElem_range] at he
    rw [← h, he]

theorem trod_op {H : Type} {enc : TypeId × Value → H} {w : World} {base : Nat} {spare : Nat → Bool} {held : Bool} {fuel : Nat} {c0 c1 c2 c3 : Value} {y : DataW H × List MemPlace}
    (hf : DataW.trod enc Try.prog w base spare held fuel 63 [c0, c1, c2, c3] = some y) :
    ∃ p : Int × W3, c0 = .int .i64 p.1 ∧ c1 = .int .i64 p.2.s ∧ c2 = .int .i64 p.2.g ∧ c3 = .int .u64 p.2.t := by
  obtain ⟨y0, y1, n, hx, _, h0, h1⟩ := trod_struct2 Try.underlying63 hf
  have h0' : DataW.trod enc Try.prog w base spare held n 3 [c0] = some y0 := by simpa [cellsI] using h0
  have h1' : DataW.trod enc Try.prog w base spare held n 27 [c1, c2, c3] = some y1 := by simpa [cellsW] using h1
  obtain ⟨d, e0, rfl, _⟩ := DataW.trod_int Try.underlying3 h0'
  obtain ⟨x, rfl, rfl, rfl⟩ := trod_w3 h1'
  simp at e0
  exact ⟨⟨d, x⟩, e0, rfl, rfl, rfl⟩

theorem open_ops {H : Type} {enc : TypeId × Value → H} {w : World} {base : Nat} {spare : Nat → Bool} {held : Bool} {r : Reach} {b0 : Nat} {v : Value} {d : DataW H} {p : List MemPlace}
    (hv : Value.okWide Try.prog w r b0 55 v) (h : DataW.Trod enc Try.prog w base spare held 55 v d p) :
    ∃ os : List (Int × W3), Ops w.heap.size w v os ∧ ((os = [] ∧ d = .nil) ∨ ∃ el sp, d = .slice el sp ∧ el.length = os.length) := by
  obtain ⟨fuel, hf⟩ := h
  obtain ⟨va, vl, vc, rfl⟩ := okWide_slice Try.underlying55 hv
  rcases open_slice Try.underlying55 hf with ⟨h1, h2⟩ | ⟨a, len, cap, m, n, D, Pl, h1, hb, hl, hm, hmm, hd, hx⟩
  · have e : Value.slice va vl vc = .slice none 0 0 := by simpa [Value.cells] using h1
    rw [e]
    injection h2 with h2 _
    exact ⟨[], ⟨none, 0, rfl, .inl rfl⟩, .inl ⟨rfl, h2⟩⟩
  · have e : Value.slice va vl vc = .slice (some a) len cap := by simpa [Value.cells] using h1
    rw [e]
    injection hd with hd _
    rw [cellsO] at hx
    have hlm : len ≤ m := by rw [hmm]; split <;> omega
    have hel : ∀ i, i < len → ∃ p : Int × W3, w.cell? ((a.add (i * 4)).add 0) = some (.int .i64 p.1) ∧ w.cell? ((a.add (i * 4)).add 1) = some (.int .i64 p.2.s) ∧ w.cell? ((a.add (i * 4)).add 2) = some (.int .i64 p.2.g) ∧ w.cell? ((a.add (i * 4)).add 3) = some (.int .u64 p.2.t) := by
      intro i hi
      obtain ⟨cs', h2, h3⟩ := hx i (by omega)
      obtain ⟨_, hlen, hc⟩ := World.cells?_some h2
      match cs', hlen with
      | [c0, c1, c2, c3], _ =>
        obtain ⟨x, rfl, rfl, rfl, rfl⟩ := trod_op h3
        exact ⟨x, hc 0 (by omega), hc 1 (by omega), hc 2 (by omega), hc 3 (by omega)⟩
    have hin : Inhabited (Int × W3) := ⟨(0, W3.zero)⟩
    obtain ⟨F, hF⟩ := choose_lt (α := Int × W3) (p := fun i p => w.cell? ((a.add (i * 4)).add 0) = some (.int .i64 p.1) ∧ w.cell? ((a.add (i * 4)).add 1) = some (.int .i64 p.2.s) ∧ w.cell? ((a.add (i * 4)).add 2) = some (.int .i64 p.2.g) ∧ w.cell? ((a.add (i * 4)).add 3) = some (.int .u64 p.2.t)) hel
    obtain ⟨xs, hxl, hxs⟩ := ops_of F len
    refine ⟨xs, ⟨some a, cap, by rw [hxl], ?_⟩, .inr ⟨_, _, hd, by simp [hxl]⟩⟩
    rcases Nat.eq_zero_or_pos len with h0 | h0
    · exact .inl (List.eq_nil_of_length_eq_zero (by omega))
    · right
      obtain ⟨g, o, sp⟩ := a
      have hsp : sp = none := by
        have := (hF 0 h0).1
        have e : ((⟨g, o, sp⟩ : Addr).add (0 * 4)).add 0 = ⟨g, o, sp⟩ := by simp [Addr.add]
        rw [e] at this
        cases sp with
        | none => rfl
        | some k => simp [World.cell?] at this; split at this <;> simp at this
      subst hsp
      have hadd : ∀ i j, ((⟨g, o, none⟩ : Addr).add i).add j = ⟨g, o + i + j, none⟩ := by
        intro i j
        unfold Addr.add
        by_cases hi : i = 0 <;> by_cases hj : j = 0 <;> simp [hi, hj]
      refine ⟨g, o, rfl, ?_, fun i x hi => ?_⟩
      · have := (hF 0 h0).1
        rw [hadd] at this
        exact World.block_lt_of_cell? w _ this
      · have hi' : i < len := by rw [← hxl]; exact (List.getElem?_eq_some_iff.1 hi).1
        have := hF i hi'
        rw [hadd, hadd, hadd, hadd] at this
        rw [hxs i x hi]
        exact this

/-- no more calls than the reach lets be -/
theorem ops_len {H : Type} {ts : List TypeId} {ds : List (DataW H)} {j : Nat} {d : DataW H} {os : List (Int × W3)} (h : (DataW.weightsEach Try.prog ts ds).all (· ≤ reachBytes) = true) (ht : ts[j]? = some 55) (hd : ds[j]? = some d)
    (ho : (os = [] ∧ d = .nil) ∨ ∃ el sp, d = .slice el sp ∧ el.length = os.length) : os.length * 32 ≤ 140737488351232 := by
  rcases ho with ⟨rfl, _⟩ | ⟨el, sp, rfl, hl⟩
  · simp
  · have := sized_slice h ht hd Try.underlying55
    rw [bytesO] at this
    have e : reachBytes = 140737488351232 := by decide
    rw [e] at this
    omega
end Go.Proofs.Ytfodjkdioddbjab.Rg
