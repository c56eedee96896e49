/-
  How a list of those that wait, and a ring's state, handed in, read; and what a law of two arguments leaves. No conditions.
-/
import Derived.Test.YtfodjkdioddbjabRgFrame
import Derived.Test.YtfodjkdioddbjabRgList
import Derived.Deep.Slices
import Derived.Deep.Strs
namespace Go.Proofs.Ytfodjkdioddbjab.Rg
open Go.ChangeShapes Go.WideShapes Go.ChangeAt Go.RowKit Go.Deep Go.Joins

theorem cellsS : Try.prog.cellsOf 29 = 5 := by kernel_rfl
theorem cellsL : Try.prog.cellsOf 22 = 1 := by kernel_rfl
theorem cellsB : Try.prog.cellsOf 4 = 1 := by kernel_rfl

theorem array5 {α : Type} {a : Array α} (h : a.size = 5) : ∃ x y z u v, a = #[x, y, z, u, v] := by
  obtain ⟨l⟩ := a
  match l, h with
  | [x, y, z, u, v], _ => exact ⟨x, y, z, u, v, rfl⟩

/-- some that wait, element by element -/
theorem list_of (f : Nat → W3) (n : Nat) : ∃ xs : List W3, xs.length = n ∧ ∀ i x, xs[i]? = some x → x = f i := by
  refine ⟨(List.range n).map f, by simp, fun i x h => ?_⟩
  rw [List.getElem?_map] at h
  cases hr : (List.range n)[i]? with
  | none => rw [hr] at h; simp at h
  | some k =>
    rw [hr] at h
    simp only [Option.map_some, Option.some.injEq] at h
    have := List.getElem?_eq_some_iff.1 hr
    obtain ⟨hi, he⟩ := this
    rw [List.getElem_range] at he
    rw [← h, he]

theorem open_list {H : Type} {enc : TypeId × Value → H} {w : World} {base : Nat} {spare : Nat → Bool} {held : Bool} {fuel : Nat} {c : Value} {y : DataW H × List MemPlace}
    (hf : DataW.trod enc Try.prog w base spare held fuel 22 [c] = some y) : ∃ xs : List W3, Lst (fun _ => True) w c xs ∧ xs.length ≤ 9223372036854775807 := by
  rcases open_slice Try.underlying22 hf with ⟨h1, _⟩ | ⟨a, len, cap, m, n, D, Pl, h1, hb, hl, hm, hmm, _, hx⟩
  · injection h1 with h1
    subst h1
    exact ⟨[], Lst.nil _ _, by simp⟩
  · injection h1 with h1
    subst h1
    rw [cellsW] at hx
    have hlm : len ≤ m := by rw [hmm]; split <;> omega
    have hmax : len ≤ 9223372036854775807 := by unfold maxLen at hm; omega
    have hel : ∀ i, i < len → ∃ x : W3, w.cell? ((a.add (i * 3)).add 0) = some (.int .i64 x.s) ∧ w.cell? ((a.add (i * 3)).add 1) = some (.int .i64 x.g) ∧ w.cell? ((a.add (i * 3)).add 2) = some (.int .u64 x.t) := by
      intro i hi
      obtain ⟨cs', h2, h3⟩ := hx i (by omega)
      obtain ⟨_, hlen, hc⟩ := World.cells?_some h2
      match cs', hlen with
      | [c0, c1, c2], _ =>
        obtain ⟨x, rfl, rfl, rfl⟩ := trod_w3 h3
        exact ⟨x, hc 0 (by omega), hc 1 (by omega), hc 2 (by omega)⟩
    have hin : Inhabited W3 := ⟨W3.zero⟩
    obtain ⟨F, hF⟩ := choose_lt (α := W3) (p := fun i x => w.cell? ((a.add (i * 3)).add 0) = some (.int .i64 x.s) ∧ w.cell? ((a.add (i * 3)).add 1) = some (.int .i64 x.g) ∧ w.cell? ((a.add (i * 3)).add 2) = some (.int .u64 x.t)) hel
    obtain ⟨xs, hxl, hxs⟩ := list_of F len
    refine ⟨xs, ⟨some a, cap, by rw [hxl], ⟨by omega, fun h => by cases h⟩, ?_⟩, by omega⟩
    rcases Nat.eq_zero_or_pos len with h0 | h0
    · exact .inl (List.eq_nil_of_length_eq_zero (by omega))
    · right
      obtain ⟨g, o, sp⟩ := a
      have hsp : sp = none := by
        have := (hF 0 h0).1
        have e : ((⟨g, o, sp⟩ : Addr).add (0 * 3)).add 0 = ⟨g, o, sp⟩ := by simp [Addr.add]
        rw [e] at this
        cases sp with
        | none => rfl
        | some k => simp [World.cell?] at this; split at this <;> simp at this
      subst hsp
      have hadd : ∀ i j, ((⟨g, o, none⟩ : Addr).add i).add j = ⟨g, o + i + j, none⟩ := by
        intro i j
        unfold Addr.add
        by_cases hi : i = 0 <;> by_cases hj : j = 0 <;> simp [hi, hj]
      refine ⟨g, o, rfl, trivial, ?_, fun i x hi => ?_⟩
      · have := (hF 0 h0).1
        rw [hadd] at this
        exact World.block_lt_of_cell? w _ this
      · have hi' : i < len := by rw [← hxl]; exact (List.getElem?_eq_some_iff.1 hi).1
        have := hF i hi'
        rw [hadd, hadd, hadd] at this
        rw [hxs i x hi]
        exact this

theorem open_state {H : Type} {enc : TypeId × Value → H} {w : World} {base : Nat} {spare : Nat → Bool} {held : Bool} {r : Reach} {b0 : Nat} {v : Value} {d : DataW H} {p : List MemPlace}
    (hv : Value.okWide Try.prog w r b0 29 v) (h : DataW.Trod enc Try.prog w base spare held 29 v d p) :
    ∃ (sv : Value) (xs : List W3) (hs : Bool) (y : W3), v = .agg #[sv, .bool hs, .int .i64 y.s, .int .i64 y.g, .int .u64 y.t] ∧ Lst (fun _ => True) w sv xs ∧ xs.length ≤ 9223372036854775807 := by
  obtain ⟨cs, rfl, hsz⟩ := okWide_struct Try.underlying29 hv
  obtain ⟨c0, c1, c2, c3, c4, rfl⟩ := array5 (hsz.trans cellsS)
  obtain ⟨fuel, hf⟩ := h
  obtain ⟨y0, y1, y2, n, hx, _, h0, h1, h2⟩ := trod_struct3 Try.underlying29 hf
  have h0' : DataW.trod enc Try.prog w base spare held n 22 [c0] = some y0 := by simpa [Value.cells, cellsL] using h0
  have h1' : DataW.trod enc Try.prog w base spare held n 4 [c1] = some y1 := by simpa [Value.cells, cellsB] using h1
  have h2' : DataW.trod enc Try.prog w base spare held n 27 [c2, c3, c4] = some y2 := by simpa [Value.cells, cellsW] using h2
  obtain ⟨xs, hl, hm⟩ := open_list h0'
  obtain ⟨b, e1, _⟩ := DataW.trod_bool Try.underlying4 h1'
  obtain ⟨y, rfl, rfl, rfl⟩ := trod_w3 h2'
  simp at e1
  subst e1
  exact ⟨c0, xs, b, y, rfl, hl, hm⟩

theorem post_law2 {H : Type} {enc : TypeId × Value → H} {f : Func} {s : ChangeSpec} {W W' : World} {v0 v1 : Value} {d0 d1 : DataW H} {p0 p1 : List MemPlace} {t0 t1 tb : TypeId}
    (hW : DataW.Whole enc Try.prog f.params.toList s.vars false W [v0, v1] [d0, d1] [] (p0 ++ p1)) (hf : f.params.toList = [t0, t1]) (hr : f.resultTypes = #[tb]) (hb : Try.prog.underlying tb = some .bool) (hs : s.vars = [])
    (hfn : s.fn H [d0, d1] = { results := [.lit (.bool true)], args := [d0, d1] }) (rd0 : Try.prog.readableRec t0 = true) (hl0 : t0 < Try.prog.types.size) (rd1 : Try.prog.readableRec t1 = true) (hl1 : t1 < Try.prog.types.size)
    (h0 : DataW.Trod enc Try.prog W 0 (fun _ => true) true t0 v0 d0 p0) (h1 : DataW.Trod enc Try.prog W 0 (fun _ => true) true t1 v1 d1 p1)
    (k : Below W.heap.size W W') : s.post enc Try.prog f false true false false W #[v0, v1] (.bool true) W' := by
  have hlt : ∀ x ∈ p0 ++ p1, x.block < W.heap.size := fun x hx => hW.lt x hx
  refine ⟨[d0, d1], [], p0 ++ p1, [], p0 ++ p1, [], hW, ?_, ?_, ?_, k.frame _, fun h => by cases h⟩
  · rw [hr, List.append_nil, hfn]
    exact trodAll_mk1 (shut_bool hb _)
  · rw [hf, List.append_nil, hfn]
    have := trodAll_mk2 (Below.trod laid rd0 hl0 h0 k (fun x hx => hlt x (List.mem_append_left _ hx))) (Below.trod laid rd1 hl1 h1 k (fun x hx => hlt x (List.mem_append_right _ hx)))
    simpa using this
  · rw [hs, List.append_nil, hfn]
    rfl
end Go.Proofs.Ytfodjkdioddbjab.Rg
