/-
  What each step from a walk to a statement of layer 3 takes: how lists and calls that are handed in read; and that what lay there before the call is as it was. No conditions.
-/
import Derived.Test.YtphohfafehjafaaFfActs
import Derived.ProofKit
import Derived.OpenShut
import Derived.Carry
import Derived.Lib.SmallJoins
import Derived.Deep.Slices
import Derived.Deep.Strs
import Derived.SizedLaws
namespace Go.Proofs.Ytphohfafehjafaa.Ff
open Go.ChangeShapes Go.WideShapes Go.ChangeAt Go.RowKit Go.Deep Go.Joins

theorem own : ownKnob Try.prog.godebug = none := by kernel_rfl
theorem laid : laidOutB Try.prog = true := by kernel_rfl
theorem cellsW : Try.prog.cellsOf 33 = 3 := by kernel_rfl
theorem cellsG : Try.prog.cellsOf 30 = 2 := by kernel_rfl
theorem cellsI : Try.prog.cellsOf 3 = 1 := by kernel_rfl
theorem cellsU : Try.prog.cellsOf 31 = 1 := by kernel_rfl

theorem array3 {α : Type} {a : Array α} (h : a.size = 3) : ∃ x y z, a = #[x, y, z] := by
  obtain ⟨l⟩ := a
  match l, h with
  | [x, y, z], _ => exact ⟨x, y, z, rfl⟩

theorem trod_w3 {H : Type} {enc : TypeId × Value → H} {w : World} {base : Nat} {spare : Nat → Bool} {held : Bool} {fuel : Nat} {c0 c1 c2 : Value} {y : DataW H × List MemPlace}
    (hf : DataW.trod enc Try.prog w base spare held fuel 33 [c0, c1, c2] = some y) :
    ∃ x : W3, c0 = .int .i64 x.s ∧ c1 = .int .i64 x.g ∧ c2 = .int .u64 x.t := by
  obtain ⟨y0, y1, n, hx, _, h0, h1⟩ := trod_struct2 Try.underlying33 hf
  have h0' : DataW.trod enc Try.prog w base spare held n 30 [c0, c1] = some y0 := by simpa [cellsG] using h0
  have h1' : DataW.trod enc Try.prog w base spare held n 31 [c2] = some y1 := by simpa [cellsU] using h1
  obtain ⟨z0, z1, m, hz, _, k0, k1⟩ := trod_struct2 Try.underlying30 h0'
  have k0' : DataW.trod enc Try.prog w base spare held m 3 [c0] = some z0 := by simpa [cellsI] using k0
  have k1' : DataW.trod enc Try.prog w base spare held m 3 [c1] = some z1 := by simpa [cellsI] using k1
  obtain ⟨t, e0, rfl, _⟩ := DataW.trod_int Try.underlying31 h1'
  obtain ⟨s, e1, rfl, _⟩ := DataW.trod_int Try.underlying3 k0'
  obtain ⟨g, e2, rfl, _⟩ := DataW.trod_int Try.underlying3 k1'
  simp at e0 e1 e2
  exact ⟨⟨s, g, t⟩, e1, e2, e0⟩

theorem open_w3 {H : Type} {enc : TypeId × Value → H} {w : World} {base : Nat} {spare : Nat → Bool} {held : Bool} {r : Reach} {b0 : Nat} {v : Value} {d : DataW H} {p : List MemPlace}
    (hv : Value.okWide Try.prog w r b0 33 v) (h : DataW.Trod enc Try.prog w base spare held 33 v d p) :
    ∃ x : W3, v = .agg #[.int .i64 x.s, .int .i64 x.g, .int .u64 x.t] := by
  obtain ⟨cs, rfl, hsz⟩ := okWide_struct Try.underlying33 hv
  obtain ⟨c0, c1, c2, rfl⟩ := array3 (hsz.trans cellsW)
  obtain ⟨fuel, hf⟩ := h
  obtain ⟨x, rfl, rfl, rfl⟩ := trod_w3 (by simpa [Value.cells] using hf)
  exact ⟨x, rfl⟩

/-- what a law leaves behind a call that turned nothing that was there -/
theorem post_law1 {H : Type} {enc : TypeId × Value → H} {f : Func} {s : ChangeSpec} {W W' : World} {v0 : Value} {d0 : DataW H} {p : List MemPlace} {t0 tb : TypeId}
    (hW : DataW.Whole enc Try.prog f.params.toList s.vars false W [v0] [d0] [] p) (hf : f.params.toList = [t0]) (hr : f.resultTypes = #[tb]) (hb : Try.prog.underlying tb = some .bool) (hs : s.vars = [])
    (hfn : s.fn H [d0] = { results := [.lit (.bool true)], args := [d0] }) (rd : Try.prog.readableRec t0 = true) (hl : t0 < Try.prog.types.size) (h0 : DataW.Trod enc Try.prog W 0 (fun _ => true) true t0 v0 d0 p)
    (k : Below W.heap.size W W') : s.post enc Try.prog f false true false false W #[v0] (.bool true) W' := by
  have hlt : ∀ x ∈ p, x.block < W.heap.size := fun x hx => hW.lt x hx
  refine ⟨[d0], [], p, [], p, [], hW, ?_, ?_, ?_, k.frame _, fun h => by cases h⟩
  · rw [hr, List.append_nil, hfn]
    exact trodAll_mk1 (shut_bool hb _)
  · rw [hf, List.append_nil, hfn]
    have := trodAll_mk1 (Below.trod laid rd hl h0 k hlt)
    simpa using this
  · rw [hs, List.append_nil, hfn]
    rfl

theorem cellsL : Try.prog.cellsOf 26 = 1 := by kernel_rfl
theorem cellsB : Try.prog.cellsOf 4 = 1 := by kernel_rfl

/-- some that wait, element by element -/
theorem list_of (f : Nat → W3) (n : Nat) : ∃ xs : List W3, xs.length = n ∧ ∀ i x, xs[i]? = some x → x = f i := by
  refine ⟨(List.range n).map f, by simp, fun i x h => ?_⟩
  rw [List.getElem?_map] at h
  cases hr : (List.range n)[i]? with
  | none => rw [hr] at h; simp at h
  | some k =>
    rw [hr] at h
    simp only [Option.map_some, Option.some.injEq] at h
    have := List.getElem?_eq_some_iff.1 hr
    obtain ⟨hi, he⟩ := this
    rw [List.getElem_range] at he
    rw [← h, he]

theorem open_list {H : Type} {enc : TypeId × Value → H} {w : World} {base : Nat} {spare : Nat → Bool} {held : Bool} {fuel : Nat} {c : Value} {y : DataW H × List MemPlace}
    (hf : DataW.trod enc Try.prog w base spare held fuel 26 [c] = some y) : ∃ xs : List W3, Lst (fun _ => True) w c xs ∧ xs.length ≤ 9223372036854775807 := by
  rcases open_slice Try.underlying26 hf with ⟨h1, _⟩ | ⟨a, len, cap, m, n, D, Pl, h1, hb, hl, hm, hmm, _, hx⟩
  · injection h1 with h1
    subst h1
    exact ⟨[], Lst.nil _ _, by simp⟩
  · injection h1 with h1
    subst h1
    rw [cellsW] at hx
    have hlm : len ≤ m := by rw [hmm]; split <;> omega
    have hmax : len ≤ 9223372036854775807 := by unfold maxLen at hm; omega
    have hel : ∀ i, i < len → ∃ x : W3, w.cell? ((a.add (i * 3)).add 0) = some (.int .i64 x.s) ∧ w.cell? ((a.add (i * 3)).add 1) = some (.int .i64 x.g) ∧ w.cell? ((a.add (i * 3)).add 2) = some (.int .u64 x.t) := by
      intro i hi
      obtain ⟨cs', h2, h3⟩ := hx i (by omega)
      obtain ⟨_, hlen, hc⟩ := World.cells?_some h2
      match cs', hlen with
      | [c0, c1, c2], _ =>
        obtain ⟨x, rfl, rfl, rfl⟩ := trod_w3 h3
        exact ⟨x, hc 0 (by omega), hc 1 (by omega), hc 2 (by omega)⟩
    have hin : Inhabited W3 := ⟨W3.zero⟩
    obtain ⟨F, hF⟩ := choose_lt (α := W3) (p := fun i x => w.cell? ((a.add (i * 3)).add 0) = some (.int .i64 x.s) ∧ w.cell? ((a.add (i * 3)).add 1) = some (.int .i64 x.g) ∧ w.cell? ((a.add (i * 3)).add 2) = some (.int .u64 x.t)) hel
    obtain ⟨xs, hxl, hxs⟩ := list_of F len
    refine ⟨xs, ⟨some a, cap, by rw [hxl], ⟨by omega, fun h => by cases h⟩, ?_⟩, by omega⟩
    rcases Nat.eq_zero_or_pos len with h0 | h0
    · exact .inl (List.eq_nil_of_length_eq_zero (by omega))
    · right
      obtain ⟨g, o, sp⟩ := a
      have hsp : sp = none := by
        have := (hF 0 h0).1
        have e : ((⟨g, o, sp⟩ : Addr).add (0 * 3)).add 0 = ⟨g, o, sp⟩ := by simp [Addr.add]
        rw [e] at this
        cases sp with
        | none => rfl
        | some k => simp [World.cell?] at this; split at this <;> simp at this
      subst hsp
      have hadd : ∀ i j, ((⟨g, o, none⟩ : Addr).add i).add j = ⟨g, o + i + j, none⟩ := by
        intro i j
        unfold Addr.add
        by_cases hi : i = 0 <;> by_cases hj : j = 0 <;> simp [hi, hj]
      refine ⟨g, o, rfl, trivial, ?_, fun i x hi => ?_⟩
      · have := (hF 0 h0).1
        rw [hadd] at this
        exact World.block_lt_of_cell? w _ this
      · have hi' : i < len := by rw [← hxl]; exact (List.getElem?_eq_some_iff.1 hi).1
        have := hF i hi'
        rw [hadd, hadd, hadd] at this
        rw [hxs i x hi]
        exact this

theorem post_law2 {H : Type} {enc : TypeId × Value → H} {f : Func} {s : ChangeSpec} {W W' : World} {v0 v1 : Value} {d0 d1 : DataW H} {p0 p1 : List MemPlace} {t0 t1 tb : TypeId}
    (hW : DataW.Whole enc Try.prog f.params.toList s.vars false W [v0, v1] [d0, d1] [] (p0 ++ p1)) (hf : f.params.toList = [t0, t1]) (hr : f.resultTypes = #[tb]) (hb : Try.prog.underlying tb = some .bool) (hs : s.vars = [])
    (hfn : s.fn H [d0, d1] = { results := [.lit (.bool true)], args := [d0, d1] }) (rd0 : Try.prog.readableRec t0 = true) (hl0 : t0 < Try.prog.types.size) (rd1 : Try.prog.readableRec t1 = true) (hl1 : t1 < Try.prog.types.size)
    (h0 : DataW.Trod enc Try.prog W 0 (fun _ => true) true t0 v0 d0 p0) (h1 : DataW.Trod enc Try.prog W 0 (fun _ => true) true t1 v1 d1 p1)
    (k : Below W.heap.size W W') : s.post enc Try.prog f false true false false W #[v0, v1] (.bool true) W' := by
  have hlt : ∀ x ∈ p0 ++ p1, x.block < W.heap.size := fun x hx => hW.lt x hx
  refine ⟨[d0, d1], [], p0 ++ p1, [], p0 ++ p1, [], hW, ?_, ?_, ?_, k.frame _, fun h => by cases h⟩
  · rw [hr, List.append_nil, hfn]
    exact trodAll_mk1 (shut_bool hb _)
  · rw [hf, List.append_nil, hfn]
    have := trodAll_mk2 (Below.trod laid rd0 hl0 h0 k (fun x hx => hlt x (List.mem_append_left _ hx))) (Below.trod laid rd1 hl1 h1 k (fun x hx => hlt x (List.mem_append_right _ hx)))
    simpa using this
  · rw [hs, List.append_nil, hfn]
    rfl

theorem cellsO : Try.prog.cellsOf 35 = 6 := by kernel_rfl
theorem bytesO : Try.prog.bytesOf 35 = 48 := by kernel_rfl

theorem ops_of (f : Nat → A6) (n : Nat) : ∃ xs : List A6, xs.length = n ∧ ∀ i x, xs[i]? = some x → x = f i := by
  refine ⟨(List.range n).map f, by simp, fun i x h => ?_⟩
  rw [List.getElem?_map] at h
  cases hr : (List.range n)[i]? with
  | none => rw [hr] at h; simp at h
  | some k =>
    rw [hr] at h
    simp only [Option.map_some, Option.some.injEq] at h
    obtain ⟨hi, he⟩ := List.getElem?_eq_some_iff.1 hr
    rw [List.getElem_range] at he
    rw [← h, he]

theorem trod_op {H : Type} {enc : TypeId × Value → H} {w : World} {base : Nat} {spare : Nat → Bool} {held : Bool} {fuel : Nat} {c0 c1 c2 c3 c4 c5 : Value} {y : DataW H × List MemPlace}
    (hf : DataW.trod enc Try.prog w base spare held fuel 35 [c0, c1, c2, c3, c4, c5] = some y) :
    ∃ p : A6, c0 = .int .i64 p.d ∧ c1 = .int .i64 p.x.s ∧ c2 = .int .i64 p.x.g ∧ c3 = .int .u64 p.x.t ∧ c4 = .int .i64 p.p ∧ c5 = .int .i64 p.r := by
  obtain ⟨y0, y1, y2, y3, n, hx, _, h0, h1, h2, h3⟩ := trod_struct4 Try.underlying35 hf
  have h0' : DataW.trod enc Try.prog w base spare held n 3 [c0] = some y0 := by simpa [cellsI] using h0
  have h1' : DataW.trod enc Try.prog w base spare held n 33 [c1, c2, c3] = some y1 := by simpa [cellsW] using h1
  have h2' : DataW.trod enc Try.prog w base spare held n 3 [c4] = some y2 := by simpa [cellsI] using h2
  have h3' : DataW.trod enc Try.prog w base spare held n 3 [c5] = some y3 := by simpa [cellsI] using h3
  obtain ⟨d, e0, rfl, _⟩ := DataW.trod_int Try.underlying3 h0'
  obtain ⟨x, rfl, rfl, rfl⟩ := trod_w3 h1'
  obtain ⟨p, e2, rfl, _⟩ := DataW.trod_int Try.underlying3 h2'
  obtain ⟨r, e3, rfl, _⟩ := DataW.trod_int Try.underlying3 h3'
  simp at e0 e2 e3
  exact ⟨⟨d, x, p, r⟩, e0, rfl, rfl, rfl, e2, e3⟩

theorem array6 {α : Type} {a : Array α} (h : a.size = 6) : ∃ x y z u v t, a = #[x, y, z, u, v, t] := by
  obtain ⟨l⟩ := a
  match l, h with
  | [x, y, z, u, v, t], _ => exact ⟨x, y, z, u, v, t, rfl⟩
theorem open_act {H : Type} {enc : TypeId × Value → H} {w : World} {base : Nat} {spare : Nat → Bool} {held : Bool} {r : Reach} {b0 : Nat} {v : Value} {d : DataW H} {p : List MemPlace}
    (hv : Value.okWide Try.prog w r b0 35 v) (h : DataW.Trod enc Try.prog w base spare held 35 v d p) :
    ∃ a : A6, v = .agg #[.int .i64 a.d, .int .i64 a.x.s, .int .i64 a.x.g, .int .u64 a.x.t, .int .i64 a.p, .int .i64 a.r] := by
  obtain ⟨cs, rfl, hsz⟩ := okWide_struct Try.underlying35 hv
  obtain ⟨c0, c1, c2, c3, c4, c5, rfl⟩ := array6 (hsz.trans cellsO)
  obtain ⟨fuel, hf⟩ := h
  obtain ⟨a, rfl, rfl, rfl, rfl, rfl, rfl⟩ := trod_op (by simpa [Value.cells] using hf)
  exact ⟨a, rfl⟩

theorem open_ops {H : Type} {enc : TypeId × Value → H} {w : World} {base : Nat} {spare : Nat → Bool} {held : Bool} {r : Reach} {b0 : Nat} {v : Value} {d : DataW H} {p : List MemPlace}
    (hv : Value.okWide Try.prog w r b0 22 v) (h : DataW.Trod enc Try.prog w base spare held 22 v d p) :
    ∃ os : List A6, Ops w.heap.size w v os ∧ ((os = [] ∧ d = .nil) ∨ ∃ el sp, d = .slice el sp ∧ el.length = os.length) := by
  obtain ⟨fuel, hf⟩ := h
  obtain ⟨va, vl, vc, rfl⟩ := okWide_slice Try.underlying22 hv
  rcases open_slice Try.underlying22 hf with ⟨h1, h2⟩ | ⟨a, len, cap, m, n, D, Pl, h1, hb, hl, hm, hmm, hd, hx⟩
  · have e : Value.slice va vl vc = .slice none 0 0 := by simpa [Value.cells] using h1
    rw [e]
    injection h2 with h2 _
    exact ⟨[], ⟨none, 0, rfl, .inl rfl⟩, .inl ⟨rfl, h2⟩⟩
  · have e : Value.slice va vl vc = .slice (some a) len cap := by simpa [Value.cells] using h1
    rw [e]
    injection hd with hd _
    rw [cellsO] at hx
    have hlm : len ≤ m := by rw [hmm]; split <;> omega
    have hel : ∀ i, i < len → ∃ p : A6, w.cell? ((a.add (i * 6)).add 0) = some (.int .i64 p.d) ∧ w.cell? ((a.add (i * 6)).add 1) = some (.int .i64 p.x.s) ∧ w.cell? ((a.add (i * 6)).add 2) = some (.int .i64 p.x.g) ∧ w.cell? ((a.add (i * 6)).add 3) = some (.int .u64 p.x.t) ∧ w.cell? ((a.add (i * 6)).add 4) = some (.int .i64 p.p) ∧ w.cell? ((a.add (i * 6)).add 5) = some (.int .i64 p.r) := by
      intro i hi
      obtain ⟨cs', h2, h3⟩ := hx i (by omega)
      obtain ⟨_, hlen, hc⟩ := World.cells?_some h2
      match cs', hlen with
      | [c0, c1, c2, c3, c4, c5], _ =>
        obtain ⟨x, rfl, rfl, rfl, rfl, rfl, rfl⟩ := trod_op h3
        exact ⟨x, hc 0 (by omega), hc 1 (by omega), hc 2 (by omega), hc 3 (by omega), hc 4 (by omega), hc 5 (by omega)⟩
    have hin : Inhabited (A6) := ⟨⟨0, W3.zero, 0, 0⟩⟩
    obtain ⟨F, hF⟩ := choose_lt (α := A6) (p := fun i p => w.cell? ((a.add (i * 6)).add 0) = some (.int .i64 p.d) ∧ w.cell? ((a.add (i * 6)).add 1) = some (.int .i64 p.x.s) ∧ w.cell? ((a.add (i * 6)).add 2) = some (.int .i64 p.x.g) ∧ w.cell? ((a.add (i * 6)).add 3) = some (.int .u64 p.x.t) ∧ w.cell? ((a.add (i * 6)).add 4) = some (.int .i64 p.p) ∧ w.cell? ((a.add (i * 6)).add 5) = some (.int .i64 p.r)) hel
    obtain ⟨xs, hxl, hxs⟩ := ops_of F len
    refine ⟨xs, ⟨some a, cap, by rw [hxl], ?_⟩, .inr ⟨_, _, hd, by simp [hxl]⟩⟩
    rcases Nat.eq_zero_or_pos len with h0 | h0
    · exact .inl (List.eq_nil_of_length_eq_zero (by omega))
    · right
      obtain ⟨g, o, sp⟩ := a
      have hsp : sp = none := by
        have := (hF 0 h0).1
        have e : ((⟨g, o, sp⟩ : Addr).add (0 * 6)).add 0 = ⟨g, o, sp⟩ := by simp [Addr.add]
        rw [e] at this
        cases sp with
        | none => rfl
        | some k => simp [World.cell?] at this; split at this <;> simp at this
      subst hsp
      have hadd : ∀ i j, ((⟨g, o, none⟩ : Addr).add i).add j = ⟨g, o + i + j, none⟩ := by
        intro i j
        unfold Addr.add
        by_cases hi : i = 0 <;> by_cases hj : j = 0 <;> simp [hi, hj]
      refine ⟨g, o, rfl, ?_, fun i x hi => ?_⟩
      · have := (hF 0 h0).1
        rw [hadd] at this
        exact World.block_lt_of_cell? w _ this
      · have hi' : i < len := by rw [← hxl]; exact (List.getElem?_eq_some_iff.1 hi).1
        have := hF i hi'
        rw [hadd, hadd, hadd, hadd, hadd, hadd] at this
        rw [hxs i x hi]
        exact this

/-- no more calls than the reach lets be -/
theorem ops_len {H : Type} {ts : List TypeId} {ds : List (DataW H)} {j : Nat} {d : DataW H} {os : List A6} (h : (DataW.weightsEach Try.prog ts ds).all (· ≤ reachBytes) = true) (ht : ts[j]? = some 22) (hd : ds[j]? = some d)
    (ho : (os = [] ∧ d = .nil) ∨ ∃ el sp, d = .slice el sp ∧ el.length = os.length) : os.length * 48 ≤ 140737488351232 := by
  rcases ho with ⟨rfl, _⟩ | ⟨el, sp, rfl, hl⟩
  · simp
  · have := sized_slice h ht hd Try.underlying22
    rw [bytesO] at this
    have e : reachBytes = 140737488351232 := by decide
    rw [e] at this
    omega

theorem open_lst {H : Type} {enc : TypeId × Value → H} {w : World} {base : Nat} {spare : Nat → Bool} {held : Bool} {r : Reach} {b0 : Nat} {v : Value} {d : DataW H} {p : List MemPlace}
    (hv : Value.okWide Try.prog w r b0 26 v) (h : DataW.Trod enc Try.prog w base spare held 26 v d p) :
    ∃ xs : List W3, Lst (fun _ => True) w v xs ∧ ((xs = [] ∧ d = .nil) ∨ ∃ el sp, d = .slice el sp ∧ el.length = xs.length) := by
  obtain ⟨fuel, hf⟩ := h
  obtain ⟨va, vl, vc, rfl⟩ := okWide_slice Try.underlying26 hv
  have hf' : DataW.trod enc Try.prog w base spare held fuel 26 [.slice va vl vc] = some (d, p) := by simpa [Value.cells] using hf
  obtain ⟨xs, h1, _⟩ := open_list hf'
  refine ⟨xs, h1, ?_⟩
  obtain ⟨ao', cap', e', _⟩ := h1
  injection e' with e1 e2 e3
  rcases open_slice Try.underlying26 hf' with ⟨h3, h2⟩ | ⟨a, len, cap, m, n, D, Pl, h3, hb, hl, hm, hmm, hd, hx⟩
  · injection h3 with h3
    injection h3 with h4 h5 h6
    injection h2 with h2 _
    exact .inl ⟨List.eq_nil_of_length_eq_zero (by omega), h2⟩
  · injection h3 with h3
    injection h3 with h4 h5 h6
    injection hd with hd _
    exact .inr ⟨_, _, hd, by simp; omega⟩
theorem bytesW : Try.prog.bytesOf 33 = 24 := by kernel_rfl
theorem lst_len {H : Type} {ts : List TypeId} {ds : List (DataW H)} {j : Nat} {d : DataW H} {os : List W3} (h : (DataW.weightsEach Try.prog ts ds).all (· ≤ reachBytes) = true) (ht : ts[j]? = some 26) (hd : ds[j]? = some d)
    (ho : (os = [] ∧ d = .nil) ∨ ∃ el sp, d = .slice el sp ∧ el.length = os.length) : os.length * 24 ≤ 140737488351232 := by
  rcases ho with ⟨rfl, _⟩ | ⟨el, sp, rfl, hl⟩
  · simp
  · have := sized_slice h ht hd Try.underlying26
    rw [bytesW] at this
    have e : reachBytes = 140737488351232 := by decide
    rw [e] at this
    omega
end Go.Proofs.Ytphohfafehjafaa.Ff
