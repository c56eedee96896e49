/-
  How a list that is handed in reads, and what each step from a walk to a statement takes. No conditions.
-/
import Derived.Test.YtnpbehcfbceclaaGnList
import Derived.ProofKit
import Derived.OpenShut
import Derived.Carry
import Derived.Lib.SmallJoins
import Derived.Deep.Slices
import Derived.JoinedCond
namespace Go.Proofs.Ytnpbehcfbceclaa.Lt
open Go.ChangeShapes Go.WideShapes Go.ChangeAt Go.RowKit Go.Deep Go.Joins Wd
set_option maxRecDepth 100000

theorem own : ownKnob Try.prog.godebug = none := by kernel_rfl
theorem laid : laidOutB Try.prog = true := by kernel_rfl
theorem cellsI : Try.prog.cellsOf 3 = 1 := by kernel_rfl
theorem lt_of_cell {w : World} {b o : Nat} {v : Value} (h : w.cell? ⟨b, o, none⟩ = some v) : b < w.heap.size := by
  rcases Nat.lt_or_ge b w.heap.size with h1 | h1
  · exact h1
  · have : w.heap[b]? = none := Array.getElem?_eq_none h1
    simp [World.cell?, this] at h
theorem flat_inv {α : Type} {E : α → List Value} {K : Nat} (hK : ∀ x, (E x).length = K) : ∀ (xs : List α) (j : Nat) (x : Value), (xs.flatMap E)[j]? = some x → ∃ i k a, j = i * K + k ∧ xs[i]? = some a ∧ (E a)[k]? = some x := by
  intro xs
  induction xs with
  | nil => intro j x h; simp at h
  | cons a r ih =>
    intro j x h
    rw [List.flatMap_cons] at h
    rcases Nat.lt_or_ge j K with hj | hj
    · rw [List.getElem?_append_left (by rw [hK]; exact hj)] at h
      exact ⟨0, j, a, by omega, rfl, h⟩
    · rw [List.getElem?_append_right (by rw [hK]; exact hj), hK] at h
      obtain ⟨i, k, b, h1, h2, h3⟩ := ih _ _ h
      refine ⟨i + 1, k, b, ?_, h2, h3⟩
      rw [Nat.succ_mul]
      omega
theorem spot_none {w : World} {a : Addr} {v : Value} (h : w.cell? a = some v) : a.spot = none := by
  obtain ⟨g, o, sp⟩ := a
  cases sp with
  | none => rfl
  | some k => simp [World.cell?] at h; split at h <;> simp at h
section
variable {H : Type} {enc : TypeId × Value → H} {w : World} {base : Nat} {spare : Nat → Bool} {held : Bool}
/-- a slice of elements of K cells -/
theorem open_gen {α : Type} [Inhabited α] (E : α → List Value) {K : Nat} {t e : TypeId} {fuel : Nat} {c : Value} {y : DataW H × List MemPlace} (ht : Try.prog.underlying t = some (.slice e)) (hc : Try.prog.cellsOf e = K) (hK : ∀ x, (E x).length = K) (hK0 : 0 < K) (Q : α → DataW H → Prop)
    (he : ∀ n cs z, cs.length = K → DataW.trod enc Try.prog w base spare held n e cs = some z → ∃ x, cs = E x ∧ Q x z.1)
    (hf : DataW.trod enc Try.prog w base spare held fuel t [c] = some y) :
    ∃ xs : List α, Ls E (· < w.heap.size) w c xs ∧ ((xs = [] ∧ y.1 = .nil) ∨ ∃ el sp, y.1 = .slice el sp ∧ el.length = xs.length ∧ ∀ (i : Nat) (x : α), xs[i]? = some x → ∃ d, el[i]? = some d ∧ Q x d) := by
  rcases open_slice ht hf with ⟨h1, h2⟩ | ⟨a, len, cap, m, n, D, Pl, h1, hb, hl, hm, hmm, hd, hx⟩
  · injection h1 with h1
    subst h1
    exact ⟨[], Ls.nil _ _ _, .inl ⟨rfl, by rw [h2]⟩⟩
  · injection h1 with h1
    subst h1
    rw [hc] at hx
    have hlm : len ≤ m := by rw [hmm]; split <;> omega
    obtain ⟨X, hX⟩ := choose_lt (α := α) (n := len) (p := fun i x => (∀ j v, (E x)[j]? = some v → w.cell? ((a.add (i * K)).add j) = some v) ∧ Q x (D i)) (fun i hi => by
      obtain ⟨cs', h2, h3⟩ := hx i (by omega)
      obtain ⟨_, hlen, hcl⟩ := World.cells?_some h2
      obtain ⟨x, hcs, hq⟩ := he _ _ _ hlen h3
      subst hcs
      exact ⟨x, fun j v hv => (hcl j (by have := (List.getElem?_eq_some_iff.1 hv).1; omega)).trans hv, hq⟩)
    have gt : ∀ (i : Nat) (x : α), ((List.range len).map X)[i]? = some x → i < len ∧ x = X i := fun i x h => by
      rw [List.getElem?_map] at h
      rcases Nat.lt_or_ge i len with hi | hi
      · rw [List.getElem?_range hi] at h
        simp only [Option.map_some, Option.some.injEq] at h
        exact ⟨hi, h.symm⟩
      · rw [List.getElem?_eq_none (by simpa using hi)] at h
        cases h
    refine ⟨(List.range len).map X, ⟨some a, cap, by simp, ⟨by simpa using hl, fun e => by cases e⟩, ?_⟩, .inr ⟨_, _, by rw [hd], by simp, fun i x hi => ?_⟩⟩
    · rcases Nat.eq_zero_or_pos len with h0 | h0
      · left
        rw [h0]
        rfl
      · right
        obtain ⟨v0, hv0⟩ : ∃ v, (E (X 0))[0]? = some v := ⟨_, List.getElem?_eq_getElem (by rw [hK]; exact hK0)⟩
        have hz := (hX 0 h0).1 0 v0 hv0
        obtain ⟨g, o, sp⟩ := a
        have hsp : sp = none := by
          have e : ((⟨g, o, sp⟩ : Addr).add (0 * K)).add 0 = ⟨g, o, sp⟩ := by simp [Addr.add]
          rw [e] at hz
          exact spot_none hz
        subst hsp
        have hg : g < w.heap.size := by
          rw [add_none, add_none] at hz
          exact lt_of_cell hz
        refine ⟨g, o, rfl, hg, hg, fun j x hj => ?_⟩
        obtain ⟨i, k, b, rfl, h2, h3⟩ := flat_inv hK _ _ _ hj
        obtain ⟨hi, rfl⟩ := gt i b h2
        have := (hX i hi).1 k x h3
        rw [add_none, add_none] at this
        rwa [← Nat.add_assoc]
    · obtain ⟨h1, rfl⟩ := gt i x hi
      exact ⟨D i, by rw [List.getElem?_map, List.getElem?_range h1]; rfl, (hX i h1).2⟩
end
/-- a part's bulk is at most the whole's -/
theorem bulk_part {H : Type} {d : DataW H} {l : List (DataW H)} (h : d ∈ l) : Rows.uptoBulk d ≤ Rows.uptoBulkAll l := by
  induction l with
  | nil => cases h
  | cons x r ih =>
    simp only [Rows.uptoBulkAll]
    cases List.mem_cons.1 h with
    | inl e => subst e; omega
    | inr e => have := ih e; omega
theorem bulk_one {H : Type} (d : DataW H) : 1 ≤ Rows.uptoBulk d := by
  cases d with
  | lit l => cases l <;> simp [Rows.uptoBulk]
  | nil => simp [Rows.uptoBulk]
  | ptr d => simp [Rows.uptoBulk]
  | slice elems spare => simp [Rows.uptoBulk]
  | agg parts => simp [Rows.uptoBulk]
  | iface t d => simp [Rows.uptoBulk]
  | map entries => simp [Rows.uptoBulk]
  | held h => simp [Rows.uptoBulk]
theorem bulk_len {H : Type} (l : List (DataW H)) : l.length ≤ Rows.uptoBulkAll l := by
  induction l with
  | nil => simp [Rows.uptoBulkAll]
  | cons x r ih => have := bulk_one x; simp only [Rows.uptoBulkAll, List.length_cons]; omega
theorem bulk_slice {H : Type} (elems spare : List (DataW H)) : elems.length + spare.length + 1 ≤ Rows.uptoBulk (.slice elems spare) := by
  have h1 := bulk_len elems
  have h2 := bulk_len spare
  simp only [Rows.uptoBulk]
  omega

theorem post_law1 {H : Type} {enc : TypeId × Value → H} {f : Func} {s : ChangeSpec} {W W' : World} {v0 : Value} {d0 : DataW H} {p : List MemPlace} {t0 tb : TypeId}
    (hW : DataW.Whole enc Try.prog f.params.toList s.vars false W [v0] [d0] [] p) (hf : f.params.toList = [t0]) (hr : f.resultTypes = #[tb]) (hb : Try.prog.underlying tb = some .bool) (hs : s.vars = [])
    (hfn : s.fn H [d0] = { results := [.lit (.bool true)], args := [d0] }) (rd : Try.prog.readableRec t0 = true) (hl : t0 < Try.prog.types.size) (h0 : DataW.Trod enc Try.prog W 0 (fun _ => true) true t0 v0 d0 p)
    (k : Below W.heap.size W W') : s.post enc Try.prog f false true false false W #[v0] (.bool true) W' := by
  have hlt : ∀ x ∈ p, x.block < W.heap.size := fun x hx => hW.lt x hx
  refine ⟨[d0], [], p, [], p, [], hW, ?_, ?_, ?_, k.frame _, fun h => by cases h⟩
  · rw [hr, List.append_nil, hfn]
    exact trodAll_mk1 (shut_bool hb _)
  · rw [hf, List.append_nil, hfn]
    have := trodAll_mk1 (Below.trod laid rd hl h0 k hlt)
    simpa using this
  · rw [hs, List.append_nil, hfn]
    rfl
theorem post_law2 {H : Type} {enc : TypeId × Value → H} {f : Func} {s : ChangeSpec} {W W' : World} {v0 v1 : Value} {d0 d1 : DataW H} {p0 p1 : List MemPlace} {t0 t1 tb : TypeId}
    (hW : DataW.Whole enc Try.prog f.params.toList s.vars false W [v0, v1] [d0, d1] [] (p0 ++ p1)) (hf : f.params.toList = [t0, t1]) (hr : f.resultTypes = #[tb]) (hb : Try.prog.underlying tb = some .bool) (hs : s.vars = [])
    (hfn : s.fn H [d0, d1] = { results := [.lit (.bool true)], args := [d0, d1] }) (rd0 : Try.prog.readableRec t0 = true) (hl0 : t0 < Try.prog.types.size) (rd1 : Try.prog.readableRec t1 = true) (hl1 : t1 < Try.prog.types.size)
    (h0 : DataW.Trod enc Try.prog W 0 (fun _ => true) true t0 v0 d0 p0) (h1 : DataW.Trod enc Try.prog W 0 (fun _ => true) true t1 v1 d1 p1)
    (k : Below W.heap.size W W') : s.post enc Try.prog f false true false false W #[v0, v1] (.bool true) W' := by
  have hlt : ∀ x ∈ p0 ++ p1, x.block < W.heap.size := fun x hx => hW.lt x hx
  refine ⟨[d0, d1], [], p0 ++ p1, [], p0 ++ p1, [], hW, ?_, ?_, ?_, k.frame _, fun h => by cases h⟩
  · rw [hr, List.append_nil, hfn]
    exact trodAll_mk1 (shut_bool hb _)
  · rw [hf, List.append_nil, hfn]
    have := trodAll_mk2 (Below.trod laid rd0 hl0 h0 k (fun x hx => hlt x (List.mem_append_left _ hx))) (Below.trod laid rd1 hl1 h1 k (fun x hx => hlt x (List.mem_append_right _ hx)))
    simpa using this
  · rw [hs, List.append_nil, hfn]
    rfl
theorem post_law3 {H : Type} {enc : TypeId × Value → H} {f : Func} {s : ChangeSpec} {W W' : World} {v0 v1 v2 : Value} {d0 d1 d2 : DataW H} {p0 p1 p2 : List MemPlace} {t0 t1 t2 tb : TypeId}
    (hW : DataW.Whole enc Try.prog f.params.toList s.vars false W [v0, v1, v2] [d0, d1, d2] [] (p0 ++ p1 ++ p2)) (hf : f.params.toList = [t0, t1, t2]) (hr : f.resultTypes = #[tb]) (hb : Try.prog.underlying tb = some .bool) (hs : s.vars = [])
    (hfn : s.fn H [d0, d1, d2] = { results := [.lit (.bool true)], args := [d0, d1, d2] }) (rd0 : Try.prog.readableRec t0 = true) (hl0 : t0 < Try.prog.types.size) (rd1 : Try.prog.readableRec t1 = true) (hl1 : t1 < Try.prog.types.size) (rd2 : Try.prog.readableRec t2 = true) (hl2 : t2 < Try.prog.types.size)
    (h0 : DataW.Trod enc Try.prog W 0 (fun _ => true) true t0 v0 d0 p0) (h1 : DataW.Trod enc Try.prog W 0 (fun _ => true) true t1 v1 d1 p1) (h2 : DataW.Trod enc Try.prog W 0 (fun _ => true) true t2 v2 d2 p2)
    (k : Below W.heap.size W W') : s.post enc Try.prog f false true false false W #[v0, v1, v2] (.bool true) W' := by
  have hlt : ∀ x ∈ p0 ++ p1 ++ p2, x.block < W.heap.size := fun x hx => hW.lt x hx
  refine ⟨[d0, d1, d2], [], p0 ++ p1 ++ p2, [], p0 ++ p1 ++ p2, [], hW, ?_, ?_, ?_, k.frame _, fun h => by cases h⟩
  · rw [hr, List.append_nil, hfn]
    exact trodAll_mk1 (shut_bool hb _)
  · rw [hf, List.append_nil, hfn]
    have := trodAll_mk3 (Below.trod laid rd0 hl0 h0 k (fun x hx => hlt x (List.mem_append_left _ (List.mem_append_left _ hx)))) (Below.trod laid rd1 hl1 h1 k (fun x hx => hlt x (List.mem_append_left _ (List.mem_append_right _ hx)))) (Below.trod laid rd2 hl2 h2 k (fun x hx => hlt x (List.mem_append_right _ hx)))
    simpa using this
  · rw [hs, List.append_nil, hfn]
    rfl
/-- a list that is handed in -/
theorem open_sl {H : Type} {enc : TypeId × Value → H} {w : World} {base : Nat} {spare : Nat → Bool} {held : Bool} {α : Type} [Inhabited α] (E : α → List Value) {K B : Nat} {t e : TypeId} (hu : Try.prog.underlying t = some (.slice e)) (hc : Try.prog.cellsOf e = K) (hB : Try.prog.bytesOf e = B) (hK : ∀ x, (E x).length = K) (hK0 : 0 < K)
    (he : ∀ n cs (z : DataW H × List MemPlace), cs.length = K → DataW.trod enc Try.prog w base spare held n e cs = some z → ∃ x, cs = E x ∧ True)
    {r : Reach} {b0 : Nat} {v : Value} {d : DataW H} {p : List MemPlace} {ts : List TypeId} {ds : List (DataW H)} {j : Nat}
    (hv : Value.okWide Try.prog w r b0 t v) (h : DataW.Trod enc Try.prog w base spare held t v d p) (hz : (DataW.weightsEach Try.prog ts ds).all (· ≤ reachBytes) = true) (ht : ts[j]? = some t) (hd : ds[j]? = some d) :
    ∃ xs : List α, Ls E (· < w.heap.size) w v xs ∧ xs.length * B ≤ 140737488351232 := by
  obtain ⟨va, vl, vc, rfl⟩ := okWide_slice hu hv
  obtain ⟨fuel, hf⟩ := h
  have hf' : DataW.trod enc Try.prog w base spare held fuel t [.slice va vl vc] = some (d, p) := hf
  obtain ⟨xs, lx, sx⟩ := open_gen E hu hc hK hK0 (fun _ _ => True) he hf'
  refine ⟨xs, lx, ?_⟩
  rcases sx with ⟨e1, _⟩ | ⟨el, sp, e1, hle, _⟩
  · rw [e1]; simp
  · have e9 : d = .slice el sp := e1
    subst e9
    have := sized_slice hz ht hd hu
    rw [hB] at this
    have e' : reachBytes = 140737488351232 := by decide
    rw [e'] at this
    rw [← hle]
    have : el.length * B ≤ (el.length + sp.length) * B := Nat.mul_le_mul_right _ (by omega)
    omega
/-- the same, where all that is handed in is small -/
theorem open_slU {H : Type} {enc : TypeId × Value → H} {w : World} {base : Nat} {spare : Nat → Bool} {held : Bool} {α : Type} [Inhabited α] (E : α → List Value) {K : Nat} {t e : TypeId} (hu : Try.prog.underlying t = some (.slice e)) (hc : Try.prog.cellsOf e = K) (hK : ∀ x, (E x).length = K) (hK0 : 0 < K)
    (he : ∀ n cs (z : DataW H × List MemPlace), cs.length = K → DataW.trod enc Try.prog w base spare held n e cs = some z → ∃ x, cs = E x ∧ True)
    {r : Reach} {b0 : Nat} {v : Value} {d : DataW H} {p : List MemPlace} {ds : List (DataW H)}
    (hv : Value.okWide Try.prog w r b0 t v) (h : DataW.Trod enc Try.prog w base spare held t v d p) (hk : Rows.uptoSmall H ds = true) (hd : d ∈ ds) :
    ∃ xs : List α, Ls E (· < w.heap.size) w v xs ∧ xs.length ≤ 1048576 := by
  have hb : Rows.uptoBulkAll ds ≤ 1048576 := of_decide_eq_true hk
  have hb1 := Nat.le_trans (bulk_part hd) hb
  obtain ⟨va, vl, vc, rfl⟩ := okWide_slice hu hv
  obtain ⟨fuel, hf⟩ := h
  have hf' : DataW.trod enc Try.prog w base spare held fuel t [.slice va vl vc] = some (d, p) := hf
  obtain ⟨xs, lx, sx⟩ := open_gen E hu hc hK hK0 (fun _ _ => True) he hf'
  refine ⟨xs, lx, ?_⟩
  rcases sx with ⟨e1, _⟩ | ⟨el, sp, e1, hle, _⟩
  · rw [e1]; simp
  · have e9 : d = .slice el sp := e1
    subst e9
    have := bulk_slice el sp
    omega
end Go.Proofs.Ytnpbehcfbceclaa.Lt
