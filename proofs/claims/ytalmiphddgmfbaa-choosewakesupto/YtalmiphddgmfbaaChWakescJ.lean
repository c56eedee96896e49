/-
  ChooseWakes holds, where what it reads is small (the second form): for any states, any select and any calls behind it the call returns true, and its arguments read afterwards as they read before.
-/
import Derived.Test.YtalmiphddgmfbaaGnList
import Derived.ProofKit
import Derived.OpenShut
import Derived.Carry
import Derived.Lib.SmallJoins
import Derived.Deep.Slices
import Derived.JoinedCond
import Derived.Test.YtalmiphddgmfbaaCnBase
import Derived.Test.YtalmiphddgmfbaaCnMe
import Derived.Test.YtalmiphddgmfbaaCpAny
import Derived.Test.YtalmiphddgmfbaaChBaseJ
import Derived.Deep.Cut
namespace Go.Proofs.Ytalmiphddgmfbaa.Lt
open Go.ChangeShapes Go.WideShapes Go.ChangeAt Go.RowKit Go.Deep Go.Joins Wd
set_option maxRecDepth 100000

theorem own : ownKnob Try.prog.godebug = none := by kernel_rfl
theorem laid : laidOutB Try.prog = true := by kernel_rfl
theorem cellsI : Try.prog.cellsOf 3 = 1 := by kernel_rfl
theorem lt_of_cell {w : World} {b o : Nat} {v : Value} (h : w.cell? ⟨b, o, none⟩ = some v) : b < w.heap.size := by
  rcases Nat.lt_or_ge b w.heap.size with h1 | h1
  · exact h1
  · have : w.heap[b]? = none := Array.getElem?_eq_none h1
    simp [World.cell?, this] at h
theorem flat_inv {α : Type} {E : α → List Value} {K : Nat} (hK : ∀ x, (E x).length = K) : ∀ (xs : List α) (j : Nat) (x : Value), (xs.flatMap E)[j]? = some x → ∃ i k a, j = i * K + k ∧ xs[i]? = some a ∧ (E a)[k]? = some x := by
  intro xs
  induction xs with
  | nil => intro j x h; simp at h
  | cons a r ih =>
    intro j x h
    rw [List.flatMap_cons] at h
    rcases Nat.lt_or_ge j K with hj | hj
    · rw [List.getElem?_append_left (by rw [hK]; exact hj)] at h
      exact ⟨0, j, a, by omega, rfl, h⟩
    · rw [List.getElem?_append_right (by rw [hK]; exact hj), hK] at h
      obtain ⟨i, k, b, h1, h2, h3⟩ := ih _ _ h
      refine ⟨i + 1, k, b, ?_, h2, h3⟩
      rw [Nat.succ_mul]
      omega
theorem spot_none {w : World} {a : Addr} {v : Value} (h : w.cell? a = some v) : a.spot = none := by
  obtain ⟨g, o, sp⟩ := a
  cases sp with
  | none => rfl
  | some k => simp [World.cell?] at h; split at h <;> simp at h
section
variable {H : Type} {enc : TypeId × Value → H} {w : World} {base : Nat} {spare : Nat → Bool} {held : Bool}
/-- a slice of elements of K cells -/
theorem open_gen {α : Type} [Inhabited α] (E : α → List Value) {K : Nat} {t e : TypeId} {fuel : Nat} {c : Value} {y : DataW H × List MemPlace} (ht : Try.prog.underlying t = some (.slice e)) (hc : Try.prog.cellsOf e = K) (hK : ∀ x, (E x).length = K) (hK0 : 0 < K) (Q : α → DataW H → Prop)
    (he : ∀ n cs z, cs.length = K → DataW.trod enc Try.prog w base spare held n e cs = some z → ∃ x, cs = E x ∧ Q x z.1)
    (hf : DataW.trod enc Try.prog w base spare held fuel t [c] = some y) :
    ∃ xs : List α, Ls E (· < w.heap.size) w c xs ∧ ((xs = [] ∧ y.1 = .nil) ∨ ∃ el sp, y.1 = .slice el sp ∧ el.length = xs.length ∧ ∀ (i : Nat) (x : α), xs[i]? = some x → ∃ d, el[i]? = some d ∧ Q x d) := by
  rcases open_slice ht hf with ⟨h1, h2⟩ | ⟨a, len, cap, m, n, D, Pl, h1, hb, hl, hm, hmm, hd, hx⟩
  · injection h1 with h1
    subst h1
    exact ⟨[], Ls.nil _ _ _, .inl ⟨rfl, by rw [h2]⟩⟩
  · injection h1 with h1
    subst h1
    rw [hc] at hx
    have hlm : len ≤ m := by rw [hmm]; split <;> omega
    obtain ⟨X, hX⟩ := choose_lt (α := α) (n := len) (p := fun i x => (∀ j v, (E x)[j]? = some v → w.cell? ((a.add (i * K)).add j) = some v) ∧ Q x (D i)) (fun i hi => by
      obtain ⟨cs', h2, h3⟩ := hx i (by omega)
      obtain ⟨_, hlen, hcl⟩ := World.cells?_some h2
      obtain ⟨x, hcs, hq⟩ := he _ _ _ hlen h3
      subst hcs
      exact ⟨x, fun j v hv => (hcl j (by have := (List.getElem?_eq_some_iff.1 hv).1; omega)).trans hv, hq⟩)
    have gt : ∀ (i : Nat) (x : α), ((List.range len).map X)[i]? = some x → i < len ∧ x = X i := fun i x h => by
      rw [List.getElem?_map] at h
      rcases Nat.lt_or_ge i len with hi | hi
      · rw [List.getElem?_range hi] at h
        simp only [Option.map_some, Option.some.injEq] at h
        exact ⟨hi, h.symm⟩
      · rw [List.getElem?_eq_none (by simpa using hi)] at h
        cases h
    refine ⟨(List.range len).map X, ⟨some a, cap, by simp, ⟨by simpa using hl, fun e => by cases e⟩, ?_⟩, .inr ⟨_, _, by rw [hd], by simp, fun i x hi => ?_⟩⟩
    · rcases Nat.eq_zero_or_pos len with h0 | h0
      · left
        rw [h0]
        rfl
      · right
        obtain ⟨v0, hv0⟩ : ∃ v, (E (X 0))[0]? = some v := ⟨_, List.getElem?_eq_getElem (by rw [hK]; exact hK0)⟩
        have hz := (hX 0 h0).1 0 v0 hv0
        obtain ⟨g, o, sp⟩ := a
        have hsp : sp = none := by
          have e : ((⟨g, o, sp⟩ : Addr).add (0 * K)).add 0 = ⟨g, o, sp⟩ := by simp [Addr.add]
          rw [e] at hz
          exact spot_none hz
        subst hsp
        have hg : g < w.heap.size := by
          rw [add_none, add_none] at hz
          exact lt_of_cell hz
        refine ⟨g, o, rfl, hg, hg, fun j x hj => ?_⟩
        obtain ⟨i, k, b, rfl, h2, h3⟩ := flat_inv hK _ _ _ hj
        obtain ⟨hi, rfl⟩ := gt i b h2
        have := (hX i hi).1 k x h3
        rw [add_none, add_none] at this
        rwa [← Nat.add_assoc]
    · obtain ⟨h1, rfl⟩ := gt i x hi
      exact ⟨D i, by rw [List.getElem?_map, List.getElem?_range h1]; rfl, (hX i h1).2⟩
end
/-- a part's bulk is at most the whole's -/
theorem bulk_part {H : Type} {d : DataW H} {l : List (DataW H)} (h : d ∈ l) : Rows.uptoBulk d ≤ Rows.uptoBulkAll l := by
  induction l with
  | nil => cases h
  | cons x r ih =>
    simp only [Rows.uptoBulkAll]
    cases List.mem_cons.1 h with
    | inl e => subst e; omega
    | inr e => have := ih e; omega
theorem bulk_one {H : Type} (d : DataW H) : 1 ≤ Rows.uptoBulk d := by
  cases d with
  | lit l => cases l <;> simp [Rows.uptoBulk]
  | nil => simp [Rows.uptoBulk]
  | ptr d => simp [Rows.uptoBulk]
  | slice elems spare => simp [Rows.uptoBulk]
  | agg parts => simp [Rows.uptoBulk]
  | iface t d => simp [Rows.uptoBulk]
  | map entries => simp [Rows.uptoBulk]
  | held h => simp [Rows.uptoBulk]
theorem bulk_len {H : Type} (l : List (DataW H)) : l.length ≤ Rows.uptoBulkAll l := by
  induction l with
  | nil => simp [Rows.uptoBulkAll]
  | cons x r ih => have := bulk_one x; simp only [Rows.uptoBulkAll, List.length_cons]; omega
theorem bulk_slice {H : Type} (elems spare : List (DataW H)) : elems.length + spare.length + 1 ≤ Rows.uptoBulk (.slice elems spare) := by
  have h1 := bulk_len elems
  have h2 := bulk_len spare
  simp only [Rows.uptoBulk]
  omega

theorem post_law1 {H : Type} {enc : TypeId × Value → H} {f : Func} {s : ChangeSpec} {W W' : World} {v0 : Value} {d0 : DataW H} {p : List MemPlace} {t0 tb : TypeId}
    (hW : DataW.Whole enc Try.prog f.params.toList s.vars false W [v0] [d0] [] p) (hf : f.params.toList = [t0]) (hr : f.resultTypes = #[tb]) (hb : Try.prog.underlying tb = some .bool) (hs : s.vars = [])
    (hfn : s.fn H [d0] = { results := [.lit (.bool true)], args := [d0] }) (rd : Try.prog.readableRec t0 = true) (hl : t0 < Try.prog.types.size) (h0 : DataW.Trod enc Try.prog W 0 (fun _ => true) true t0 v0 d0 p)
    (k : Below W.heap.size W W') : s.post enc Try.prog f false true false false W #[v0] (.bool true) W' := by
  have hlt : ∀ x ∈ p, x.block < W.heap.size := fun x hx => hW.lt x hx
  refine ⟨[d0], [], p, [], p, [], hW, ?_, ?_, ?_, k.frame _, fun h => by cases h⟩
  · rw [hr, List.append_nil, hfn]
    exact trodAll_mk1 (shut_bool hb _)
  · rw [hf, List.append_nil, hfn]
    have := trodAll_mk1 (Below.trod laid rd hl h0 k hlt)
    simpa using this
  · rw [hs, List.append_nil, hfn]
    rfl
theorem post_law2 {H : Type} {enc : TypeId × Value → H} {f : Func} {s : ChangeSpec} {W W' : World} {v0 v1 : Value} {d0 d1 : DataW H} {p0 p1 : List MemPlace} {t0 t1 tb : TypeId}
    (hW : DataW.Whole enc Try.prog f.params.toList s.vars false W [v0, v1] [d0, d1] [] (p0 ++ p1)) (hf : f.params.toList = [t0, t1]) (hr : f.resultTypes = #[tb]) (hb : Try.prog.underlying tb = some .bool) (hs : s.vars = [])
    (hfn : s.fn H [d0, d1] = { results := [.lit (.bool true)], args := [d0, d1] }) (rd0 : Try.prog.readableRec t0 = true) (hl0 : t0 < Try.prog.types.size) (rd1 : Try.prog.readableRec t1 = true) (hl1 : t1 < Try.prog.types.size)
    (h0 : DataW.Trod enc Try.prog W 0 (fun _ => true) true t0 v0 d0 p0) (h1 : DataW.Trod enc Try.prog W 0 (fun _ => true) true t1 v1 d1 p1)
    (k : Below W.heap.size W W') : s.post enc Try.prog f false true false false W #[v0, v1] (.bool true) W' := by
  have hlt : ∀ x ∈ p0 ++ p1, x.block < W.heap.size := fun x hx => hW.lt x hx
  refine ⟨[d0, d1], [], p0 ++ p1, [], p0 ++ p1, [], hW, ?_, ?_, ?_, k.frame _, fun h => by cases h⟩
  · rw [hr, List.append_nil, hfn]
    exact trodAll_mk1 (shut_bool hb _)
  · rw [hf, List.append_nil, hfn]
    have := trodAll_mk2 (Below.trod laid rd0 hl0 h0 k (fun x hx => hlt x (List.mem_append_left _ hx))) (Below.trod laid rd1 hl1 h1 k (fun x hx => hlt x (List.mem_append_right _ hx)))
    simpa using this
  · rw [hs, List.append_nil, hfn]
    rfl
theorem post_law3 {H : Type} {enc : TypeId × Value → H} {f : Func} {s : ChangeSpec} {W W' : World} {v0 v1 v2 : Value} {d0 d1 d2 : DataW H} {p0 p1 p2 : List MemPlace} {t0 t1 t2 tb : TypeId}
    (hW : DataW.Whole enc Try.prog f.params.toList s.vars false W [v0, v1, v2] [d0, d1, d2] [] (p0 ++ p1 ++ p2)) (hf : f.params.toList = [t0, t1, t2]) (hr : f.resultTypes = #[tb]) (hb : Try.prog.underlying tb = some .bool) (hs : s.vars = [])
    (hfn : s.fn H [d0, d1, d2] = { results := [.lit (.bool true)], args := [d0, d1, d2] }) (rd0 : Try.prog.readableRec t0 = true) (hl0 : t0 < Try.prog.types.size) (rd1 : Try.prog.readableRec t1 = true) (hl1 : t1 < Try.prog.types.size) (rd2 : Try.prog.readableRec t2 = true) (hl2 : t2 < Try.prog.types.size)
    (h0 : DataW.Trod enc Try.prog W 0 (fun _ => true) true t0 v0 d0 p0) (h1 : DataW.Trod enc Try.prog W 0 (fun _ => true) true t1 v1 d1 p1) (h2 : DataW.Trod enc Try.prog W 0 (fun _ => true) true t2 v2 d2 p2)
    (k : Below W.heap.size W W') : s.post enc Try.prog f false true false false W #[v0, v1, v2] (.bool true) W' := by
  have hlt : ∀ x ∈ p0 ++ p1 ++ p2, x.block < W.heap.size := fun x hx => hW.lt x hx
  refine ⟨[d0, d1, d2], [], p0 ++ p1 ++ p2, [], p0 ++ p1 ++ p2, [], hW, ?_, ?_, ?_, k.frame _, fun h => by cases h⟩
  · rw [hr, List.append_nil, hfn]
    exact trodAll_mk1 (shut_bool hb _)
  · rw [hf, List.append_nil, hfn]
    have := trodAll_mk3 (Below.trod laid rd0 hl0 h0 k (fun x hx => hlt x (List.mem_append_left _ (List.mem_append_left _ hx)))) (Below.trod laid rd1 hl1 h1 k (fun x hx => hlt x (List.mem_append_left _ (List.mem_append_right _ hx)))) (Below.trod laid rd2 hl2 h2 k (fun x hx => hlt x (List.mem_append_right _ hx)))
    simpa using this
  · rw [hs, List.append_nil, hfn]
    rfl
/-- a list that is handed in -/
theorem open_sl {H : Type} {enc : TypeId × Value → H} {w : World} {base : Nat} {spare : Nat → Bool} {held : Bool} {α : Type} [Inhabited α] (E : α → List Value) {K B : Nat} {t e : TypeId} (hu : Try.prog.underlying t = some (.slice e)) (hc : Try.prog.cellsOf e = K) (hB : Try.prog.bytesOf e = B) (hK : ∀ x, (E x).length = K) (hK0 : 0 < K)
    (he : ∀ n cs (z : DataW H × List MemPlace), cs.length = K → DataW.trod enc Try.prog w base spare held n e cs = some z → ∃ x, cs = E x ∧ True)
    {r : Reach} {b0 : Nat} {v : Value} {d : DataW H} {p : List MemPlace} {ts : List TypeId} {ds : List (DataW H)} {j : Nat}
    (hv : Value.okWide Try.prog w r b0 t v) (h : DataW.Trod enc Try.prog w base spare held t v d p) (hz : (DataW.weightsEach Try.prog ts ds).all (· ≤ reachBytes) = true) (ht : ts[j]? = some t) (hd : ds[j]? = some d) :
    ∃ xs : List α, Ls E (· < w.heap.size) w v xs ∧ xs.length * B ≤ 140737488351232 := by
  obtain ⟨va, vl, vc, rfl⟩ := okWide_slice hu hv
  obtain ⟨fuel, hf⟩ := h
  have hf' : DataW.trod enc Try.prog w base spare held fuel t [.slice va vl vc] = some (d, p) := hf
  obtain ⟨xs, lx, sx⟩ := open_gen E hu hc hK hK0 (fun _ _ => True) he hf'
  refine ⟨xs, lx, ?_⟩
  rcases sx with ⟨e1, _⟩ | ⟨el, sp, e1, hle, _⟩
  · rw [e1]; simp
  · have e9 : d = .slice el sp := e1
    subst e9
    have := sized_slice hz ht hd hu
    rw [hB] at this
    have e' : reachBytes = 140737488351232 := by decide
    rw [e'] at this
    rw [← hle]
    have : el.length * B ≤ (el.length + sp.length) * B := Nat.mul_le_mul_right _ (by omega)
    omega
/-- the same, where all that is handed in is small -/
theorem open_slU {H : Type} {enc : TypeId × Value → H} {w : World} {base : Nat} {spare : Nat → Bool} {held : Bool} {α : Type} [Inhabited α] (E : α → List Value) {K : Nat} {t e : TypeId} (hu : Try.prog.underlying t = some (.slice e)) (hc : Try.prog.cellsOf e = K) (hK : ∀ x, (E x).length = K) (hK0 : 0 < K)
    (he : ∀ n cs (z : DataW H × List MemPlace), cs.length = K → DataW.trod enc Try.prog w base spare held n e cs = some z → ∃ x, cs = E x ∧ True)
    {r : Reach} {b0 : Nat} {v : Value} {d : DataW H} {p : List MemPlace} {ds : List (DataW H)}
    (hv : Value.okWide Try.prog w r b0 t v) (h : DataW.Trod enc Try.prog w base spare held t v d p) (hk : Rows.uptoSmall H ds = true) (hd : d ∈ ds) :
    ∃ xs : List α, Ls E (· < w.heap.size) w v xs ∧ xs.length ≤ 1048576 := by
  have hb : Rows.uptoBulkAll ds ≤ 1048576 := of_decide_eq_true hk
  have hb1 := Nat.le_trans (bulk_part hd) hb
  obtain ⟨va, vl, vc, rfl⟩ := okWide_slice hu hv
  obtain ⟨fuel, hf⟩ := h
  have hf' : DataW.trod enc Try.prog w base spare held fuel t [.slice va vl vc] = some (d, p) := hf
  obtain ⟨xs, lx, sx⟩ := open_gen E hu hc hK hK0 (fun _ _ => True) he hf'
  refine ⟨xs, lx, ?_⟩
  rcases sx with ⟨e1, _⟩ | ⟨el, sp, e1, hle, _⟩
  · rw [e1]; simp
  · have e9 : d = .slice el sp := e1
    subst e9
    have := bulk_slice el sp
    omega
end Go.Proofs.Ytalmiphddgmfbaa.Lt

namespace Go.Proofs.Ytalmiphddgmfbaa.Lt
open Go.ChangeShapes Go.WideShapes Go.ChangeAt Go.RowKit Go.Deep Go.Joins Wd
set_option maxRecDepth 100000

theorem cellsJ : Try.prog.cellsOf 2 = 1 := by kernel_rfl
theorem cellsB : Try.prog.cellsOf 4 = 1 := by kernel_rfl
def eBo (b : Bool) : List Value := [.bool b]
theorem eBo_len (b : Bool) : (eBo b).length = 1 := rfl
theorem wf_u8c {n : Int} (h : (Lit.int .u8 n).wf = true) : 0 ≤ n ∧ n ≤ 255 := by
  simp only [Lit.wf, IntKind.min, IntKind.max, IntKind.signed, IntKind.bits, Bool.and_eq_true] at h
  simp at h
  omega
section
variable {H : Type} {enc : TypeId × Value → H} {w : World} {base : Nat} {spare : Nat → Bool} {held : Bool}
theorem el_num (n : Nat) (cs : List Value) (z : DataW H × List MemPlace) (_hl : cs.length = 1) (h : DataW.trod enc Try.prog w base spare held n 2 cs = some z) : ∃ x : Int, cs = eI x ∧ True := by
  obtain ⟨x, e1, _, _⟩ := DataW.trod_int Try.underlying2 h
  exact ⟨x, by rw [e1]; rfl, trivial⟩
theorem el_bool (n : Nat) (cs : List Value) (z : DataW H × List MemPlace) (_hl : cs.length = 1) (h : DataW.trod enc Try.prog w base spare held n 4 cs = some z) : ∃ x : Bool, cs = eBo x ∧ True := by
  obtain ⟨x, e1, _⟩ := DataW.trod_bool Try.underlying4 h
  exact ⟨x, by rw [e1]; rfl, trivial⟩
end
end Go.Proofs.Ytalmiphddgmfbaa.Lt

namespace Go.Proofs.Ytalmiphddgmfbaa.Lt
open Go.ChangeShapes Go.WideShapes Go.ChangeAt Go.RowKit Go.Deep Go.Joins Wd
set_option maxRecDepth 100000

theorem cellsGd : Try.prog.cellsOf 38 = 2 := by kernel_rfl
theorem wf_i64c {n : Int} (h : (Lit.int .i64 n).wf = true) : -9223372036854775808 ≤ n ∧ n ≤ 9223372036854775807 := by
  simp only [Lit.wf, IntKind.min, IntKind.max, IntKind.signed, IntKind.bits, Bool.and_eq_true] at h
  simp at h
  omega
section
variable {H : Type} {enc : TypeId × Value → H} {w : World} {base : Nat} {spare : Nat → Bool} {held : Bool}
end
end Go.Proofs.Ytalmiphddgmfbaa.Lt

namespace Go.Proofs.Ytalmiphddgmfbaa.Lt
open Go.ChangeShapes Go.WideShapes Go.ChangeAt Go.RowKit Go.Deep Go.Joins Wd
set_option maxRecDepth 100000

theorem cellsWtr : Try.prog.cellsOf 101 = 4 := by kernel_rfl
theorem cellsChn : Try.prog.cellsOf 86 = 5 := by kernel_rfl
theorem cellsLJ : Try.prog.cellsOf 83 = 1 := by kernel_rfl
theorem cellsLW : Try.prog.cellsOf 84 = 1 := by kernel_rfl
/-- channels, one for each row -/
theorem pick_cs {H : Type} {K : Rw → Cn → Prop} : ∀ (xs : List Rw) (el : List (DataW H)), el.length = xs.length → (∀ (i : Nat) (x : Rw), xs[i]? = some x → ∃ d, el[i]? = some d ∧ ∃ c : Cn, K x c ∧ c.vs.length ≤ Rows.uptoBulk d ∧ wl c ≤ Rows.uptoBulk d) →
    ∃ cs : List Cn, xs.length = cs.length ∧ (∀ (i : Nat) (x : Rw) (c : Cn), xs[i]? = some x → cs[i]? = some c → K x c) ∧ tot cs ≤ Rows.uptoBulkAll el ∧ ∀ c ∈ cs, c.vs.length ≤ Rows.uptoBulkAll el := by
  intro xs
  induction xs with
  | nil => intro el _ _; exact ⟨[], rfl, fun i x c hx => by simp at hx, Nat.zero_le _, fun c hc => by cases hc⟩
  | cons x r ih =>
    intro el hl h
    cases el with
    | nil => simp at hl
    | cons d er =>
      obtain ⟨d0, e0, c, kc, h1, h2⟩ := h 0 x rfl
      rw [List.getElem?_cons_zero] at e0
      injection e0 with e0
      subst e0
      obtain ⟨cs, q1, q2, q3, q4⟩ := ih er (by simpa using hl) (fun i y hy => by
        obtain ⟨d1, e1, r1⟩ := h (i + 1) y (by rw [List.getElem?_cons_succ]; exact hy)
        rw [List.getElem?_cons_succ] at e1
        exact ⟨d1, e1, r1⟩)
      refine ⟨c :: cs, by rw [List.length_cons, List.length_cons, q1], ?_, ?_, ?_⟩
      · intro i y e hy he
        cases i with
        | zero =>
          rw [List.getElem?_cons_zero] at hy he
          injection hy with hy
          injection he with he
          subst hy he
          exact kc
        | succ i =>
          rw [List.getElem?_cons_succ] at hy he
          exact q2 i y e hy he
      · unfold tot at q3 ⊢
        rw [List.map_cons, List.sum_cons]
        simp only [Rows.uptoBulkAll]
        omega
      · intro e he
        simp only [Rows.uptoBulkAll]
        rcases List.mem_cons.1 he with q | q
        · subst q; omega
        · have := q4 e q; omega
section
variable {H : Type} {enc : TypeId × Value → H} {w : World} {base : Nat} {spare : Nat → Bool} {held : Bool}
theorem el_wt (n : Nat) (cs : List Value) (z : DataW H × List MemPlace) (hl : cs.length = 4) (h : DataW.trod enc Try.prog w base spare held n 101 cs = some z) : ∃ x : Wt, cs = eW x ∧ Gok x.s x.g := by
  obtain ⟨c0, c1, c2, c3, rfl⟩ : ∃ a b c d, cs = [a, b, c, d] := by
    match cs, hl with
    | [a, b, c, d], _ => exact ⟨a, b, c, d, rfl⟩
  obtain ⟨xs, n, _, _, _, hlen, hfs⟩ := DataW.trod_struct Try.underlying101 h
  match xs, hlen with
  | [y0, y1, y2], _ =>
    have h0 := hfs 0 _ rfl
    have h1 := hfs 1 _ rfl
    have h2 := hfs 2 _ rfl
    have h0' : DataW.trod enc Try.prog w base spare held n 38 [c0, c1] = some y0 := by simpa [Value.cells, cellsI, cellsJ, cellsGd] using h0
    have h1' : DataW.trod enc Try.prog w base spare held n 3 [c2] = some y1 := by simpa [Value.cells, cellsI, cellsJ, cellsGd] using h1
    have h2' : DataW.trod enc Try.prog w base spare held n 2 [c3] = some y2 := by simpa [Value.cells, cellsI, cellsJ, cellsGd] using h2
    obtain ⟨x2, e2, _, _⟩ := DataW.trod_int Try.underlying3 h1'
    obtain ⟨x3, e3, _, _⟩ := DataW.trod_int Try.underlying2 h2'
    obtain ⟨zs, m, _, _, _, hlen2, hgs⟩ := DataW.trod_struct Try.underlying38 h0'
    match zs, hlen2 with
    | [z0, z1], _ =>
      have k0 := hgs 0 _ rfl
      have k1 := hgs 1 _ rfl
      have k0' : DataW.trod enc Try.prog w base spare held m 3 [c0] = some z0 := by simpa [Value.cells, cellsI] using k0
      have k1' : DataW.trod enc Try.prog w base spare held m 3 [c1] = some z1 := by simpa [Value.cells, cellsI] using k1
      obtain ⟨x0, e0, _, w0⟩ := DataW.trod_int Try.underlying3 k0'
      obtain ⟨x1, e1, _, w1⟩ := DataW.trod_int Try.underlying3 k1'
      simp at e0 e1 e2 e3
      exact ⟨⟨x0, x1, x2, x3⟩, by rw [e0, e1, e2, e3]; rfl, wf_i64c w0, wf_i64c w1⟩
theorem len_bulk {α : Type} {xs : List α} {d : DataW H} {Q : α → DataW H → Prop} (h : (xs = [] ∧ d = .nil) ∨ ∃ el sp, d = .slice el sp ∧ el.length = xs.length ∧ ∀ (i : Nat) (x : α), xs[i]? = some x → ∃ d', el[i]? = some d' ∧ Q x d') : xs.length ≤ Rows.uptoBulk d ∧ ∀ x ∈ xs, ∃ d', Q x d' := by
  rcases h with ⟨e1, _⟩ | ⟨el, sp, e1, hle, hq⟩
  · rw [e1]; exact ⟨Nat.zero_le _, fun x hx => by cases hx⟩
  · rw [e1]
    have := bulk_slice el sp
    refine ⟨by omega, fun x hx => ?_⟩
    obtain ⟨i, hi⟩ := List.mem_iff_getElem?.1 hx
    obtain ⟨d', _, q⟩ := hq i x hi
    exact ⟨d', q⟩
theorem el_chan (n : Nat) (cs : List Value) (z : DataW H × List MemPlace) (hl : cs.length = 5) (h : DataW.trod enc Try.prog w base spare held n 86 cs = some z) :
    ∃ x : Rw, cs = eR x ∧ ∃ c : Cn, (Rd (· < w.heap.size) w x c ∧ ∀ y, y ∈ c.ss ∨ y ∈ c.rs → Gok y.s y.g) ∧ c.vs.length ≤ Rows.uptoBulk z.1 ∧ wl c ≤ Rows.uptoBulk z.1 := by
  have : Inhabited Wt := ⟨⟨0, 0, 0, 0⟩⟩
  obtain ⟨c0, c1, c2, c3, c4, rfl⟩ : ∃ a b c d e, cs = [a, b, c, d, e] := by
    match cs, hl with
    | [a, b, c, d, e], _ => exact ⟨a, b, c, d, e, rfl⟩
  obtain ⟨xs, n, _, hz, _, hlen, hfs⟩ := DataW.trod_struct Try.underlying86 h
  match xs, hlen with
  | [y0, y1, y2, y3, y4], _ =>
    have h0 := hfs 0 _ rfl
    have h1 := hfs 1 _ rfl
    have h2 := hfs 2 _ rfl
    have h3 := hfs 3 _ rfl
    have h4 := hfs 4 _ rfl
    have h0' : DataW.trod enc Try.prog w base spare held n 3 [c0] = some y0 := by simpa [Value.cells, cellsI, cellsLJ, cellsLW, cellsB] using h0
    have h1' : DataW.trod enc Try.prog w base spare held n 83 [c1] = some y1 := by simpa [Value.cells, cellsI, cellsLJ, cellsLW, cellsB] using h1
    have h2' : DataW.trod enc Try.prog w base spare held n 84 [c2] = some y2 := by simpa [Value.cells, cellsI, cellsLJ, cellsLW, cellsB] using h2
    have h3' : DataW.trod enc Try.prog w base spare held n 84 [c3] = some y3 := by simpa [Value.cells, cellsI, cellsLJ, cellsLW, cellsB] using h3
    have h4' : DataW.trod enc Try.prog w base spare held n 4 [c4] = some y4 := by simpa [Value.cells, cellsI, cellsLJ, cellsLW, cellsB] using h4
    obtain ⟨x0, e0, _, _⟩ := DataW.trod_int Try.underlying3 h0'
    obtain ⟨x4, e4, _⟩ := DataW.trod_bool Try.underlying4 h4'
    obtain ⟨vs, lv, sv⟩ := open_gen eI Try.underlying83 cellsJ eI_len (by omega) (fun _ _ => True) (fun n cs z hl h => el_num n cs z hl h) h1'
    obtain ⟨ss, ls, ts⟩ := open_gen eW Try.underlying84 cellsWtr eW_len (by omega) (fun x _ => Gok x.s x.g) (fun n cs z hl h => el_wt n cs z hl h) h2'
    obtain ⟨rs, lr, tr⟩ := open_gen eW Try.underlying84 cellsWtr eW_len (by omega) (fun x _ => Gok x.s x.g) (fun n cs z hl h => el_wt n cs z hl h) h3'
    have b1 := (len_bulk sv).1
    obtain ⟨b2, g2⟩ := len_bulk ts
    obtain ⟨b3, g3⟩ := len_bulk tr
    simp at e0 e4
    refine ⟨⟨x0, c1, c2, c3, x4⟩, by rw [e0, e4]; rfl, ⟨x0, vs, ss, rs, x4⟩, ⟨⟨rfl, rfl, lv, ls, lr⟩, ?_⟩, ?_, ?_⟩
    · intro y hy
      rcases hy with hy | hy
      · exact (g2 y hy).elim (fun _ q => q)
      · exact (g3 y hy).elim (fun _ q => q)
    · rw [hz]
      simp only [List.map_cons, List.map_nil, Rows.uptoBulk, Rows.uptoBulkAll]
      omega
    · rw [hz]
      unfold wl
      simp only [List.map_cons, List.map_nil, Rows.uptoBulk, Rows.uptoBulkAll]
      omega
/-- states that are handed in -/
theorem open_states {r : Reach} {b0 : Nat} {v : Value} {d : DataW H} {p : List MemPlace} {ds : List (DataW H)}
    (hv : Value.okWide Try.prog w r b0 36 v) (h : DataW.Trod enc Try.prog w base spare held 36 v d p) (hk : Rows.uptoSmall H ds = true) (hd : d ∈ ds) :
    ∃ cs : List Cn, Rds (· < w.heap.size) w v cs ∧ Bd cs ∧ tot cs ≤ 1048576 ∧ ∀ c ∈ cs, ∀ x, x ∈ c.ss ∨ x ∈ c.rs → Gok x.s x.g := by
  have : Inhabited Rw := ⟨⟨0, .slice none 0 0, .slice none 0 0, .slice none 0 0, false⟩⟩
  have hb : Rows.uptoBulkAll ds ≤ 1048576 := of_decide_eq_true hk
  have hb1 := Nat.le_trans (bulk_part hd) hb
  obtain ⟨va, vl, vc, rfl⟩ := okWide_slice Try.underlying36 hv
  obtain ⟨fuel, hf⟩ := h
  have hf' : DataW.trod enc Try.prog w base spare held fuel 36 [.slice va vl vc] = some (d, p) := hf
  obtain ⟨xs, lx, sx⟩ := open_gen eR Try.underlying36 cellsChn eR_len (by omega) (fun x d => ∃ c : Cn, (Rd (· < w.heap.size) w x c ∧ ∀ y, y ∈ c.ss ∨ y ∈ c.rs → Gok y.s y.g) ∧ c.vs.length ≤ Rows.uptoBulk d ∧ wl c ≤ Rows.uptoBulk d) (fun n cs z hl h => el_chan n cs z hl h) hf'
  have hx : ∃ (el : List (DataW H)), el.length = xs.length ∧ Rows.uptoBulkAll el ≤ 1048576 ∧ ∀ (i : Nat) (x : Rw), xs[i]? = some x → ∃ d, el[i]? = some d ∧ ∃ c : Cn, (Rd (· < w.heap.size) w x c ∧ ∀ y, y ∈ c.ss ∨ y ∈ c.rs → Gok y.s y.g) ∧ c.vs.length ≤ Rows.uptoBulk d ∧ wl c ≤ Rows.uptoBulk d := by
    rcases sx with ⟨e1, _⟩ | ⟨el, sp, e1, hle, hq⟩
    · exact ⟨[], by rw [e1]; rfl, by simp [Rows.uptoBulkAll], fun i x hx => by rw [e1] at hx; simp at hx⟩
    · have e9 : d = .slice el sp := e1
      subst e9
      refine ⟨el, hle, ?_, hq⟩
      simp only [Rows.uptoBulk] at hb1
      omega
  obtain ⟨el, hle, hel, hq⟩ := hx
  obtain ⟨cs, q1, q2, q3, q4⟩ := pick_cs (K := fun x c => Rd (· < w.heap.size) w x c ∧ ∀ y, y ∈ c.ss ∨ y ∈ c.rs → Gok y.s y.g) xs el hle hq
  have hln : cs.length ≤ 1048576 := by
    have := bulk_len el
    omega
  have hgk : ∀ c ∈ cs, ∀ x, x ∈ c.ss ∨ x ∈ c.rs → Gok x.s x.g := by
    intro c hc x hx
    obtain ⟨i, hi⟩ := List.mem_iff_getElem?.1 hc
    obtain ⟨y, hy⟩ : ∃ y, xs[i]? = some y := ⟨_, List.getElem?_eq_getElem (by rw [q1]; exact (List.getElem?_eq_some_iff.1 hi).1)⟩
    exact (q2 i y c hy hi).2 x hx
  have hwl : ∀ c ∈ cs, wl c ≤ 1048576 := fun c hc => Nat.le_trans (sum_mem (f := wl) hc) (Nat.le_trans q3 hel)
  refine ⟨cs, ⟨xs, lx, q1, fun i x c hx hc => (q2 i x c hx hc).1⟩, ⟨by omega, fun c hc => by have := q4 c hc; omega, fun c hc => by have := hwl c hc; unfold wl at this; omega, fun c hc => by have := hwl c hc; unfold wl at this; omega⟩, Nat.le_trans q3 hel, hgk⟩
end
end Go.Proofs.Ytalmiphddgmfbaa.Lt

namespace Go.Proofs.Ytalmiphddgmfbaa.Lt
open Go.ChangeShapes Go.WideShapes Go.ChangeAt Go.RowKit Go.Deep Go.Joins Wd
set_option maxRecDepth 100000

theorem cellsU : Try.prog.cellsOf 34 = 1 := by kernel_rfl
theorem bytesU : Try.prog.bytesOf 34 = 8 := by kernel_rfl
theorem bytesI : Try.prog.bytesOf 3 = 8 := by kernel_rfl
theorem wf_u64 {n : Int} (h : (Lit.int .u64 n).wf = true) : 0 ≤ n ∧ n ≤ 18446744073709551615 := by
  simp only [Lit.wf, IntKind.min, IntKind.max, IntKind.signed, IntKind.bits, Bool.and_eq_true] at h
  simp at h
  omega
section
variable {H : Type} {enc : TypeId × Value → H} {w : World} {base : Nat} {spare : Nat → Bool} {held : Bool}
theorem el_int (n : Nat) (cs : List Value) (z : DataW H × List MemPlace) (_hl : cs.length = 1) (h : DataW.trod enc Try.prog w base spare held n 3 cs = some z) : ∃ x : Int, cs = eI x ∧ True := by
  obtain ⟨x, e1, _, _⟩ := DataW.trod_int Try.underlying3 h
  exact ⟨x, by rw [e1]; rfl, trivial⟩
/-- draws that are handed in -/
theorem open_draws {r : Reach} {b0 : Nat} {v : Value} {d : DataW H} {p : List MemPlace} {ts : List TypeId} {ds : List (DataW H)} {j : Nat}
    (hv : Value.okWide Try.prog w r b0 22 v) (h : DataW.Trod enc Try.prog w base spare held 22 v d p) (hz : (DataW.weightsEach Try.prog ts ds).all (· ≤ reachBytes) = true) (ht : ts[j]? = some 22) (hd : ds[j]? = some d) :
    ∃ xs : List Int, Ls eU (· < w.heap.size) w v xs ∧ xs.length * 8 ≤ 140737488351232 ∧ Dok xs := by
  obtain ⟨va, vl, vc, rfl⟩ := okWide_slice Try.underlying22 hv
  obtain ⟨fuel, hf⟩ := h
  have hf' : DataW.trod enc Try.prog w base spare held fuel 22 [.slice va vl vc] = some (d, p) := hf
  obtain ⟨xs, lx, sx⟩ := open_gen eU Try.underlying22 cellsU eU_len (by omega) (fun x _ => 0 ≤ x ∧ x ≤ 18446744073709551615) (fun n cs z _ h => by
    obtain ⟨x, e1, _, hw⟩ := DataW.trod_int Try.underlying34 h
    exact ⟨x, by rw [e1]; rfl, wf_u64 hw⟩) hf'
  refine ⟨xs, lx, ?_, ?_⟩
  · rcases sx with ⟨e1, _⟩ | ⟨el, sp, e1, hle, _⟩
    · rw [e1]; simp
    · have e9 : d = .slice el sp := e1
      subst e9
      have := sized_slice hz ht hd Try.underlying22
      rw [bytesU] at this
      have e' : reachBytes = 140737488351232 := by decide
      rw [e'] at this
      rw [← hle]
      omega
  · intro x hx
    rcases sx with ⟨e1, _⟩ | ⟨el, sp, e1, hle, hq⟩
    · rw [e1] at hx; cases hx
    · obtain ⟨i, hi⟩ := List.mem_iff_getElem?.1 hx
      obtain ⟨_, _, h2⟩ := hq i x hi
      exact h2
end
end Go.Proofs.Ytalmiphddgmfbaa.Lt

namespace Go.Proofs.Ytalmiphddgmfbaa.Lt
open Go.ChangeShapes Go.WideShapes Go.ChangeAt Go.RowKit Go.Deep Go.Joins Wd
set_option maxRecDepth 100000

theorem cellsP : Try.prog.cellsOf 80 = 3 := by kernel_rfl
theorem cellsG : Try.prog.cellsOf 38 = 2 := by kernel_rfl
theorem cellsPs : Try.prog.cellsOf 39 = 1 := by kernel_rfl
theorem cellsDs : Try.prog.cellsOf 22 = 1 := by kernel_rfl
theorem cellsX : Try.prog.cellsOf 41 = 5 := by kernel_rfl
theorem wf_of {n : Int} (h : (Lit.int .i64 n).wf = true) : -9223372036854775808 ≤ n ∧ n ≤ 9223372036854775807 := wf_i64c h
section
variable {H : Type} {enc : TypeId × Value → H} {w : World} {base : Nat} {spare : Nat → Bool} {held : Bool}
theorem el_pick (n : Nat) (cs : List Value) (z : DataW H × List MemPlace) (hl : cs.length = 3) (h : DataW.trod enc Try.prog w base spare held n 80 cs = some z) : ∃ x : Pk, cs = eP x ∧ True := by
  obtain ⟨c0, c1, c2, rfl⟩ : ∃ a b c, cs = [a, b, c] := by
    match cs, hl with
    | [a, b, c], _ => exact ⟨a, b, c, rfl⟩
  obtain ⟨xs, n, _, _, _, hlen, hfs⟩ := DataW.trod_struct Try.underlying80 h
  match xs, hlen with
  | [y0, y1, y2], _ =>
    have h0 := hfs 0 _ rfl
    have h1 := hfs 1 _ rfl
    have h2 := hfs 2 _ rfl
    have h0' : DataW.trod enc Try.prog w base spare held n 4 [c0] = some y0 := by simpa [Value.cells, cellsB] using h0
    have h1' : DataW.trod enc Try.prog w base spare held n 2 [c1] = some y1 := by simpa [Value.cells, cellsJ] using h1
    have h2' : DataW.trod enc Try.prog w base spare held n 2 [c2] = some y2 := by simpa [Value.cells, cellsJ] using h2
    obtain ⟨x0, e0, _⟩ := DataW.trod_bool Try.underlying4 h0'
    obtain ⟨x1, e1, _, _⟩ := DataW.trod_int Try.underlying2 h1'
    obtain ⟨x2, e2, _, _⟩ := DataW.trod_int Try.underlying2 h2'
    simp at e0 e1 e2
    exact ⟨⟨x0, x1, x2⟩, by rw [e0, e1, e2]; rfl, trivial⟩
/-- a goroutine that is handed in -/
theorem el_gid (n : Nat) (cs : List Value) (z : DataW H × List MemPlace) (hl : cs.length = 2) (h : DataW.trod enc Try.prog w base spare held n 38 cs = some z) : ∃ s g : Int, cs = [.int .i64 s, .int .i64 g] ∧ Gok s g := by
  obtain ⟨c0, c1, rfl⟩ : ∃ a b, cs = [a, b] := by
    match cs, hl with
    | [a, b], _ => exact ⟨a, b, rfl⟩
  obtain ⟨xs, n, _, _, _, hlen, hfs⟩ := DataW.trod_struct Try.underlying38 h
  match xs, hlen with
  | [y0, y1], _ =>
    have h0 := hfs 0 _ rfl
    have h1 := hfs 1 _ rfl
    have h0' : DataW.trod enc Try.prog w base spare held n 3 [c0] = some y0 := by simpa [Value.cells, cellsI] using h0
    have h1' : DataW.trod enc Try.prog w base spare held n 3 [c1] = some y1 := by simpa [Value.cells, cellsI] using h1
    obtain ⟨x0, e0, _, w0⟩ := DataW.trod_int Try.underlying3 h0'
    obtain ⟨x1, e1, _, w1⟩ := DataW.trod_int Try.underlying3 h1'
    simp at e0 e1
    exact ⟨x0, x1, by rw [e0, e1], wf_of w0, wf_of w1⟩
/-- a select that is handed in -/
theorem open_askU {r : Reach} {b0 : Nat} {v : Value} {d : DataW H} {p : List MemPlace} (hv : Value.okWide Try.prog w r b0 41 v) (h : DataW.Trod enc Try.prog w base spare held 41 v d p) :
    ∃ (s g : Int) (vp : Value) (df : Bool) (vd : Value) (ps : List Pk) (xs : List Int), v = .agg #[.int .i64 s, .int .i64 g, vp, .bool df, vd] ∧ Gok s g ∧ Ls eP (· < w.heap.size) w vp ps ∧ Ls eU (· < w.heap.size) w vd xs ∧ Dok xs := by
  obtain ⟨vs, rfl, hsz⟩ := okWide_struct Try.underlying41 hv
  rw [cellsX] at hsz
  obtain ⟨fuel, hf⟩ := h
  obtain ⟨l⟩ := vs
  match l, hsz with
  | [c0, c1, c2, c3, c4], _ =>
    obtain ⟨ys, n, _, _, _, hlen, hfs⟩ := DataW.trod_struct Try.underlying41 hf
    match ys, hlen with
    | [y0, y1, y2, y3], _ =>
      have h0 := hfs 0 _ rfl
      have h1 := hfs 1 _ rfl
      have h2 := hfs 2 _ rfl
      have h3 := hfs 3 _ rfl
      have h0' : DataW.trod enc Try.prog w base spare held n 38 [c0, c1] = some y0 := by simpa [Value.cells, cellsG] using h0
      have h1' : DataW.trod enc Try.prog w base spare held n 39 [c2] = some y1 := by simpa [Value.cells, cellsPs] using h1
      have h2' : DataW.trod enc Try.prog w base spare held n 4 [c3] = some y2 := by simpa [Value.cells, cellsB] using h2
      have h3' : DataW.trod enc Try.prog w base spare held n 22 [c4] = some y3 := by simpa [Value.cells, cellsDs] using h3
      obtain ⟨s, g, e0, hg⟩ := el_gid n _ _ rfl h0'
      have : Inhabited Pk := ⟨⟨false, 0, 0⟩⟩
      obtain ⟨ps, lp, _⟩ := open_gen eP Try.underlying39 cellsP eP_len (by omega) (fun _ _ => True) (fun n cs z hl h => el_pick n cs z hl h) h1'
      obtain ⟨df, e2, _⟩ := DataW.trod_bool Try.underlying4 h2'
      obtain ⟨xs, lx, sx⟩ := open_gen eU Try.underlying22 cellsU eU_len (by omega) (fun x _ => 0 ≤ x ∧ x ≤ 18446744073709551615) (fun n cs z _ h => by
        obtain ⟨x, e1, _, hw⟩ := DataW.trod_int Try.underlying34 h
        exact ⟨x, by rw [e1]; rfl, wf_u64 hw⟩) h3'
      simp at e0 e2
      refine ⟨s, g, c2, df, c4, ps, xs, by rw [e0.1, e0.2, e2], hg, lp, lx, ?_⟩
      · intro x hx
        rcases sx with ⟨e1, _⟩ | ⟨el, sp, e1, hle, hq⟩
        · rw [e1] at hx; cases hx
        · obtain ⟨i, hi⟩ := List.mem_iff_getElem?.1 hx
          obtain ⟨_, _, h2⟩ := hq i x hi
          exact h2
end
end Go.Proofs.Ytalmiphddgmfbaa.Lt

namespace Go.Proofs.Ytalmiphddgmfbaa.Lt
open Go.ChangeShapes Go.WideShapes Go.ChangeAt Go.RowKit Go.Deep Go.Joins Wd
set_option maxRecDepth 100000

section
variable {H : Type} {enc : TypeId × Value → H} {w : World} {base : Nat} {spare : Nat → Bool} {held : Bool}
/-- a select that is handed in -/
theorem open_askB {r : Reach} {b0 : Nat} {v : Value} {d : DataW H} {p : List MemPlace} {ds : List (DataW H)} (hv : Value.okWide Try.prog w r b0 41 v) (h : DataW.Trod enc Try.prog w base spare held 41 v d p) (hk : Rows.uptoSmall H ds = true) (hd : d ∈ ds) :
    ∃ (s g : Int) (vp : Value) (df : Bool) (vd : Value) (ps : List Pk) (xs : List Int), v = .agg #[.int .i64 s, .int .i64 g, vp, .bool df, vd] ∧ Gok s g ∧ Ls eP (· < w.heap.size) w vp ps ∧ Ls eU (· < w.heap.size) w vd xs ∧ Dok xs ∧ ps.length ≤ 1048576 ∧ xs.length ≤ 1048576 := by
  have hb : Rows.uptoBulkAll ds ≤ 1048576 := of_decide_eq_true hk
  have hb1 := Nat.le_trans (bulk_part hd) hb
  obtain ⟨vs, rfl, hsz⟩ := okWide_struct Try.underlying41 hv
  rw [cellsX] at hsz
  obtain ⟨fuel, hf⟩ := h
  obtain ⟨l⟩ := vs
  match l, hsz with
  | [c0, c1, c2, c3, c4], _ =>
    obtain ⟨ys, n, _, hx9, _, hlen, hfs⟩ := DataW.trod_struct Try.underlying41 hf
    match ys, hlen with
    | [y0, y1, y2, y3], _ =>
      have h0 := hfs 0 _ rfl
      have h1 := hfs 1 _ rfl
      have h2 := hfs 2 _ rfl
      have h3 := hfs 3 _ rfl
      have h0' : DataW.trod enc Try.prog w base spare held n 38 [c0, c1] = some y0 := by simpa [Value.cells, cellsG] using h0
      have h1' : DataW.trod enc Try.prog w base spare held n 39 [c2] = some y1 := by simpa [Value.cells, cellsPs] using h1
      have h2' : DataW.trod enc Try.prog w base spare held n 4 [c3] = some y2 := by simpa [Value.cells, cellsB] using h2
      have h3' : DataW.trod enc Try.prog w base spare held n 22 [c4] = some y3 := by simpa [Value.cells, cellsDs] using h3
      obtain ⟨s, g, e0, hg⟩ := el_gid n _ _ rfl h0'
      have : Inhabited Pk := ⟨⟨false, 0, 0⟩⟩
      obtain ⟨ps, lp, sp⟩ := open_gen eP Try.underlying39 cellsP eP_len (by omega) (fun _ _ => True) (fun n cs z hl h => el_pick n cs z hl h) h1'
      obtain ⟨df, e2, _⟩ := DataW.trod_bool Try.underlying4 h2'
      obtain ⟨xs, lx, sx⟩ := open_gen eU Try.underlying22 cellsU eU_len (by omega) (fun x _ => 0 ≤ x ∧ x ≤ 18446744073709551615) (fun n cs z _ h => by
        obtain ⟨x, e1, _, hw⟩ := DataW.trod_int Try.underlying34 h
        exact ⟨x, by rw [e1]; rfl, wf_u64 hw⟩) h3'
      simp at e0 e2
      refine ⟨s, g, c2, df, c4, ps, xs, by rw [e0.1, e0.2, e2], hg, lp, lx, ?_, ?_⟩
      · intro x hx
        rcases sx with ⟨e1, _⟩ | ⟨el, sp, e1, hle, hq⟩
        · rw [e1] at hx; cases hx
        · obtain ⟨i, hi⟩ := List.mem_iff_getElem?.1 hx
          obtain ⟨_, _, h2⟩ := hq i x hi
          exact h2
      · have b1 := (len_bulk sp).1
        have b2 := (len_bulk sx).1
        have hdx : d = .agg [y0.1, y1.1, y2.1, y3.1] := by
          have := congrArg Prod.fst hx9
          simpa using this
        rw [hdx] at hb1
        simp only [Rows.uptoBulk, Rows.uptoBulkAll] at hb1
        omega
theorem cellsTh : Try.prog.cellsOf 63 = 5 := by kernel_rfl
theorem el_then (n : Nat) (cs : List Value) (z : DataW H × List MemPlace) (hl : cs.length = 5) (h : DataW.trod enc Try.prog w base spare held n 63 cs = some z) : ∃ x : Th, cs = eT x ∧ Gok x.s x.g := by
  obtain ⟨c0, c1, c2, c3, c4, rfl⟩ : ∃ a b c d e, cs = [a, b, c, d, e] := by
    match cs, hl with
    | [a, b, c, d, e], _ => exact ⟨a, b, c, d, e, rfl⟩
  obtain ⟨xs, n, _, _, _, hlen, hfs⟩ := DataW.trod_struct Try.underlying63 h
  match xs, hlen with
  | [y0, y1, y2, y3], _ =>
    have h0 := hfs 0 _ rfl
    have h1 := hfs 1 _ rfl
    have h2 := hfs 2 _ rfl
    have h3 := hfs 3 _ rfl
    have h0' : DataW.trod enc Try.prog w base spare held n 38 [c0, c1] = some y0 := by simpa [Value.cells, cellsG, cellsB, cellsJ] using h0
    have h1' : DataW.trod enc Try.prog w base spare held n 4 [c2] = some y1 := by simpa [Value.cells, cellsG, cellsB, cellsJ] using h1
    have h2' : DataW.trod enc Try.prog w base spare held n 2 [c3] = some y2 := by simpa [Value.cells, cellsG, cellsB, cellsJ] using h2
    have h3' : DataW.trod enc Try.prog w base spare held n 2 [c4] = some y3 := by simpa [Value.cells, cellsG, cellsB, cellsJ] using h3
    obtain ⟨s, g, e0, hg⟩ := el_gid n _ _ rfl h0'
    obtain ⟨x2, e2, _⟩ := DataW.trod_bool Try.underlying4 h1'
    obtain ⟨x3, e3, _, _⟩ := DataW.trod_int Try.underlying2 h2'
    obtain ⟨x4, e4, _, _⟩ := DataW.trod_int Try.underlying2 h3'
    simp at e0 e2 e3 e4
    exact ⟨⟨s, g, x2, x3, x4⟩, by rw [e0.1, e0.2, e2, e3, e4]; rfl, hg⟩
/-- what comes behind a select, as it is handed in -/
theorem open_thens {r : Reach} {b0 : Nat} {v : Value} {d : DataW H} {p : List MemPlace} {ds : List (DataW H)}
    (hv : Value.okWide Try.prog w r b0 61 v) (h : DataW.Trod enc Try.prog w base spare held 61 v d p) (hk : Rows.uptoSmall H ds = true) (hd : d ∈ ds) :
    ∃ xs : List Th, Ls eT (· < w.heap.size) w v xs ∧ xs.length ≤ 1048576 ∧ ∀ x ∈ xs, Gok x.s x.g := by
  have : Inhabited Th := ⟨⟨0, 0, false, 0, 0⟩⟩
  have hb : Rows.uptoBulkAll ds ≤ 1048576 := of_decide_eq_true hk
  have hb1 := Nat.le_trans (bulk_part hd) hb
  obtain ⟨va, vl, vc, rfl⟩ := okWide_slice Try.underlying61 hv
  obtain ⟨fuel, hf⟩ := h
  have hf' : DataW.trod enc Try.prog w base spare held fuel 61 [.slice va vl vc] = some (d, p) := hf
  obtain ⟨xs, lx, sx⟩ := open_gen eT Try.underlying61 cellsTh eT_len (by omega) (fun x _ => Gok x.s x.g) (fun n cs z hl h => el_then n cs z hl h) hf'
  obtain ⟨b1, g1⟩ := len_bulk sx
  exact ⟨xs, lx, Nat.le_trans b1 hb1, fun x hx => (g1 x hx).elim (fun _ q => q)⟩
end
end Go.Proofs.Ytalmiphddgmfbaa.Lt

namespace Go.Proofs.Ytalmiphddgmfbaa.Lt
open Go.RowKit Wd
attribute [local go_sem ↓] Go.wp_at_zero Go.wp_at_succ

/-- in the region that looks at one who was woken -/
structure Swk (A gz oz B : Nat) (v : Value) (x0 x1 s g : Int) (W : World) : Prop where
  s4 : W.cell? ⟨A, 4, none⟩ = some v
  e0 : W.cell? ⟨gz, oz, none⟩ = some (.int .i64 x0)
  e1 : W.cell? ⟨gz, oz + 1, none⟩ = some (.int .i64 x1)
  a0 : W.cell? ⟨B, 0, none⟩ = some (.int .i64 s)
  a1 : W.cell? ⟨B, 1, none⟩ = some (.int .i64 g)
  lA : A < W.heap.size
  lz : gz < W.heap.size
  lB : B < W.heap.size
theorem Swk.gr {A gz oz B : Nat} {v : Value} {x0 x1 s g : Int} {W W' : World} (h : Swk A gz oz B v x0 x1 s g W) (k : Gr W W') : Swk A gz oz B v x0 x1 s g W' :=
  ⟨(k.cell h.lA).trans h.s4, (k.cell h.lz).trans h.e0, (k.cell h.lz).trans h.e1, (k.cell h.lB).trans h.a0, (k.cell h.lB).trans h.a1, Nat.lt_of_lt_of_le h.lA k.size, Nat.lt_of_lt_of_le h.lz k.size, Nat.lt_of_lt_of_le h.lB k.size⟩
/-- a block that holds what was asked -/
structure Sbk (A : Nat) (R : Array Value) (W : World) : Prop where
  bx : W.heap[A]? = some (.cells R 41 (0, 0))
theorem Sbk.gr {A : Nat} {R : Array Value} {W W' : World} (h : Sbk A R W) (k : Gr W W') : Sbk A R W' := ⟨gr_blk h.bx k⟩
set_option maxRecDepth 40000 in
set_option maxHeartbeats 16000000 in
theorem wakes12_walk (P : Nat → Prop) (w : World) (lo ao dp tp : Option Addr) (n cap m2 ca k da m ta : Nat) (cs : List Cn) (s g : Int) (df : Bool) (ps : List Pk) (ds : List Int) (ts : List Th) (h : Rds P w (.slice lo n cap) cs) (hb : Bd cs) (ht : tot cs ≤ 1048576) (hg : ∀ c ∈ cs, ∀ x, x ∈ c.ss ∨ x ∈ c.rs → Gok x.s x.g) (hk : Gok s g) (hps : Ls eP (· < w.heap.size) w (.slice ao m2 ca) ps) (hds : Ls eU (· < w.heap.size) w (.slice dp k da) ds) (hd : Dok ds) (hth : Ls eT (· < w.heap.size) w (.slice tp m ta) ts) (htg : ∀ x ∈ ts, Gok x.s x.g) (hm : m ≤ 1048576) :
    Calls Try.prog 8 #[.slice lo n cap, .agg #[.int .i64 s, .int .i64 g, .slice ao m2 ca, .bool df, .slice dp k da], .slice tp m ta] w fun e w' => e = .returned (.bool true) ∧ Gr w w' := by
  obtain ⟨W0, hW0⟩ : ∃ W, W = w.alloc (.cells #[.int .i64 s, .int .i64 g, .slice ao m2 ca, .bool df, .slice dp k da] 41) := ⟨_, rfl⟩
  have G0 := hid (show Gr w W0 from by rw [hW0]; exact Ch.alloc (Gr.refl w) _)
  have BX := hid (show W0.heap[w.heap.size]? = some (.cells #[.int .i64 s, .int .i64 g, .slice ao m2 ca, .bool df, .slice dp k da] 41 (0, 0)) from by rw [hW0]; exact (MapKept.heap_alloc w _).1)
  have HLD := hid (load_any (h.gr G0.out) hb (by omega) hg)
  have HRL := hid (fun (W : World) (p : Gr w W) => rload_any (h.gr p) hb)
  have HLV := hid awake_any
  have HPS := hid hps
  have HDS := hid hds
  have HDD := hid hd
  have HK := hid hk
  have HGO := hid hg
  have HTO := hid ht
  have HTH := hid hth
  have HTL := hid hth.len.1
  have HTG := hid htg
  have HTM := hid hm
  clear h hb ht hg hps hds hk hd hth htg
  cases hz : ldB cs with
  | false =>
    have HZ := hid hz
    clear hz
    rw [hW0] at HLD
    go_enter Try.func8, Try.ntmps8
    go_wp2_with (first
      | (go_at_call 16; refine HLD.out.mono ?_; rintro e w1 ⟨-, no1, g1⟩; rw [← hW0] at g1; obtain rfl := no1 HZ.out; have G1 := hid (Gr.trans G0.out g1); clear no1 g1)
      | (go_at_call 17; refine (HRL.out _ G1.out).mono ?_; rintro e w2 ⟨-, no2, g2⟩; obtain rfl := no2 HZ.out; have G2 := hid (Gr.trans G1.out g2); clear no2 g2)
      | (go_at_call 12; refine (HLV.out _).mono ?_; rintro e w3 ⟨rfl, g3⟩; have G3 := hid (Gr.trans G2.out g3); clear g3))
    go_ret
    exact ⟨rfl, G3.out⟩
  | true =>
    have HZ := hid hz
    clear hz
    have HG0 := hid (ldB_gd HZ.out HTO.out HGO.out)
    obtain ⟨o, ho⟩ : ∃ o, o = selF cs s g ps df ds := ⟨_, rfl⟩
    have HSG := hid (HG0.out.sel HK.out ps df ds)
    have HKS := hid (sel_ks cs s g ps df ds)
    rw [← ho] at HSG HKS
    have HOO := hid ho
    clear ho
    rw [hW0] at HLD
    go_enter Try.func8, Try.ntmps8
    go_upto_region 7 with (first
      | (go_at_call 16; refine HLD.out.mono ?_; rintro e w1 ⟨yes1, -, g1⟩; rw [← hW0] at g1 yes1; obtain ⟨b, t1, rfl, c1, z1⟩ := yes1 HZ.out; have G1 := hid g1; have C1 := hid c1; have Z1 := hid z1; clear yes1 g1 c1 z1)
      | (go_at_call 17; refine (HRL.out _ (Gr.trans G0.out G1.out)).mono ?_; rintro e w2 ⟨yes2, -, g2⟩; obtain ⟨v2, rfl, n2⟩ := yes2 HZ.out; have R2 := hid (n2.rds.mono (Q := fun q => t1 q = .no) (fun q _ hq => cs_hi C1.out q hq)); have C2 := hid (C1.out.gr g2); have G2 := hid (Gr.trans G1.out g2); clear yes2 n2 g2))
    clear C1 G1 HLD HRL hW0
    have BX2 := hid (gr_blk BX.out G2.out)
    have a0 := cell_of BX2.out 0
    have a1 := cell_of BX2.out 1
    have a2 := cell_of BX2.out 2
    have a3 := cell_of BX2.out 3
    have a4 := cell_of BX2.out 4
    have la := lt_of_block BX2.out
    simp at a0 a1 a2 a3 a4
    have HNX := hid (Z1.out w.heap.size (lt_of_block BX.out))
    have SW := hid (show w.heap.size < W0.heap.size from lt_of_block BX.out)
    have HSL := hid (select_any C2.out HG0.out (by omega) HK.out _ _ _ _ ps df ds (HPS.out.gr (Gr.trans G0.out G2.out)) (fun q hq => Z1.out q (Nat.lt_trans hq SW.out)) (HDS.out.gr (Gr.trans G0.out G2.out)) HDD.out)
    rw [← HOO.out] at HSL
    go_upto_region 8 with (go_at_call 18; refine HSL.out.mono ?_; rintro e w3 ⟨no, nn, nc, rfl, lk3, t3, c3, n3, -⟩; have LK3 := hid lk3; have C3 := hid c3; have N3 := hid n3; clear lk3 c3 n3)
    clear a0 a1 a2 a3 a4 la HSL
    obtain ⟨W4, hW4⟩ : ∃ W, W = w3.alloc (.cells #[.int .i64 o.k, .bool o.df, .bool o.o.wa, .int .i64 o.o.va, .bool o.o.ok, .int .i64 o.o.tr, .slice no nn nc] 52) := ⟨_, rfl⟩
    have G4 := hid (show Gr w3 W4 from by rw [hW4]; exact Ch.alloc (Gr.refl w3) _)
    have MA4 := hid (show W4.heap[w3.heap.size]? = some (.cells #[.int .i64 o.k, .bool o.df, .bool o.o.wa, .int .i64 o.o.va, .bool o.o.ok, .int .i64 o.o.tr, .slice no nn nc] 52 (0, 0)) from by rw [hW4]; exact (MapKept.heap_alloc w3 _).1)
    rw [← hW4]
    clear hW4
    have BX4 := hid (gr_blk ((N3.out.c.block _ (lt_of_block BX2.out) (fun q => q HNX.out)).trans BX2.out) G4.out)
    have a0 := cell_of BX4.out 0
    have a1 := cell_of BX4.out 1
    have a2 := cell_of BX4.out 2
    have a3 := cell_of BX4.out 3
    have a4 := cell_of BX4.out 4
    have la := lt_of_block BX4.out
    simp at a0 a1 a2 a3 a4
    obtain ⟨g3, z3⟩ := Tn.base Z1.out G2.out N3.out
    have GW4 := hid (Gr.trans G0.out (Gr.trans g3 G4.out))
    have Z3 := hid z3
    have GW3 := hid g3
    clear g3 z3
    have R4 := hid (((R2.out.mono (Q := fun q => t1 q = .no ∧ q < w2.heap.size) (fun q hq hp => ⟨hp, hq⟩)).ch N3.out.c (fun q _ hq hs => hs hq.1)).gr G4.out)
    have HRS := hid (rselect_any R4.out HG0.out (by omega) HK.out (HPS.out.gr GW4.out) (HDS.out.gr GW4.out) HDD.out df)
    rw [← HOO.out] at HRS
    go_upto_region 9 with (go_at_call 19; refine HRS.out.mono ?_; rintro e w5 ⟨v5, mo, mn, mc, rfl, lk5, rd5, g5⟩; have LK5 := hid lk5; have RD5 := hid rd5; have G5 := hid g5; clear lk5 rd5 g5)
    clear a0 a1 a2 a3 a4 la HRS BX4 BX2
    obtain ⟨W6, hW6⟩ : ∃ W, W = w5.alloc (.cells #[.int .i64 o.k, .bool o.df, .bool o.o.wa, .int .i64 o.o.va, .bool o.o.ok, .int .i64 o.o.tr, .slice mo mn mc] 52) := ⟨_, rfl⟩
    have G6 := hid (show Gr w5 W6 from by rw [hW6]; exact Ch.alloc (Gr.refl w5) _)
    have MB6 := hid (show W6.heap[w5.heap.size]? = some (.cells #[.int .i64 o.k, .bool o.df, .bool o.o.wa, .int .i64 o.o.va, .bool o.o.ok, .int .i64 o.o.tr, .slice mo mn mc] 52 (0, 0)) from by rw [hW6]; exact (MapKept.heap_alloc w5 _).1)
    rw [← hW6]
    clear hW6
    have MA6 := hid (gr_blk MA4.out (Gr.trans G5.out G6.out))
    have e1 : nn = mn := by have h1 := LK3.out.len.1; have h2 := LK5.out.len.1; omega
    subst e1
    have HSM := hid (rsamec_any _ _ W6 o.k o.df o.o.wa o.o.ok o.o.va o.o.tr no mo nn nc mc o.o.ks (LK3.out.gr (Gr.trans G4.out (Gr.trans G5.out G6.out))) (LK5.out.gr G6.out) (by have h1 := LK5.out.len.1; have h2 := HKS.out; omega))
    have C7 := hid (C3.out.gr (Gr.trans G4.out (Gr.trans G5.out G6.out)))
    have R7 := hid (show Rds (fun q => t3 q = .no) W6 v5 o.o.cs from (RD5.out.gr G6.out).mono (fun q _ hq => by
      rcases hq with hq | hq
      · exact N3.out.o q hq.2 hq.1
      · exact cs_hi C3.out q (Nat.le_trans G4.out.size hq)))
    have GX6 := hid (show Gr W0 W6 from Gr.trans GW3.out (Gr.trans G4.out (Gr.trans G5.out G6.out)))
    clear C3 RD5 R4 R2 C2 Z1 N3 LK3 LK5 HPS HDS HDD
    go_wp2_with (first
      | (refine ld_rowM (by kernel_rfl) 52 (.tmp 11) rfl w3.heap.size rfl _ _ _ _ MA6.out Try.underlying52 rfl cho_size ?_; simp only [Act.put, List.setIfInBounds_toArray, List.set_cons_zero, List.set_cons_succ])
      | (refine ld_rowM (by kernel_rfl) 52 (.tmp 13) rfl w5.heap.size rfl _ _ _ _ MB6.out Try.underlying52 rfl cho_size ?_; simp only [Act.put, List.setIfInBounds_toArray, List.set_cons_zero, List.set_cons_succ])
      | (refine notG (by kernel_rfl) (.tmp 71) true rfl rfl ?_; simp only [Act.put, List.setIfInBounds_toArray, List.set_cons_zero, List.set_cons_succ])
      | (refine callG (by kernel_rfl) 20 #[.tmp 69, .tmp 70] _ rfl #[.agg #[.int .i64 o.k, .bool o.df, .bool o.o.wa, .int .i64 o.o.va, .bool o.o.ok, .int .i64 o.o.tr, .slice no nn nc], .agg #[.int .i64 o.k, .bool o.df, .bool o.o.wa, .int .i64 o.o.va, .bool o.o.ok, .int .i64 o.o.tr, .slice mo nn mc]] (by kernel_rfl) HSM.out ?_; rintro e w7 ⟨rfl, g7⟩; refine ⟨_, rfl, ?_⟩; simp only [Act.put, List.setIfInBounds_toArray, List.set_cons_zero, List.set_cons_succ]; have G7 := hid g7; clear g7))
    clear HSM MA6 MB6
    go_loopg [9, 15] m (fun q v9 v15 wr => ∃ (j : Nat) (t : Nat → Tg), j + q = m ∧ v15 = .int .i64 (j : Int) ∧ Cs t wr b (thR o.o.cs (ts.take j)) ∧ Rds (fun q => t q = .no) wr v9 (thR o.o.cs (ts.take j)) ∧ (∀ q, q < W0.heap.size → t q = .no) ∧ Gr W0 wr)
    case atStart => exact ⟨0, t3, by omega, rfl, C7.out.gr G7.out, R7.out.gr G7.out, Z3.out, Gr.trans GX6.out G7.out⟩
    case round =>
      clear C7 R7 G7 GX6 Z3 GW3 GW4 G4 G5 G6 G2
      obtain ⟨j, t, hjq, rfl, hC, hR, hZ, hG⟩ := hrel
      have CJ := hid hC
      have RJ := hid hR
      have ZJ := hid hZ
      have GJ := hid hG
      clear hC hR hZ hG
      have HGD := hid (show Gd (1048592 + j) (thR o.o.cs (ts.take j)) from by
        have h1 := HSG.out.th (ts.take j) (fun x hx => HTG.out x (List.mem_of_mem_take hx))
        rw [List.length_take] at h1
        exact h1.up (by omega))
      by_cases hj : j < m
      · obtain ⟨⟨y0, y1, y2, y3, y4⟩, hx⟩ : ∃ x, ts[j]? = some x := ⟨_, List.getElem?_eq_getElem (by rw [← HTL.out]; exact hj)⟩
        obtain ⟨gg, oo, cap', hv, _, hgl, _, hcs⟩ := (HTH.out.gr (Gr.trans G0.out GJ.out)).get eT_len hx
        injection hv with hv1 hv2 hv3
        subst hv1
        have c0 := hcs 0 _ rfl
        have c1 := hcs 1 _ rfl
        have c2 := hcs 2 _ rfl
        have c3 := hcs 3 _ rfl
        have c4 := hcs 4 _ rfl
        dsimp only [Nat.add_zero] at c0 c1 c2 c3 c4
        have j0 : (0 : Int) ≤ (j : Int) := by omega
        have j1 : (j : Int) < (m : Int) := by omega
        have HX := hid hx
        have HKY := hid (HTG.out _ (List.mem_of_getElem? hx))
        have HHI := hid (cs_hi CJ.out)
        clear hcs hv2 hv3 hx hgl
        obtain ⟨WA, hWA⟩ : ∃ W, W = ((wr.alloc (.cells #[.int .i64 y0, .int .i64 y1, .bool y2, .int .i64 y3, .int .i64 y4] 63)).alloc (.cells mz 50)).alloc (.cells mz 50) := ⟨_, rfl⟩
        have GA := hid (show Gr wr WA from by rw [hWA]; exact Ch.alloc (Ch.alloc (Ch.alloc (Gr.refl wr) _) _) _)
        have A16 := hid (show WA.heap[wr.heap.size]? = some (.cells #[.int .i64 y0, .int .i64 y1, .bool y2, .int .i64 y3, .int .i64 y4] 63 (0, 0)) from by rw [hWA]; exact al_blk (al_blk (MapKept.heap_alloc wr _).1 _) _)
        have A17 := hid (show WA.heap[wr.heap.size + 1]? = some (.cells mz 50 (0, 0)) from by rw [hWA]; exact al_blk (al_at _ (by simp)) _)
        have A18 := hid (show WA.heap[wr.heap.size + 2]? = some (.cells mz 50 (0, 0)) from by rw [hWA]; exact al_at _ (by simp))
        have HN16 := hid (HHI.out wr.heap.size (Nat.le_refl _))
        have HN17 := hid (HHI.out (wr.heap.size + 1) (by omega))
        have HN18 := hid (HHI.out (wr.heap.size + 2) (by omega))
        cases y2 with
        | true =>
          obtain ⟨r, hr⟩ : ∃ r, r = (sndF (thR o.o.cs (ts.take j)) y3 y0 y1 y4) := ⟨_, rfl⟩
          have HPS2 := hid (send_any (CJ.out.gr GA.out) HGD.out (by omega) HKY.out y3 y4)
          have HKS2 := hid (show r.ks.length ≤ 1 from by rw [hr]; exact snd_ks _ _ _ _ _)
          have HWK := hid (show WkOk (thR o.o.cs (ts.take j)) r from by rw [hr]; exact wk_snd HGD.out _ _ _ _)
          have HGR := hid (show Gd (1048592 + (j + 1)) r.cs from by rw [hr]; exact HGD.out.snd _ _ _ _ HKY.out)
          have HTS := hid (show thR o.o.cs (ts.take (j + 1)) = r.cs from by rw [take_one HX.out, thR_snoc, hr]; rfl)
          have HRS2 := hid (fun (W : World) (v : Value) (p : Rds (fun q => t q = .no ∧ q < wr.heap.size) W v (thR o.o.cs (ts.take j))) => rsend_any _ W v _ _ y3 y0 y1 y4 p HGD.out (by omega))
          rw [← hr] at HPS2 HRS2
          rw [hWA] at HPS2
          clear hr
          go_upto_region 19 with (first
            | (go_at_call 23; refine HPS2.out.mono ?_; rintro e w3 ⟨no2, nn2, nc2, rfl, ok3, t3, c3, n3, z3⟩; rw [← hWA] at ok3 n3; have OK3 := hid ok3; have C3 := hid c3; have N3 := hid n3; have Z3 := hid z3; have M3 := hid ((n3.c.block _ (lt_of_block A17.out) (fun q => q HN17.out)).trans A17.out); clear ok3 c3 n3 z3)
            | (refine st_row rfl 50 (.tmp 17) (.tmp 97) rfl (wr.heap.size + 1) _ rfl rfl _ _ M3.out mov_size rfl (one_mov _ _ _ _ _ _ _) ?_; intro w4 b4 k4; have M4 := hid b4; have K4 := hid k4; clear b4 k4))
          clear hWA
          have L4 := hid (show w4.heap.size = w4.heap.size from rfl)
          have H4 := hid ((K4.out.block _ (Nat.lt_of_lt_of_le (lt_of_block A16.out) N3.out.c.size) (fun e => by have e1 : wr.heap.size = wr.heap.size + 1 := e; omega)).trans ((N3.out.c.block _ (lt_of_block A16.out) (fun q => q HN16.out)).trans A16.out))
          have X4 := hid ((K4.out.block _ (Nat.lt_of_lt_of_le (lt_of_block A18.out) N3.out.c.size) (fun e => by have e1 : wr.heap.size + 2 = wr.heap.size + 1 := e; omega)).trans ((N3.out.c.block _ (lt_of_block A18.out) (fun q => q HN18.out)).trans A18.out))
          have R4 := hid (show Rds (fun q => t q = .no ∧ q < wr.heap.size) w4 u9 (thR o.o.cs (ts.take j)) from ((((RJ.out.mono (Q := fun q => t q = .no ∧ q < wr.heap.size) (fun q hq hp => ⟨hp, hq⟩)).gr GA.out).ch N3.out.c (fun q _ hq hs => hs hq.1)).ch K4.out (fun q _ hq e => by have e1 : q = wr.heap.size + 1 := e; omega)))
          have q0 := cell_of H4.out 0
          have q1 := cell_of H4.out 1
          have q2 := cell_of H4.out 2
          have q3 := cell_of H4.out 3
          have q4 := cell_of H4.out 4
          have lq := lt_of_block H4.out
          simp at q0 q1 q2 q3 q4
          have HRS3 := hid (HRS2.out _ _ R4.out)
          go_upto_region 22 with (first
            | (go_at_call 24; refine HRS3.out.mono ?_; rintro e w5 ⟨v5, mo2, mn2, mc2, rfl, lk5, rd5, g5⟩; have LK6 := hid lk5; have RD6 := hid rd5; have G6 := hid g5; have X5 := hid (gr_blk X4.out g5); clear lk5 rd5 g5)
            | (refine st_row rfl 50 (.tmp 18) (.tmp 109) rfl (wr.heap.size + 2) _ rfl rfl _ _ X5.out mov_size rfl (one_mov _ _ _ _ _ _ _) ?_; intro w6 b6 k6; have M6 := hid b6; have K6 := hid k6; clear b6 k6))
          clear q0 q1 q2 q3 q4 lq
          obtain ⟨g3, z3'⟩ := Tn.base ZJ.out GJ.out (Tn.ahead GA.out N3.out)
          have Z6 := hid z3'
          have G36 := hid (show Gr W0 w6 from Ch.trans (Ch.trans (Ch.trans (show Ch NoB W0 w3 from g3) K4.out (fun q e => .inr (by have e1 : q = wr.heap.size + 1 := e; have := GJ.out.size; omega))) G6.out (fun _ q => q.elim)) K6.out (fun q e => .inr (by have e1 : q = wr.heap.size + 2 := e; have := GJ.out.size; omega)))
          clear g3 z3'
          have S3 := hid (show wr.heap.size + 3 ≤ w3.heap.size from Nat.le_trans (lt_of_block A18.out) N3.out.c.size)
          have N16 := hid (fun q (hq : wr.heap.size ≤ q ∧ q ≤ wr.heap.size + 2) => N3.out.o q (Nat.lt_of_lt_of_le (by omega) (lt_of_block A18.out)) (HHI.out q hq.1))
          have C6 := hid (show Cs t3 w6 b r.cs from (((C3.out.ch K4.out (fun q e => by have e1 : q = wr.heap.size + 1 := e; exact N16.out q (by omega))).gr G6.out).ch K6.out (fun q e => by have e1 : q = wr.heap.size + 2 := e; exact N16.out q (by omega))))
          have M46 := hid (show w6.heap[wr.heap.size + 1]? = some (.cells #[.bool r.wa, .int .i64 r.va, .bool r.ok, .int .i64 r.tr, .slice no2 nn2 nc2] 50 (0, 0)) from (K6.out.block _ (Nat.lt_of_lt_of_le (lt_of_block M4.out) G6.out.size) (fun e => by have e1 : wr.heap.size + 1 = wr.heap.size + 2 := e; omega)).trans (gr_blk M4.out G6.out))
          have e2 : nn2 = mn2 := by have h1 := OK3.out.len.1; have h2 := LK6.out.len.1; omega
          subst e2
          have LA6 := hid (show Ls eK (0 ≤ ·) w6 (.slice no2 nn2 nc2) r.ks from (((((OK3.out.lst.mono (Q := fun q => wr.heap.size + 3 ≤ q) (fun q _ hq => Nat.le_trans (lt_of_block A18.out) hq)).ch K4.out (fun q _ hq e => by have e1 : q = wr.heap.size + 1 := e; omega)).gr G6.out).ch K6.out (fun q _ hq e => by have e1 : q = wr.heap.size + 2 := e; omega)).mono (fun _ _ _ => Nat.zero_le _)))
          have LB6 := hid (show Ls eK (0 ≤ ·) w6 (.slice mo2 nn2 mc2) r.ks from (((LK6.out.ch K6.out (fun q _ hq e => by have e1 : q = wr.heap.size + 2 := e; have := S3.out; have := K4.out.size; omega)).mono (fun _ _ _ => Nat.zero_le _))))
          have R6 := hid (show Rds (fun q => t3 q = .no) w6 v5 r.cs from ((RD6.out.mono (Q := fun q => t3 q = .no ∧ q ≠ wr.heap.size + 2) (fun q hq hp => by
            rcases hp with hp | hp
            · exact ⟨N3.out.o q (Nat.lt_of_lt_of_le hp.2 GA.out.size) hp.1, by omega⟩
            · have h1 := S3.out
              have h2 := K4.out.size
              exact ⟨cs_hi C3.out q (by omega), by omega⟩)).ch K6.out (fun q _ hq e => hq.2 e)).mono (fun q _ hq => hq.1))
          have HSM2 := hid (rsamem_any _ _ w6 r.wa r.ok r.va r.tr no2 mo2 nn2 nc2 mc2 r.ks LA6.out LB6.out (by have h1 := LK6.out.len.1; have h2 := HKS2.out; omega))
          have HST2 := hid (fun (W : World) (p : Gr w6 W) => state_any (C6.out.gr p) HGR.out.n (HGR.out.bd (by omega)))
          have HSA2 := hid (fun (W : World) (p : Gr w6 W) (va : Value) (q : Rds (0 ≤ ·) W va r.cs) => rsame_any (0 ≤ ·) _ W va v5 _ q (R6.out.gr p) (HGR.out.bd (by omega)))
          have B6 := hid (gr_blk BX.out G36.out)
          clear H4 X4 R4 HPS2 HRS2 HRS3 OK3 LK6 RD6
          go_wp2_with (first
            | (refine ld_rowM (by kernel_rfl) 50 (.tmp 17) rfl (wr.heap.size + 1) rfl _ _ _ _ M46.out Try.underlying50 rfl mov_size ?_; simp only [Act.put, List.setIfInBounds_toArray, List.set_cons_zero, List.set_cons_succ])
            | (refine ld_rowM (by kernel_rfl) 50 (.tmp 18) rfl (wr.heap.size + 2) rfl _ _ _ _ M6.out Try.underlying50 rfl mov_size ?_; simp only [Act.put, List.setIfInBounds_toArray, List.set_cons_zero, List.set_cons_succ])
            | (refine notG (by kernel_rfl) (.tmp 136) true rfl rfl ?_; simp only [Act.put, List.setIfInBounds_toArray, List.set_cons_zero, List.set_cons_succ])
            | (refine notG (by kernel_rfl) (.tmp 143) true rfl rfl ?_; simp only [Act.put, List.setIfInBounds_toArray, List.set_cons_zero, List.set_cons_succ])
            | (refine callG (by kernel_rfl) 21 #[.tmp 141, .tmp 142] _ rfl #[v8, v5] (by kernel_rfl) (HSA2.out _ G8.out _ (N8.out.rds.mono (fun _ _ _ => Nat.zero_le _))) ?_; rintro e w9 ⟨rfl, g9⟩; refine ⟨_, rfl, ?_⟩; simp only [Act.put, List.setIfInBounds_toArray, List.set_cons_zero, List.set_cons_succ]; have G9 := hid (Gr.trans G8.out g9); clear g9)
            | (refine callG (by kernel_rfl) 22 #[.tmp 140] _ rfl #[.pointer (some ⟨b, 0, none⟩)] (by kernel_rfl) (HST2.out _ G7.out) ?_; rintro e w8 ⟨v8, rfl, n8, g8⟩; refine ⟨_, rfl, ?_⟩; simp only [Act.put, List.setIfInBounds_toArray, List.set_cons_zero, List.set_cons_succ]; have N8 := hid n8; have G8 := hid (Gr.trans G7.out g8); clear n8 g8)
            | (refine callG (by kernel_rfl) 27 #[.tmp 134, .tmp 135] _ rfl #[.agg #[.bool r.wa, .int .i64 r.va, .bool r.ok, .int .i64 r.tr, .slice no2 nn2 nc2], .agg #[.bool r.wa, .int .i64 r.va, .bool r.ok, .int .i64 r.tr, .slice mo2 nn2 mc2]] (by kernel_rfl) HSM2.out ?_; rintro e w7 ⟨rfl, g7⟩; refine ⟨_, rfl, ?_⟩; simp only [Act.put, List.setIfInBounds_toArray, List.set_cons_zero, List.set_cons_succ]; have G7 := hid g7; clear g7))
          clear HSM2 HST2 HSA2 N8 G7 G8
          have hnb : nn2 ≤ 1 := by rw [LA6.out.len.1]; exact HKS2.out
          obtain ⟨AA, hAA⟩ : ∃ A, A = wr.heap.size + 1 := ⟨_, rfl⟩
          rw [← hAA] at M46 ⊢
          clear hAA
          go_loopg [21] nn2 (fun q v21 wq => ∃ (k : Nat), k + q = nn2 ∧ v21 = .int .i64 (k : Int) ∧ Gr w6 wq)
          case atStart => exact ⟨0, by omega, rfl, G9.out⟩
          case round =>
            clear G9
            obtain ⟨k, hkq, rfl, hGk⟩ := hrel
            have GK := hid hGk
            clear hGk
            have s4 := cell_of (gr_blk M46.out GK.out) 4
            have ls := lt_of_block (gr_blk M46.out GK.out)
            simp at s4
            by_cases hk : k < nn2
            · obtain ⟨⟨z0, z1, z2, z3, z4, z5⟩, hz⟩ : ∃ x, r.ks[k]? = some x := ⟨_, List.getElem?_eq_getElem (by rw [← LA6.out.len.1]; exact hk)⟩
              obtain ⟨gz, oz, capz, hvz, _, hgz, _, hcz⟩ := (LA6.out.gr GK.out).get eK_len hz
              injection hvz with hvz1 hvz2 hvz3
              subst hvz1
              have hS0 : Swk AA gz (oz + k * 6) w.heap.size (.slice (some ⟨gz, oz, none⟩) nn2 nc2) z0 z1 s g (World.drew wr) := ⟨s4, by have := hcz 0 _ rfl; exact this, by have := hcz 1 _ rfl; exact this, by have := cell_of (gr_blk B6.out (show Gr w6 (World.drew wr) from Ch.drew GK.out)) 0; simpa using this, by have := cell_of (gr_blk B6.out (show Gr w6 (World.drew wr) from Ch.drew GK.out)) 1; simpa using this, ls, hgz, lt_of_block (gr_blk B6.out (show Gr w6 (World.drew wr) from Ch.drew GK.out))⟩
              have k0 : (0 : Int) ≤ (k : Int) := by omega
              have k1 : (k : Int) < (nn2 : Int) := by omega
              have HZK := hid (HWK.out.w _ (List.mem_of_getElem? hz))
              have GK2 := hid (show Gr w6 (World.drew wr) from Ch.drew GK.out)
              clear hcz hvz2 hvz3 hz hgz
              by_cases e1 : z0 = s
              · subst e1
                by_cases e2 : z1 = g
                · subst e2
                  have HWT := hid (fun (W : World) (p : Gr w6 W) => waits_any (C6.out.gr p) HK.out)
                  have HPN := hid (show decide (0 < pls r.cs z0 z1) = false from by rw [HZK.out]; rfl)
                  go_upto_region 27 with fail
                  clear s4 ls
                  refine wp_region_held_drew (S := Swk AA gz (oz + k * 6) w.heap.size (.slice (some ⟨gz, oz, none⟩) nn2 nc2) z0 z1 z0 z1) (by kernel_rfl) (by exact hS0) (fun _ => ?_)
                  generalize World.drew wr = V0 at hS0 GK2 ⊢
                  refine takeS_on (i := 0) 153 (v := ?hv1) rfl rfl (by kernel_rfl) (by kernel_rfl) (by kernel_rfl) (fun _ _ _ h => h) (by kernel_rfl) ?hh1 (by exact hS0) ?_
                  case hh1 => (intro w' hSw; go_simp; try (with_reducible rfl))
                  simp only [Act.put, List.setIfInBounds_toArray, List.set_cons_zero, List.set_cons_succ]
                  refine takeS_on (i := 1) 154 (v := ?hv2) rfl rfl (by kernel_rfl) (by kernel_rfl) (by kernel_rfl) (fun _ _ _ h => h) (by kernel_rfl) ?hh2 (by exact hS0) ?_
                  case hh2 => (intro w' hSw; have c4 := hSw.s4; have c0 := hSw.e0; have c1 := hSw.e1; have d0 := hSw.a0; have d1 := hSw.a1; go_simp; try (with_reducible rfl))
                  simp only [Act.put, List.setIfInBounds_toArray, List.set_cons_zero, List.set_cons_succ]
                  refine takeS_on (i := 2) 155 (v := ?hv3) rfl rfl (by kernel_rfl) (by kernel_rfl) (by kernel_rfl) (fun _ _ _ h => h) (by kernel_rfl) ?hh3 (by exact hS0) ?_
                  case hh3 => (intro w' hSw; go_simp; try (with_reducible rfl))
                  simp only [Act.put, List.setIfInBounds_toArray, List.set_cons_zero, List.set_cons_succ]
                  refine takeS_on (i := 3) 156 (v := ?hv4) rfl rfl (by kernel_rfl) (by kernel_rfl) (by kernel_rfl) (fun _ _ _ h => h) (by kernel_rfl) ?hh4 (by exact hS0) ?_
                  case hh4 => (intro w' hSw; go_simp; try (with_reducible rfl))
                  simp only [Act.put, List.setIfInBounds_toArray, List.set_cons_zero, List.set_cons_succ]
                  refine takeS_on (i := 4) 157 (v := ?hv5) rfl rfl (by kernel_rfl) (by kernel_rfl) (by kernel_rfl) (fun _ _ _ h => h) (by kernel_rfl) ?hh5 (by exact hS0) ?_
                  case hh5 => (intro w' hSw; go_simp; try (with_reducible rfl))
                  simp only [Act.put, List.setIfInBounds_toArray, List.set_cons_zero, List.set_cons_succ]
                  refine takeS_on (i := 5) 158 (v := ?hv6) rfl rfl (by kernel_rfl) (by kernel_rfl) (by kernel_rfl) (fun _ _ _ h => h) (by kernel_rfl) ?hh6 (by exact hS0) ?_
                  case hh6 => (intro w' hSw; have c4 := hSw.s4; have c0 := hSw.e0; have c1 := hSw.e1; have d0 := hSw.a0; have d1 := hSw.a1; go_simp; try (with_reducible rfl))
                  simp only [Act.put, List.setIfInBounds_toArray, List.set_cons_zero, List.set_cons_succ]
                  refine takeS_on (i := 6) 159 (v := ?hv7) rfl rfl (by kernel_rfl) (by kernel_rfl) (by kernel_rfl) (fun _ _ _ h => h) (by kernel_rfl) ?hh7 (by exact hS0) ?_
                  case hh7 => (intro w' hSw; go_simp; try (with_reducible rfl))
                  simp only [Act.put, List.setIfInBounds_toArray, List.set_cons_zero, List.set_cons_succ]
                  refine takeS_on (i := 7) 160 (v := ?hv8) rfl rfl (by kernel_rfl) (by kernel_rfl) (by kernel_rfl) (fun _ _ _ h => h) (by kernel_rfl) ?hh8 (by exact hS0) ?_
                  case hh8 => (intro w' hSw; have c4 := hSw.s4; have c0 := hSw.e0; have c1 := hSw.e1; have d0 := hSw.a0; have d1 := hSw.a1; go_simp; try (with_reducible rfl))
                  simp only [Act.put, List.setIfInBounds_toArray, List.set_cons_zero, List.set_cons_succ]
                  refine takeS_on (i := 8) 161 (v := ?hv9) rfl rfl (by kernel_rfl) (by kernel_rfl) (by kernel_rfl) (fun _ _ _ h => h) (by kernel_rfl) ?hh9 (by exact hS0) ?_
                  case hh9 => (intro w' hSw; go_simp; try (with_reducible rfl))
                  simp only [Act.put, List.setIfInBounds_toArray, List.set_cons_zero, List.set_cons_succ]
                  refine takeS_on (i := 9) 162 (v := ?hv10) rfl rfl (by kernel_rfl) (by kernel_rfl) (by kernel_rfl) (fun _ _ _ h => h) (by kernel_rfl) ?hh10 (by exact hS0) ?_
                  case hh10 => (intro w' hSw; go_simp; try (with_reducible rfl))
                  simp only [Act.put, List.setIfInBounds_toArray, List.set_cons_zero, List.set_cons_succ]
                  refine takeS_on (i := 10) 163 (v := ?hv11) rfl rfl (by kernel_rfl) (by kernel_rfl) (by kernel_rfl) (fun _ _ _ h => h) (by kernel_rfl) ?hh11 (by exact hS0) ?_
                  case hh11 => (intro w' hSw; go_simp; try (with_reducible rfl))
                  simp only [Act.put, List.setIfInBounds_toArray, List.set_cons_zero, List.set_cons_succ]
                  refine takeS_on (i := 11) 164 (v := ?hv12) rfl rfl (by kernel_rfl) (by kernel_rfl) (by kernel_rfl) (fun _ _ _ h => h) (by kernel_rfl) ?hh12 (by exact hS0) ?_
                  case hh12 => (intro w' hSw; go_simp; try (with_reducible rfl))
                  simp only [Act.put, List.setIfInBounds_toArray, List.set_cons_zero, List.set_cons_succ]
                  refine takeS_on (i := 12) 165 (v := ?hv13) rfl rfl (by kernel_rfl) (by kernel_rfl) (by kernel_rfl) (fun _ _ _ h => h) (by kernel_rfl) ?hh13 (by exact hS0) ?_
                  case hh13 => (intro w' hSw; have c4 := hSw.s4; have c0 := hSw.e0; have c1 := hSw.e1; have d0 := hSw.a0; have d1 := hSw.a1; go_simp; try (with_reducible rfl))
                  simp only [Act.put, List.setIfInBounds_toArray, List.set_cons_zero, List.set_cons_succ]
                  refine wpAnyH_ready (rs := [13]) (by kernel_rfl) (by simp) (AllReadyH.cons rfl (fun K hK => ?_) AllReadyH.nil)
                  go_simp
                  refine (HWT.out _ GK2.out).mono ?_
                  rw [HPN.out]
                  rintro e w5 ⟨rfl, g5⟩
                  have hS1 := hS0.gr g5
                  have G5 := hid (Gr.trans GK2.out g5)
                  clear g5
                  refine hK.out _ _ (by exact hS1) (fun _ => ?_)
                  clear hK K
                  refine takeS_on (i := 14) 167 (v := ?hv14) rfl rfl (by kernel_rfl) (by kernel_rfl) (by kernel_rfl) (fun _ _ _ h => h) (by kernel_rfl) ?hh14 (by exact hS1) ?_
                  case hh14 => (intro w' hSw; go_simp; try (with_reducible rfl))
                  simp only [Act.put, List.setIfInBounds_toArray, List.set_cons_zero, List.set_cons_succ]
                  refine wpAnyH_done (by kernel_rfl) ?_ _

                  go_wp2
                  go_roundg (gk - 1)
                  case measure => omega
                  case rel =>
                    refine ⟨k + 1, by omega, ?_, G5.out⟩
                    first | with_reducible rfl | simp
                · have e3 : (z1 == g) = false := by simpa using e2
                  clear e2
                  go_upto_region 27 with fail
                  clear s4 ls
                  refine wp_region_held_drew (S := Swk AA gz (oz + k * 6) w.heap.size (.slice (some ⟨gz, oz, none⟩) nn2 nc2) z0 z1 z0 g) (by kernel_rfl) (by exact hS0) (fun _ => ?_)
                  generalize World.drew wr = V0 at hS0 GK2 ⊢
                  refine takeS_on (i := 0) 153 (v := ?hv15) rfl rfl (by kernel_rfl) (by kernel_rfl) (by kernel_rfl) (fun _ _ _ h => h) (by kernel_rfl) ?hh15 (by exact hS0) ?_
                  case hh15 => (intro w' hSw; go_simp; try (with_reducible rfl))
                  simp only [Act.put, List.setIfInBounds_toArray, List.set_cons_zero, List.set_cons_succ]
                  refine takeS_on (i := 1) 154 (v := ?hv16) rfl rfl (by kernel_rfl) (by kernel_rfl) (by kernel_rfl) (fun _ _ _ h => h) (by kernel_rfl) ?hh16 (by exact hS0) ?_
                  case hh16 => (intro w' hSw; have c4 := hSw.s4; have c0 := hSw.e0; have c1 := hSw.e1; have d0 := hSw.a0; have d1 := hSw.a1; go_simp; try (with_reducible rfl))
                  simp only [Act.put, List.setIfInBounds_toArray, List.set_cons_zero, List.set_cons_succ]
                  refine takeS_on (i := 2) 155 (v := ?hv17) rfl rfl (by kernel_rfl) (by kernel_rfl) (by kernel_rfl) (fun _ _ _ h => h) (by kernel_rfl) ?hh17 (by exact hS0) ?_
                  case hh17 => (intro w' hSw; go_simp; try (with_reducible rfl))
                  simp only [Act.put, List.setIfInBounds_toArray, List.set_cons_zero, List.set_cons_succ]
                  refine takeS_on (i := 3) 156 (v := ?hv18) rfl rfl (by kernel_rfl) (by kernel_rfl) (by kernel_rfl) (fun _ _ _ h => h) (by kernel_rfl) ?hh18 (by exact hS0) ?_
                  case hh18 => (intro w' hSw; go_simp; try (with_reducible rfl))
                  simp only [Act.put, List.setIfInBounds_toArray, List.set_cons_zero, List.set_cons_succ]
                  refine takeS_on (i := 4) 157 (v := ?hv19) rfl rfl (by kernel_rfl) (by kernel_rfl) (by kernel_rfl) (fun _ _ _ h => h) (by kernel_rfl) ?hh19 (by exact hS0) ?_
                  case hh19 => (intro w' hSw; go_simp; try (with_reducible rfl))
                  simp only [Act.put, List.setIfInBounds_toArray, List.set_cons_zero, List.set_cons_succ]
                  refine takeS_on (i := 5) 158 (v := ?hv20) rfl rfl (by kernel_rfl) (by kernel_rfl) (by kernel_rfl) (fun _ _ _ h => h) (by kernel_rfl) ?hh20 (by exact hS0) ?_
                  case hh20 => (intro w' hSw; have c4 := hSw.s4; have c0 := hSw.e0; have c1 := hSw.e1; have d0 := hSw.a0; have d1 := hSw.a1; go_simp; try (with_reducible rfl))
                  simp only [Act.put, List.setIfInBounds_toArray, List.set_cons_zero, List.set_cons_succ]
                  refine takeS_on (i := 6) 159 (v := ?hv21) rfl rfl (by kernel_rfl) (by kernel_rfl) (by kernel_rfl) (fun _ _ _ h => h) (by kernel_rfl) ?hh21 (by exact hS0) ?_
                  case hh21 => (intro w' hSw; go_simp; try (with_reducible rfl))
                  simp only [Act.put, List.setIfInBounds_toArray, List.set_cons_zero, List.set_cons_succ]
                  refine takeS_on (i := 7) 160 (v := ?hv22) rfl rfl (by kernel_rfl) (by kernel_rfl) (by kernel_rfl) (fun _ _ _ h => h) (by kernel_rfl) ?hh22 (by exact hS0) ?_
                  case hh22 => (intro w' hSw; have c4 := hSw.s4; have c0 := hSw.e0; have c1 := hSw.e1; have d0 := hSw.a0; have d1 := hSw.a1; go_simp; try (with_reducible rfl))
                  simp only [Act.put, List.setIfInBounds_toArray, List.set_cons_zero, List.set_cons_succ]
                  refine takeS_on (i := 8) 161 (v := ?hv23) rfl rfl (by kernel_rfl) (by kernel_rfl) (by kernel_rfl) (fun _ _ _ h => h) (by kernel_rfl) ?hh23 (by exact hS0) ?_
                  case hh23 => (intro w' hSw; go_simp; try (with_reducible rfl))
                  simp only [Act.put, List.setIfInBounds_toArray, List.set_cons_zero, List.set_cons_succ]
                  refine takeS_on (i := 9) 162 (v := ?hv24) rfl rfl (by kernel_rfl) (by kernel_rfl) (by kernel_rfl) (fun _ _ _ h => h) (by kernel_rfl) ?hh24 (by exact hS0) ?_
                  case hh24 => (intro w' hSw; go_simp; try (with_reducible rfl))
                  simp only [Act.put, List.setIfInBounds_toArray, List.set_cons_zero, List.set_cons_succ]
                  refine skipS_on (i := 10) 163 rfl rfl (by kernel_rfl) (by kernel_rfl) (by kernel_rfl) (fun _ _ _ h => h) (by kernel_rfl) (by exact hS0) ?_
                  simp only [Act.put, List.setIfInBounds_toArray, List.set_cons_zero, List.set_cons_succ]
                  refine skipS_on (i := 11) 164 rfl rfl (by kernel_rfl) (by kernel_rfl) (by kernel_rfl) (fun _ _ _ h => h) (by kernel_rfl) (by exact hS0) ?_
                  simp only [Act.put, List.setIfInBounds_toArray, List.set_cons_zero, List.set_cons_succ]
                  refine skipS_on (i := 12) 165 rfl rfl (by kernel_rfl) (by kernel_rfl) (by kernel_rfl) (fun _ _ _ h => h) (by kernel_rfl) (by exact hS0) ?_
                  simp only [Act.put, List.setIfInBounds_toArray, List.set_cons_zero, List.set_cons_succ]
                  refine skipS_on (i := 13) 166 rfl rfl (by kernel_rfl) (by kernel_rfl) (by kernel_rfl) (fun _ _ _ h => h) (by kernel_rfl) (by exact hS0) ?_
                  simp only [Act.put, List.setIfInBounds_toArray, List.set_cons_zero, List.set_cons_succ]
                  refine takeS_on (i := 14) 167 (v := ?hv29) rfl rfl (by kernel_rfl) (by kernel_rfl) (by kernel_rfl) (fun _ _ _ h => h) (by kernel_rfl) ?hh29 (by exact hS0) ?_
                  case hh29 => (intro w' hSw; go_simp; try (with_reducible rfl))
                  simp only [Act.put, List.setIfInBounds_toArray, List.set_cons_zero, List.set_cons_succ]
                  refine wpAnyH_done (by kernel_rfl) ?_ _

                  go_wp2
                  go_roundg (gk - 1)
                  case measure => omega
                  case rel =>
                    refine ⟨k + 1, by omega, ?_, GK2.out⟩
                    first | with_reducible rfl | simp
              · have e3 : (z0 == s) = false := by simpa using e1
                clear e1
                go_upto_region 27 with fail
                clear s4 ls
                refine wp_region_held_drew (S := Swk AA gz (oz + k * 6) w.heap.size (.slice (some ⟨gz, oz, none⟩) nn2 nc2) z0 z1 s g) (by kernel_rfl) (by exact hS0) (fun _ => ?_)
                generalize World.drew wr = V0 at hS0 GK2 ⊢
                refine takeS_on (i := 0) 153 (v := ?hv30) rfl rfl (by kernel_rfl) (by kernel_rfl) (by kernel_rfl) (fun _ _ _ h => h) (by kernel_rfl) ?hh30 (by exact hS0) ?_
                case hh30 => (intro w' hSw; go_simp; try (with_reducible rfl))
                simp only [Act.put, List.setIfInBounds_toArray, List.set_cons_zero, List.set_cons_succ]
                refine takeS_on (i := 1) 154 (v := ?hv31) rfl rfl (by kernel_rfl) (by kernel_rfl) (by kernel_rfl) (fun _ _ _ h => h) (by kernel_rfl) ?hh31 (by exact hS0) ?_
                case hh31 => (intro w' hSw; have c4 := hSw.s4; have c0 := hSw.e0; have c1 := hSw.e1; have d0 := hSw.a0; have d1 := hSw.a1; go_simp; try (with_reducible rfl))
                simp only [Act.put, List.setIfInBounds_toArray, List.set_cons_zero, List.set_cons_succ]
                refine takeS_on (i := 2) 155 (v := ?hv32) rfl rfl (by kernel_rfl) (by kernel_rfl) (by kernel_rfl) (fun _ _ _ h => h) (by kernel_rfl) ?hh32 (by exact hS0) ?_
                case hh32 => (intro w' hSw; go_simp; try (with_reducible rfl))
                simp only [Act.put, List.setIfInBounds_toArray, List.set_cons_zero, List.set_cons_succ]
                refine takeS_on (i := 3) 156 (v := ?hv33) rfl rfl (by kernel_rfl) (by kernel_rfl) (by kernel_rfl) (fun _ _ _ h => h) (by kernel_rfl) ?hh33 (by exact hS0) ?_
                case hh33 => (intro w' hSw; go_simp; try (with_reducible rfl))
                simp only [Act.put, List.setIfInBounds_toArray, List.set_cons_zero, List.set_cons_succ]
                refine takeS_on (i := 4) 157 (v := ?hv34) rfl rfl (by kernel_rfl) (by kernel_rfl) (by kernel_rfl) (fun _ _ _ h => h) (by kernel_rfl) ?hh34 (by exact hS0) ?_
                case hh34 => (intro w' hSw; go_simp; try (with_reducible rfl))
                simp only [Act.put, List.setIfInBounds_toArray, List.set_cons_zero, List.set_cons_succ]
                refine takeS_on (i := 5) 158 (v := ?hv35) rfl rfl (by kernel_rfl) (by kernel_rfl) (by kernel_rfl) (fun _ _ _ h => h) (by kernel_rfl) ?hh35 (by exact hS0) ?_
                case hh35 => (intro w' hSw; have c4 := hSw.s4; have c0 := hSw.e0; have c1 := hSw.e1; have d0 := hSw.a0; have d1 := hSw.a1; go_simp; try (with_reducible rfl))
                simp only [Act.put, List.setIfInBounds_toArray, List.set_cons_zero, List.set_cons_succ]
                refine takeS_on (i := 6) 159 (v := ?hv36) rfl rfl (by kernel_rfl) (by kernel_rfl) (by kernel_rfl) (fun _ _ _ h => h) (by kernel_rfl) ?hh36 (by exact hS0) ?_
                case hh36 => (intro w' hSw; go_simp; try (with_reducible rfl))
                simp only [Act.put, List.setIfInBounds_toArray, List.set_cons_zero, List.set_cons_succ]
                refine takeS_on (i := 7) 160 (v := ?hv37) rfl rfl (by kernel_rfl) (by kernel_rfl) (by kernel_rfl) (fun _ _ _ h => h) (by kernel_rfl) ?hh37 (by exact hS0) ?_
                case hh37 => (intro w' hSw; have c4 := hSw.s4; have c0 := hSw.e0; have c1 := hSw.e1; have d0 := hSw.a0; have d1 := hSw.a1; go_simp; try (with_reducible rfl))
                simp only [Act.put, List.setIfInBounds_toArray, List.set_cons_zero, List.set_cons_succ]
                refine takeS_on (i := 8) 161 (v := ?hv38) rfl rfl (by kernel_rfl) (by kernel_rfl) (by kernel_rfl) (fun _ _ _ h => h) (by kernel_rfl) ?hh38 (by exact hS0) ?_
                case hh38 => (intro w' hSw; go_simp; try (with_reducible rfl))
                simp only [Act.put, List.setIfInBounds_toArray, List.set_cons_zero, List.set_cons_succ]
                refine takeS_on (i := 9) 162 (v := ?hv39) rfl rfl (by kernel_rfl) (by kernel_rfl) (by kernel_rfl) (fun _ _ _ h => h) (by kernel_rfl) ?hh39 (by exact hS0) ?_
                case hh39 => (intro w' hSw; go_simp; try (with_reducible rfl))
                simp only [Act.put, List.setIfInBounds_toArray, List.set_cons_zero, List.set_cons_succ]
                refine skipS_on (i := 10) 163 rfl rfl (by kernel_rfl) (by kernel_rfl) (by kernel_rfl) (fun _ _ _ h => h) (by kernel_rfl) (by exact hS0) ?_
                simp only [Act.put, List.setIfInBounds_toArray, List.set_cons_zero, List.set_cons_succ]
                refine skipS_on (i := 11) 164 rfl rfl (by kernel_rfl) (by kernel_rfl) (by kernel_rfl) (fun _ _ _ h => h) (by kernel_rfl) (by exact hS0) ?_
                simp only [Act.put, List.setIfInBounds_toArray, List.set_cons_zero, List.set_cons_succ]
                refine skipS_on (i := 12) 165 rfl rfl (by kernel_rfl) (by kernel_rfl) (by kernel_rfl) (fun _ _ _ h => h) (by kernel_rfl) (by exact hS0) ?_
                simp only [Act.put, List.setIfInBounds_toArray, List.set_cons_zero, List.set_cons_succ]
                refine skipS_on (i := 13) 166 rfl rfl (by kernel_rfl) (by kernel_rfl) (by kernel_rfl) (fun _ _ _ h => h) (by kernel_rfl) (by exact hS0) ?_
                simp only [Act.put, List.setIfInBounds_toArray, List.set_cons_zero, List.set_cons_succ]
                refine takeS_on (i := 14) 167 (v := ?hv44) rfl rfl (by kernel_rfl) (by kernel_rfl) (by kernel_rfl) (fun _ _ _ h => h) (by kernel_rfl) ?hh44 (by exact hS0) ?_
                case hh44 => (intro w' hSw; go_simp; try (with_reducible rfl))
                simp only [Act.put, List.setIfInBounds_toArray, List.set_cons_zero, List.set_cons_succ]
                refine wpAnyH_done (by kernel_rfl) ?_ _

                go_wp2
                go_roundg (gk - 1)
                case measure => omega
                case rel =>
                  refine ⟨k + 1, by omega, ?_, GK2.out⟩
                  first | with_reducible rfl | simp
            · have kn : ¬ (k : Int) < (nn2 : Int) := by omega
              go_wp2
              go_roundg (m - (j + 1))
              case measure => omega
              case rel =>
                refine ⟨j + 1, t3, by omega, ?_, ?_, ?_, Z6.out, Gr.trans G36.out GK.out⟩
                · first | with_reducible rfl | simp
                · rw [HTS.out]; exact C6.out.gr GK.out
                · rw [HTS.out]; exact R6.out.gr GK.out

        | false =>
          obtain ⟨r, hr⟩ : ∃ r, r = (rcvF (thR o.o.cs (ts.take j)) y3 y0 y1) := ⟨_, rfl⟩
          have HPS2 := hid (recv_any (CJ.out.gr GA.out) HGD.out (by omega) HKY.out y3)
          have HKS2 := hid (show r.ks.length ≤ 1 from by rw [hr]; exact rcv_ks _ _ _ _)
          have HWK := hid (show WkOk (thR o.o.cs (ts.take j)) r from by rw [hr]; exact wk_rcv HGD.out _ _ _)
          have HGR := hid (show Gd (1048592 + (j + 1)) r.cs from by rw [hr]; exact HGD.out.rcv _ _ _ HKY.out)
          have HTS := hid (show thR o.o.cs (ts.take (j + 1)) = r.cs from by rw [take_one HX.out, thR_snoc, hr]; rfl)
          have HRS2 := hid (fun (W : World) (v : Value) (p : Rds (fun q => t q = .no ∧ q < wr.heap.size) W v (thR o.o.cs (ts.take j))) => rrecv_any _ W v _ _ y3 y0 y1 p HGD.out (by omega))
          rw [← hr] at HPS2 HRS2
          rw [hWA] at HPS2
          clear hr
          go_upto_region 21 with (first
            | (go_at_call 25; refine HPS2.out.mono ?_; rintro e w3 ⟨no2, nn2, nc2, rfl, ok3, t3, c3, n3, z3⟩; rw [← hWA] at ok3 n3; have OK3 := hid ok3; have C3 := hid c3; have N3 := hid n3; have Z3 := hid z3; have M3 := hid ((n3.c.block _ (lt_of_block A17.out) (fun q => q HN17.out)).trans A17.out); clear ok3 c3 n3 z3)
            | (refine st_row rfl 50 (.tmp 17) (.tmp 118) rfl (wr.heap.size + 1) _ rfl rfl _ _ M3.out mov_size rfl (one_mov _ _ _ _ _ _ _) ?_; intro w4 b4 k4; have M4 := hid b4; have K4 := hid k4; clear b4 k4))
          clear hWA
          have L4 := hid (show w4.heap.size = w4.heap.size from rfl)
          have H4 := hid ((K4.out.block _ (Nat.lt_of_lt_of_le (lt_of_block A16.out) N3.out.c.size) (fun e => by have e1 : wr.heap.size = wr.heap.size + 1 := e; omega)).trans ((N3.out.c.block _ (lt_of_block A16.out) (fun q => q HN16.out)).trans A16.out))
          have X4 := hid ((K4.out.block _ (Nat.lt_of_lt_of_le (lt_of_block A18.out) N3.out.c.size) (fun e => by have e1 : wr.heap.size + 2 = wr.heap.size + 1 := e; omega)).trans ((N3.out.c.block _ (lt_of_block A18.out) (fun q => q HN18.out)).trans A18.out))
          have R4 := hid (show Rds (fun q => t q = .no ∧ q < wr.heap.size) w4 u9 (thR o.o.cs (ts.take j)) from ((((RJ.out.mono (Q := fun q => t q = .no ∧ q < wr.heap.size) (fun q hq hp => ⟨hp, hq⟩)).gr GA.out).ch N3.out.c (fun q _ hq hs => hs hq.1)).ch K4.out (fun q _ hq e => by have e1 : q = wr.heap.size + 1 := e; omega)))
          have q0 := cell_of H4.out 0
          have q1 := cell_of H4.out 1
          have q2 := cell_of H4.out 2
          have q3 := cell_of H4.out 3
          have q4 := cell_of H4.out 4
          have lq := lt_of_block H4.out
          simp at q0 q1 q2 q3 q4
          have HRS3 := hid (HRS2.out _ _ R4.out)
          go_upto_region 22 with (first
            | (go_at_call 26; refine HRS3.out.mono ?_; rintro e w5 ⟨v5, mo2, mn2, mc2, rfl, lk5, rd5, g5⟩; have LK6 := hid lk5; have RD6 := hid rd5; have G6 := hid g5; have X5 := hid (gr_blk X4.out g5); clear lk5 rd5 g5)
            | (refine st_row rfl 50 (.tmp 18) (.tmp 128) rfl (wr.heap.size + 2) _ rfl rfl _ _ X5.out mov_size rfl (one_mov _ _ _ _ _ _ _) ?_; intro w6 b6 k6; have M6 := hid b6; have K6 := hid k6; clear b6 k6))
          clear q0 q1 q2 q3 q4 lq
          obtain ⟨g3, z3'⟩ := Tn.base ZJ.out GJ.out (Tn.ahead GA.out N3.out)
          have Z6 := hid z3'
          have G36 := hid (show Gr W0 w6 from Ch.trans (Ch.trans (Ch.trans (show Ch NoB W0 w3 from g3) K4.out (fun q e => .inr (by have e1 : q = wr.heap.size + 1 := e; have := GJ.out.size; omega))) G6.out (fun _ q => q.elim)) K6.out (fun q e => .inr (by have e1 : q = wr.heap.size + 2 := e; have := GJ.out.size; omega)))
          clear g3 z3'
          have S3 := hid (show wr.heap.size + 3 ≤ w3.heap.size from Nat.le_trans (lt_of_block A18.out) N3.out.c.size)
          have N16 := hid (fun q (hq : wr.heap.size ≤ q ∧ q ≤ wr.heap.size + 2) => N3.out.o q (Nat.lt_of_lt_of_le (by omega) (lt_of_block A18.out)) (HHI.out q hq.1))
          have C6 := hid (show Cs t3 w6 b r.cs from (((C3.out.ch K4.out (fun q e => by have e1 : q = wr.heap.size + 1 := e; exact N16.out q (by omega))).gr G6.out).ch K6.out (fun q e => by have e1 : q = wr.heap.size + 2 := e; exact N16.out q (by omega))))
          have M46 := hid (show w6.heap[wr.heap.size + 1]? = some (.cells #[.bool r.wa, .int .i64 r.va, .bool r.ok, .int .i64 r.tr, .slice no2 nn2 nc2] 50 (0, 0)) from (K6.out.block _ (Nat.lt_of_lt_of_le (lt_of_block M4.out) G6.out.size) (fun e => by have e1 : wr.heap.size + 1 = wr.heap.size + 2 := e; omega)).trans (gr_blk M4.out G6.out))
          have e2 : nn2 = mn2 := by have h1 := OK3.out.len.1; have h2 := LK6.out.len.1; omega
          subst e2
          have LA6 := hid (show Ls eK (0 ≤ ·) w6 (.slice no2 nn2 nc2) r.ks from (((((OK3.out.lst.mono (Q := fun q => wr.heap.size + 3 ≤ q) (fun q _ hq => Nat.le_trans (lt_of_block A18.out) hq)).ch K4.out (fun q _ hq e => by have e1 : q = wr.heap.size + 1 := e; omega)).gr G6.out).ch K6.out (fun q _ hq e => by have e1 : q = wr.heap.size + 2 := e; omega)).mono (fun _ _ _ => Nat.zero_le _)))
          have LB6 := hid (show Ls eK (0 ≤ ·) w6 (.slice mo2 nn2 mc2) r.ks from (((LK6.out.ch K6.out (fun q _ hq e => by have e1 : q = wr.heap.size + 2 := e; have := S3.out; have := K4.out.size; omega)).mono (fun _ _ _ => Nat.zero_le _))))
          have R6 := hid (show Rds (fun q => t3 q = .no) w6 v5 r.cs from ((RD6.out.mono (Q := fun q => t3 q = .no ∧ q ≠ wr.heap.size + 2) (fun q hq hp => by
            rcases hp with hp | hp
            · exact ⟨N3.out.o q (Nat.lt_of_lt_of_le hp.2 GA.out.size) hp.1, by omega⟩
            · have h1 := S3.out
              have h2 := K4.out.size
              exact ⟨cs_hi C3.out q (by omega), by omega⟩)).ch K6.out (fun q _ hq e => hq.2 e)).mono (fun q _ hq => hq.1))
          have HSM2 := hid (rsamem_any _ _ w6 r.wa r.ok r.va r.tr no2 mo2 nn2 nc2 mc2 r.ks LA6.out LB6.out (by have h1 := LK6.out.len.1; have h2 := HKS2.out; omega))
          have HST2 := hid (fun (W : World) (p : Gr w6 W) => state_any (C6.out.gr p) HGR.out.n (HGR.out.bd (by omega)))
          have HSA2 := hid (fun (W : World) (p : Gr w6 W) (va : Value) (q : Rds (0 ≤ ·) W va r.cs) => rsame_any (0 ≤ ·) _ W va v5 _ q (R6.out.gr p) (HGR.out.bd (by omega)))
          have B6 := hid (gr_blk BX.out G36.out)
          clear H4 X4 R4 HPS2 HRS2 HRS3 OK3 LK6 RD6
          go_wp2_with (first
            | (refine ld_rowM (by kernel_rfl) 50 (.tmp 17) rfl (wr.heap.size + 1) rfl _ _ _ _ M46.out Try.underlying50 rfl mov_size ?_; simp only [Act.put, List.setIfInBounds_toArray, List.set_cons_zero, List.set_cons_succ])
            | (refine ld_rowM (by kernel_rfl) 50 (.tmp 18) rfl (wr.heap.size + 2) rfl _ _ _ _ M6.out Try.underlying50 rfl mov_size ?_; simp only [Act.put, List.setIfInBounds_toArray, List.set_cons_zero, List.set_cons_succ])
            | (refine notG (by kernel_rfl) (.tmp 136) true rfl rfl ?_; simp only [Act.put, List.setIfInBounds_toArray, List.set_cons_zero, List.set_cons_succ])
            | (refine notG (by kernel_rfl) (.tmp 143) true rfl rfl ?_; simp only [Act.put, List.setIfInBounds_toArray, List.set_cons_zero, List.set_cons_succ])
            | (refine callG (by kernel_rfl) 21 #[.tmp 141, .tmp 142] _ rfl #[v8, v5] (by kernel_rfl) (HSA2.out _ G8.out _ (N8.out.rds.mono (fun _ _ _ => Nat.zero_le _))) ?_; rintro e w9 ⟨rfl, g9⟩; refine ⟨_, rfl, ?_⟩; simp only [Act.put, List.setIfInBounds_toArray, List.set_cons_zero, List.set_cons_succ]; have G9 := hid (Gr.trans G8.out g9); clear g9)
            | (refine callG (by kernel_rfl) 22 #[.tmp 140] _ rfl #[.pointer (some ⟨b, 0, none⟩)] (by kernel_rfl) (HST2.out _ G7.out) ?_; rintro e w8 ⟨v8, rfl, n8, g8⟩; refine ⟨_, rfl, ?_⟩; simp only [Act.put, List.setIfInBounds_toArray, List.set_cons_zero, List.set_cons_succ]; have N8 := hid n8; have G8 := hid (Gr.trans G7.out g8); clear n8 g8)
            | (refine callG (by kernel_rfl) 27 #[.tmp 134, .tmp 135] _ rfl #[.agg #[.bool r.wa, .int .i64 r.va, .bool r.ok, .int .i64 r.tr, .slice no2 nn2 nc2], .agg #[.bool r.wa, .int .i64 r.va, .bool r.ok, .int .i64 r.tr, .slice mo2 nn2 mc2]] (by kernel_rfl) HSM2.out ?_; rintro e w7 ⟨rfl, g7⟩; refine ⟨_, rfl, ?_⟩; simp only [Act.put, List.setIfInBounds_toArray, List.set_cons_zero, List.set_cons_succ]; have G7 := hid g7; clear g7))
          clear HSM2 HST2 HSA2 N8 G7 G8
          have hnb : nn2 ≤ 1 := by rw [LA6.out.len.1]; exact HKS2.out
          obtain ⟨AA, hAA⟩ : ∃ A, A = wr.heap.size + 1 := ⟨_, rfl⟩
          rw [← hAA] at M46 ⊢
          clear hAA
          go_loopg [21] nn2 (fun q v21 wq => ∃ (k : Nat), k + q = nn2 ∧ v21 = .int .i64 (k : Int) ∧ Gr w6 wq)
          case atStart => exact ⟨0, by omega, rfl, G9.out⟩
          case round =>
            clear G9
            obtain ⟨k, hkq, rfl, hGk⟩ := hrel
            have GK := hid hGk
            clear hGk
            have s4 := cell_of (gr_blk M46.out GK.out) 4
            have ls := lt_of_block (gr_blk M46.out GK.out)
            simp at s4
            by_cases hk : k < nn2
            · obtain ⟨⟨z0, z1, z2, z3, z4, z5⟩, hz⟩ : ∃ x, r.ks[k]? = some x := ⟨_, List.getElem?_eq_getElem (by rw [← LA6.out.len.1]; exact hk)⟩
              obtain ⟨gz, oz, capz, hvz, _, hgz, _, hcz⟩ := (LA6.out.gr GK.out).get eK_len hz
              injection hvz with hvz1 hvz2 hvz3
              subst hvz1
              have hS0 : Swk AA gz (oz + k * 6) w.heap.size (.slice (some ⟨gz, oz, none⟩) nn2 nc2) z0 z1 s g (World.drew wr) := ⟨s4, by have := hcz 0 _ rfl; exact this, by have := hcz 1 _ rfl; exact this, by have := cell_of (gr_blk B6.out (show Gr w6 (World.drew wr) from Ch.drew GK.out)) 0; simpa using this, by have := cell_of (gr_blk B6.out (show Gr w6 (World.drew wr) from Ch.drew GK.out)) 1; simpa using this, ls, hgz, lt_of_block (gr_blk B6.out (show Gr w6 (World.drew wr) from Ch.drew GK.out))⟩
              have k0 : (0 : Int) ≤ (k : Int) := by omega
              have k1 : (k : Int) < (nn2 : Int) := by omega
              have HZK := hid (HWK.out.w _ (List.mem_of_getElem? hz))
              have GK2 := hid (show Gr w6 (World.drew wr) from Ch.drew GK.out)
              clear hcz hvz2 hvz3 hz hgz
              by_cases e1 : z0 = s
              · subst e1
                by_cases e2 : z1 = g
                · subst e2
                  have HWT := hid (fun (W : World) (p : Gr w6 W) => waits_any (C6.out.gr p) HK.out)
                  have HPN := hid (show decide (0 < pls r.cs z0 z1) = false from by rw [HZK.out]; rfl)
                  go_upto_region 27 with fail
                  clear s4 ls
                  refine wp_region_held_drew (S := Swk AA gz (oz + k * 6) w.heap.size (.slice (some ⟨gz, oz, none⟩) nn2 nc2) z0 z1 z0 z1) (by kernel_rfl) (by exact hS0) (fun _ => ?_)
                  generalize World.drew wr = V0 at hS0 GK2 ⊢
                  refine takeS_on (i := 0) 153 (v := ?hv45) rfl rfl (by kernel_rfl) (by kernel_rfl) (by kernel_rfl) (fun _ _ _ h => h) (by kernel_rfl) ?hh45 (by exact hS0) ?_
                  case hh45 => (intro w' hSw; go_simp; try (with_reducible rfl))
                  simp only [Act.put, List.setIfInBounds_toArray, List.set_cons_zero, List.set_cons_succ]
                  refine takeS_on (i := 1) 154 (v := ?hv46) rfl rfl (by kernel_rfl) (by kernel_rfl) (by kernel_rfl) (fun _ _ _ h => h) (by kernel_rfl) ?hh46 (by exact hS0) ?_
                  case hh46 => (intro w' hSw; have c4 := hSw.s4; have c0 := hSw.e0; have c1 := hSw.e1; have d0 := hSw.a0; have d1 := hSw.a1; go_simp; try (with_reducible rfl))
                  simp only [Act.put, List.setIfInBounds_toArray, List.set_cons_zero, List.set_cons_succ]
                  refine takeS_on (i := 2) 155 (v := ?hv47) rfl rfl (by kernel_rfl) (by kernel_rfl) (by kernel_rfl) (fun _ _ _ h => h) (by kernel_rfl) ?hh47 (by exact hS0) ?_
                  case hh47 => (intro w' hSw; go_simp; try (with_reducible rfl))
                  simp only [Act.put, List.setIfInBounds_toArray, List.set_cons_zero, List.set_cons_succ]
                  refine takeS_on (i := 3) 156 (v := ?hv48) rfl rfl (by kernel_rfl) (by kernel_rfl) (by kernel_rfl) (fun _ _ _ h => h) (by kernel_rfl) ?hh48 (by exact hS0) ?_
                  case hh48 => (intro w' hSw; go_simp; try (with_reducible rfl))
                  simp only [Act.put, List.setIfInBounds_toArray, List.set_cons_zero, List.set_cons_succ]
                  refine takeS_on (i := 4) 157 (v := ?hv49) rfl rfl (by kernel_rfl) (by kernel_rfl) (by kernel_rfl) (fun _ _ _ h => h) (by kernel_rfl) ?hh49 (by exact hS0) ?_
                  case hh49 => (intro w' hSw; go_simp; try (with_reducible rfl))
                  simp only [Act.put, List.setIfInBounds_toArray, List.set_cons_zero, List.set_cons_succ]
                  refine takeS_on (i := 5) 158 (v := ?hv50) rfl rfl (by kernel_rfl) (by kernel_rfl) (by kernel_rfl) (fun _ _ _ h => h) (by kernel_rfl) ?hh50 (by exact hS0) ?_
                  case hh50 => (intro w' hSw; have c4 := hSw.s4; have c0 := hSw.e0; have c1 := hSw.e1; have d0 := hSw.a0; have d1 := hSw.a1; go_simp; try (with_reducible rfl))
                  simp only [Act.put, List.setIfInBounds_toArray, List.set_cons_zero, List.set_cons_succ]
                  refine takeS_on (i := 6) 159 (v := ?hv51) rfl rfl (by kernel_rfl) (by kernel_rfl) (by kernel_rfl) (fun _ _ _ h => h) (by kernel_rfl) ?hh51 (by exact hS0) ?_
                  case hh51 => (intro w' hSw; go_simp; try (with_reducible rfl))
                  simp only [Act.put, List.setIfInBounds_toArray, List.set_cons_zero, List.set_cons_succ]
                  refine takeS_on (i := 7) 160 (v := ?hv52) rfl rfl (by kernel_rfl) (by kernel_rfl) (by kernel_rfl) (fun _ _ _ h => h) (by kernel_rfl) ?hh52 (by exact hS0) ?_
                  case hh52 => (intro w' hSw; have c4 := hSw.s4; have c0 := hSw.e0; have c1 := hSw.e1; have d0 := hSw.a0; have d1 := hSw.a1; go_simp; try (with_reducible rfl))
                  simp only [Act.put, List.setIfInBounds_toArray, List.set_cons_zero, List.set_cons_succ]
                  refine takeS_on (i := 8) 161 (v := ?hv53) rfl rfl (by kernel_rfl) (by kernel_rfl) (by kernel_rfl) (fun _ _ _ h => h) (by kernel_rfl) ?hh53 (by exact hS0) ?_
                  case hh53 => (intro w' hSw; go_simp; try (with_reducible rfl))
                  simp only [Act.put, List.setIfInBounds_toArray, List.set_cons_zero, List.set_cons_succ]
                  refine takeS_on (i := 9) 162 (v := ?hv54) rfl rfl (by kernel_rfl) (by kernel_rfl) (by kernel_rfl) (fun _ _ _ h => h) (by kernel_rfl) ?hh54 (by exact hS0) ?_
                  case hh54 => (intro w' hSw; go_simp; try (with_reducible rfl))
                  simp only [Act.put, List.setIfInBounds_toArray, List.set_cons_zero, List.set_cons_succ]
                  refine takeS_on (i := 10) 163 (v := ?hv55) rfl rfl (by kernel_rfl) (by kernel_rfl) (by kernel_rfl) (fun _ _ _ h => h) (by kernel_rfl) ?hh55 (by exact hS0) ?_
                  case hh55 => (intro w' hSw; go_simp; try (with_reducible rfl))
                  simp only [Act.put, List.setIfInBounds_toArray, List.set_cons_zero, List.set_cons_succ]
                  refine takeS_on (i := 11) 164 (v := ?hv56) rfl rfl (by kernel_rfl) (by kernel_rfl) (by kernel_rfl) (fun _ _ _ h => h) (by kernel_rfl) ?hh56 (by exact hS0) ?_
                  case hh56 => (intro w' hSw; go_simp; try (with_reducible rfl))
                  simp only [Act.put, List.setIfInBounds_toArray, List.set_cons_zero, List.set_cons_succ]
                  refine takeS_on (i := 12) 165 (v := ?hv57) rfl rfl (by kernel_rfl) (by kernel_rfl) (by kernel_rfl) (fun _ _ _ h => h) (by kernel_rfl) ?hh57 (by exact hS0) ?_
                  case hh57 => (intro w' hSw; have c4 := hSw.s4; have c0 := hSw.e0; have c1 := hSw.e1; have d0 := hSw.a0; have d1 := hSw.a1; go_simp; try (with_reducible rfl))
                  simp only [Act.put, List.setIfInBounds_toArray, List.set_cons_zero, List.set_cons_succ]
                  refine wpAnyH_ready (rs := [13]) (by kernel_rfl) (by simp) (AllReadyH.cons rfl (fun K hK => ?_) AllReadyH.nil)
                  go_simp
                  refine (HWT.out _ GK2.out).mono ?_
                  rw [HPN.out]
                  rintro e w5 ⟨rfl, g5⟩
                  have hS1 := hS0.gr g5
                  have G5 := hid (Gr.trans GK2.out g5)
                  clear g5
                  refine hK.out _ _ (by exact hS1) (fun _ => ?_)
                  clear hK K
                  refine takeS_on (i := 14) 167 (v := ?hv58) rfl rfl (by kernel_rfl) (by kernel_rfl) (by kernel_rfl) (fun _ _ _ h => h) (by kernel_rfl) ?hh58 (by exact hS1) ?_
                  case hh58 => (intro w' hSw; go_simp; try (with_reducible rfl))
                  simp only [Act.put, List.setIfInBounds_toArray, List.set_cons_zero, List.set_cons_succ]
                  refine wpAnyH_done (by kernel_rfl) ?_ _

                  go_wp2
                  go_roundg (gk - 1)
                  case measure => omega
                  case rel =>
                    refine ⟨k + 1, by omega, ?_, G5.out⟩
                    first | with_reducible rfl | simp
                · have e3 : (z1 == g) = false := by simpa using e2
                  clear e2
                  go_upto_region 27 with fail
                  clear s4 ls
                  refine wp_region_held_drew (S := Swk AA gz (oz + k * 6) w.heap.size (.slice (some ⟨gz, oz, none⟩) nn2 nc2) z0 z1 z0 g) (by kernel_rfl) (by exact hS0) (fun _ => ?_)
                  generalize World.drew wr = V0 at hS0 GK2 ⊢
                  refine takeS_on (i := 0) 153 (v := ?hv59) rfl rfl (by kernel_rfl) (by kernel_rfl) (by kernel_rfl) (fun _ _ _ h => h) (by kernel_rfl) ?hh59 (by exact hS0) ?_
                  case hh59 => (intro w' hSw; go_simp; try (with_reducible rfl))
                  simp only [Act.put, List.setIfInBounds_toArray, List.set_cons_zero, List.set_cons_succ]
                  refine takeS_on (i := 1) 154 (v := ?hv60) rfl rfl (by kernel_rfl) (by kernel_rfl) (by kernel_rfl) (fun _ _ _ h => h) (by kernel_rfl) ?hh60 (by exact hS0) ?_
                  case hh60 => (intro w' hSw; have c4 := hSw.s4; have c0 := hSw.e0; have c1 := hSw.e1; have d0 := hSw.a0; have d1 := hSw.a1; go_simp; try (with_reducible rfl))
                  simp only [Act.put, List.setIfInBounds_toArray, List.set_cons_zero, List.set_cons_succ]
                  refine takeS_on (i := 2) 155 (v := ?hv61) rfl rfl (by kernel_rfl) (by kernel_rfl) (by kernel_rfl) (fun _ _ _ h => h) (by kernel_rfl) ?hh61 (by exact hS0) ?_
                  case hh61 => (intro w' hSw; go_simp; try (with_reducible rfl))
                  simp only [Act.put, List.setIfInBounds_toArray, List.set_cons_zero, List.set_cons_succ]
                  refine takeS_on (i := 3) 156 (v := ?hv62) rfl rfl (by kernel_rfl) (by kernel_rfl) (by kernel_rfl) (fun _ _ _ h => h) (by kernel_rfl) ?hh62 (by exact hS0) ?_
                  case hh62 => (intro w' hSw; go_simp; try (with_reducible rfl))
                  simp only [Act.put, List.setIfInBounds_toArray, List.set_cons_zero, List.set_cons_succ]
                  refine takeS_on (i := 4) 157 (v := ?hv63) rfl rfl (by kernel_rfl) (by kernel_rfl) (by kernel_rfl) (fun _ _ _ h => h) (by kernel_rfl) ?hh63 (by exact hS0) ?_
                  case hh63 => (intro w' hSw; go_simp; try (with_reducible rfl))
                  simp only [Act.put, List.setIfInBounds_toArray, List.set_cons_zero, List.set_cons_succ]
                  refine takeS_on (i := 5) 158 (v := ?hv64) rfl rfl (by kernel_rfl) (by kernel_rfl) (by kernel_rfl) (fun _ _ _ h => h) (by kernel_rfl) ?hh64 (by exact hS0) ?_
                  case hh64 => (intro w' hSw; have c4 := hSw.s4; have c0 := hSw.e0; have c1 := hSw.e1; have d0 := hSw.a0; have d1 := hSw.a1; go_simp; try (with_reducible rfl))
                  simp only [Act.put, List.setIfInBounds_toArray, List.set_cons_zero, List.set_cons_succ]
                  refine takeS_on (i := 6) 159 (v := ?hv65) rfl rfl (by kernel_rfl) (by kernel_rfl) (by kernel_rfl) (fun _ _ _ h => h) (by kernel_rfl) ?hh65 (by exact hS0) ?_
                  case hh65 => (intro w' hSw; go_simp; try (with_reducible rfl))
                  simp only [Act.put, List.setIfInBounds_toArray, List.set_cons_zero, List.set_cons_succ]
                  refine takeS_on (i := 7) 160 (v := ?hv66) rfl rfl (by kernel_rfl) (by kernel_rfl) (by kernel_rfl) (fun _ _ _ h => h) (by kernel_rfl) ?hh66 (by exact hS0) ?_
                  case hh66 => (intro w' hSw; have c4 := hSw.s4; have c0 := hSw.e0; have c1 := hSw.e1; have d0 := hSw.a0; have d1 := hSw.a1; go_simp; try (with_reducible rfl))
                  simp only [Act.put, List.setIfInBounds_toArray, List.set_cons_zero, List.set_cons_succ]
                  refine takeS_on (i := 8) 161 (v := ?hv67) rfl rfl (by kernel_rfl) (by kernel_rfl) (by kernel_rfl) (fun _ _ _ h => h) (by kernel_rfl) ?hh67 (by exact hS0) ?_
                  case hh67 => (intro w' hSw; go_simp; try (with_reducible rfl))
                  simp only [Act.put, List.setIfInBounds_toArray, List.set_cons_zero, List.set_cons_succ]
                  refine takeS_on (i := 9) 162 (v := ?hv68) rfl rfl (by kernel_rfl) (by kernel_rfl) (by kernel_rfl) (fun _ _ _ h => h) (by kernel_rfl) ?hh68 (by exact hS0) ?_
                  case hh68 => (intro w' hSw; go_simp; try (with_reducible rfl))
                  simp only [Act.put, List.setIfInBounds_toArray, List.set_cons_zero, List.set_cons_succ]
                  refine skipS_on (i := 10) 163 rfl rfl (by kernel_rfl) (by kernel_rfl) (by kernel_rfl) (fun _ _ _ h => h) (by kernel_rfl) (by exact hS0) ?_
                  simp only [Act.put, List.setIfInBounds_toArray, List.set_cons_zero, List.set_cons_succ]
                  refine skipS_on (i := 11) 164 rfl rfl (by kernel_rfl) (by kernel_rfl) (by kernel_rfl) (fun _ _ _ h => h) (by kernel_rfl) (by exact hS0) ?_
                  simp only [Act.put, List.setIfInBounds_toArray, List.set_cons_zero, List.set_cons_succ]
                  refine skipS_on (i := 12) 165 rfl rfl (by kernel_rfl) (by kernel_rfl) (by kernel_rfl) (fun _ _ _ h => h) (by kernel_rfl) (by exact hS0) ?_
                  simp only [Act.put, List.setIfInBounds_toArray, List.set_cons_zero, List.set_cons_succ]
                  refine skipS_on (i := 13) 166 rfl rfl (by kernel_rfl) (by kernel_rfl) (by kernel_rfl) (fun _ _ _ h => h) (by kernel_rfl) (by exact hS0) ?_
                  simp only [Act.put, List.setIfInBounds_toArray, List.set_cons_zero, List.set_cons_succ]
                  refine takeS_on (i := 14) 167 (v := ?hv73) rfl rfl (by kernel_rfl) (by kernel_rfl) (by kernel_rfl) (fun _ _ _ h => h) (by kernel_rfl) ?hh73 (by exact hS0) ?_
                  case hh73 => (intro w' hSw; go_simp; try (with_reducible rfl))
                  simp only [Act.put, List.setIfInBounds_toArray, List.set_cons_zero, List.set_cons_succ]
                  refine wpAnyH_done (by kernel_rfl) ?_ _

                  go_wp2
                  go_roundg (gk - 1)
                  case measure => omega
                  case rel =>
                    refine ⟨k + 1, by omega, ?_, GK2.out⟩
                    first | with_reducible rfl | simp
              · have e3 : (z0 == s) = false := by simpa using e1
                clear e1
                go_upto_region 27 with fail
                clear s4 ls
                refine wp_region_held_drew (S := Swk AA gz (oz + k * 6) w.heap.size (.slice (some ⟨gz, oz, none⟩) nn2 nc2) z0 z1 s g) (by kernel_rfl) (by exact hS0) (fun _ => ?_)
                generalize World.drew wr = V0 at hS0 GK2 ⊢
                refine takeS_on (i := 0) 153 (v := ?hv74) rfl rfl (by kernel_rfl) (by kernel_rfl) (by kernel_rfl) (fun _ _ _ h => h) (by kernel_rfl) ?hh74 (by exact hS0) ?_
                case hh74 => (intro w' hSw; go_simp; try (with_reducible rfl))
                simp only [Act.put, List.setIfInBounds_toArray, List.set_cons_zero, List.set_cons_succ]
                refine takeS_on (i := 1) 154 (v := ?hv75) rfl rfl (by kernel_rfl) (by kernel_rfl) (by kernel_rfl) (fun _ _ _ h => h) (by kernel_rfl) ?hh75 (by exact hS0) ?_
                case hh75 => (intro w' hSw; have c4 := hSw.s4; have c0 := hSw.e0; have c1 := hSw.e1; have d0 := hSw.a0; have d1 := hSw.a1; go_simp; try (with_reducible rfl))
                simp only [Act.put, List.setIfInBounds_toArray, List.set_cons_zero, List.set_cons_succ]
                refine takeS_on (i := 2) 155 (v := ?hv76) rfl rfl (by kernel_rfl) (by kernel_rfl) (by kernel_rfl) (fun _ _ _ h => h) (by kernel_rfl) ?hh76 (by exact hS0) ?_
                case hh76 => (intro w' hSw; go_simp; try (with_reducible rfl))
                simp only [Act.put, List.setIfInBounds_toArray, List.set_cons_zero, List.set_cons_succ]
                refine takeS_on (i := 3) 156 (v := ?hv77) rfl rfl (by kernel_rfl) (by kernel_rfl) (by kernel_rfl) (fun _ _ _ h => h) (by kernel_rfl) ?hh77 (by exact hS0) ?_
                case hh77 => (intro w' hSw; go_simp; try (with_reducible rfl))
                simp only [Act.put, List.setIfInBounds_toArray, List.set_cons_zero, List.set_cons_succ]
                refine takeS_on (i := 4) 157 (v := ?hv78) rfl rfl (by kernel_rfl) (by kernel_rfl) (by kernel_rfl) (fun _ _ _ h => h) (by kernel_rfl) ?hh78 (by exact hS0) ?_
                case hh78 => (intro w' hSw; go_simp; try (with_reducible rfl))
                simp only [Act.put, List.setIfInBounds_toArray, List.set_cons_zero, List.set_cons_succ]
                refine takeS_on (i := 5) 158 (v := ?hv79) rfl rfl (by kernel_rfl) (by kernel_rfl) (by kernel_rfl) (fun _ _ _ h => h) (by kernel_rfl) ?hh79 (by exact hS0) ?_
                case hh79 => (intro w' hSw; have c4 := hSw.s4; have c0 := hSw.e0; have c1 := hSw.e1; have d0 := hSw.a0; have d1 := hSw.a1; go_simp; try (with_reducible rfl))
                simp only [Act.put, List.setIfInBounds_toArray, List.set_cons_zero, List.set_cons_succ]
                refine takeS_on (i := 6) 159 (v := ?hv80) rfl rfl (by kernel_rfl) (by kernel_rfl) (by kernel_rfl) (fun _ _ _ h => h) (by kernel_rfl) ?hh80 (by exact hS0) ?_
                case hh80 => (intro w' hSw; go_simp; try (with_reducible rfl))
                simp only [Act.put, List.setIfInBounds_toArray, List.set_cons_zero, List.set_cons_succ]
                refine takeS_on (i := 7) 160 (v := ?hv81) rfl rfl (by kernel_rfl) (by kernel_rfl) (by kernel_rfl) (fun _ _ _ h => h) (by kernel_rfl) ?hh81 (by exact hS0) ?_
                case hh81 => (intro w' hSw; have c4 := hSw.s4; have c0 := hSw.e0; have c1 := hSw.e1; have d0 := hSw.a0; have d1 := hSw.a1; go_simp; try (with_reducible rfl))
                simp only [Act.put, List.setIfInBounds_toArray, List.set_cons_zero, List.set_cons_succ]
                refine takeS_on (i := 8) 161 (v := ?hv82) rfl rfl (by kernel_rfl) (by kernel_rfl) (by kernel_rfl) (fun _ _ _ h => h) (by kernel_rfl) ?hh82 (by exact hS0) ?_
                case hh82 => (intro w' hSw; go_simp; try (with_reducible rfl))
                simp only [Act.put, List.setIfInBounds_toArray, List.set_cons_zero, List.set_cons_succ]
                refine takeS_on (i := 9) 162 (v := ?hv83) rfl rfl (by kernel_rfl) (by kernel_rfl) (by kernel_rfl) (fun _ _ _ h => h) (by kernel_rfl) ?hh83 (by exact hS0) ?_
                case hh83 => (intro w' hSw; go_simp; try (with_reducible rfl))
                simp only [Act.put, List.setIfInBounds_toArray, List.set_cons_zero, List.set_cons_succ]
                refine skipS_on (i := 10) 163 rfl rfl (by kernel_rfl) (by kernel_rfl) (by kernel_rfl) (fun _ _ _ h => h) (by kernel_rfl) (by exact hS0) ?_
                simp only [Act.put, List.setIfInBounds_toArray, List.set_cons_zero, List.set_cons_succ]
                refine skipS_on (i := 11) 164 rfl rfl (by kernel_rfl) (by kernel_rfl) (by kernel_rfl) (fun _ _ _ h => h) (by kernel_rfl) (by exact hS0) ?_
                simp only [Act.put, List.setIfInBounds_toArray, List.set_cons_zero, List.set_cons_succ]
                refine skipS_on (i := 12) 165 rfl rfl (by kernel_rfl) (by kernel_rfl) (by kernel_rfl) (fun _ _ _ h => h) (by kernel_rfl) (by exact hS0) ?_
                simp only [Act.put, List.setIfInBounds_toArray, List.set_cons_zero, List.set_cons_succ]
                refine skipS_on (i := 13) 166 rfl rfl (by kernel_rfl) (by kernel_rfl) (by kernel_rfl) (fun _ _ _ h => h) (by kernel_rfl) (by exact hS0) ?_
                simp only [Act.put, List.setIfInBounds_toArray, List.set_cons_zero, List.set_cons_succ]
                refine takeS_on (i := 14) 167 (v := ?hv88) rfl rfl (by kernel_rfl) (by kernel_rfl) (by kernel_rfl) (fun _ _ _ h => h) (by kernel_rfl) ?hh88 (by exact hS0) ?_
                case hh88 => (intro w' hSw; go_simp; try (with_reducible rfl))
                simp only [Act.put, List.setIfInBounds_toArray, List.set_cons_zero, List.set_cons_succ]
                refine wpAnyH_done (by kernel_rfl) ?_ _

                go_wp2
                go_roundg (gk - 1)
                case measure => omega
                case rel =>
                  refine ⟨k + 1, by omega, ?_, GK2.out⟩
                  first | with_reducible rfl | simp
            · have kn : ¬ (k : Int) < (nn2 : Int) := by omega
              go_wp2
              go_roundg (m - (j + 1))
              case measure => omega
              case rel =>
                refine ⟨j + 1, t3, by omega, ?_, ?_, ?_, Z6.out, Gr.trans G36.out GK.out⟩
                · first | with_reducible rfl | simp
                · rw [HTS.out]; exact C6.out.gr GK.out
                · rw [HTS.out]; exact R6.out.gr GK.out

      · have jn : ¬ (j : Int) < (m : Int) := by omega
        have hS0 : Sbk w.heap.size #[.int .i64 s, .int .i64 g, .slice ao m2 ca, .bool df, .slice dp k da] (World.drew wr) := ⟨gr_blk BX.out (Ch.drew GJ.out)⟩
        have GV := hid (show Gr wr (World.drew wr) from Ch.drew (Gr.refl wr))
        have HWP := hid (fun (W : World) (p : Gr wr W) => waits_any (CJ.out.gr p) HK.out)
        have HWR := hid (fun (W : World) (p : Gr wr W) => rwaits_any _ W u9 _ s g (RJ.out.gr p) (HGD.out.bd (by omega)) HGD.out.n)
        generalize decide (0 < pls (thR o.o.cs (ts.take j)) s g) = dd at HWP HWR
        go_upto_region 29 with fail
        refine wp_region_held_drew (S := Sbk w.heap.size #[.int .i64 s, .int .i64 g, .slice ao m2 ca, .bool df, .slice dp k da]) (by kernel_rfl) (by exact hS0) (fun _ => ?_)
        generalize World.drew wr = V0 at hS0 GV ⊢
        refine takeS_on (i := 0) 168 (v := ?hv89) rfl rfl (by kernel_rfl) (by kernel_rfl) (by kernel_rfl) (fun _ _ _ h => h) (by kernel_rfl) ?hh89 (by exact hS0) ?_
        case hh89 => (intro w' hSw; go_simp; try (with_reducible rfl))
        simp only [Act.put, List.setIfInBounds_toArray, List.set_cons_zero, List.set_cons_succ]
        refine takeS_on (i := 1) 169 (v := ?hv90) rfl rfl (by kernel_rfl) (by kernel_rfl) (by kernel_rfl) (fun _ _ _ h => h) (by kernel_rfl) ?hh90 (by exact hS0) ?_
        case hh90 => (intro w' hSw; go_simp; try (with_reducible rfl))
        simp only [Act.put, List.setIfInBounds_toArray, List.set_cons_zero, List.set_cons_succ]
        refine takeS_on (i := 2) 170 (v := ?hv91) rfl rfl (by kernel_rfl) (by kernel_rfl) (by kernel_rfl) (fun _ _ _ h => h) (by kernel_rfl) ?hh91 (by exact hS0) ?_
        case hh91 => (intro w' hSw; have c0 := cell_of hSw.bx 0; have c1 := cell_of hSw.bx 1; simp at c0 c1; go_simp; try (with_reducible rfl))
        simp only [Act.put, List.setIfInBounds_toArray, List.set_cons_zero, List.set_cons_succ]
        refine takeS_on (i := 4) 172 (v := ?hv92) rfl rfl (by kernel_rfl) (by kernel_rfl) (by kernel_rfl) (fun _ _ _ h => h) (by kernel_rfl) ?hh92 (by exact hS0) ?_
        case hh92 => (intro w' hSw; go_simp; try (with_reducible rfl))
        simp only [Act.put, List.setIfInBounds_toArray, List.set_cons_zero, List.set_cons_succ]
        refine takeS_on (i := 5) 173 (v := ?hv93) rfl rfl (by kernel_rfl) (by kernel_rfl) (by kernel_rfl) (fun _ _ _ h => h) (by kernel_rfl) ?hh93 (by exact hS0) ?_
        case hh93 => (intro w' hSw; go_simp; try (with_reducible rfl))
        simp only [Act.put, List.setIfInBounds_toArray, List.set_cons_zero, List.set_cons_succ]
        refine takeS_on (i := 6) 174 (v := ?hv94) rfl rfl (by kernel_rfl) (by kernel_rfl) (by kernel_rfl) (fun _ _ _ h => h) (by kernel_rfl) ?hh94 (by exact hS0) ?_
        case hh94 => (intro w' hSw; have c0 := cell_of hSw.bx 0; have c1 := cell_of hSw.bx 1; simp at c0 c1; go_simp; try (with_reducible rfl))
        simp only [Act.put, List.setIfInBounds_toArray, List.set_cons_zero, List.set_cons_succ]
        refine wpAnyH_ready (rs := [3]) (by kernel_rfl) (by simp) (AllReadyH.cons rfl (fun K hK => ?_) AllReadyH.nil)
        go_simp
        refine (HWP.out _ GV.out).mono ?_
        rintro e w5 ⟨rfl, g5⟩
        have hS1 := hS0.gr g5
        have G5 := hid (Gr.trans GV.out g5)
        clear g5
        refine hK.out _ _ (by exact hS1) (fun _ => ?_)
        clear hK K
        refine wpAnyH_ready (rs := [7]) (by kernel_rfl) (by simp) (AllReadyH.cons rfl (fun K hK => ?_) AllReadyH.nil)
        go_simp
        refine (HWR.out _ G5.out).mono ?_
        rintro e w6 ⟨rfl, g6⟩
        have hS2 := hS1.gr g6
        have G6 := hid (Gr.trans G5.out g6)
        clear g6
        refine hK.out _ _ (by exact hS2) (fun _ => ?_)
        clear hK K
        refine takeS_on (i := 8) 176 (v := ?hv95) rfl rfl (by kernel_rfl) (by kernel_rfl) (by kernel_rfl) (fun _ _ _ h => h) (by kernel_rfl) ?hh95 (by exact hS2) ?_
        case hh95 => (intro w' hSw; go_simp; try (with_reducible rfl))
        simp only [Act.put, List.setIfInBounds_toArray, List.set_cons_zero, List.set_cons_succ]
        refine takeS_on (i := 9) 6 (v := ?hv96) rfl rfl (by kernel_rfl) (by kernel_rfl) (by kernel_rfl) (fun _ _ _ h => h) (by kernel_rfl) ?hh96 (by exact hS2) ?_
        case hh96 => (intro w' hSw; go_simp; try (with_reducible rfl))
        simp only [Act.put, List.setIfInBounds_toArray, List.set_cons_zero, List.set_cons_succ]
        refine wpAnyH_done (by kernel_rfl) ?_ _

        go_wp2
        go_ret
        exact ⟨by simp, Gr.trans (Gr.trans G0.out GJ.out) G6.out⟩
theorem wakes12_any (v0 : Value) (cs : List Cn) (s g : Int) (df : Bool) (vp vd v2 : Value) (ps : List Pk) (ds : List Int) (ts : List Th) (w : World) (h : Rds (· < w.heap.size) w v0 cs) (hb : Bd cs) (ht : tot cs ≤ 1048576) (hg : ∀ c ∈ cs, ∀ x, x ∈ c.ss ∨ x ∈ c.rs → Gok x.s x.g) (hk : Gok s g) (hps : Ls eP (· < w.heap.size) w vp ps) (hds : Ls eU (· < w.heap.size) w vd ds) (hd : Dok ds) (hth : Ls eT (· < w.heap.size) w v2 ts) (hm : ts.length ≤ 1048576) (htg : ∀ x ∈ ts, Gok x.s x.g) :
    Calls Try.prog 8 #[v0, .agg #[.int .i64 s, .int .i64 g, vp, .bool df, vd], v2] w fun e w' => e = .returned (.bool true) ∧ Gr w w' := by
  obtain ⟨lo, cap, rfl⟩ := h.form
  obtain ⟨ao, ca, rfl⟩ := hps.form
  obtain ⟨dp, da, rfl⟩ := hds.form
  obtain ⟨tp, ta, rfl⟩ := hth.form
  exact wakes12_walk _ w lo ao dp tp _ cap _ ca _ da _ ta cs s g df ps ds ts h hb ht hg hk hps hds hd hth htg hm
end Go.Proofs.Ytalmiphddgmfbaa.Lt

namespace Go.Proofs.Ytalmiphddgmfbaa.Lt
open Go.ChangeShapes Go.WideShapes Go.ChangeAt Go.RowKit Wd

set_option maxRecDepth 100000 in
theorem wakesc_lifted (os : Os) (started : os.Started) (H : Type) (enc : TypeId × Value → H) (F : Stop.Interp) :
    ReturnsInHanded {} Try.checked os 8 .any ((Rows.OpenSpec.upto Rows.chooseWakesSpec).pre6 enc Try.prog Try.f8 Rows.chooseWakesUptoRow.domain false) (((Rows.OpenSpec.upto Rows.chooseWakesSpec).at F).post enc Try.prog Try.f8 false true false false) := by
  refine returnsInHanded_of_cond (C := Try.checked) (s := Rows.OpenSpec.upto Rows.chooseWakesSpec) (k := Rows.uptoSmall) rfl own started (by kernel_rfl) Try.func8
    (OpenSpec.witness (enc := enc) (C := Try.checked) (s := Rows.OpenSpec.upto Rows.chooseWakesSpec) (k := Rows.uptoSmall) rfl false ⟨#[], #[.slice none 0 0, .agg #[.int .i64 0, .int .i64 0, .slice none 0 0, .bool false, .slice none 0 0], .slice none 0 0], []⟩ 8 (by kernel_rfl) (by kernel_rfl) (by kernel_rfl)
      (x := ([.nil, .agg [.agg [.lit (.int .i64 0), .lit (.int .i64 0)], .nil, .lit (.bool false), .nil], .nil], [], [])) (by kernel_rfl) rfl (by kernel_rfl)) ?_
  intro W base args ds gs before hval0 hW _ hk _
  have hval : ∀ (j : Nat) t v, Try.f8.params[j]? = some t → args[j]? = some v → Value.okWide Try.prog W .any base t v := hval0
  have hW' := hW
  obtain ⟨p, q, hA0, hV, rfl, hfz, hnd⟩ := hW
  have hA : DataW.TrodAll enc Try.prog W 0 (fun _ => true) true Try.f8.params.toList args.toList ds p := hA0
  rw [Try.params8] at hA hval
  obtain ⟨v0, v1, v2, d0, d1, d2, p0, p1, p2, rfl, rfl, rfl, h0, h1, h2⟩ := trodAll_three hA
  obtain ⟨rfl, rfl⟩ := trodVars_none hV
  obtain ⟨cs0, rx0, bd0, tt0, gg0⟩ := open_states (hval 0 36 v0 rfl rfl) h0 hk (by simp)
  obtain ⟨s1, g1, ca1, df1, da1, ps1, xs1, rfl, gk1, lp1, lx1, ok1⟩ := open_askU (hval 1 41 v1 rfl rfl) h1
  obtain ⟨xs2, lx2, bx2, kx2⟩ := open_thens (hval 2 61 v2 rfl rfl) h2 hk (by simp)
  clear hA0 hval0
  simp only [List.append_nil] at hW'
  refine (wakes12_any v0 cs0 s1 g1 df1 ca1 da1 v2 ps1 xs1 xs2 W rx0 bd0 tt0 gg0 gk1 lp1 lx1 ok1 lx2 bx2 kx2).mono fun e W' ⟨he, hg⟩ => ?_
  subst he
  exact ⟨_, rfl, post_law3 hW' (by rw [Try.params8]) rfl Try.underlying4 rfl rfl (by kernel_rfl) (of_decide_eq_true (by kernel_rfl)) (by kernel_rfl) (of_decide_eq_true (by kernel_rfl)) (by kernel_rfl) (of_decide_eq_true (by kernel_rfl)) h0 h1 h2 (hg.below (fun _ x => x.elim) (Nat.le_refl _))⟩

theorem wakesc_holds : Rows.ChooseWakesUptoSaid :=
  OpenClaim.holds_of_cond 8 Try.f8 rfl rfl rfl rfl rfl rfl rfl ⟨rfl, rfl, rfl, rfl, rfl⟩ rfl rfl rfl rfl rfl (by kernel_rfl) Try.func8 (by kernel_rfl)
    (of_decide_eq_true (by kernel_rfl)) (by unfold Func.isWrapper; first | (rw [if_pos (by decide +kernel)]; kernel_rfl) | (rw [if_neg (by decide +kernel)]; exact ⟨rfl, rfl⟩))
    (fun os started H enc _ F => wakesc_lifted os started H enc F)
end Go.Proofs.Ytalmiphddgmfbaa.Lt
