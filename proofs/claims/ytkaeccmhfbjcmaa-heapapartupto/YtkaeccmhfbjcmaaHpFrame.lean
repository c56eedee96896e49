/-
  What each step from a walk to a statement of layer 5 takes: how a call, handed in by value, reads; and that what lay there before the call is as it was. No conditions.
-/
import Derived.Test.YtkaeccmhfbjcmaaHpLs
import Derived.JoinedCond
import Derived.Deep.Slices
import Derived.Deep.Strs
import Derived.ProofKit
import Derived.OpenShut
import Derived.Carry
import Derived.Lib.SmallJoins
namespace Go.Proofs.Ytkaeccmhfbjcmaa.Hp
open Go.ChangeShapes Go.WideShapes Go.ChangeAt Go.RowKit Go.Deep Go.Joins

theorem own : ownKnob Try.prog.godebug = none := by kernel_rfl
theorem laid : laidOutB Try.prog = true := by kernel_rfl
theorem cellsU : Try.prog.cellsOf 31 = 1 := by kernel_rfl
theorem cellsI : Try.prog.cellsOf 3 = 1 := by kernel_rfl

/-- what a law leaves behind a call that turned nothing that was there -/
theorem post_law1 {H : Type} {enc : TypeId × Value → H} {f : Func} {s : ChangeSpec} {W W' : World} {v0 : Value} {d0 : DataW H} {p : List MemPlace} {t0 tb : TypeId}
    (hW : DataW.Whole enc Try.prog f.params.toList s.vars false W [v0] [d0] [] p) (hf : f.params.toList = [t0]) (hr : f.resultTypes = #[tb]) (hb : Try.prog.underlying tb = some .bool) (hs : s.vars = [])
    (hfn : s.fn H [d0] = { results := [.lit (.bool true)], args := [d0] }) (rd : Try.prog.readableRec t0 = true) (hl : t0 < Try.prog.types.size) (h0 : DataW.Trod enc Try.prog W 0 (fun _ => true) true t0 v0 d0 p)
    (k : Below W.heap.size W W') : s.post enc Try.prog f false true false false W #[v0] (.bool true) W' := by
  have hlt : ∀ x ∈ p, x.block < W.heap.size := fun x hx => hW.lt x hx
  refine ⟨[d0], [], p, [], p, [], hW, ?_, ?_, ?_, k.frame _, fun h => by cases h⟩
  · rw [hr, List.append_nil, hfn]
    exact trodAll_mk1 (shut_bool hb _)
  · rw [hf, List.append_nil, hfn]
    have := trodAll_mk1 (Below.trod laid rd hl h0 k hlt)
    simpa using this
  · rw [hs, List.append_nil, hfn]
    rfl
theorem post_law2 {H : Type} {enc : TypeId × Value → H} {f : Func} {s : ChangeSpec} {W W' : World} {v0 v1 : Value} {d0 d1 : DataW H} {p0 p1 : List MemPlace} {t0 t1 tb : TypeId}
    (hW : DataW.Whole enc Try.prog f.params.toList s.vars false W [v0, v1] [d0, d1] [] (p0 ++ p1)) (hf : f.params.toList = [t0, t1]) (hr : f.resultTypes = #[tb]) (hb : Try.prog.underlying tb = some .bool) (hs : s.vars = [])
    (hfn : s.fn H [d0, d1] = { results := [.lit (.bool true)], args := [d0, d1] }) (rd0 : Try.prog.readableRec t0 = true) (hl0 : t0 < Try.prog.types.size) (rd1 : Try.prog.readableRec t1 = true) (hl1 : t1 < Try.prog.types.size)
    (h0 : DataW.Trod enc Try.prog W 0 (fun _ => true) true t0 v0 d0 p0) (h1 : DataW.Trod enc Try.prog W 0 (fun _ => true) true t1 v1 d1 p1)
    (k : Below W.heap.size W W') : s.post enc Try.prog f false true false false W #[v0, v1] (.bool true) W' := by
  have hlt : ∀ x ∈ p0 ++ p1, x.block < W.heap.size := fun x hx => hW.lt x hx
  refine ⟨[d0, d1], [], p0 ++ p1, [], p0 ++ p1, [], hW, ?_, ?_, ?_, k.frame _, fun h => by cases h⟩
  · rw [hr, List.append_nil, hfn]
    exact trodAll_mk1 (shut_bool hb _)
  · rw [hf, List.append_nil, hfn]
    have := trodAll_mk2 (Below.trod laid rd0 hl0 h0 k (fun x hx => hlt x (List.mem_append_left _ hx))) (Below.trod laid rd1 hl1 h1 k (fun x hx => hlt x (List.mem_append_right _ hx)))
    simpa using this
  · rw [hs, List.append_nil, hfn]
    rfl
theorem lt_of_cell {w : World} {b o : Nat} {v : Value} (h : w.cell? ⟨b, o, none⟩ = some v) : b < w.heap.size := by
  rcases Nat.lt_or_ge b w.heap.size with h1 | h1
  · exact h1
  · have : w.heap[b]? = none := Array.getElem?_eq_none h1
    simp [World.cell?, this] at h
theorem addr_none {w : World} {a : Addr} {v : Value} (h : w.cell? a = some v) : a.spot = none := by
  obtain ⟨g, o, sp⟩ := a
  cases sp with
  | none => rfl
  | some k => simp [World.cell?] at h; split at h <;> simp at h
theorem add_at (g p i j : Nat) : ((⟨g, p, none⟩ : Addr).add i).add j = ⟨g, p + i + j, none⟩ := by
  unfold Addr.add
  by_cases hi : i = 0 <;> by_cases hj : j = 0 <;> simp [hi, hj]

/-- a part's bulk is at most the whole's -/
theorem bulk_part {H : Type} {d : DataW H} {l : List (DataW H)} (h : d ∈ l) : Rows.uptoBulk d ≤ Rows.uptoBulkAll l := by
  induction l with
  | nil => cases h
  | cons x r ih =>
    simp only [Rows.uptoBulkAll]
    cases List.mem_cons.1 h with
    | inl e => subst e; omega
    | inr e => have := ih e; omega
theorem bulk_one {H : Type} (d : DataW H) : 1 ≤ Rows.uptoBulk d := by
  cases d with
  | lit l => cases l <;> simp [Rows.uptoBulk]
  | nil => simp [Rows.uptoBulk]
  | ptr d => simp [Rows.uptoBulk]
  | slice elems spare => simp [Rows.uptoBulk]
  | agg parts => simp [Rows.uptoBulk]
  | iface t d => simp [Rows.uptoBulk]
  | map entries => simp [Rows.uptoBulk]
  | held h => simp [Rows.uptoBulk]
theorem bulk_len {H : Type} (l : List (DataW H)) : l.length ≤ Rows.uptoBulkAll l := by
  induction l with
  | nil => simp [Rows.uptoBulkAll]
  | cons x r ih => have := bulk_one x; simp only [Rows.uptoBulkAll, List.length_cons]; omega
theorem bulk_slice {H : Type} (elems spare : List (DataW H)) : elems.length + spare.length + 1 ≤ Rows.uptoBulk (.slice elems spare) := by
  have h1 := bulk_len elems
  have h2 := bulk_len spare
  simp only [Rows.uptoBulk]
  omega

theorem ls_of {w : World} {a : Addr} {len cap : Nat} {V : Nat → Value} (hl : len ≤ cap) (hc : ∀ i, i < len → w.cell? (a.add i) = some (V i)) : Ls (· < w.heap.size) w (.slice (some a) len cap) ((List.range len).map V) := by
  refine ⟨some a, cap, by simp, ⟨by simpa using hl, fun e => by cases e⟩, ?_⟩
  rcases Nat.eq_zero_or_pos len with h0 | h0
  · left
    rw [h0]
    rfl
  · right
    obtain ⟨g, o, sp⟩ := a
    have hsp : sp = none := by
      have := hc 0 h0
      have e : (⟨g, o, sp⟩ : Addr).add 0 = ⟨g, o, sp⟩ := by simp [Addr.add]
      rw [e] at this
      exact addr_none this
    subst hsp
    have ha : ∀ i, (⟨g, o, none⟩ : Addr).add i = ⟨g, o + i, none⟩ := fun i => by
      unfold Addr.add
      by_cases hi : i = 0 <;> simp [hi]
    have hg : g < w.heap.size := by
      have := hc 0 h0
      rw [ha] at this
      exact lt_of_cell this
    refine ⟨g, o, rfl, hg, hg, fun i x hx => ?_⟩
    rw [List.getElem?_map] at hx
    rcases Nat.lt_or_ge i len with h | h
    · rw [List.getElem?_range h] at hx
      simp only [Option.map_some, Option.some.injEq] at hx
      rw [← hx, ← ha]
      exact hc i h
    · rw [List.getElem?_eq_none (by simpa using h)] at hx
      cases hx

set_option maxRecDepth 100000 in
theorem open_ints {H : Type} {enc : TypeId × Value → H} {w : World} {base : Nat} {spare : Nat → Bool} {held : Bool} {r : Reach} {b0 : Nat} {v : Value} {d : DataW H} {p : List MemPlace} {ds : List (DataW H)}
    (hv : Value.okWide Try.prog w r b0 37 v) (h : DataW.Trod enc Try.prog w base spare held 37 v d p) (hk : Rows.uptoSmall H ds = true) (hd : d ∈ ds) :
    ∃ l : List Int, Ls (· < w.heap.size) w v (iv l) ∧ l.length ≤ 1048576 := by
  have hb : Rows.uptoBulkAll ds ≤ 1048576 := of_decide_eq_true hk
  have hb1 := Nat.le_trans (bulk_part hd) hb
  obtain ⟨fuel, hf⟩ := h
  obtain ⟨va, vl, vc, rfl⟩ := okWide_slice Try.underlying37 hv
  have hf' : DataW.trod enc Try.prog w base spare held fuel 37 [.slice va vl vc] = some (d, p) := by simpa [Value.cells] using hf
  rcases open_slice1 Try.underlying37 cellsI hf' with ⟨h1, h2⟩ | ⟨a, len, cap, m, n, V, D, Pl, h1, hb2, hl, hm, hmm, hdd, hx⟩
  · injection h1 with h1
    rw [h1]
    exact ⟨[], Ls.nil _ _, by simp⟩
  · injection h1 with h1
    rw [h1]
    have hz : len + (m - len) + 1 ≤ 1048576 := by
      have e1 := congrArg Prod.fst hdd
      simp only at e1
      rw [e1] at hb1
      refine Nat.le_trans ?_ hb1
      refine Nat.le_trans ?_ (bulk_slice _ _)
      simp
    have hlm : len ≤ m := by rw [hmm]; split <;> omega
    obtain ⟨Z, hZ⟩ := choose_lt (α := Int) (n := len) (p := fun i z => V i = .int .i64 z) (fun i hi => by
      obtain ⟨z, e, _⟩ := DataW.trod_int Try.underlying3 (hx i (by omega)).2
      simp at e
      exact ⟨z, e⟩)
    refine ⟨(List.range len).map Z, ?_, by simp; omega⟩
    have e : iv ((List.range len).map Z) = (List.range len).map V := by
      unfold iv
      rw [List.map_map]
      exact List.map_congr_left (fun i hi => (hZ i (List.mem_range.1 hi)).symm)
    rw [e]
    exact ls_of hl (fun i hi => (hx i (by omega)).1)
set_option maxRecDepth 100000 in
theorem open_u64s {H : Type} {enc : TypeId × Value → H} {w : World} {base : Nat} {spare : Nat → Bool} {held : Bool} {r : Reach} {b0 : Nat} {v : Value} {d : DataW H} {p : List MemPlace} {ds : List (DataW H)}
    (hv : Value.okWide Try.prog w r b0 36 v) (h : DataW.Trod enc Try.prog w base spare held 36 v d p) (hk : Rows.uptoSmall H ds = true) (hd : d ∈ ds) :
    ∃ l : List Int, Ls (· < w.heap.size) w v (uv l) ∧ l.length ≤ 1048576 := by
  have hb : Rows.uptoBulkAll ds ≤ 1048576 := of_decide_eq_true hk
  have hb1 := Nat.le_trans (bulk_part hd) hb
  obtain ⟨fuel, hf⟩ := h
  obtain ⟨va, vl, vc, rfl⟩ := okWide_slice Try.underlying36 hv
  have hf' : DataW.trod enc Try.prog w base spare held fuel 36 [.slice va vl vc] = some (d, p) := by simpa [Value.cells] using hf
  rcases open_slice1 Try.underlying36 cellsU hf' with ⟨h1, h2⟩ | ⟨a, len, cap, m, n, V, D, Pl, h1, hb2, hl, hm, hmm, hdd, hx⟩
  · injection h1 with h1
    rw [h1]
    exact ⟨[], Ls.nil _ _, by simp⟩
  · injection h1 with h1
    rw [h1]
    have hz : len + (m - len) + 1 ≤ 1048576 := by
      have e1 := congrArg Prod.fst hdd
      simp only at e1
      rw [e1] at hb1
      refine Nat.le_trans ?_ hb1
      refine Nat.le_trans ?_ (bulk_slice _ _)
      simp
    have hlm : len ≤ m := by rw [hmm]; split <;> omega
    obtain ⟨Z, hZ⟩ := choose_lt (α := Int) (n := len) (p := fun i z => V i = .int .u64 z) (fun i hi => by
      obtain ⟨z, e, _⟩ := DataW.trod_int Try.underlying31 (hx i (by omega)).2
      simp at e
      exact ⟨z, e⟩)
    refine ⟨(List.range len).map Z, ?_, by simp; omega⟩
    have e : uv ((List.range len).map Z) = (List.range len).map V := by
      unfold uv
      rw [List.map_map]
      exact List.map_congr_left (fun i hi => (hZ i (List.mem_range.1 hi)).symm)
    rw [e]
    exact ls_of hl (fun i hi => (hx i (by omega)).1)
end Go.Proofs.Ytkaeccmhfbjcmaa.Hp
