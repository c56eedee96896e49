/-
  How a list of acts, handed in by value, reads; and how long it may be, by the bulk of what is read. No conditions.
-/
import Derived.Test.YtkaeccmhfbjcmaaHpFrame
import Derived.Test.YtkaeccmhfbjcmaaHpPlays
namespace Go.Proofs.Ytkaeccmhfbjcmaa.Hp
open Go.ChangeShapes Go.WideShapes Go.ChangeAt Go.RowKit Go.Deep Go.Joins

theorem cellsA : Try.prog.cellsOf 33 = 3 := by kernel_rfl
set_option maxRecDepth 100000 in
theorem open_acts {H : Type} {enc : TypeId × Value → H} {w : World} {base : Nat} {spare : Nat → Bool} {held : Bool} {r : Reach} {b0 : Nat} {v : Value} {d : DataW H} {p : List MemPlace} {ds : List (DataW H)}
    (hv : Value.okWide Try.prog w r b0 22 v) (h : DataW.Trod enc Try.prog w base spare held 22 v d p) (hk : Rows.uptoSmall H ds = true) (hd : d ∈ ds) :
    ∃ l : List (Int × Int × Int), ActS w v l ∧ l.length ≤ 1048576 := by
  have hb : Rows.uptoBulkAll ds ≤ 1048576 := of_decide_eq_true hk
  have hb1 := Nat.le_trans (bulk_part hd) hb
  obtain ⟨fuel, hf⟩ := h
  obtain ⟨va, vl, vc, rfl⟩ := okWide_slice Try.underlying22 hv
  have hf' : DataW.trod enc Try.prog w base spare held fuel 22 [.slice va vl vc] = some (d, p) := by simpa [Value.cells] using hf
  rcases open_slice Try.underlying22 hf' with ⟨h1, h2⟩ | ⟨a, len, cap, m, n, D, Pl, h1, hb2, hl, hm, hmm, hdd, hx⟩
  · injection h1 with h1
    rw [h1]
    exact ⟨[], ⟨none, 0, rfl, .inl rfl⟩, by simp⟩
  · injection h1 with h1
    rw [h1]
    have hz : len + (m - len) + 1 ≤ 1048576 := by
      have e1 := congrArg Prod.fst hdd
      simp only at e1
      rw [e1] at hb1
      refine Nat.le_trans ?_ hb1
      refine Nat.le_trans ?_ (bulk_slice _ _)
      simp
    rw [cellsA] at hx
    have hlm : len ≤ m := by rw [hmm]; split <;> omega
    obtain ⟨Z, hZ⟩ := choose_lt (α := Int × Int × Int) (n := len) (p := fun i z => w.cell? ((a.add (i * 3)).add 0) = some (.int .i64 z.1) ∧ w.cell? ((a.add (i * 3)).add 1) = some (.int .u64 z.2.1) ∧ w.cell? ((a.add (i * 3)).add 2) = some (.int .i64 z.2.2)) (fun i hi => by
      obtain ⟨cs', h2, h3⟩ := hx i (by omega)
      obtain ⟨_, hlen, hc⟩ := World.cells?_some h2
      match cs', hlen with
      | [c0, c1, c2], _ =>
        obtain ⟨y0, y1, y2, n', hx', _, k0, k1, k2⟩ := trod_struct3 Try.underlying33 h3
        have k0' : DataW.trod enc Try.prog w base spare held n' 3 [c0] = some y0 := by simpa [cellsI, cellsU] using k0
        have k1' : DataW.trod enc Try.prog w base spare held n' 31 [c1] = some y1 := by simpa [cellsI, cellsU] using k1
        have k2' : DataW.trod enc Try.prog w base spare held n' 3 [c2] = some y2 := by simpa [cellsI, cellsU] using k2
        obtain ⟨z0, e0, _⟩ := DataW.trod_int Try.underlying3 k0'
        obtain ⟨z1, e1, _⟩ := DataW.trod_int Try.underlying31 k1'
        obtain ⟨z2, e2, _⟩ := DataW.trod_int Try.underlying3 k2'
        simp at e0 e1 e2
        subst e0 e1 e2
        exact ⟨(z0, z1, z2), hc 0 (by omega), hc 1 (by omega), hc 2 (by omega)⟩)
    refine ⟨(List.range len).map Z, ⟨some a, cap, by simp, ?_⟩, by simp; omega⟩
    rcases Nat.eq_zero_or_pos len with h0 | h0
    · left
      rw [h0]
      rfl
    · right
      obtain ⟨g, o, sp⟩ := a
      have hsp : sp = none := by
        obtain ⟨hc, _⟩ := hZ 0 h0
        have e : ((⟨g, o, sp⟩ : Addr).add (0 * 3)).add 0 = ⟨g, o, sp⟩ := by simp [Addr.add]
        rw [e] at hc
        exact addr_none hc
      subst hsp
      refine ⟨g, o, rfl, ?_, fun i x hx => ?_⟩
      · obtain ⟨hc, _⟩ := hZ 0 h0
        rw [add_at] at hc
        exact lt_of_cell hc
      · rw [List.getElem?_map] at hx
        rcases Nat.lt_or_ge i len with h | h
        · rw [List.getElem?_range h] at hx
          simp only [Option.map_some, Option.some.injEq] at hx
          subst hx
          obtain ⟨h3, h4, h5⟩ := hZ i h
          rw [add_at] at h3 h4 h5
          exact ⟨h3, h4, h5⟩
        · rw [List.getElem?_eq_none (by simpa using h)] at hx
          cases hx
end Go.Proofs.Ytkaeccmhfbjcmaa.Hp
