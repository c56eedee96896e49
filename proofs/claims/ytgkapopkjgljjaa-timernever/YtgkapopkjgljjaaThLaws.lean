/-
  Laws for slices of nodes that the walks of the heap take: clear and copy, at elements of three cells. No conditions.
-/
import Derived.Test.YtgkapopkjgljjaaThList
import Derived.Lib.SliceRun
import Derived.Laws.IdiomCopy
namespace Go.Proofs.Ytgkapopkjgljjaa.Hp
open Go.RowKit Wd

theorem rowOf_replicate : ∀ n : Nat, (Builtin.zeroCells (Value.agg #[.int .u64 0, .int .i64 0, .int .i64 0]).cells n).toList = rowOf (List.replicate n W3.zero) := by
  intro n
  apply List.ext_getElem?
  intro j
  have hl : (rowOf (List.replicate n W3.zero)).length = n * 3 := by rw [rowOf_length, List.length_replicate]
  by_cases hj : j < n * 3
  · obtain ⟨u, hu⟩ : ∃ u, (rowOf (List.replicate n W3.zero))[j]? = some u := ⟨_, List.getElem?_eq_getElem (by omega)⟩
    obtain ⟨x, hx, hc⟩ := rowOf_inv _ j u hu
    rw [hu]
    have hz : x = W3.zero := by
      rw [List.getElem?_replicate] at hx
      split at hx
      · injection hx with hx; exact hx.symm
      · cases hx
    subst hz
    simp only [Builtin.zeroCells, Value.cells]
    rcases hc with ⟨hm, rfl⟩ | ⟨hm, rfl⟩ | ⟨hm, rfl⟩ <;> simp [hm, hj, W3.zero] <;> omega
  · have h1 : (Builtin.zeroCells (Value.agg #[.int .u64 0, .int .i64 0, .int .i64 0]).cells n).toList.length ≤ j := by
      simp [Builtin.zeroCells, Value.cells]
      omega
    rw [List.getElem?_eq_none h1, List.getElem?_eq_none (by omega)]

theorem run_clear3 (w : World) (ty : TypeId) (b o n c : Nat) (hn : 0 < n) (hc : ∀ j, j < n * 3 → (w.cell? ⟨b, o + j, none⟩).isSome = true) (hf : ∀ j, j < n * 3 → w.frozen? ⟨b, o + j, none⟩ = false) :
    (Builtin.clear_ #[97] ty #[.slice (some ⟨b, o, none⟩) n c]).run Try.prog w = .ok (.tuple #[]) (w.setCells b o (rowOf (List.replicate n W3.zero))) := by
  have hl : (rowOf (List.replicate n W3.zero)).length = n * 3 := by rw [rowOf_length, List.length_replicate]
  have hst := run_storeCells_cells (P := Try.prog) b o (rowOf (List.replicate n W3.zero)) 0 w (by simpa [hl] using hc) (by simpa [hl] using hf) (rowOf_one _)
  simp only [Nat.add_zero] at hst
  obtain ⟨m, rfl⟩ : ∃ m, n = m + 1 := ⟨n - 1, by omega⟩
  simp [Builtin.clear_, run_underlying Try.underlying97, rowOf_replicate, hst]

theorem run_copy3 (w : World) (ty : TypeId) (b o dLen dCap : Nat) (a : Addr) (sLen sCap : Nat) (xs : List W3) (hn : xs.length = Nat.min sLen dLen)
    (hsrc : ∀ j v, (rowOf xs)[j]? = some v → w.cell? (a.add j) = some v) (hc : ∀ j, j < xs.length * 3 → (w.cell? ⟨b, o + j, none⟩).isSome = true) (hf : ∀ j, j < xs.length * 3 → w.frozen? ⟨b, o + j, none⟩ = false) :
    (Builtin.copy_ #[97, 97] ty #[.slice (some ⟨b, o, none⟩) dLen dCap, .slice (some a) sLen sCap]).run Try.prog w = .ok (goInt xs.length) (w.setCells b o (rowOf xs)) := by
  have hl := run_loadCells_list (P := Try.prog) w a (rowOf xs) hsrc
  have hst := run_storeCells_cells (P := Try.prog) b o (rowOf xs) 0 w (by simpa [rowOf_length] using hc) (by simpa [rowOf_length] using hf) (rowOf_one _)
  obtain ⟨i0, hi, hz0, hz1, hz2⟩ := info_parts W_info
  rw [rowOf_length] at hl
  simp [Builtin.copy_, run_underlying Try.underlying97, Builtin.lenOf, Builtin.firstCells, sizeOf, typeInfo, hi, hz1, ← hn, hl, hst]
end Go.Proofs.Ytgkapopkjgljjaa.Hp
