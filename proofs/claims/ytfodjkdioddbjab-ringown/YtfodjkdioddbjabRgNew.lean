/-
  What New and Len of the program's ring answer, and State, Put, Ready, Kick, Take, Drain and Steal of a nil one. No conditions.
-/
import Derived.Test.YtfodjkdioddbjabRgLow
import Derived.LaidEqlPtr
namespace Go.Proofs.Ytfodjkdioddbjab.Rg
open Go.RowKit
attribute [local go_sem ↓] Go.wp_at_zero Go.wp_at_succ

/-- no block -/
def NoB : Nat → Prop := fun _ => False
theorem Ch.any {S : Nat → Prop} {w w' : World} (h : Ch NoB w w') : Ch S w w' := h.mono (fun _ x => x.elim)

/-- the cells of a plain ring -/
def zring : Array Value := (((List.replicate 64 [Value.int .i64 0, Value.int .i64 0, Value.int .u64 0]).flatten) ++ [Value.int .i64 0, Value.int .i64 0, Value.bool false, Value.int .i64 0, Value.int .i64 0, Value.int .u64 0]).toArray
theorem zring_run (w : World) : Sem.run Try.prog (zeroValue 53) w = .ok (.agg zring) w := by kernel_rfl
theorem zring_cells : Cells zring 0 [] none :=
  ⟨by kernel_rfl, by omega, by simp, by kernel_rfl, by kernel_rfl, by kernel_rfl, ⟨by kernel_rfl, by kernel_rfl, by kernel_rfl⟩, fun i x h => by simp at h⟩

theorem new_any (w : World) :
    Calls Try.prog 18 #[] w fun e w' => e = .returned (.pointer (some ⟨w.heap.size, 0, none⟩)) ∧ RingAt w' w.heap.size [] none ∧ Ch NoB w w' ∧ w.heap.size < w'.heap.size := by
  have hz := zring_run
  go_enter Try.func18, Try.ntmps18
  go_wp2
  go_ret
  exact ⟨rfl, ⟨zring, 0, (MapKept.heap_alloc w _).1, zring_cells⟩, (Ch.refl _ _).alloc _, by simp⟩

theorem len_any (b : Nat) (ps : List W3) (nx : Option W3) (w : World) (h : RingAt w b ps nx) :
    Calls Try.prog 12 #[.pointer (some ⟨b, 0, none⟩)] w fun e w' => e = .returned (.int .i64 ((ps.length + nx.toList.length : Nat) : Int)) ∧ w' = w := by
  obtain ⟨c, f, hb, hc⟩ := h
  have hl := hc.len
  have c3 := (cell_of hb 193).trans hc.count
  have c4 := (cell_of hb 194).trans hc.has
  clear hb hc
  cases nx with
  | none =>
    go_enter Try.func12, Try.ntmps12
    go_wp2
    go_ret
    exact ⟨rfl, rfl⟩
  | some x =>
    go_enter Try.func12, Try.ntmps12
    go_wp2
    go_ret
    exact ⟨rfl, rfl⟩

/-! ### a nil ring -/
theorem len_nil (w : World) : Calls Try.prog 12 #[.pointer none] w fun e w' => e = .returned (.int .i64 0) ∧ Ch NoB w w' := by
  go_enter Try.func12, Try.ntmps12
  go_wp2
  go_ret
  exact ⟨rfl, Ch.refl _ _⟩
theorem kick_nil (w : World) : Calls Try.prog 19 #[.pointer none] w fun e w' => e = .returned (.slice none 0 0) ∧ Ch NoB w w' := by
  go_enter Try.func19, Try.ntmps19
  go_wp2
  go_ret
  exact ⟨rfl, Ch.refl _ _⟩
theorem drain_nil (w : World) : Calls Try.prog 20 #[.pointer none] w fun e w' => e = .returned (.slice none 0 0) ∧ Ch NoB w w' := by
  go_enter Try.func20, Try.ntmps20
  go_wp2
  go_ret
  exact ⟨rfl, Ch.refl _ _⟩
theorem put_nil (x : W3) (w : World) : Calls Try.prog 9 #[.pointer none, .agg #[.int .i64 x.s, .int .i64 x.g, .int .u64 x.t]] w fun e w' => e = .returned (.tuple #[.slice none 0 0, .int .i64 1]) ∧ Ch NoB w w' := by
  go_enter Try.func9, Try.ntmps9
  go_wp2
  go_ret2
  exact ⟨rfl, (Ch.refl _ _).alloc _⟩
theorem ready_nil (x : W3) (w : World) : Calls Try.prog 15 #[.pointer none, .agg #[.int .i64 x.s, .int .i64 x.g, .int .u64 x.t]] w fun e w' => e = .returned (.tuple #[.slice none 0 0, .int .i64 1]) ∧ Ch NoB w w' := by
  go_enter Try.func15, Try.ntmps15
  go_wp2
  go_ret2
  exact ⟨rfl, (Ch.refl _ _).alloc _⟩
theorem state_nil (w : World) : Calls Try.prog 11 #[.pointer none] w fun e w' => e = .returned (.agg #[.slice none 0 0, .bool false, .int .i64 0, .int .i64 0, .int .u64 0]) ∧ Ch NoB w w' := by
  go_enter Try.func11, Try.ntmps11
  go_wp2
  refine bodyPost_ret (v := .agg #[.slice none 0 0, .bool false, .int .i64 0, .int .i64 0, .int .u64 0]) (by simp [results, Try.results11, go_sem]) rfl ⟨rfl, ?_⟩
  exact (Ch.refl _ _).alloc _
theorem take_nil (w : World) : Calls Try.prog 16 #[.pointer none] w fun e w' => e = .returned (.tuple #[.agg #[.int .i64 0, .int .i64 0, .int .u64 0], .bool false, .int .i64 1]) ∧ Ch NoB w w' := by
  go_enter Try.func16, Try.ntmps16
  go_wp2
  refine bodyPost_ret (v := .tuple #[.agg #[.int .i64 0, .int .i64 0, .int .u64 0], .bool false, .int .i64 1]) (by simp [results, Try.results16, go_sem]) rfl ⟨rfl, ?_⟩
  exact (Ch.refl _ _).alloc _
theorem steal_nil (p : Option Addr) (w : World) : Calls Try.prog 17 #[.pointer none, .pointer p] w fun e w' => e = .returned (.tuple #[.agg #[.int .i64 0, .int .i64 0, .int .u64 0], .int .i64 1]) ∧ Ch NoB w w' := by
  go_enter Try.func17, Try.ntmps17
  go_wp2
  refine bodyPost_ret (v := .tuple #[.agg #[.int .i64 0, .int .i64 0, .int .u64 0], .int .i64 1]) (by simp [results, Try.results17, go_sem]) rfl ⟨rfl, ?_⟩
  exact (Ch.refl _ _).alloc _
theorem steal_to_nil (b : Nat) (w : World) : Calls Try.prog 17 #[.pointer (some ⟨b, 0, none⟩), .pointer none] w fun e w' => e = .returned (.tuple #[.agg #[.int .i64 0, .int .i64 0, .int .u64 0], .int .i64 1]) ∧ Ch NoB w w' := by
  go_enter Try.func17, Try.ntmps17
  go_wp2
  refine bodyPost_ret (v := .tuple #[.agg #[.int .i64 0, .int .i64 0, .int .u64 0], .int .i64 1]) (by simp [results, Try.results17, go_sem]) rfl ⟨rfl, ?_⟩
  exact (Ch.refl _ _).alloc _
theorem ring_info : (Try.prog.info? 53).map (fun i => i.size) = some 198 := by kernel_rfl
theorem same_ptr (a : Addr) (w : World) : (binOp .eql 34 (.pointer (some a)) (.pointer (some a))).run Try.prog w = .ok (.bool true) w := by
  obtain ⟨i, hi, _⟩ := Option.map_eq_some_iff.1 ring_info
  exact run_eql_ptr_same w a Try.underlying34 hi
theorem other_ptr {b b' : Nat} {ps ps' : List W3} {nx nx' : Option W3} {w : World} (h : RingAt w b ps nx) (h' : RingAt w b' ps' nx') (hne : b ≠ b') :
    (binOp .eql 34 (.pointer (some ⟨b, 0, none⟩)) (.pointer (some ⟨b', 0, none⟩))).run Try.prog w = .ok (.bool false) w := by
  obtain ⟨i, hi, hs⟩ := Option.map_eq_some_iff.1 ring_info
  obtain ⟨c, f, hb, _⟩ := h
  obtain ⟨c', f', hb', _⟩ := h'
  exact run_eql_ptr_other w Try.underlying34 hi (by omega) (by intro x; injection x; contradiction) hb hb'
theorem steal_same (b : Nat) (w : World) : Calls Try.prog 17 #[.pointer (some ⟨b, 0, none⟩), .pointer (some ⟨b, 0, none⟩)] w fun e w' => e = .returned (.tuple #[.agg #[.int .i64 0, .int .i64 0, .int .u64 0], .int .i64 1]) ∧ Ch NoB w w' := by
  have hs := same_ptr ⟨b, 0, none⟩
  go_enter Try.func17, Try.ntmps17
  go_wp2
  refine bodyPost_ret (v := .tuple #[.agg #[.int .i64 0, .int .i64 0, .int .u64 0], .int .i64 1]) (by simp [results, Try.results17, go_sem]) rfl ⟨rfl, ?_⟩
  exact (Ch.refl _ _).alloc _
end Go.Proofs.Ytfodjkdioddbjab.Rg
