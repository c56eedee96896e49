/-
  What the inner functions of the program's ring answer and leave: at, above, add, setNext, takeNext, takeOldest. Conditions: the ring is there; add is called where there is room, takeOldest where there is a place, takeNext where there is a next one.
-/
import Derived.Test.YtfodjkdioddbjabRgWorld
namespace Go.Proofs.Ytfodjkdioddbjab.Rg
open Go.RowKit
attribute [local go_sem ↓] Go.wp_at_zero Go.wp_at_succ

theorem get_set (c : Array Value) (i j : Nat) (v : Value) (h : i < c.size) : (c.setIfInBounds i v)[j]? = if i = j then some v else c[j]? := by
  rw [Array.getElem?_setIfInBounds]
  split <;> simp_all

/-- what is written into three cells is there -/
theorem At3.put {c : Array Value} {o : Nat} (x : W3) (h : o + 2 < c.size) : At3 (((c.setIfInBounds o (.int .i64 x.s)).setIfInBounds (o + 1) (.int .i64 x.g)).setIfInBounds (o + 2) (.int .u64 x.t)) o x := by
  refine ⟨?_, ?_, ?_⟩
  all_goals (repeat rw [get_set _ _ _ _ (by simp; omega)])
  all_goals (try rw [get_set _ _ _ _ (by omega)])
  all_goals simp
theorem At3.set {c : Array Value} {o q : Nat} {x : W3} (k : At3 c o x) (h : q < c.size) (hn : q < o ∨ o + 2 < q) (v : Value) : At3 (c.setIfInBounds q v) o x := by
  obtain ⟨k0, k1, k2⟩ := k
  refine ⟨?_, ?_, ?_⟩
  all_goals (rw [get_set _ _ _ _ h, if_neg (by omega)]; assumption)

theorem at_any (b f i : Nat) (w : World) (h : w.cell? ⟨b, 192, none⟩ = some (.int .i64 f)) (hf : f < 64) (hi : i ≤ 64) :
    Calls Try.prog 38 #[.pointer (some ⟨b, 0, none⟩), .int .i64 i] w fun e w' => e = .returned (.int .i64 ((f + i) % 64 : Nat)) ∧ w' = w := by
  go_enter Try.func38, Try.ntmps38
  go_wp2
  go_ret
  exact ⟨rfl, rfl⟩

theorem at_one (b f k : Nat) (w : World) (h : w.cell? ⟨b, 192, none⟩ = some (.int .i64 f)) (hf : f < 64) (hk : k = (f + 1) % 64) :
    Calls Try.prog 38 #[.pointer (some ⟨b, 0, none⟩), .int .i64 1] w fun e w' => e = .returned (.int .i64 k) ∧ w' = w := by
  rw [hk]
  exact at_any b f 1 w h hf (by omega)

theorem above_none (b : Nat) (nx : Option W3) (t : Int) (w : World) (h : RingAt w b [] nx) :
    Calls Try.prog 26 #[.pointer (some ⟨b, 0, none⟩), .int .u64 t] w fun e w' => e = .returned (.bool true) ∧ ∃ n, w' = w.drewN n := by
  obtain ⟨c, f, hb, hc⟩ := h
  have c3 := (cell_of hb 193).trans hc.count
  clear hc hb
  go_enter Try.func26, Try.ntmps26
  go_wp2
  go_quiet (fail)
  go_wp2
  go_ret
  exact ⟨rfl, _, rfl⟩

theorem above_some (b : Nat) (nx : Option W3) (ps : List W3) (x : W3) (t : Int) (w : World) (h : RingAt w b (ps ++ [x]) nx) :
    Calls Try.prog 26 #[.pointer (some ⟨b, 0, none⟩), .int .u64 t] w fun e w' => e = .returned (.bool (decide (x.t < t))) ∧ ∃ n, w' = w.drewN n := by
  obtain ⟨c, f, hb, hc⟩ := h
  have hl := hc.len
  have hfl := hc.fl
  have hp := hc.place ps.length x (by simp)
  obtain ⟨n, hn⟩ : ∃ n, n = ps.length := ⟨_, rfl⟩
  simp only [List.length_append, List.length_cons, List.length_nil, ← hn] at hl hp
  have c2 := (cell_of hb 192).trans hc.first
  have c3 := (cell_of hb 193).trans hc.count
  have c5 := (cell_of hb _).trans hp.2.2
  simp only [List.length_append, List.length_cons, List.length_nil, ← hn] at c3
  have c3' : w.cell? ⟨b, 193, none⟩ = some (.int .i64 ((n : Int) + 1)) := by rw [c3]; simp
  obtain ⟨k, hk⟩ : ∃ k, k = (f + n) % 64 := ⟨_, rfl⟩
  rw [← hk] at c5
  have k0 : (0 : Int) ≤ (k : Int) := by omega
  have k1 : (k : Int) < 64 := by omega
  have hz : decide ((n : Int) + 1 = 0) = false := by simp; omega
  have hz2 : ((n : Int) + 1 == 0) = false := by simp; omega
  have r1 : IntKind.i64.wrap ((n : Int) + 1 - 1) = n := by rw [IntKind.wrap_i64]; omega
  have r2 : IntKind.i64.wrap (n : Int) = n := by rw [IntKind.wrap_i64]; omega
  have Hk := hid hk
  have hat : ∀ w2 : World, w2.cell? ⟨b, 192, none⟩ = some (.int .i64 f) → Calls Try.prog 38 #[.pointer (some ⟨b, 0, none⟩), .int .i64 n] w2 fun e w' => e = .returned (.int .i64 k) ∧ w' = w2 := by
    intro w2 h2
    have := at_any b f n w2 h2 hfl (by omega)
    rw [← hk] at this
    exact this
  have Hn := hid hn
  clear hc hb hk hp c3 hn
  go_enter Try.func26, Try.ntmps26
  go_wp2
  go_quiet (first | (go_at_call 38; refine Calls.quiet_of_same (hat _ ?_); exact c2))
  go_wp2
  go_ret
  exact ⟨rfl, _, rfl⟩

/-- is a turn above those of all places? -/
def aboveB (ps : List W3) (t : Int) : Bool := match ps.getLast? with
  | none => true
  | some x => decide (x.t < t)

theorem above_any (b : Nat) (nx : Option W3) (ps : List W3) (t : Int) (w : World) (h : RingAt w b ps nx) :
    Calls Try.prog 26 #[.pointer (some ⟨b, 0, none⟩), .int .u64 t] w fun e w' => e = .returned (.bool (aboveB ps t)) ∧ ∃ n, w' = w.drewN n := by
  rcases List.eq_nil_or_concat ps with rfl | ⟨qs, x, rfl⟩
  · exact above_none b nx t w h
  · rw [List.concat_eq_append] at h ⊢
    have := above_some b nx qs x t w h
    unfold aboveB
    rw [List.getLast?_concat]
    exact this

/-! ### rows -/
theorem Cells.nextPut {c : Array Value} {f : Nat} {ps : List W3} {nx : Option W3} (h : Cells c f ps nx) (ny : Option W3) :
    Cells ((((c.setIfInBounds 194 (.bool ny.isSome)).setIfInBounds 195 (.int .i64 (ny.getD W3.zero).s)).setIfInBounds 196 (.int .i64 (ny.getD W3.zero).g)).setIfInBounds 197 (.int .u64 (ny.getD W3.zero).t)) f ps ny := by
  have hs := h.size
  refine ⟨by simpa using hs, h.fl, h.len, ?_, ?_, ?_, ?_, ?_⟩
  · rw [get_set _ _ _ _ (by simp; omega), get_set _ _ _ _ (by simp; omega), get_set _ _ _ _ (by simp; omega), get_set _ _ _ _ (by omega)]
    simpa using h.first
  · rw [get_set _ _ _ _ (by simp; omega), get_set _ _ _ _ (by simp; omega), get_set _ _ _ _ (by simp; omega), get_set _ _ _ _ (by omega)]
    simpa using h.count
  · rw [get_set _ _ _ _ (by simp; omega), get_set _ _ _ _ (by simp; omega), get_set _ _ _ _ (by simp; omega), get_set _ _ _ _ (by omega)]
    simp
  · exact At3.put _ (by simp; omega)
  · intro i x hx
    exact ((((h.place i x hx).set (by omega) (by omega) _).set (by simp; omega) (by omega) _).set (by simp; omega) (by omega) _).set (by simp; omega) (by omega) _

theorem Cells.addPut {c : Array Value} {f : Nat} {ps : List W3} {nx : Option W3} (h : Cells c f ps nx) (x : W3) (hl : ps.length < 64) {k : Nat} (hk : k = (f + ps.length) % 64) {v : Int} (hv : v = (ps.length : Int) + 1) :
    Cells ((((c.setIfInBounds (k * 3) (.int .i64 x.s)).setIfInBounds (k * 3 + 1) (.int .i64 x.g)).setIfInBounds (k * 3 + 2) (.int .u64 x.t)).setIfInBounds 193 (.int .i64 v)) f (ps ++ [x]) nx := by
  have hs := h.size
  have hf := h.fl
  have hk64 : k < 64 := by omega
  refine ⟨by simpa using hs, hf, by simp; omega, ?_, ?_, ?_, ?_, ?_⟩
  · rw [get_set _ _ _ _ (by simp; omega), get_set _ _ _ _ (by simp; omega), get_set _ _ _ _ (by simp; omega), get_set _ _ _ _ (by omega), if_neg (by omega), if_neg (by omega), if_neg (by omega), if_neg (by omega)]
    exact h.first
  · rw [get_set _ _ _ _ (by simp; omega), if_pos rfl, hv]
    simp
  · rw [get_set _ _ _ _ (by simp; omega), get_set _ _ _ _ (by simp; omega), get_set _ _ _ _ (by simp; omega), get_set _ _ _ _ (by omega), if_neg (by omega), if_neg (by omega), if_neg (by omega), if_neg (by omega)]
    exact h.has
  · exact (((h.next.set (by omega) (by omega) _).set (by simp; omega) (by omega) _).set (by simp; omega) (by omega) _).set (by simp; omega) (by omega) _
  · intro i y hy
    rcases Nat.lt_or_ge i ps.length with hi | hi
    · rw [List.getElem?_append_left hi] at hy
      exact ((((h.place i y hy).set (by omega) (by omega) _).set (by simp; omega) (by omega) _).set (by simp; omega) (by omega) _).set (by simp; omega) (by omega) _
    · rw [List.getElem?_append_right hi] at hy
      obtain ⟨hz, hy⟩ : i - ps.length = 0 ∧ x = y := by
        rcases hj : i - ps.length with _ | j
        · rw [hj] at hy; simpa using hy
        · rw [hj] at hy; simp at hy
      subst hy
      have e : (f + i) % 64 * 3 = k * 3 := by omega
      rw [e]
      exact (At3.put x (by omega)).set (by simp; omega) (by omega) _

theorem Cells.oldestPut {c : Array Value} {f : Nat} {x : W3} {ps : List W3} {nx : Option W3} (h : Cells c f (x :: ps) nx) {k : Nat} (hk : k = (f + 1) % 64) {v : Int} (hv : v = (ps.length : Int)) :
    Cells (((((c.setIfInBounds (f * 3) (.int .i64 0)).setIfInBounds (f * 3 + 1) (.int .i64 0)).setIfInBounds (f * 3 + 2) (.int .u64 0)).setIfInBounds 192 (.int .i64 k)).setIfInBounds 193 (.int .i64 v)) k ps nx := by
  have hs := h.size
  have hf := h.fl
  have hl := h.len
  simp only [List.length_cons] at hl
  refine ⟨by simpa using hs, by omega, by omega, ?_, ?_, ?_, ?_, ?_⟩
  · rw [get_set _ _ _ _ (by simp; omega), get_set _ _ _ _ (by simp; omega), if_neg (by omega), if_pos rfl]
  · rw [get_set _ _ _ _ (by simp; omega), if_pos rfl, hv]
  · rw [get_set _ _ _ _ (by simp; omega), get_set _ _ _ _ (by simp; omega), get_set _ _ _ _ (by simp; omega), get_set _ _ _ _ (by simp; omega), get_set _ _ _ _ (by omega), if_neg (by omega), if_neg (by omega), if_neg (by omega), if_neg (by omega), if_neg (by omega)]
    exact h.has
  · exact ((((h.next.set (by omega) (by omega) _).set (by simp; omega) (by omega) _).set (by simp; omega) (by omega) _).set (by simp; omega) (by omega) _).set (by simp; omega) (by omega) _
  · intro i y hy
    have hi : i < ps.length := (List.getElem?_eq_some_iff.1 hy).1
    have hp := h.place (i + 1) y (by simpa using hy)
    have e : (k + i) % 64 * 3 = (f + (i + 1)) % 64 * 3 := by omega
    rw [e]
    exact ((((hp.set (by omega) (by omega) _).set (by simp; omega) (by omega) _).set (by simp; omega) (by omega) _).set (by simp; omega) (by omega) _).set (by simp; omega) (by omega) _

theorem setNext_any (b : Nat) (nx : Option W3) (ps : List W3) (x : W3) (w : World) (h : RingAt w b ps nx) :
    Calls Try.prog 28 #[.pointer (some ⟨b, 0, none⟩), .agg #[.int .i64 x.s, .int .i64 x.g, .int .u64 x.t]] w fun e w' => e = .returned (.tuple #[]) ∧ RingAt w' b ps (some x) ∧ Ch (Only b) w w' := by
  have hlt := h.lt
  obtain ⟨c, f, hb, hc⟩ := h
  have c4 := (cell_of hb 194).trans hc.has
  have c5 := (cell_of hb 195).trans hc.next.1
  have c6 := (cell_of hb 196).trans hc.next.2.1
  have c7 := (cell_of hb 197).trans hc.next.2.2
  have f4 := frozen_of hb 194
  have f5 := frozen_of hb 195
  have f6 := frozen_of hb 196
  have f7 := frozen_of hb 197
  have HB := hid hb
  have HC := hid hc
  clear hb hc
  go_enter Try.func28, Try.ntmps28
  go_wp2
  go_region
  all_goals go_wp2
  go_end0
  refine ⟨rfl, ⟨_, f, ?_, HC.out.nextPut (some x)⟩, ?_⟩
  · exact (Below.heap_alloc _ _ _ (by simpa [World.setCell] using hlt)).trans (setCell_block (setCell_block (setCell_block (setCell_block HB.out 194 _) 195 _) 196 _) 197 _)
  · exact (((((((Ch.refl _ _).own _ _).own _ _).own _ _).own _ _).alloc _)).drew

theorem takeNext_any (b : Nat) (x : W3) (ps : List W3) (w : World) (h : RingAt w b ps (some x)) :
    Calls Try.prog 31 #[.pointer (some ⟨b, 0, none⟩)] w fun e w' => e = .returned (.agg #[.int .i64 x.s, .int .i64 x.g, .int .u64 x.t]) ∧ RingAt w' b ps none ∧ Ch (Only b) w w' := by
  have hlt := h.lt
  obtain ⟨c, f, hb, hc⟩ := h
  have c4 := (cell_of hb 194).trans hc.has
  have c5 := (cell_of hb 195).trans hc.next.1
  have c6 := (cell_of hb 196).trans hc.next.2.1
  have c7 := (cell_of hb 197).trans hc.next.2.2
  have f4 := frozen_of hb 194
  have f5 := frozen_of hb 195
  have f6 := frozen_of hb 196
  have f7 := frozen_of hb 197
  simp only [Option.getD_some] at c5 c6 c7
  have HB := hid hb
  have HC := hid hc
  clear hb hc
  go_enter Try.func31, Try.ntmps31
  go_wp2
  refine bodyPost_ret (v := .agg #[.int .i64 x.s, .int .i64 x.g, .int .u64 x.t]) (by simp [results, Try.results31, go_sem]) rfl ⟨rfl, ⟨_, f, ?_, HC.out.nextPut none⟩, ?_⟩
  · exact (Below.heap_alloc _ _ _ (by simp [World.setCell]; omega)).trans ((Below.heap_alloc _ _ _ (by simpa [World.setCell] using hlt)).trans (setCell_block (setCell_block (setCell_block (setCell_block HB.out 194 _) 195 _) 196 _) 197 _))
  · exact ((((((Ch.refl _ _).own _ _).own _ _).own _ _).own _ _).alloc _).alloc _

theorem takeOldest_any (b : Nat) (x : W3) (ps : List W3) (nx : Option W3) (w : World) (h : RingAt w b (x :: ps) nx) :
    Calls Try.prog 32 #[.pointer (some ⟨b, 0, none⟩)] w fun e w' => e = .returned (.agg #[.int .i64 x.s, .int .i64 x.g, .int .u64 x.t]) ∧ RingAt w' b ps nx ∧ Ch (Only b) w w' := by
  have hlt := h.lt
  obtain ⟨c, f, hb, hc⟩ := h
  have hf := hc.fl
  have hl := hc.len
  have hp := hc.place 0 x rfl
  simp only [Nat.add_zero, Nat.mod_eq_of_lt hf] at hp
  simp only [List.length_cons] at hl
  obtain ⟨n, hn⟩ : ∃ n, n = ps.length := ⟨_, rfl⟩
  rw [← hn] at hl
  have c2 := (cell_of hb 192).trans hc.first
  have c3 : w.cell? ⟨b, 193, none⟩ = some (.int .i64 ((n : Int) + 1)) := by rw [cell_of hb 193, hc.count, hn]; simp
  have p0 := (cell_of hb _).trans hp.1
  have p1 := (cell_of hb _).trans hp.2.1
  have p2 := (cell_of hb _).trans hp.2.2
  have g2 := frozen_of hb 192
  have g3 := frozen_of hb 193
  have q0 := frozen_of hb (f * 3)
  have q1 := frozen_of hb (f * 3 + 1)
  have q2 := frozen_of hb (f * 3 + 2)
  have i0 : (0 : Int) ≤ (f : Int) := by omega
  have i1 : (f : Int) < 64 := by omega
  have HB := hid hb
  have HC := hid hc
  have HN := hid hn
  obtain ⟨k, hk⟩ : ∃ k, k = (f + 1) % 64 := ⟨_, rfl⟩
  have Hk := hid hk
  clear hb hc hp hn hk
  go_enter Try.func32, Try.ntmps32
  go_wp2
  go_region
  all_goals go_wp2
  all_goals go_region
  all_goals go_wp2_with fail
  refine (at_one b f k _ ?_ hf Hk.out).mono ?_
  · go_simp
  rintro e w1 ⟨rfl, rfl⟩
  go_wp2
  refine bodyPost_ret (v := .agg #[.int .i64 x.s, .int .i64 x.g, .int .u64 x.t]) (by simp [results, Try.results32, go_sem]) rfl ⟨rfl, ⟨_, k, ?_, HC.out.oldestPut (v := n) Hk.out (by rw [HN.out])⟩, ?_⟩
  · exact (Below.heap_alloc _ _ _ (by simp [World.setCell]; omega)).trans ((Below.heap_alloc _ _ _ (by simpa [World.setCell] using hlt)).trans (setCell_block (setCell_block (setCell_block (setCell_block (setCell_block HB.out _ _) _ _) _ _) 192 _) 193 _))
  · exact (((((((((Ch.refl _ _).own _ _).own _ _).own _ _).own _ _).own _ _).alloc _).alloc _).drew).drew

set_option maxHeartbeats 800000 in
theorem add_any (b : Nat) (x : W3) (ps : List W3) (nx : Option W3) (w : World) (h : RingAt w b ps nx) (hl : ps.length < 64) :
    Calls Try.prog 27 #[.pointer (some ⟨b, 0, none⟩), .agg #[.int .i64 x.s, .int .i64 x.g, .int .u64 x.t]] w fun e w' => e = .returned (.tuple #[]) ∧ RingAt w' b (ps ++ [x]) nx ∧ Ch (Only b) w w' := by
  have hlt := h.lt
  obtain ⟨c, f, hb, hc⟩ := h
  have hf := hc.fl
  obtain ⟨n, hn⟩ : ∃ n, n = ps.length := ⟨_, rfl⟩
  rw [← hn] at hl
  have c2 := (cell_of hb 192).trans hc.first
  have c3 : w.cell? ⟨b, 193, none⟩ = some (.int .i64 (n : Int)) := by rw [cell_of hb 193, hc.count, hn]
  obtain ⟨k, hk⟩ : ∃ k, k = (f + n) % 64 := ⟨_, rfl⟩
  have hk64 : k < 64 := by omega
  have g3 := frozen_of hb 193
  have q0 := frozen_of hb (k * 3)
  have q1 := frozen_of hb (k * 3 + 1)
  have q2 := frozen_of hb (k * 3 + 2)
  have hs := hc.size
  obtain ⟨v0, p0⟩ : ∃ v, w.cell? ⟨b, k * 3, none⟩ = some v := ⟨_, (cell_of hb _).trans (Array.getElem?_eq_getElem (by omega))⟩
  obtain ⟨v1, p1⟩ : ∃ v, w.cell? ⟨b, k * 3 + 1, none⟩ = some v := ⟨_, (cell_of hb _).trans (Array.getElem?_eq_getElem (by omega))⟩
  obtain ⟨v2, p2⟩ : ∃ v, w.cell? ⟨b, k * 3 + 2, none⟩ = some v := ⟨_, (cell_of hb _).trans (Array.getElem?_eq_getElem (by omega))⟩
  have i0 : (0 : Int) ≤ (k : Int) := by omega
  have i1 : (k : Int) < 64 := by omega
  have hat : ∀ w2 : World, w2.cell? ⟨b, 192, none⟩ = some (.int .i64 f) → Calls Try.prog 38 #[.pointer (some ⟨b, 0, none⟩), .int .i64 n] w2 fun e w' => e = .returned (.int .i64 k) ∧ w' = w2 := by
    intro w2 h2
    have := at_any b f n w2 h2 hf (by omega)
    rw [← hk] at this
    exact this
  have n0 : ¬ (k * 3 = 192) ∧ ¬ (192 = k * 3) ∧ ¬ (k * 3 + 1 = 192) ∧ ¬ (192 = k * 3 + 1) ∧ ¬ (k * 3 + 2 = 192) ∧ ¬ (192 = k * 3 + 2) := by omega
  have n1 : ¬ (k * 3 = 193) ∧ ¬ (193 = k * 3) ∧ ¬ (k * 3 + 1 = 193) ∧ ¬ (193 = k * 3 + 1) ∧ ¬ (k * 3 + 2 = 193) ∧ ¬ (193 = k * 3 + 2) := by omega
  have n2 : ¬ (b = w.heap.size) ∧ ¬ (w.heap.size = b) := by omega
  have HL := hid (show ps.length < 64 by omega)
  have HM := hid (show k = (f + ps.length) % 64 by rw [hk, hn])
  have HV := hid (show (n : Int) + 1 = (ps.length : Int) + 1 by rw [hn])
  have HB := hid hb
  have HC := hid hc
  clear hb hc hn hk hs
  go_enter Try.func27, Try.ntmps27
  go_wp2
  go_region_held3 (fun w' => w'.cell? ⟨b, 192, none⟩ = some (.int .i64 f) ∧ w'.cell? ⟨b, 193, none⟩ = some (.int .i64 (n : Int)) ∧ w'.cell? ⟨w.heap.size, 0, none⟩ = some (.int .i64 x.s) ∧ w'.cell? ⟨w.heap.size, 1, none⟩ = some (.int .i64 x.g) ∧ w'.cell? ⟨w.heap.size, 2, none⟩ = some (.int .u64 x.t)) (first | (go_keep; done) | (refine ⟨?_, ?_, ?_, ?_, ?_⟩ <;> go_simp))
    (first | (go_at_call 38; refine (hat _ ?_).mono ?_; (simp [*]); rintro e w' ⟨rfl, rfl⟩))
  all_goals go_wp2
  go_end0
  refine ⟨rfl, ⟨_, f, ?_, HC.out.addPut x HL.out HM.out (v := (n : Int) + 1) HV.out⟩, ?_⟩
  · exact (Below.heap_alloc _ _ _ (by simpa [World.setCell] using hlt)).trans (setCell_block (setCell_block (setCell_block (setCell_block HB.out _ _) _ _) _ _) 193 _)
  · exact ((((((Ch.refl _ _).own _ _).own _ _).own _ _).own _ _).alloc _).drew
end Go.Proofs.Ytfodjkdioddbjab.Rg
