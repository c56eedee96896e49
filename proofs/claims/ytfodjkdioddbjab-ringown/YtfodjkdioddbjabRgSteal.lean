/-
  What Steal of the program answers and leaves, of two rings that are not one. Condition: both rings are there.
-/
import Derived.Test.YtfodjkdioddbjabRgDrain
namespace Go.Proofs.Ytfodjkdioddbjab.Rg
open Go.RowKit
attribute [local go_sem ↓] Go.wp_at_zero Go.wp_at_succ

/-- two blocks alone -/
def Two (a b : Nat) : Nat → Prop := fun x => x = a ∨ x = b

/-- a block of three cells, none frozen -/
def Three (w : World) (k : Nat) (x : W3) : Prop := w.heap[k]? = some (.cells #[.int .i64 x.s, .int .i64 x.g, .int .u64 x.t] 27 (0, 0))
theorem Three.new (w : World) (x : W3) : Three (w.alloc (.cells #[.int .i64 x.s, .int .i64 x.g, .int .u64 x.t] 27)) w.heap.size x := (MapKept.heap_alloc w _).1
theorem Three.ch {S : Nat → Prop} {w w' : World} {k : Nat} {x : W3} (h : Three w k x) (g : Ch S w w') (hn : ¬ S k) : Three w' k x := (g.block k (lt_of_block h) hn).trans h
theorem Three.lt {w : World} {k : Nat} {x : W3} (h : Three w k x) : k < w.heap.size := lt_of_block h
theorem Three.alloc {w : World} {k : Nat} {x : W3} (h : Three w k x) (o : Obj) : Three (w.alloc o) k x := (Below.heap_alloc _ _ _ h.lt).trans h
theorem Three.drew {w : World} {k : Nat} {x : W3} (h : Three w k x) : Three w.drew k x := h
theorem Three.drewN {w : World} {k : Nat} {x : W3} (h : Three w k x) (n : Nat) : Three (w.drewN n) k x := h
theorem Three.cells {w : World} {k : Nat} {x : W3} (h : Three w k x) : w.cell? ⟨k, 0, none⟩ = some (.int .i64 x.s) ∧ w.cell? ⟨k, 1, none⟩ = some (.int .i64 x.g) ∧ w.cell? ⟨k, 2, none⟩ = some (.int .u64 x.t) :=
  ⟨(cell_of h 0).trans rfl, (cell_of h 1).trans rfl, (cell_of h 2).trans rfl⟩
theorem Three.frozen {w : World} {k : Nat} {x : W3} (h : Three w k x) (o : Nat) : w.frozen? ⟨k, o, none⟩ = false := frozen_of h o

def busy (qs : List W3) (ny : Option W3) : Bool := decide (0 < qs.length + ny.toList.length)
def stE (ps : List W3) (nx : Option W3) (qs : List W3) (ny : Option W3) : Int := if busy qs ny then 22 else if ps = [] then tkE [] nx else 0
def stX (ps : List W3) (nx : Option W3) (qs : List W3) (ny : Option W3) : W3 := if busy qs ny then W3.zero else ps.headD (nx.getD W3.zero)
/-- how many leave -/
def lv (ps : List W3) : Nat := ps.length - ps.length / 2
def stP (ps : List W3) (qs : List W3) (ny : Option W3) : List W3 := if busy qs ny then ps else ps.drop (lv ps)
def stN (ps : List W3) (nx : Option W3) (qs : List W3) (ny : Option W3) : Option W3 := if busy qs ny then nx else if ps = [] then none else nx
def stQ (ps : List W3) (qs : List W3) (ny : Option W3) : List W3 := if busy qs ny then qs else (ps.take (lv ps)).tail

theorem steal_busy (b b' : Nat) (ps : List W3) (nx : Option W3) (qs : List W3) (ny : Option W3) (w : World) (h : RingAt w b ps nx) (h' : RingAt w b' qs ny) (hne : b ≠ b') (hb : busy qs ny = true) :
    Calls Try.prog 17 #[.pointer (some ⟨b, 0, none⟩), .pointer (some ⟨b', 0, none⟩)] w fun e w' => e = .returned (.tuple #[.agg #[.int .i64 0, .int .i64 0, .int .u64 0], .int .i64 22]) ∧ Ch NoB w w' := by
  have hq : ∀ o, (binOp .eql 34 (.pointer (some ⟨b, 0, none⟩)) (.pointer (some ⟨b', 0, none⟩))).run Try.prog (w.alloc o) = .ok (.bool false) (w.alloc o) := fun o => other_ptr (h.alloc o) (h'.alloc o) hne
  have hl := h'.len
  obtain ⟨N, hN⟩ : ∃ N, N = qs.length + ny.toList.length := ⟨_, rfl⟩
  have hN1 : 0 < N := by unfold busy at hb; simp only [decide_eq_true_eq] at hb; omega
  have hL : ∀ o, Calls Try.prog 12 #[.pointer (some ⟨b', 0, none⟩)] (w.alloc o) fun e w' => e = .returned (.int .i64 (N : Int)) ∧ w' = w.alloc o := by
    intro o
    rw [hN]
    exact len_any b' qs ny _ (h'.alloc o)
  clear h h' hN hb
  go_enter Try.func17, Try.ntmps17
  go_wp2_with fail
  refine (hL _).mono ?_
  rintro e w1 ⟨rfl, rfl⟩
  go_wp2
  refine bodyPost_ret (v := .tuple #[.agg #[.int .i64 0, .int .i64 0, .int .u64 0], .int .i64 22]) (by simp [results, Try.results17, go_sem]) rfl ⟨rfl, ?_⟩
  exact (Ch.refl _ _).alloc _

theorem steal_none (b b' : Nat) (nx : Option W3) (w : World) (h : RingAt w b [] nx) (h' : RingAt w b' [] none) (hne : b ≠ b') :
    Calls Try.prog 17 #[.pointer (some ⟨b, 0, none⟩), .pointer (some ⟨b', 0, none⟩)] w fun e w' =>
      e = .returned (.tuple #[.agg #[.int .i64 (nx.getD W3.zero).s, .int .i64 (nx.getD W3.zero).g, .int .u64 (nx.getD W3.zero).t], .int .i64 (tkE [] nx)]) ∧ RingAt w' b [] none ∧ Ch (Only b) w w' := by
  have hq : ∀ o, (binOp .eql 34 (.pointer (some ⟨b, 0, none⟩)) (.pointer (some ⟨b', 0, none⟩))).run Try.prog (w.alloc o) = .ok (.bool false) (w.alloc o) := fun o => other_ptr (h.alloc o) (h'.alloc o) hne
  have hL : ∀ o, Calls Try.prog 12 #[.pointer (some ⟨b', 0, none⟩)] (w.alloc o) fun e w' => e = .returned (.int .i64 0) ∧ w' = w.alloc o := fun o => len_any b' [] none _ (h'.alloc o)
  have hlt := h.lt
  have c3 : w.cell? ⟨b, 193, none⟩ = some (.int .i64 0) := by
    obtain ⟨c, f, hb, hc⟩ := h
    exact (cell_of hb 193).trans hc.count
  have ex : tkX [] nx = nx.getD W3.zero := by cases nx <;> rfl
  have ep : tkP [] nx = [] := by cases nx <;> rfl
  have hT := fun o => take_any b [] nx _ (h.alloc o)
  rw [ex, ep] at hT
  obtain ⟨x, hx⟩ : ∃ x, x = nx.getD W3.zero := ⟨_, rfl⟩
  obtain ⟨E, hE⟩ : ∃ E, E = tkE [] nx := ⟨_, rfl⟩
  rw [← hx, ← hE] at hT ⊢
  have HT := hid hT
  clear hT h h' hx hE ex ep
  go_enter Try.func17, Try.ntmps17
  go_wp2_with fail
  refine (hL _).mono ?_
  rintro e w1 ⟨rfl, rfl⟩
  go_wp2_with fail
  refine (HT.out _).mono ?_
  rintro e w2 ⟨rfl, r2, g2⟩
  have T := (Three.new w W3.zero).ch g2 (fun e => by have : w.heap.size = b := e; omega)
  obtain ⟨x0, x1, x2⟩ := T.cells
  have z0 := T.frozen 0
  have z1 := T.frozen 1
  have z2 := T.frozen 2
  have hlt2 := T.lt
  have HR := hid r2
  have HG := hid g2
  clear r2 g2 T
  go_wp2
  refine bodyPost_ret (v := .tuple #[.agg #[.int .i64 x.s, .int .i64 x.g, .int .u64 x.t], .int .i64 E]) (by simp [results, Try.results17, go_sem, x0, x1, x2, hlt2]) rfl ⟨rfl, ?_, ?_⟩
  · exact (((HR.out.set (by simp; omega) _).set (by simp; omega) _).set (by simp; omega) _).alloc _
  · exact ((((((Ch.refl _ _).alloc _).trans' HG.out).fresh (Nat.le_refl _) _ _).fresh (Nat.le_refl _) _ _).fresh (Nat.le_refl _) _ _).alloc _

theorem steal_some (b b' : Nat) (x : W3) (r : List W3) (nx : Option W3) (w : World) (h : RingAt w b (x :: r) nx) (h' : RingAt w b' [] none) (hne : b ≠ b') :
    Calls Try.prog 17 #[.pointer (some ⟨b, 0, none⟩), .pointer (some ⟨b', 0, none⟩)] w fun e w' =>
      e = .returned (.tuple #[.agg #[.int .i64 x.s, .int .i64 x.g, .int .u64 x.t], .int .i64 0]) ∧ RingAt w' b (r.drop (lv (x :: r) - 1)) nx ∧ RingAt w' b' (r.take (lv (x :: r) - 1)) none ∧ Ch (Two b b') w w' := by
  have hq : ∀ o, (binOp .eql 34 (.pointer (some ⟨b, 0, none⟩)) (.pointer (some ⟨b', 0, none⟩))).run Try.prog (w.alloc o) = .ok (.bool false) (w.alloc o) := fun o => other_ptr (h.alloc o) (h'.alloc o) hne
  have hL : ∀ o, Calls Try.prog 12 #[.pointer (some ⟨b', 0, none⟩)] (w.alloc o) fun e w' => e = .returned (.int .i64 0) ∧ w' = w.alloc o := fun o => len_any b' [] none _ (h'.alloc o)
  have hlt := h.lt
  have hlt' := h'.lt
  have hl := h.len
  simp only [List.length_cons] at hl
  obtain ⟨n, hn⟩ : ∃ n, n = r.length := ⟨_, rfl⟩
  rw [← hn] at hl
  have c3 : w.cell? ⟨b, 193, none⟩ = some (.int .i64 ((n : Int) + 1)) := by
    obtain ⟨c, f, hb, hc⟩ := h
    rw [cell_of hb 193, hc.count, hn]
    simp
  obtain ⟨m, hm⟩ : ∃ m, m = lv (x :: r) - 1 := ⟨_, rfl⟩
  rw [← hm]
  have hm' : m = n + 1 - (n + 1) / 2 - 1 := by rw [hm]; unfold lv; simp [hn]
  have r0 : ((n : Int) + 1).tdiv 2 = ((n : Int) + 1) / 2 := Int.tdiv_eq_ediv_of_nonneg (by omega)
  have r1 : IntKind.i64.wrap (((n : Int) + 1) / 2) = ((n : Int) + 1) / 2 := by rw [IntKind.wrap_i64]; omega
  have r2 : IntKind.i64.wrap ((n : Int) + 1 - ((n : Int) + 1) / 2) = (m : Int) + 1 := by rw [IntKind.wrap_i64]; omega
  have r3 : (n : Int) + 1 - ((n : Int) + 1) / 2 = (m : Int) + 1 := by omega
  have hmn : m ≤ n := by omega
  have H := hid h
  have H' := hid h'
  have HN := hid hn
  clear h h' hn hm hm'
  go_enter Try.func17, Try.ntmps17
  go_wp2_with fail
  refine (hL _).mono ?_
  rintro e w1 ⟨rfl, rfl⟩
  go_wp2
  go_quiet (fail)
  go_wp2_with fail
  refine (takeOldest_any b x r nx _ ((H.out.alloc _).drewN _)).mono ?_
  rintro e w2 ⟨rfl, r2', g2⟩
  have T := ((Three.new w W3.zero).drewN _).ch g2 (fun e => by have : w.heap.size = b := e; omega)
  have G2 : Ch (Two b b') w w2 := (((Ch.refl _ _).alloc _).drewN _).trans g2 (fun _ e => .inl (.inl e))
  have Q2 : RingAt w2 b' [] none := ((H'.out.alloc _).drewN _).ch g2 (fun e => hne (e : b' = b).symm)
  have HT := hid T
  have HR2 := hid r2'
  have HG2 := hid G2
  have HQ2 := hid Q2
  clear r2' g2 T G2 Q2
  have hw2 : w.heap.size < w2.heap.size := HT.out.lt
  have hb2 : b < w2.heap.size ∧ b' < w2.heap.size := by omega
  go_wp2_with fail
  go_loopg [54] m (fun k i wr => ∃ j, j + k = m ∧ i = .int .i64 (j : Int) ∧ RingAt wr b (r.drop j) nx ∧ RingAt wr b' (r.take j) none ∧ Three wr w.heap.size W3.zero ∧ Three wr w2.heap.size x ∧ Ch (Two b b') w wr)
  case atStart => exact ⟨0, by omega, rfl, HR2.out.alloc _, HQ2.out.alloc _, HT.out.alloc _, Three.new w2 x, HG2.out.alloc _⟩
  case round =>
    obtain ⟨j, hjk, rfl, hr, hq', ht, hx, hg⟩ := hrel
    by_cases hj : j < m
    · obtain ⟨y, hy⟩ : ∃ y, r[j]? = some y := ⟨_, List.getElem?_eq_getElem (by rw [← HN.out]; omega)⟩
      have hd : r.drop j = y :: r.drop (j + 1) := by
        obtain ⟨h1, h2⟩ := List.getElem?_eq_some_iff.1 hy
        rw [List.drop_eq_getElem_cons h1, h2]
      have htk : r.take (j + 1) = r.take j ++ [y] := by rw [List.take_add_one, hy]; rfl
      have hlen : (r.take j).length < 64 := by rw [List.length_take]; omega
      rw [hd] at hr
      have HR := hid hr
      have HQ := hid hq'
      have HT' := hid ht
      have HX := hid hx
      have HG := hid hg
      have HTK := hid htk
      have HLEN := hid hlen
      clear hr hq' ht hx hg htk hlen hd hy
      go_wp2_with fail
      refine (takeOldest_any b y _ nx _ HR.out).mono ?_
      rintro e w3 ⟨rfl, r3, g3⟩
      have HR3 := hid r3
      have HQ3 := hid (HQ.out.ch g3 (fun e => hne (e : b' = b).symm))
      have HT3 := hid (HT'.out.ch g3 (fun e => by have : w.heap.size = b := e; omega))
      have HX3 := hid (HX.out.ch g3 (fun e => by have : w2.heap.size = b := e; omega))
      have HG3 := hid (HG.out.trans g3 (fun _ e => .inl (.inl e)))
      clear r3 g3
      go_wp2_with fail
      refine (add_any b' y _ none _ HQ3.out HLEN.out).mono ?_
      rintro e w4 ⟨rfl, q4, g4⟩
      have HQ4 := hid q4
      have HR4 := hid (HR3.out.ch g4 (fun e => hne (e : b = b')))
      have HT4 := hid (HT3.out.ch g4 (fun e => by have : w.heap.size = b' := e; omega))
      have HX4 := hid (HX3.out.ch g4 (fun e => by have : w2.heap.size = b' := e; omega))
      have HG4 := hid (HG3.out.trans g4 (fun _ e => .inl (.inr e)))
      clear q4 g4
      go_wp2
      go_roundg (gk - 1)
      case measure => omega
      case rel => exact ⟨j + 1, by omega, by simp, HR4.out, by rw [HTK.out]; exact HQ4.out, HT4.out, HX4.out, HG4.out⟩
    · have e : j = m := by omega
      subst e
      obtain ⟨x0, x1, x2⟩ := hx.cells
      obtain ⟨y0, y1, y2⟩ := ht.cells
      have z0 := ht.frozen 0
      have z1 := ht.frozen 1
      have z2 := ht.frozen 2
      have hlt2 := ht.lt
      have HR := hid hr
      have HQ := hid hq'
      have HG := hid hg
      clear hr hq' ht hx hg
      go_wp2
      refine bodyPost_ret (v := .tuple #[.agg #[.int .i64 x.s, .int .i64 x.g, .int .u64 x.t], .int .i64 0]) (by simp [results, Try.results17, go_sem, y0, y1, y2]) rfl ⟨rfl, ?_, ?_, ?_⟩
      · exact ((HR.out.set (by simp; omega) _).set (by simp; omega) _).set (by simp; omega) _
      · exact ((HQ.out.set (by simp; omega) _).set (by simp; omega) _).set (by simp; omega) _
      · exact ((HG.out.fresh (Nat.le_refl _) _ _).fresh (Nat.le_refl _) _ _).fresh (Nat.le_refl _) _ _

theorem steal_any (b b' : Nat) (ps : List W3) (nx : Option W3) (qs : List W3) (ny : Option W3) (w : World) (h : RingAt w b ps nx) (h' : RingAt w b' qs ny) (hne : b ≠ b') :
    Calls Try.prog 17 #[.pointer (some ⟨b, 0, none⟩), .pointer (some ⟨b', 0, none⟩)] w fun e w' =>
      e = .returned (.tuple #[.agg #[.int .i64 (stX ps nx qs ny).s, .int .i64 (stX ps nx qs ny).g, .int .u64 (stX ps nx qs ny).t], .int .i64 (stE ps nx qs ny)]) ∧
        RingAt w' b (stP ps qs ny) (stN ps nx qs ny) ∧ RingAt w' b' (stQ ps qs ny) ny ∧ Ch (Two b b') w w' := by
  unfold stX stE stP stN stQ
  cases hb : busy qs ny with
  | true =>
    refine (steal_busy b b' ps nx qs ny w h h' hne hb).mono ?_
    rintro e w1 ⟨rfl, g1⟩
    exact ⟨rfl, h.ch g1 (noB _), h'.ch g1 (noB _), g1.any⟩
  | false =>
    obtain ⟨rfl, rfl⟩ : qs = [] ∧ ny = none := by
      unfold busy at hb
      cases qs <;> cases ny <;> simp at hb ⊢
    cases ps with
    | nil =>
      refine (steal_none b b' nx w h h' hne).mono ?_
      rintro e w1 ⟨rfl, r1, g1⟩
      exact ⟨rfl, r1, h'.ch g1 (fun e => hne (e : b' = b).symm), g1.mono (fun _ e => .inl (.inl e))⟩
    | cons x r =>
      refine (steal_some b b' x r nx w h h' hne).mono ?_
      rintro e w1 ⟨rfl, r1, q1, g1⟩
      have hlv : lv (x :: r) = (lv (x :: r) - 1) + 1 := by unfold lv; simp; omega
      refine ⟨rfl, ?_, ?_, g1⟩
      · rw [hlv]
        exact r1
      · rw [hlv]
        exact q1
end Go.Proofs.Ytfodjkdioddbjab.Rg
