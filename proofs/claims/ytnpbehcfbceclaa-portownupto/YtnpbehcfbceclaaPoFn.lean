/-
  What the small functions of the program's ports answer: capMayBe, given, first, keptOf. Condition: the lists are not too long.
-/
import Derived.Test.YtnpbehcfbceclaaPoConc
import Derived.Test.YtnpbehcfbceclaaPoRow
namespace Go.Proofs.Ytnpbehcfbceclaa.Lt
open Go.RowKit Wd
attribute [local go_sem ↓] Go.wp_at_zero Go.wp_at_succ
set_option maxRecDepth 20000

/-- can a port of a kind have a capacity? -/
def capB (q : Bool) (c : Int) : Bool := if q = true then decide (1 ≤ c) && decide (c ≤ 1024) else decide (c = 1)
theorem capB_ok {q : Bool} {c : Int} (h : capB q c = true) : ∃ n : Nat, c = (n : Int) ∧ (newP q n).ok := by
  unfold capB at h
  cases q
  · rw [if_neg (by decide)] at h
    have := of_decide_eq_true h
    exact ⟨1, this, .new (by omega) (by omega) (fun _ => rfl)⟩
  · rw [if_pos rfl, Bool.and_eq_true] at h
    have h1 := of_decide_eq_true h.1
    have h2 := of_decide_eq_true h.2
    exact ⟨c.toNat, by omega, .new (by omega) (by omega) (fun e => by cases e)⟩
theorem capmay_any (q : Bool) (c : Int) (w : World) : Calls Try.prog 23 #[.bool q, .int .i64 c] w fun e w' => e = .returned (.bool (capB q c)) ∧ w = w' := by
  unfold capB
  cases q
  · rw [if_neg (by decide)]
    go_enter Try.func23, Try.ntmps23
    go_wp2
    go_ret
    exact ⟨rfl, rfl⟩
  · rw [if_pos rfl]
    by_cases h1 : 1 ≤ c
    · rw [decide_eq_true h1, Bool.true_and]
      go_enter Try.func23, Try.ntmps23
      go_wp2
      go_ret
      exact ⟨rfl, rfl⟩
    · rw [decide_eq_false h1, Bool.false_and]
      go_enter Try.func23, Try.ntmps23
      go_wp2
      go_ret
      exact ⟨rfl, rfl⟩
theorem neq_face (q : Bool) (k : Nat) (w : World) : (binOp .neq 61 (faceP q k) .nilIface).run Try.prog w = .ok (.bool true) w := by
  cases q <;> rfl
theorem grd_face (q : Bool) (k : Nat) (x y : Operand) (w : World) : (eqGuard .neq 61 x y (faceP q k) .nilIface).run Try.prog w = .ok () w := by
  cases q <;> rfl
theorem given_any {T : Nat → Prop} {w : World} {p : Nat} {x : Pt} (h : Pm T w p x) : Calls Try.prog 28 #[.pointer (some ⟨p, 0, none⟩)] w fun e w' => e = .returned (.bool true) ∧ w = w' := by
  obtain ⟨_, _, k, vo, vi, hp, _⟩ := h
  have c0 := cell_of hp 0
  simp at c0
  have bl := lt_of_block hp
  have hn := neq_face x.q k
  have hgd := grd_face x.q k
  obtain ⟨F, hF⟩ : ∃ F, F = faceP x.q k := ⟨_, rfl⟩
  rw [← hF] at c0 hn hgd
  clear hp hF
  go_enter Try.func28, Try.ntmps28
  go_wp2
  go_ret
  exact ⟨rfl, rfl⟩
theorem first_any {P : Nat → Prop} (w : World) (k : Nat) (vi : Value) (xs : List Ag) (h : Ls eG P w vi xs) (hc : w.cell? ⟨k, 1, none⟩ = some vi) : Calls Try.prog 57 #[.pointer (some ⟨k, 0, none⟩)] w fun e w' => e = .returned (.tuple #[.int .i64 (firstG xs).1, .int .i64 (firstG xs).2]) ∧ Gr w w' := by
  cases xs with
  | nil =>
    obtain ⟨ao, cap, rfl⟩ := h.form
    clear h
    go_enter Try.func57, Try.ntmps57
    go_wp2
    exact bodyPost_ret (v := .tuple #[.int .i64 0, .int .i64 (-1)]) (by simp [results, Try.results57, go_sem]) rfl ⟨rfl, Gr.refl w⟩
  | cons g r =>
    obtain ⟨b, o, cap, rfl, _, hb, hcap, hg⟩ := h.get eG_len (i := 0) (a := g) rfl
    have g0 := hg 0 _ rfl
    have g1 := hg 1 _ rfl
    rw [Nat.zero_mul, Nat.add_zero] at g0 g1
    have hl : 0 < (g :: r).length := by simp
    unfold firstG
    generalize (g :: r).length = n at *
    clear h hg
    have e0 : ¬ ((n : Int) = 0) := by omega
    have hn : (0 : Int) < (n : Int) := by omega
    go_enter Try.func57, Try.ntmps57
    go_wp2_with fail
    go_big_quiet (fail)
    go_wp2
    exact bodyPost_ret (v := .tuple #[.int .i64 g.v, .int .i64 g.a]) (by simp [results, Try.results57, go_sem]) rfl ⟨rfl, Ch.drewN (Gr.refl w) _⟩
theorem kept_any {P Q : Nat → Prop} (w : World) (vo vi : Value) (xs : List Int) (ys : List Ag) (h1 : Ls eI P w vo xs) (h2 : Ls eG Q w vi ys) (hn1 : xs.length ≤ 1048576) (hn2 : ys.length ≤ 1048576) :
    Calls Try.prog 30 #[vo, vi] w fun e w' => ∃ vo' vi', e = .returned (.agg #[vo', vi']) ∧ Ow eI 1 2 w.heap.size w' vo' xs ∧ Ow eG 2 59 w.heap.size w' vi' ys ∧ Gr w w' := by
  have H1 := hid h1
  have H2 := hid h2
  obtain ⟨a1, c1, rfl⟩ := h1.form
  obtain ⟨a2, c2, rfl⟩ := h2.form
  clear h1 h2
  generalize hm1 : xs.length = n1 at *
  generalize hm2 : ys.length = n2 at *
  clear hm1 hm2
  have HS1 := hid (show (w.alloc (.cells #[.slice none 0 0, .slice none 0 0] 66)).heap.size = w.heap.size + 1 by simp)
  go_enter Try.func30, Try.ntmps30
  go_wp2_with (first
    | (go_at_call 33; refine (concI_any _ _ _ _ _ xs ((H1.out.alloc _).alloc _) (cell_of (al_at _ HS1.out.symm) 0) (by simp) (by omega)).mono ?_; rintro e w1 ⟨v1, rfl, o1, g1⟩; obtain ⟨va, vc, rfl⟩ := o1.form
       have B1 := hid (gr_blk (al_blk (al_at (w := w) (.cells #[.slice none 0 0, .slice none 0 0] 66) rfl) _) g1); have O1 := hid o1; have G1 := hid (Gr.trans (Ch.alloc (Ch.alloc (Gr.refl w) _) _) g1); have L1 := hid (show w.heap.size + 2 ≤ w1.heap.size from by have := g1.size; simpa using this); clear o1 g1)
    | (go_at_call 34; refine (concG_any _ _ _ _ _ ys ((H2.out.gr G1.out).alloc _) (cell_of (al_at _ rfl) 0) (by simp) (by omega)).mono ?_; rintro e w2 ⟨v2, rfl, o2, g2⟩; obtain ⟨vb, vd, rfl⟩ := o2.form
       have B2 := hid (gr_blk (al_blk B1.out _) g2); have O2 := hid o2; have O3 := hid ((O1.out.alloc _).gr g2); have G2 := hid (Gr.trans (Ch.alloc G1.out _) g2); clear o2 g2)
    | (refine st_row rfl 66 (.tmp 4) (.tmp 11) rfl w.heap.size _ rfl rfl _ _ B2.out kpt_size rfl (by simp [Value.oneCell']) ?_; intro w9 b9 k9; have B9 := hid b9; have K9 := hid k9; clear b9 k9))
  refine bodyPost_ret (results_cell_row rfl _ _ w.heap.size _ _ _ _ rfl B9.out Try.underlying66 rfl kpt_size) rfl ⟨_, _, rfl, ?_, ?_, Ch.trans G2.out K9.out (fun q e => .inr (by have e1 : q = w.heap.size := e; omega))⟩
  · refine (O3.out.lower ?_).ch K9.out (fun q hq e => ?_)
    · simp; omega
    · have e1 : q = w.heap.size := e
      have := (O3.out.blk hq).1
      simp at this
      omega
  · refine (O2.out.lower ?_).ch K9.out (fun q hq e => ?_)
    · simp; have := L1.out; omega
    · have e1 : q = w.heap.size := e
      have := (O2.out.blk hq).1
      have := L1.out
      simp at *
      omega
end Go.Proofs.Ytnpbehcfbceclaa.Lt
