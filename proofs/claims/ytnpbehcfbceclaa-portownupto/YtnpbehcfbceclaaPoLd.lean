/-
  Whether a state may be, and the program's Load. Condition: the lists have no more than 1048576 elements.
-/
import Derived.Test.YtnpbehcfbceclaaPoMay
import Derived.Test.YtnpbehcfbceclaaPoOf
namespace Go.Proofs.Ytnpbehcfbceclaa.Lt
open Go.RowKit Wd
attribute [local go_sem ↓] Go.wp_at_zero Go.wp_at_succ
set_option maxRecDepth 20000

theorem Made.low {w W W' : World} {p : Nat} {x : Pt} (g : Gr w W) (h : Made W p x W') : Made w p x W' := by
  obtain ⟨⟨_, h2, k, vo, vi, h3, h4⟩, h5⟩ := h
  exact ⟨⟨fun _ e => e.2, ⟨Nat.le_trans g.size h2.1, h2.2⟩, k, vo, vi, h3, h4.mono (fun _ e => ⟨Nat.le_trans g.size e.1, e.2⟩)⟩, Gr.trans g h5⟩
/-- may a state be? -/
def mayB (q : Bool) (c : Int) (n1 n2 : Nat) (ys : List Ag) (l : Int) : Bool := capB q c && decide ((n1 : Int) ≤ c) && decide ((n2 : Int) ≤ c) && agesB ys 2147483647 && lostB q l
set_option maxHeartbeats 4000000 in
theorem maybe_any {Q : Nat → Prop} (w : World) (q : Bool) (c l : Int) (a1 a2 : Option Addr) (n1 n2 c1 c2 : Nat) (ys : List Ag) (h : Ls eG Q w (.slice a2 n2 c2) ys) (hn : n2 ≤ 1048576) :
    Calls Try.prog 29 #[.agg #[.bool q, .int .i64 c, .slice a1 n1 c1, .slice a2 n2 c2, .int .i64 l]] w fun e w' => e = .returned (.bool (mayB q c n1 n2 ys l)) ∧ Gr w w' := by
  have HC := hid (capmay_any q c)
  have HLo := hid (lost_any q l)
  have HG := hid (show ∀ W, Gr w W → Calls Try.prog 31 #[.slice a2 n2 c2] W fun e w' => e = .returned (.bool (agesB ys 2147483647)) ∧ Gr W w' from fun W g => ages_any W a2 n2 c2 ys (h.gr g) hn)
  unfold mayB
  generalize capB q c = r1 at *
  generalize lostB q l = r2 at *
  generalize agesB ys 2147483647 = r3 at *
  clear h
  cases r1
  · rw [Bool.false_and, Bool.false_and, Bool.false_and, Bool.false_and]
    go_enter Try.func29, Try.ntmps29
    go_wp2_with (first
      | (go_at_call 23; refine (HC.out _).mono ?_; rintro e w1 ⟨rfl, hw⟩; subst hw)
      | (go_at_call 31; refine (HG.out _ (Ch.alloc (Gr.refl w) _)).mono ?_; rintro e w2 ⟨rfl, g2⟩; have b2 := gr_blk (al_at (w := w) (.cells #[.bool q, .int .i64 c, .slice a1 n1 c1, .slice a2 n2 c2, .int .i64 l] 32) rfl) g2; have s0 := cell_of b2 0; have s4 := cell_of b2 4; simp at s0 s4; have sl := lt_of_block b2; have G2 := hid (Gr.trans (Ch.alloc (Gr.refl w) _) g2); clear g2 b2)
      | (go_at_call 32; refine (HLo.out _).mono ?_; rintro e w3 ⟨rfl, hw⟩; subst hw))
    go_ret
    exact ⟨rfl, Ch.alloc (Gr.refl w) _⟩
  · rw [Bool.true_and]
    by_cases k1 : (n1 : Int) ≤ c
    · rw [decide_eq_true k1, Bool.true_and]
      by_cases k2 : (n2 : Int) ≤ c
      · rw [decide_eq_true k2, Bool.true_and]
        cases r3
        · rw [Bool.false_and]
          go_enter Try.func29, Try.ntmps29
          go_wp2_with (first
            | (go_at_call 23; refine (HC.out _).mono ?_; rintro e w1 ⟨rfl, hw⟩; subst hw)
            | (go_at_call 31; refine (HG.out _ (Ch.alloc (Gr.refl w) _)).mono ?_; rintro e w2 ⟨rfl, g2⟩; have b2 := gr_blk (al_at (w := w) (.cells #[.bool q, .int .i64 c, .slice a1 n1 c1, .slice a2 n2 c2, .int .i64 l] 32) rfl) g2; have s0 := cell_of b2 0; have s4 := cell_of b2 4; simp at s0 s4; have sl := lt_of_block b2; have G2 := hid (Gr.trans (Ch.alloc (Gr.refl w) _) g2); clear g2 b2)
            | (go_at_call 32; refine (HLo.out _).mono ?_; rintro e w3 ⟨rfl, hw⟩; subst hw))
          go_ret
          exact ⟨rfl, G2.out⟩
        · rw [Bool.true_and]
          go_enter Try.func29, Try.ntmps29
          go_wp2_with (first
            | (go_at_call 23; refine (HC.out _).mono ?_; rintro e w1 ⟨rfl, hw⟩; subst hw)
            | (go_at_call 31; refine (HG.out _ (Ch.alloc (Gr.refl w) _)).mono ?_; rintro e w2 ⟨rfl, g2⟩; have b2 := gr_blk (al_at (w := w) (.cells #[.bool q, .int .i64 c, .slice a1 n1 c1, .slice a2 n2 c2, .int .i64 l] 32) rfl) g2; have s0 := cell_of b2 0; have s4 := cell_of b2 4; simp at s0 s4; have sl := lt_of_block b2; have G2 := hid (Gr.trans (Ch.alloc (Gr.refl w) _) g2); clear g2 b2)
            | (go_at_call 32; refine (HLo.out _).mono ?_; rintro e w3 ⟨rfl, hw⟩; subst hw))
          go_ret
          exact ⟨rfl, G2.out⟩
      · rw [decide_eq_false k2, Bool.false_and, Bool.false_and]
        go_enter Try.func29, Try.ntmps29
        go_wp2_with (first
          | (go_at_call 23; refine (HC.out _).mono ?_; rintro e w1 ⟨rfl, hw⟩; subst hw)
          | (go_at_call 31; refine (HG.out _ (Ch.alloc (Gr.refl w) _)).mono ?_; rintro e w2 ⟨rfl, g2⟩; have b2 := gr_blk (al_at (w := w) (.cells #[.bool q, .int .i64 c, .slice a1 n1 c1, .slice a2 n2 c2, .int .i64 l] 32) rfl) g2; have s0 := cell_of b2 0; have s4 := cell_of b2 4; simp at s0 s4; have sl := lt_of_block b2; have G2 := hid (Gr.trans (Ch.alloc (Gr.refl w) _) g2); clear g2 b2)
          | (go_at_call 32; refine (HLo.out _).mono ?_; rintro e w3 ⟨rfl, hw⟩; subst hw))
        go_ret
        exact ⟨rfl, Ch.alloc (Gr.refl w) _⟩
    · rw [decide_eq_false k1, Bool.false_and, Bool.false_and, Bool.false_and]
      go_enter Try.func29, Try.ntmps29
      go_wp2_with (first
        | (go_at_call 23; refine (HC.out _).mono ?_; rintro e w1 ⟨rfl, hw⟩; subst hw)
        | (go_at_call 31; refine (HG.out _ (Ch.alloc (Gr.refl w) _)).mono ?_; rintro e w2 ⟨rfl, g2⟩; have b2 := gr_blk (al_at (w := w) (.cells #[.bool q, .int .i64 c, .slice a1 n1 c1, .slice a2 n2 c2, .int .i64 l] 32) rfl) g2; have s0 := cell_of b2 0; have s4 := cell_of b2 4; simp at s0 s4; have sl := lt_of_block b2; have G2 := hid (Gr.trans (Ch.alloc (Gr.refl w) _) g2); clear g2 b2)
        | (go_at_call 32; refine (HLo.out _).mono ?_; rintro e w3 ⟨rfl, hw⟩; subst hw))
      go_ret
      exact ⟨rfl, Ch.alloc (Gr.refl w) _⟩
theorem load_no {Q : Nat → Prop} (w : World) (q : Bool) (c l : Int) (a1 a2 : Option Addr) (n1 n2 c1 c2 : Nat) (ys : List Ag) (h : Ls eG Q w (.slice a2 n2 c2) ys) (hn : n2 ≤ 1048576) (hb : mayB q c n1 n2 ys l = false) :
    Calls Try.prog 15 #[.agg #[.bool q, .int .i64 c, .slice a1 n1 c1, .slice a2 n2 c2, .int .i64 l]] w fun e w' => e = .returned (.tuple #[.pointer none, .int .i64 150]) ∧ Gr w w' := by
  have HM := hid (maybe_any (w.alloc (.cells #[.bool q, .int .i64 c, .slice a1 n1 c1, .slice a2 n2 c2, .int .i64 l] 32)) q c l a1 a2 n1 n2 c1 c2 ys (h.alloc _) hn)
  rw [hb] at HM
  have BX := hid (al_at (w := w) (.cells #[.bool q, .int .i64 c, .slice a1 n1 c1, .slice a2 n2 c2, .int .i64 l] 32) rfl)
  clear h hb
  go_enter Try.func15, Try.ntmps15
  go_wp2_with (first
    | (go_at_call 29; refine HM.out.mono ?_; rintro e w1 ⟨rfl, g1⟩; have G1 := hid (Gr.trans (Ch.alloc (Gr.refl w) _) g1); clear g1)
    | (refine wpList_load_row rfl 32 (.tmp 1) rfl w.heap.size rfl _ _ _ _ BX.out Try.underlying32 rfl pst_size ?_))
  exact bodyPost_ret (v := .tuple #[.pointer none, .int .i64 150]) (by simp [results, Try.results15, go_sem]) rfl ⟨rfl, G1.out⟩
theorem load_yes {P Q : Nat → Prop} (w : World) (q : Bool) (cap lost : Nat) (a1 a2 : Option Addr) (n1 n2 c1 c2 : Nat) (xs : List Int) (ys : List Ag) (h1 : Ls eI P w (.slice a1 n1 c1) xs) (h2 : Ls eG Q w (.slice a2 n2 c2) ys) (hn1 : n1 ≤ 1048576) (hn : n2 ≤ 1048576) (hb : mayB q cap n1 n2 ys lost = true) :
    Calls Try.prog 15 #[.agg #[.bool q, .int .i64 (cap : Nat), .slice a1 n1 c1, .slice a2 n2 c2, .int .i64 (lost : Nat)]] w fun e w' => ∃ p, e = .returned (.tuple #[.pointer (some ⟨p, 0, none⟩), .int .i64 0]) ∧ Made w p ⟨q, cap, xs, ys, lost⟩ w' := by
  have HM := hid (maybe_any (w.alloc (.cells #[.bool q, .int .i64 (cap : Nat), .slice a1 n1 c1, .slice a2 n2 c2, .int .i64 (lost : Nat)] 32)) q cap lost a1 a2 n1 n2 c1 c2 ys (h2.alloc _) hn)
  rw [hb] at HM
  have BX := hid (al_at (w := w) (.cells #[.bool q, .int .i64 (cap : Nat), .slice a1 n1 c1, .slice a2 n2 c2, .int .i64 (lost : Nat)] 32) rfl)
  have HO := hid (show ∀ W, Gr w W → Calls Try.prog 24 #[.agg #[.bool q, .int .i64 (cap : Nat), .slice a1 n1 c1, .slice a2 n2 c2, .int .i64 (lost : Nat)]] W fun e w' => ∃ p, e = .returned (.pointer (some ⟨p, 0, none⟩)) ∧ Made W p ⟨q, cap, xs, ys, lost⟩ w' from fun W g => of_any W ⟨q, cap, xs, ys, lost⟩ _ _ (h1.gr g) (h2.gr g) (by have := h1.len.1; show xs.length ≤ 1048576; omega) (by have := h2.len.1; show ys.length ≤ 1048576; omega))
  clear h1 h2 hb
  go_enter Try.func15, Try.ntmps15
  go_wp2_with (first
    | (go_at_call 29; refine HM.out.mono ?_; rintro e w1 ⟨rfl, g1⟩; have B1 := hid (gr_blk BX.out g1); have G1 := hid (Gr.trans (Ch.alloc (Gr.refl w) _) g1); clear g1)
    | (go_at_call 24; refine (HO.out _ G1.out).mono ?_; rintro e w2 ⟨p2, rfl, m2⟩; have M2 := hid m2; clear m2)
    | (refine wpList_load_row rfl 32 (.tmp 1) rfl w.heap.size rfl _ _ _ _ BX.out Try.underlying32 rfl pst_size ?_)
    | (refine wpList_load_row rfl 32 (.tmp 1) rfl w.heap.size rfl _ _ _ _ B1.out Try.underlying32 rfl pst_size ?_))
  exact bodyPost_ret (v := .tuple #[.pointer (some ⟨p2, 0, none⟩), .int .i64 0]) (by simp [results, Try.results15, go_sem]) rfl ⟨p2, rfl, Made.low G1.out M2.out⟩
end Go.Proofs.Ytnpbehcfbceclaa.Lt
