/-
  What Owner and Ends answer: the program. Condition: the numbers are of their types.
-/
import Derived.Test.YtbghagpjkkmhpaaTbOwn0
namespace Go.Proofs.Ytbghagpjkkmhpaa.Lt
open Go.RowKit Wd
attribute [local go_sem ↓] Go.wp_at_zero Go.wp_at_succ
set_option maxRecDepth 20000

set_option maxHeartbeats 2000000 in
theorem owner_any (w : World) (a : Option Addr) (n c : Nat) (L : List (List Sl)) (h : Rw w (.slice a n c) L) (hx : Rgs L) (F t p : Int) (hF : Tk.U F) (ht : Tk.U t) :
    Calls Try.prog 12 #[.agg #[.int .u64 F, .slice a n c], .int .u64 t, .int .i64 p] w fun e w' => e = .returned (.tuple #[.int .i64 (ownD F L t p), .int .i64 (ownE F L p)]) ∧ Gr w w' := by
  have CA := at_any _ a n c L (h.gr (Ch.alloc (Gr.refl w) (.cells #[.int .u64 F, .slice a n c] 25))) hx F t p hF ht
  cases hs : sat F L t p with
  | none =>
    rw [hs, atV_none] at CA
    by_cases h0 : ownE F L p = 0
    · obtain ⟨P, l, -, -, -, -, h1, h2⟩ := own_at (t := t) hx h0
      have HD := hide (show ownD F L t p = -1 by rw [h2, ← h1, hs]; rfl)
      have HE := hide h0
      rw [h0] at CA
      clear h hx hF ht hs h0 h1 h2
      go_enter Try.func12, Try.ntmps12
      go_wp2_with fail
      refine CA.mono ?_
      rintro e w1 ⟨rfl, g1⟩
      obtain ⟨t0, t1, tb, gt⟩ := box2 g1
      have GT := hide gt
      clear g1 gt
      go_wp2
      go_ret2
      exact ⟨by rw [HD.out, HE.out]; rfl, Ch.alloc GT.out _⟩
    · have HD := hide (sat_bad (t := t) h0).2.1
      have HE := hide (rfl : ownE F L p = ownE F L p)
      generalize ownE F L p = E at h0 CA HE ⊢
      have hne : (E != 0) = true := by simpa using h0
      clear h hx hF ht hs h0
      go_enter Try.func12, Try.ntmps12
      go_wp2_with fail
      refine CA.mono ?_
      rintro e w1 ⟨rfl, g1⟩
      obtain ⟨t0, t1, tb, gt⟩ := box2 g1
      have GT := hide gt
      clear g1 gt
      go_wp2
      go_ret2
      exact ⟨by rw [HD.out]; rfl, Ch.alloc GT.out _⟩
  | some x =>
    rw [hs, atV_some] at CA
    obtain ⟨h0, _, _, _, _, _, _, _, _, _, _, hd, _, _⟩ := sat_some hx hs
    have HD := hide hd
    have HE := hide h0
    rw [h0] at CA
    clear h hx hF ht hs h0 hd
    go_enter Try.func12, Try.ntmps12
    go_wp2_with fail
    refine CA.mono ?_
    rintro e w1 ⟨rfl, g1⟩
    obtain ⟨t0, t1, tb, gt⟩ := box2 g1
    have GT := hide gt
    clear g1 gt
    go_wp2
    go_ret2
    exact ⟨by rw [HD.out, HE.out]; rfl, Ch.alloc GT.out _⟩
set_option maxHeartbeats 2000000 in
theorem ends_any (w : World) (a : Option Addr) (n c : Nat) (L : List (List Sl)) (h : Rw w (.slice a n c) L) (hx : Rgs L) (F t p : Int) (hF : Tk.U F) (ht : Tk.U t) :
    Calls Try.prog 16 #[.agg #[.int .u64 F, .slice a n c], .int .u64 t, .int .i64 p] w fun e w' => e = .returned (.tuple #[.bool (endB F L t p), .int .i64 (ownE F L p)]) ∧ Gr w w' := by
  have CA := at_any _ a n c L (h.gr (Ch.alloc (Gr.refl w) (.cells #[.int .u64 F, .slice a n c] 25))) hx F t p hF ht
  cases hs : sat F L t p with
  | none =>
    rw [hs, atV_none] at CA
    have HD := hide (sat_none hs).2
    generalize ownE F L p = E at CA ⊢
    clear h hx hF ht hs
    go_enter Try.func16, Try.ntmps16
    go_wp2_with fail
    refine CA.mono ?_
    rintro e w1 ⟨rfl, g1⟩
    obtain ⟨t0, t1, tb, gt⟩ := box2 g1
    have GT := hide gt
    clear g1 gt
    go_wp2
    go_ret2
    exact ⟨by rw [HD.out]; rfl, Ch.alloc GT.out _⟩
  | some x =>
    rw [hs, atV_some] at CA
    obtain ⟨h0, _, _, hr, hw, hs0, hs1, hs2, _, _, _, _, _, hd⟩ := sat_some hx hs
    obtain ⟨hm, he⟩ := end_run hw hs0 hs1 hs2
    have HD := hide (hd.trans he)
    have HE := hide h0
    have HC := hide (left16 t F x.s x.l ht hF hr.2.1 hr.2.2.1)
    rw [h0] at CA
    rw [hm] at HC
    generalize Tk.leN t F x.s x.l = R at HC HD
    clear h hx hF ht hs h0 hd hr hw hs0 hs1 hs2 hm he
    go_enter Try.func16, Try.ntmps16
    go_wp2_with fail
    refine CA.mono ?_
    rintro e w1 ⟨rfl, g1⟩
    obtain ⟨t0, t1, tb, gt⟩ := box2 g1
    have GT := hide gt
    clear g1 gt
    go_wp2_with fail
    refine (HC.out _).mono ?_
    rintro e w2 ⟨rfl, g2⟩
    have G2 := hide (Gr.trans GT.out (box4 g2).2.2.2.2.2)
    clear g2
    go_wp2
    go_ret2
    exact ⟨by rw [HD.out, HE.out]; rfl, G2.out⟩
end Go.Proofs.Ytbghagpjkkmhpaa.Lt
