/-
  What Owner and Left answer: the document. Condition: the numbers are of their types.
-/
import Derived.Test.YtbghagpjkkmhpaaTbOwn0
namespace Go.Proofs.Ytbghagpjkkmhpaa.Lt
open Go.RowKit Wd
attribute [local go_sem ↓] Go.wp_at_zero Go.wp_at_succ
set_option maxRecDepth 20000

set_option maxHeartbeats 2000000 in
theorem rowner_any (w : World) (a : Option Addr) (n c : Nat) (L : List (List Sl)) (h : Rw w (.slice a n c) L) (hx : Rgs L) (F t p : Int) (hF : Tk.U F) (ht : Tk.U t) :
    Calls Try.prog 13 #[.agg #[.int .u64 F, .slice a n c], .int .u64 t, .int .i64 p] w fun e w' => e = .returned (.tuple #[.int .i64 (ownD F L t p), .int .i64 (ownE F L p)]) ∧ Gr w w' := by
  have CL := look_any _ a n c L (h.gr (Ch.alloc (Gr.refl w) (.cells #[.int .u64 F, .slice a n c] 25))) hx F p n hF
  have hle : lkE F L p n = ownE F L p := by unfold ownE; rw [h.len]
  rw [hle] at CL
  by_cases h0 : ownE F L p = 0
  · obtain ⟨P, l, rfl, hl, hlm, hg, h1, h2⟩ := own_at (t := t) hx h0
    have CS := hide (fun W (g : Gr w W) => slot_any W a n c L (h.gr g) F t hg ht P l hl)
    have HE := hide h0
    rw [h0] at CL
    cases hs : slt F l t with
    | none =>
      have HD := hide (show ownD F L t (P : Int) = -1 by rw [h2, hs]; rfl)
      clear h hx hF ht h0 h1 h2 hle hg hl hlm
      go_enter Try.func13, Try.ntmps13
      go_wp2_with fail
      refine CL.mono ?_
      rintro e w1 ⟨rfl, g1⟩
      obtain ⟨t0, t1, tb, gt⟩ := box2 g1
      have GT := hide gt
      go_wp2_with fail
      have CS1 := CS.out _ GT.out
      rw [hs, slotE_none] at CS1
      refine CS1.mono ?_
      rintro e w2 ⟨rfl, g2⟩
      have t2 := (g2.cell tb).trans t0
      have tb2 := Nat.lt_of_lt_of_le tb g2.size
      have G2 := hide (Gr.trans GT.out g2)
      clear CS1 g2 g1 gt t0 t1
      go_wp2
      go_ret2
      exact ⟨by rw [HD.out, HE.out]; rfl, Ch.alloc G2.out _⟩
    | some x =>
      have HD := hide (show ownD F L t (P : Int) = x.d by rw [h2, hs]; rfl)
      clear h hx hF ht h0 h1 h2 hle hg hl hlm
      go_enter Try.func13, Try.ntmps13
      go_wp2_with fail
      refine CL.mono ?_
      rintro e w1 ⟨rfl, g1⟩
      obtain ⟨t0, t1, tb, gt⟩ := box2 g1
      have GT := hide gt
      go_wp2_with fail
      have CS1 := CS.out _ GT.out
      rw [hs, slotE_some] at CS1
      refine CS1.mono ?_
      rintro e w2 ⟨rfl, g2⟩
      have t2 := (g2.cell tb).trans t0
      have tb2 := Nat.lt_of_lt_of_le tb g2.size
      have G2 := hide (Gr.trans GT.out g2)
      clear CS1 g2 g1 gt t0 t1
      go_wp2
      go_ret2
      exact ⟨by rw [HD.out, HE.out]; rfl, Ch.alloc G2.out _⟩
  · have HD := hide (sat_bad (t := t) h0).2.1
    have HE := hide (rfl : ownE F L p = ownE F L p)
    generalize ownE F L p = E at h0 CL HE ⊢
    have hne : (E != 0) = true := by simpa using h0
    clear h hx hF ht h0 hle
    go_enter Try.func13, Try.ntmps13
    go_wp2_with fail
    refine CL.mono ?_
    rintro e w1 ⟨rfl, g1⟩
    obtain ⟨t0, t1, tb, gt⟩ := box2 g1
    have GT := hide gt
    clear g1 gt
    go_wp2
    go_ret2
    exact ⟨by rw [HD.out]; rfl, GT.out⟩
set_option maxHeartbeats 2000000 in
theorem rleft_any (w : World) (a : Option Addr) (n c : Nat) (L : List (List Sl)) (h : Rw w (.slice a n c) L) (hx : Rgs L) (F t p : Int) (hF : Tk.U F) (ht : Tk.U t) :
    Calls Try.prog 15 #[.agg #[.int .u64 F, .slice a n c], .int .u64 t, .int .i64 p] w fun e w' => e = .returned (.tuple #[.int .u64 (lftN F L t p), .int .i64 (ownE F L p)]) ∧ Gr w w' := by
  have CL := look_any _ a n c L (h.gr (Ch.alloc (Gr.refl w) (.cells #[.int .u64 F, .slice a n c] 25))) hx F p n hF
  have hle : lkE F L p n = ownE F L p := by unfold ownE; rw [h.len]
  rw [hle] at CL
  by_cases h0 : ownE F L p = 0
  · obtain ⟨P, l, rfl, hl, hlm, hg, h1, h2⟩ := own_at (t := t) hx h0
    have CS := hide (fun W (g : Gr w W) => slot_any W a n c L (h.gr g) F t hg ht P l hl)
    have HE := hide h0
    rw [h0] at CL
    have f1 := hg.f1
    have f2 := hg.f2
    have tt0 := ht.1
    have tt1 := ht.2
    have htm : t.tmod F = t % F := Int.tmod_eq_emod_of_nonneg tt0
    obtain ⟨tm, htm2⟩ : ∃ tm, tm = t % F := ⟨_, rfl⟩
    have tm0 : 0 ≤ tm := by rw [htm2]; exact Int.emod_nonneg _ (by omega)
    have tm1 : tm < F := by rw [htm2]; exact Int.emod_lt_of_pos _ (by omega)
    have hne : F ≠ 0 := by omega
    rw [← htm2] at htm
    have htw : IntKind.u64.wrap (t.tmod F) = tm := by rw [htm]; exact IntWalk.u64_in _ ⟨tm0, by omega⟩
    cases hs : slt F l t with
    | none =>
      have HD := hide (sat_none (h1.trans hs)).1
      clear h hx hF ht h0 h1 h2 hle hg hl hlm htm2
      go_enter Try.func15, Try.ntmps15
      go_wp2_with fail
      refine CL.mono ?_
      rintro e w1 ⟨rfl, g1⟩
      obtain ⟨t0, t1, tb, gt⟩ := box2 g1
      have GT := hide gt
      go_wp2_with fail
      have CS1 := CS.out _ GT.out
      rw [hs, slotE_none] at CS1
      refine CS1.mono ?_
      rintro e w2 ⟨rfl, g2⟩
      have t2 := (g2.cell tb).trans t0
      have tb2 := Nat.lt_of_lt_of_le tb g2.size
      have G2 := hide (Gr.trans GT.out g2)
      clear CS1 g2 g1 gt t0 t1
      go_wp2
      go_ret2
      exact ⟨by rw [HD.out, HE.out]; rfl, Ch.alloc G2.out _⟩
    | some x =>
      obtain ⟨_, _, _, hr, hw, s0, s1, s2, _, _, p0, _, hd, _⟩ := sat_some hx (h1.trans hs)
      have k3 := hw.2.2
      have k2 := hw.2.1
      have k1 := hw.1
      obtain ⟨hm, he⟩ := lft_run hw s0 p0 s1
      rw [← htm2] at he s1 s2
      by_cases hb : x.s + x.l - x.p ≤ tm
      · rw [if_pos hb] at he
        have HD := hide (hd.trans he)
        clear h hx hF ht h0 h1 h2 hle hg hl hlm htm2 hr hw hd hm he
        go_enter Try.func15, Try.ntmps15
        go_wp2_with fail
        refine CL.mono ?_
        rintro e w1 ⟨rfl, g1⟩
        obtain ⟨t0, t1, tb, gt⟩ := box2 g1
        have GT := hide gt
        go_wp2_with fail
        have CS1 := CS.out _ GT.out
        rw [hs, slotE_some] at CS1
        refine CS1.mono ?_
        rintro e w2 ⟨rfl, g2⟩
        have t2 := (g2.cell tb).trans t0
        have tb2 := Nat.lt_of_lt_of_le tb g2.size
        have G2 := hide (Gr.trans GT.out g2)
        clear CS1 g2 g1 gt t0 t1
        go_wp2
        go_ret2
        exact ⟨by rw [HD.out, HE.out]; rfl, Ch.alloc G2.out _⟩
      · rw [if_neg hb] at he
        have HD := hide (hd.trans he)
        clear h hx hF ht h0 h1 h2 hle hg hl hlm htm2 hr hw hd hm he
        go_enter Try.func15, Try.ntmps15
        go_wp2_with fail
        refine CL.mono ?_
        rintro e w1 ⟨rfl, g1⟩
        obtain ⟨t0, t1, tb, gt⟩ := box2 g1
        have GT := hide gt
        go_wp2_with fail
        have CS1 := CS.out _ GT.out
        rw [hs, slotE_some] at CS1
        refine CS1.mono ?_
        rintro e w2 ⟨rfl, g2⟩
        have t2 := (g2.cell tb).trans t0
        have tb2 := Nat.lt_of_lt_of_le tb g2.size
        have G2 := hide (Gr.trans GT.out g2)
        clear CS1 g2 g1 gt t0 t1
        go_wp2
        go_ret2
        exact ⟨by rw [HD.out, HE.out]; rfl, Ch.alloc G2.out _⟩
  · have HD := hide (sat_bad (t := t) h0).2.2.1
    have HE := hide (rfl : ownE F L p = ownE F L p)
    generalize ownE F L p = E at h0 CL HE ⊢
    have hne : (E != 0) = true := by simpa using h0
    clear h hx hF ht h0 hle
    go_enter Try.func15, Try.ntmps15
    go_wp2_with fail
    refine CL.mono ?_
    rintro e w1 ⟨rfl, g1⟩
    obtain ⟨t0, t1, tb, gt⟩ := box2 g1
    have GT := hide gt
    clear g1 gt
    go_wp2
    go_ret2
    exact ⟨by rw [HD.out]; rfl, GT.out⟩
end Go.Proofs.Ytbghagpjkkmhpaa.Lt
