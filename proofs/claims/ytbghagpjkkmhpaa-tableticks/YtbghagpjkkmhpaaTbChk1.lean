/-
  The part of a slot in which its domain can run; why a slot is wrong: what the program answers. Condition: the numbers are of their types, and the frame is not 0.
-/
import Derived.Test.YtbghagpjkkmhpaaTbBase
import Derived.Laws.Rows
namespace Go.Proofs.Ytbghagpjkkmhpaa.Lt
open Go.RowKit Wd
attribute [local go_sem ↓] Go.wp_at_zero Go.wp_at_succ
set_option maxRecDepth 20000

theorem win_size : (Try.prog.info? 52).map (·.size) = some 2 := by kernel_rfl
theorem run_any (d s l p : Int) (h0 : 0 ≤ p) (h1 : p ≤ l) (h2 : l ≤ 18446744073709551615) (w : World) :
    Calls Try.prog 36 #[.agg #[.int .i64 d, .int .u64 s, .int .u64 l, .int .u64 p]] w fun e w' => e = .returned (.agg #[.int .u64 s, .int .u64 (l - p)]) ∧ Gr w w' := by
  go_enter Try.func36, Try.ntmps36
  go_wp2
  exact bodyPost_ret (results_cell_row rfl _ _ (w.heap.size + 1) _ _ _ _ rfl (al_at _ (by simp)) Try.underlying52 rfl win_size) rfl ⟨rfl, Ch.alloc (Ch.alloc (Gr.refl _) _) _⟩

theorem slE_bad {F dm en : Int} {x : Sl} (h : ¬ wOk F x) : slE F dm en x = 161 := if_neg h
theorem slE_own {F dm en : Int} {x : Sl} (h : wOk F x) (h1 : x.d < 0 ∨ dm ≤ x.d) : slE F dm en x = 162 := by unfold slE; rw [if_pos h, if_pos h1]
theorem slE_meet {F dm en : Int} {x : Sl} (h : wOk F x) (h1 : ¬ (x.d < 0 ∨ dm ≤ x.d)) (h2 : x.s < en) : slE F dm en x = 163 := by unfold slE; rw [if_pos h, if_neg h1, if_pos h2]
theorem wOk_may {F : Int} {x : Sl} (h : wOk F x) (hx : x.rg) : Tk.mayE x.s x.l F = 0 := Tk.may_of hx.2.1.1 h.1 h.2.1

set_option maxHeartbeats 2000000 in
theorem chkslot_any (x : Sl) (hx : x.rg) (F dm en : Int) (hF : Tk.U F) (w : World) :
    Calls Try.prog 50 #[.agg #[.int .i64 x.d, .int .u64 x.s, .int .u64 x.l, .int .u64 x.p], .int .u64 F, .int .i64 dm, .int .u64 en] w fun e w' => e = .returned (.int .i64 (slE F dm en x)) ∧ Gr w w' := by
  obtain ⟨_, hs, hl, hp⟩ := hx
  obtain ⟨d, s, l, p⟩ := x
  simp only at hs hl hp
  have C := may16 s l F hs hl hF
  by_cases hm : Tk.mayE s l F = 0
  · obtain ⟨m1, m2, m3⟩ := Tk.may_ok hm
    by_cases h1 : p < l
    · have hk : wOk F ⟨d, s, l, p⟩ := ⟨m1, m2, h1⟩
      have nl : ¬ l ≤ p := by omega
      by_cases h2 : d < 0
      · have HR := hide (slE_own (dm := dm) (en := en) hk (.inl h2))
        have Hm := hide hm
        clear hk hm
        go_enter Try.func50, Try.ntmps50
        go_wp2_with fail
        refine (C _).mono ?_
        rintro e w1 ⟨rfl, g1⟩
        rw [Hm.out]
        obtain ⟨c0, c1, c2, c3, cb, gw⟩ := box4 g1
        go_wp2
        go_ret
        exact ⟨by rw [HR.out]; rfl, gw⟩
      · have h2' : 0 ≤ d := by omega
        by_cases h3 : dm ≤ d
        · have HR := hide (slE_own (dm := dm) (en := en) hk (.inr h3))
          have Hm := hide hm
          clear hk hm
          go_enter Try.func50, Try.ntmps50
          go_wp2_with fail
          refine (C _).mono ?_
          rintro e w1 ⟨rfl, g1⟩
          rw [Hm.out]
          obtain ⟨c0, c1, c2, c3, cb, gw⟩ := box4 g1
          go_wp2
          go_ret
          exact ⟨by rw [HR.out]; rfl, gw⟩
        · by_cases h4 : s < en
          · have HR := hide (slE_meet (dm := dm) (en := en) hk (fun q => q.elim h2 h3) h4)
            have Hm := hide hm
            clear hk hm
            go_enter Try.func50, Try.ntmps50
            go_wp2_with fail
            refine (C _).mono ?_
            rintro e w1 ⟨rfl, g1⟩
            rw [Hm.out]
            obtain ⟨c0, c1, c2, c3, cb, gw⟩ := box4 g1
            go_wp2
            go_ret
            exact ⟨by rw [HR.out]; rfl, gw⟩
          · have HR := hide (slE_of (F := F) (dm := dm) (en := en) (x := ⟨d, s, l, p⟩) hk h2' (by show d < dm; omega) (by show en ≤ s; omega))
            have Hm := hide hm
            clear hk hm
            go_enter Try.func50, Try.ntmps50
            go_wp2_with fail
            refine (C _).mono ?_
            rintro e w1 ⟨rfl, g1⟩
            rw [Hm.out]
            obtain ⟨c0, c1, c2, c3, cb, gw⟩ := box4 g1
            go_wp2
            go_ret
            exact ⟨by rw [HR.out]; rfl, gw⟩
    · have HR := hide (slE_bad (F := F) (dm := dm) (en := en) (x := ⟨d, s, l, p⟩) (fun q => h1 q.2.2))
      have h1' : l ≤ p := by omega
      have Hm := hide hm
      clear hm
      go_enter Try.func50, Try.ntmps50
      go_wp2_with fail
      refine (C _).mono ?_
      rintro e w1 ⟨rfl, g1⟩
      rw [Hm.out]
      obtain ⟨c0, c1, c2, c3, cb, gw⟩ := box4 g1
      go_wp2
      go_ret
      exact ⟨by rw [HR.out]; rfl, gw⟩
  · have HR := hide (slE_bad (F := F) (dm := dm) (en := en) (x := ⟨d, s, l, p⟩) (fun q => hm (Tk.may_of hs.1 q.1 q.2.1)))
    have hne : (Tk.mayE s l F != 0) = true := by simpa using hm
    clear hm
    go_enter Try.func50, Try.ntmps50
    go_wp2_with fail
    refine (C _).mono ?_
    rintro e w1 ⟨rfl, g1⟩
    obtain ⟨c0, c1, c2, c3, cb, gw⟩ := box4 g1
    go_wp2
    go_ret
    exact ⟨by rw [HR.out]; rfl, gw⟩
end Go.Proofs.Ytbghagpjkkmhpaa.Lt
