/-
  Whether a number is a domain, whether an edge may be: the program's and the document's functions. No conditions.
-/
import Derived.Test.YtcoaefojamhloaaPyBase
namespace Go.Proofs.Ytcoaefojamhloaa.Lt
open Go.RowKit Wd
attribute [local go_sem ↓] Go.wp_at_zero Go.wp_at_succ
set_option maxRecDepth 20000

theorem dm_yes {n d : Int} (h0 : 0 ≤ d) (h1 : d < n) : dmB n d = true := dmB_iff.2 ⟨h0, h1⟩
theorem dm_no {n d : Int} (h : ¬ (0 ≤ d ∧ d < n)) : dmB n d = false := by
  cases e : dmB n d
  · rfl
  · exact absurd (dmB_iff.1 e) h
theorem isdom_any (n d : Int) (w : World) : Calls Try.prog 31 #[.int .i64 n, .int .i64 d] w fun e w' => e = .returned (.bool (dmB n d)) ∧ Gr w w' := by
  by_cases h0 : 0 ≤ d
  · by_cases h1 : d < n
    · rw [dm_yes h0 h1]
      go_enter Try.func31, Try.ntmps31
      go_wp2
      go_ret
      exact ⟨rfl, Gr.refl _⟩
    · rw [dm_no (fun q => h1 q.2)]
      go_enter Try.func31, Try.ntmps31
      go_wp2
      go_ret
      exact ⟨rfl, Gr.refl _⟩
  · rw [dm_no (fun q => h0 q.1)]
    go_enter Try.func31, Try.ntmps31
    go_wp2
    go_ret
    exact ⟨rfl, Gr.refl _⟩
theorem ris_any (n d : Int) (w : World) : Calls Try.prog 23 #[.int .i64 n, .int .i64 d] w fun e w' => e = .returned (.bool (dmB n d)) ∧ Gr w w' := by
  by_cases h0 : 0 ≤ d
  · by_cases h1 : d < n
    · rw [dm_yes h0 h1]
      go_enter Try.func23, Try.ntmps23
      go_wp2
      go_ret
      exact ⟨rfl, Gr.refl _⟩
    · rw [dm_no (fun q => h1 q.2)]
      go_enter Try.func23, Try.ntmps23
      go_wp2
      go_ret
      exact ⟨rfl, Gr.refl _⟩
  · rw [dm_no (fun q => h0 q.1)]
    go_enter Try.func23, Try.ntmps23
    go_wp2
    go_ret
    exact ⟨rfl, Gr.refl _⟩
set_option maxHeartbeats 2000000 in
theorem maybe_any (n : Int) (x : Eg) (w : World) : Calls Try.prog 22 #[.int .i64 n, .agg #[.int .i64 x.f, .int .i64 x.t]] w fun e w' => e = .returned (.bool (egB n x)) ∧ Gr w w' := by
  have C1 := isdom_any n x.f
  have C2 := isdom_any n x.t
  have HE := hide (show egB n x = (dmB n x.f && dmB n x.t && decide (x.f ≠ x.t)) from rfl)
  rw [HE.out]
  generalize dmB n x.f = b1 at *
  generalize dmB n x.t = b2 at *
  cases b1
  · go_enter Try.func22, Try.ntmps22
    go_wp2_with fail
    refine (C1 _).mono ?_
    rintro e w1 ⟨rfl, g1⟩
    obtain ⟨c0, c1, cb, gw⟩ := box2 g1
    go_wp2
    go_ret
    exact ⟨rfl, gw⟩
  · cases b2
    · go_enter Try.func22, Try.ntmps22
      go_wp2_with fail
      refine (C1 _).mono ?_
      rintro e w1 ⟨rfl, g1⟩
      obtain ⟨c0, c1, cb, gw⟩ := box2 g1
      go_wp2_with fail
      refine (C2 _).mono ?_
      rintro e w2 ⟨rfl, g2⟩
      have d0 := (box2 (Gr.trans g1 g2)).1
      have d1 := (box2 (Gr.trans g1 g2)).2.1
      have db := (box2 (Gr.trans g1 g2)).2.2.1
      clear c0 c1 cb
      go_wp2
      go_ret
      exact ⟨rfl, Gr.trans gw g2⟩
    · by_cases hn : x.f = x.t
      · have e : decide (x.f ≠ x.t) = false := by simp [hn]
        rw [e]
        have hb : (x.f == x.t) = true := by simpa using hn
        have hb2 : (x.f != x.t) = false := by simpa using hn
        clear hn e
        go_enter Try.func22, Try.ntmps22
        go_wp2_with fail
        refine (C1 _).mono ?_
        rintro e w1 ⟨rfl, g1⟩
        obtain ⟨c0, c1, cb, gw⟩ := box2 g1
        go_wp2_with fail
        refine (C2 _).mono ?_
        rintro e w2 ⟨rfl, g2⟩
        have d0 := (box2 (Gr.trans g1 g2)).1
        have d1 := (box2 (Gr.trans g1 g2)).2.1
        have db := (box2 (Gr.trans g1 g2)).2.2.1
        clear c0 c1 cb
        go_wp2
        go_ret
        exact ⟨rfl, Gr.trans gw g2⟩
      · have e : decide (x.f ≠ x.t) = true := by simp [hn]
        rw [e]
        have hb : (x.f == x.t) = false := by simpa using hn
        have hb2 : (x.f != x.t) = true := by simpa using hn
        clear hn e
        go_enter Try.func22, Try.ntmps22
        go_wp2_with fail
        refine (C1 _).mono ?_
        rintro e w1 ⟨rfl, g1⟩
        obtain ⟨c0, c1, cb, gw⟩ := box2 g1
        go_wp2_with fail
        refine (C2 _).mono ?_
        rintro e w2 ⟨rfl, g2⟩
        have d0 := (box2 (Gr.trans g1 g2)).1
        have d1 := (box2 (Gr.trans g1 g2)).2.1
        have db := (box2 (Gr.trans g1 g2)).2.2.1
        clear c0 c1 cb
        go_wp2
        go_ret
        exact ⟨rfl, Gr.trans gw g2⟩
end Go.Proofs.Ytcoaefojamhloaa.Lt
