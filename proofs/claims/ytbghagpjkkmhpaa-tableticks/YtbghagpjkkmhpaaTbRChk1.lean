/-
  Whether a slot's window and pad may be: the document's answer. Condition: the numbers are of their types.
-/
import Derived.Test.YtbghagpjkkmhpaaTbBase
namespace Go.Proofs.Ytbghagpjkkmhpaa.Lt
open Go.RowKit Wd
attribute [local go_sem ↓] Go.wp_at_zero Go.wp_at_succ
set_option maxRecDepth 20000

set_option maxHeartbeats 2000000 in
theorem window_any (d s l p F : Int) (hs : Tk.U s) (hl : Tk.U l) (hp : Tk.U p) (hF : Tk.U F) (w : World) :
    Calls Try.prog 30 #[.agg #[.int .i64 d, .int .u64 s, .int .u64 l, .int .u64 p], .int .u64 F] w fun e w' => e = .returned (.bool (decide (wOk F ⟨d, s, l, p⟩))) ∧ Gr w w' := by
  have s0 := hs.1
  have l0 := hl.1
  have p0 := hp.1
  have f0 := hF.1
  have f1 := hF.2
  obtain ⟨r, hr⟩ : ∃ r, r = decide (wOk F ⟨d, s, l, p⟩) := ⟨_, rfl⟩
  rw [← hr]
  by_cases h1 : 1 ≤ l
  · by_cases h2 : s < F
    · by_cases h3 : l ≤ F - s
      · by_cases h4 : p < l
        · have HR := hide (show r = true by rw [hr]; exact decide_eq_true ⟨h1, by show s + l ≤ F; omega, h4⟩)
          clear hr hs hl hp hF
          go_enter Try.func30, Try.ntmps30
          go_wp2
          go_ret
          exact ⟨by rw [HR.out]; rfl, Ch.alloc (Ch.alloc (Gr.refl _) _) _⟩
        · have HR := hide (show r = false by rw [hr]; exact decide_eq_false (fun q => h4 q.2.2))
          clear hr hs hl hp hF
          go_enter Try.func30, Try.ntmps30
          go_wp2
          go_ret
          exact ⟨by rw [HR.out]; rfl, Ch.alloc (Ch.alloc (Gr.refl _) _) _⟩
      · have HR := hide (show r = false by rw [hr]; exact decide_eq_false (fun q => h3 (by have : s + l ≤ F := q.2.1; omega)))
        clear hr hs hl hp hF
        go_enter Try.func30, Try.ntmps30
        go_wp2
        go_ret
        exact ⟨by rw [HR.out]; rfl, Ch.alloc (Ch.alloc (Gr.refl _) _) _⟩
    · have HR := hide (show r = false by rw [hr]; exact decide_eq_false (fun q => h2 (by have : s + l ≤ F := q.2.1; omega)))
      clear hr hs hl hp hF
      go_enter Try.func30, Try.ntmps30
      go_wp2
      go_ret
      exact ⟨by rw [HR.out]; rfl, Ch.alloc (Ch.alloc (Gr.refl _) _) _⟩
  · have HR := hide (show r = false by rw [hr]; exact decide_eq_false (fun q => h1 q.1))
    clear hr hs hl hp hF
    go_enter Try.func30, Try.ntmps30
    go_wp2
    go_ret
    exact ⟨by rw [HR.out]; rfl, Ch.alloc (Ch.alloc (Gr.refl _) _) _⟩
end Go.Proofs.Ytbghagpjkkmhpaa.Lt
