/-
  The document's sameWaiters of layer 11 tells lists that are the same. Condition: they are not too long.
-/
import Derived.Test.YtalmiphddgmfbabCnRef1
namespace Go.Proofs.Ytalmiphddgmfbab.Lt
open Go.RowKit Wd
attribute [local go_sem ↓] Go.wp_at_zero Go.wp_at_succ

set_option maxHeartbeats 1000000 in
set_option maxRecDepth 20000 in
theorem rsamew_any (P Q : Nat → Prop) (w : World) (ao bo : Option Addr) (n ca cb : Nat) (ws : List Wt) (h : Ls eW P w (.slice ao n ca) ws) (k : Ls eW Q w (.slice bo n cb) ws) (hn : n ≤ 4398046511104) :
    Calls Try.prog 44 #[.slice ao n ca, .slice bo n cb] w fun e w' => e = .returned (.bool true) ∧ Gr w w' := by
  have HL := hid h.len.1
  have HB := hid h
  have HK := hid k
  clear h k
  go_enter Try.func44, Try.ntmps44
  go_wp2_with fail
  go_loopg [5] n (fun m i wq => ∃ j : Nat, j + m = n ∧ i = .int .i64 ((j : Nat) : Int) ∧ Gr w wq)
  case atStart => exact ⟨0, by omega, rfl, Gr.refl w⟩
  case round =>
    obtain ⟨j, hjm, rfl, hG⟩ := hrel
    have HG := hid hG
    clear hG
    by_cases hj : j < n
    · obtain ⟨⟨x0, x1, x2, x3⟩, hx⟩ : ∃ x, ws[j]? = some x := ⟨_, List.getElem?_eq_getElem (by rw [← HL.out]; exact hj)⟩
      obtain ⟨gg, oo, cap', hv, _, hgl, _, hcs⟩ := (HB.out.gr HG.out).get eW_len hx
      obtain ⟨gk, ok, capk, hvk, _, hglk, _, hck⟩ := (HK.out.gr HG.out).get eW_len hx
      injection hv with hv1 hv2 hv3
      injection hvk with hk1 hk2 hk3
      subst hv1 hk1
      have c0 := hcs 0 _ rfl
      have c1 := hcs 1 _ rfl
      have c2 := hcs 2 _ rfl
      have c3 := hcs 3 _ rfl
      have d0 := hck 0 _ rfl
      have d1 := hck 1 _ rfl
      have d2 := hck 2 _ rfl
      have d3 := hck 3 _ rfl
      dsimp only [Nat.add_zero] at c0 c1 c2 c3 d0 d1 d2 d3
      have j0 : (0 : Int) ≤ (j : Int) := by omega
      have j1 : (j : Int) < (n : Int) := by omega
      clear hcs hck hv2 hv3 hk2 hk3 hx hgl hglk
      go_wp2_with fail
      go_region
      all_goals go_wp2
      all_goals go_roundg (n - (j + 1))
      all_goals first | omega | skip
      all_goals exact ⟨j + 1, by omega, by simp, HG.out.drew⟩
    · have jn : ¬ (j : Int) < (n : Int) := by omega
      go_wp2
      go_ret
      exact ⟨rfl, HG.out⟩
end Go.Proofs.Ytalmiphddgmfbab.Lt
