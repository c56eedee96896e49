/-
  What firstOf answers and sink leaves. Condition: the heap is there, the place is in it, and it has at most 4294967296 nodes.
-/
import Derived.Test.YtgkapopkjgljjaaThRise
import Derived.Handy
namespace Go.Proofs.Ytgkapopkjgljjaa.Hp
open Go.RowKit Wd
attribute [local go_sem ↓] Go.wp_at_zero Go.wp_at_succ

/-- f is the first of a and of its children below c -/
def FirstTo (xs : List W3) (a f c : Nat) : Prop := (f = a ∨ (0 < f ∧ (f - 1) / 4 = a ∧ ∃ x y, xs[f]? = some x ∧ xs[a]? = some y ∧ lt x y = true)) ∧ ∀ d, 0 < d → (d - 1) / 4 = a → d < c → nb xs d f
theorem lt_trans3 {x y z : W3} (h1 : lt x y = true) (h2 : lt y z = true) : lt x z = true := by
  have h1 := of_decide_eq_true h1
  have h2 := of_decide_eq_true h2
  exact decide_eq_true (by omega)
theorem FirstTo.start (xs : List W3) (a : Nat) : FirstTo xs a a (4 * a + 1) := ⟨.inl rfl, fun d h0 h1 h2 => by omega⟩
theorem FirstTo.keep {xs : List W3} {a f c : Nat} {x y : W3} (h : FirstTo xs a f c) (hx : xs[c]? = some x) (hy : xs[f]? = some y) (hl : lt x y = false) : FirstTo xs a f (c + 1) := ⟨h.1, fun d h0 h1 h2 => by
  by_cases e : d = c
  · subst e
    intro u v hu hv
    rw [hx] at hu
    rw [hy] at hv
    injection hu with hu
    injection hv with hv
    rw [← hu, ← hv]
    exact hl
  · exact h.2 d h0 h1 (by omega)⟩
theorem FirstTo.turn {xs : List W3} {a f c : Nat} {x y : W3} (h : FirstTo xs a f c) (hc : 0 < c) (hca : (c - 1) / 4 = a) (hx : xs[c]? = some x) (hy : xs[f]? = some y) (hl : lt x y = true) : FirstTo xs a c (c + 1) := by
  refine ⟨.inr ⟨hc, hca, ?_⟩, fun d h0 h1 h2 u v hu hv => ?_⟩
  · rcases h.1 with rfl | ⟨_, _, x', z, e1, e2, h3⟩
    · exact ⟨x, y, hx, hy, hl⟩
    · rw [hy] at e1
      injection e1 with e1
      subst e1
      exact ⟨x, z, hx, e2, lt_trans3 hl h3⟩
  · rw [hx] at hv
    injection hv with hv
    subst hv
    by_cases e : d = c
    · subst e
      rw [hx] at hu
      injection hu with hu
      subst hu
      exact lt_irr _
    · exact lt_of hl (h.2 d h0 h1 (by omega) u y hu hy)
theorem FirstTo.all {xs : List W3} {a f c : Nat} (h : FirstTo xs a f c) (hc : 4 * a + 5 ≤ c ∨ xs.length ≤ c) : First xs a f := ⟨h.1, fun d h0 h1 u v hu hv => by
  have hd : d < xs.length := (List.getElem?_eq_some_iff.1 hu).1
  exact h.2 d h0 h1 (by omega) u v hu hv⟩
/-- what firstOf tells -/
def FoundF (w : World) (xs : List W3) (a : Nat) (e : Ending) (w' : World) : Prop := ∃ f : Nat, e = .returned (.int .i64 (f : Int)) ∧ First xs a f ∧ f < xs.length ∧ Ch NoB w w'

set_option maxHeartbeats 4000000 in
theorem firstOf_any (b g km cap a : Nat) (xs : List W3) (M : List (Int × Int × Nat)) (clock : Nat) (nx : Int) (w : World) (h : HC w b g km cap xs M clock nx) (hl : a < xs.length) (hn : xs.length ≤ 4294967296) :
    Calls Try.prog 78 #[.pointer (some ⟨b, 0, none⟩), .int .i64 (a : Int)] w fun e w' => FoundF w xs a e w' := by
  have H := hid h
  have hw1 : IntKind.i64.wrap (4 * (a : Int)) = 4 * (a : Int) := by rw [IntKind.wrap_i64]; omega
  have hw2 : IntKind.i64.wrap (4 * (a : Int) + 1) = 4 * (a : Int) + 1 := by rw [IntKind.wrap_i64]; omega
  have hw3 : IntKind.i64.wrap (4 * (a : Int) + 4) = 4 * (a : Int) + 4 := by rw [IntKind.wrap_i64]; omega
  clear h
  go_enter Try.func78, Try.ntmps78
  go_wp2_with fail
  go_loopg [5, 6] 4 (fun k fv cv wr => ∃ (f c : Nat), c + k = 4 * a + 5 ∧ 4 * a + 1 ≤ c ∧ fv = .int .i64 ((f : Nat) : Int) ∧ cv = .int .i64 ((c : Nat) : Int) ∧ f < xs.length ∧ FirstTo xs a f c ∧ Ch NoB w wr)
  case atStart => exact ⟨a, 4 * a + 1, by omega, by omega, rfl, by congr 1, hl, FirstTo.start xs a, Ch.refl _ _⟩
  case round =>
    obtain ⟨f, c, hck, hc1, rfl, rfl, hf, hF, hG⟩ := hrel
    obtain ⟨V, hV⟩ : ∃ W, W = wr := ⟨_, rfl⟩
    subst hV
    obtain ⟨K1, hK1⟩ : ∃ k, k = gk := ⟨_, rfl⟩
    have HC0 := hid (H.out.still hG)
    have HF := hid hF
    have HG := hid hG
    obtain ⟨n, hnn⟩ : ∃ n, n = xs.length := ⟨_, rfl⟩
    have c0 := HC0.out.cell.1
    rw [← hnn] at c0 hf
    have HNN := hid hnn
    have n32 : n ≤ 4294967296 := by omega
    have bl := lt_of_block HC0.out.hb
    clear hF hG hnn
    by_cases hle : c ≤ 4 * a + 4
    · have d1 : decide ((c : Int) ≤ 4 * (a : Int) + 4) = true := decide_eq_true (by omega)
      by_cases hlt : c < n
      · have d2 : decide ((c : Int) < (n : Int)) = true := decide_eq_true (by omega)
        obtain ⟨x, hx⟩ : ∃ x, xs[c]? = some x := ⟨_, List.getElem?_eq_getElem (by rw [← HNN.out]; exact hlt)⟩
        obtain ⟨y, hy⟩ : ∃ y, xs[f]? = some y := ⟨_, List.getElem?_eq_getElem (by rw [← HNN.out]; exact hf)⟩
        have HX1 := hid hx
        have HY1 := hid hy
        clear hx hy
        go_wp2_with fail
        refine (ahead_any b g km cap c f xs M clock nx x y V HC0.out HX1.out HY1.out).mono ?_
        rintro e w1 ⟨rfl, g1⟩
        have HG1 := hid (HG.out.trans' g1)
        clear g1
        cases hl2 : lt x y with
        | false =>
          have HL := hid hl2
          clear hl2
          go_wp2
          go_roundg (K1 - 1)
          case measure => omega
          case rel => exact ⟨f, c + 1, by omega, by omega, rfl, by simp, by rw [← HNN.out]; exact hf, HF.out.keep HX1.out HY1.out HL.out, HG1.out⟩
        | true =>
          have HL := hid hl2
          clear hl2
          go_wp2
          go_roundg (K1 - 1)
          case measure => omega
          case rel => exact ⟨c, c + 1, by omega, by omega, rfl, by simp, by rw [← HNN.out]; exact hlt, HF.out.turn (by omega) (by omega) HX1.out HY1.out HL.out, HG1.out⟩
      · have d2 : decide ((c : Int) < (n : Int)) = false := decide_eq_false (by omega)
        go_wp2
        go_ret
        exact ⟨f, rfl, HF.out.all (.inr (by rw [← HNN.out]; omega)), by rw [← HNN.out]; exact hf, HG.out⟩
    · have d1 : decide ((c : Int) ≤ 4 * (a : Int) + 4) = false := decide_eq_false (by omega)
      go_wp2
      go_ret
      exact ⟨f, rfl, HF.out.all (.inl (by omega)), by rw [← HNN.out]; exact hf, HG.out⟩

set_option maxHeartbeats 4000000 in
theorem sink_any (b g km cap a0 : Nat) (xs : List W3) (M : List (Int × Int × Nat)) (clock : Nat) (nx : Int) (w : World) (h : HC w b g km cap xs M clock nx) (hs : HS xs a0) (hl : a0 < xs.length) (hn : xs.length ≤ 4294967296) :
    Calls Try.prog 73 #[.pointer (some ⟨b, 0, none⟩), .int .i64 (a0 : Int)] w fun e w' => Risen w b g km cap xs HP clock nx e w' := by
  have H := hid h
  have HS0 := hid hs
  clear h hs
  go_enter Try.func73, Try.ntmps73
  go_wp2_with fail
  go_loopg [1] (xs.length - a0) (fun k i wr => ∃ (a : Nat) (ys : List W3) (M' : List (Int × Int × Nat)), a + k = xs.length ∧ a < xs.length ∧ i = .int .i64 ((a : Nat) : Int) ∧ HC wr b g km cap ys M' clock nx ∧ ys.Perm xs ∧ HS ys a ∧ Ch (Tri b g km) w wr)
  case atStart => exact ⟨a0, xs, M, by omega, hl, rfl, H.out, List.Perm.refl _, HS0.out, Ch.refl _ _⟩
  case round =>
    obtain ⟨a, ys, M', hak, hal, rfl, hC, hP, hI, hG⟩ := hrel
    obtain ⟨V, hV⟩ : ∃ W, W = wr := ⟨_, rfl⟩
    subst hV
    obtain ⟨K1, hK1⟩ : ∃ k, k = gk := ⟨_, rfl⟩
    have hlen := hP.length_eq
    have HC0 := hid hC
    have HP0 := hid hP
    have HI := hid hI
    have HG := hid hG
    clear hC hP hI hG
    go_wp2_with fail
    refine (firstOf_any b g km cap a ys M' clock nx V HC0.out (by omega) (by omega)).mono ?_
    rintro e w1 ⟨f, rfl, hF, hfl, g1⟩
    have HC1 := hid (HC0.out.still g1)
    have HG1 := hid (HG.out.trans g1 (fun q e => e.elim))
    have HF := hid hF
    clear g1 hF
    by_cases hfa : f = a
    · subst hfa
      go_wp2
      go_end0
      exact ⟨rfl, ys, M', HC1.out, HP0.out, sink_end HI.out HF.out, HG1.out⟩
    · have hq : ((f : Int) == (a : Int)) = false := by simp; omega
      have hq2 : ¬ ((f : Int) = (a : Int)) := by omega
      obtain ⟨x, hx⟩ : ∃ x, ys[a]? = some x := ⟨_, List.getElem?_eq_getElem (by omega)⟩
      obtain ⟨y, hy⟩ : ∃ y, ys[f]? = some y := ⟨_, List.getElem?_eq_getElem hfl⟩
      have st := sink_step HI.out HF.out hfa hx hy
      have haf := st.2
      have HST := hid st.1
      have HX1 := hid hx
      have HY1 := hid hy
      clear hx hy st
      go_wp2_with fail
      refine (swap_any b g km cap a f ys M' clock nx x y w1 HC1.out HX1.out HY1.out).mono ?_
      rintro e w2 ⟨rfl, M2, c2, g2⟩
      have HC2 := hid c2
      have HP2 := hid ((swp_perm HX1.out HY1.out).trans HP0.out)
      have HG2 := hid (HG1.out.trans' g2)
      clear c2 g2
      go_wp2
      go_roundg (xs.length - f)
      case measure => omega
      case rel => exact ⟨f, _, M2, by omega, by omega, rfl, HC2.out, HP2.out, HST.out, HG2.out⟩
end Go.Proofs.Ytgkapopkjgljjaa.Hp
