/-
  What rise, firstOf and sink leave. Condition: the heap is there, the place is in it, and it has at most 4294967296 nodes.
-/
import Derived.Test.YtgkapopkjgljjaaThSwap
import Derived.Handy
namespace Go.Proofs.Ytgkapopkjgljjaa.Hp
open Go.RowKit Wd
attribute [local go_sem ↓] Go.wp_at_zero Go.wp_at_succ

/-- a heap whose list has turned, and has an order -/
def Risen (w : World) (b g km cap : Nat) (xs : List W3) (Q : List W3 → Prop) (clock : Nat) (nx : Int) (e : Ending) (w' : World) : Prop := e = .returned (.tuple #[]) ∧ ∃ xs' M', HC w' b g km cap xs' M' clock nx ∧ xs'.Perm xs ∧ Q xs' ∧ Ch (Tri b g km) w w'
theorem HC.cl {w : World} {b g km cap : Nat} {xs : List W3} {M : List (Int × Int × Nat)} {clock : Nat} {nx : Int} (h : HC w b g km cap xs M clock nx) {ys : List W3} (e : ys.length = xs.length) : w.heap[b]? = some (.cells #[.slice (some ⟨g, 0, none⟩) ys.length cap, .map (some km), .int .i64 nx] 100 (0, 0)) := by rw [e]; exact h.hb

set_option maxHeartbeats 4000000 in
theorem rise_any (b g km cap a0 : Nat) (xs : List W3) (M : List (Int × Int × Nat)) (clock : Nat) (nx : Int) (w : World) (h : HC w b g km cap xs M clock nx) (hx : HX xs a0) (hl : a0 < xs.length) (hn : xs.length ≤ 4294967296) :
    Calls Try.prog 64 #[.pointer (some ⟨b, 0, none⟩), .int .i64 (a0 : Int)] w fun e w' => Risen w b g km cap xs (fun ys => HS ys a0) clock nx e w' := by
  have H := hid h
  have HX0 := hid hx
  clear h hx
  go_enter Try.func64, Try.ntmps64
  go_wp2_with fail
  go_loopg [1] (a0 + 1) (fun k i wr => ∃ (a : Nat) (ys : List W3) (M' : List (Int × Int × Nat)), a + 1 ≤ k ∧ i = .int .i64 ((a : Nat) : Int) ∧ HC wr b g km cap ys M' clock nx ∧ ys.Perm xs ∧ a ≤ a0 ∧ ((a = a0 ∧ HX ys a0) ∨ HR ys a) ∧ Ch (Tri b g km) w wr)
  case atStart => exact ⟨a0, xs, M, by omega, rfl, H.out, List.Perm.refl _, Nat.le_refl _, .inl ⟨rfl, HX0.out⟩, Ch.refl _ _⟩
  case round =>
    obtain ⟨a, ys, M', hak, rfl, hC, hP, haa, hI, hG⟩ := hrel
    obtain ⟨V, hV⟩ : ∃ W, W = wr := ⟨_, rfl⟩
    subst hV
    obtain ⟨K1, hK1⟩ : ∃ k, k = gk := ⟨_, rfl⟩
    have hlen := hP.length_eq
    have HC0 := hid hC
    have HP0 := hid hP
    have HI := hid hI
    have HG := hid hG
    clear hC hP hI hG
    by_cases ha : a = 0
    · subst ha
      go_wp2
      go_end0
      refine ⟨rfl, ys, M', HC0.out, HP0.out, ?_, HG.out⟩
      rcases HI.out with ⟨rfl, h1⟩ | h1
      · exact rise_end0 h1
      · exact (rise_hp0 h1).hs _
    · have d0 : decide ((0 : Int) < (a : Int)) = true := decide_eq_true (by omega)
      have hw1 : IntKind.i64.wrap ((a : Int) - 1) = (a : Int) - 1 := by rw [IntKind.wrap_i64]; omega
      obtain ⟨p, hp⟩ : ∃ p, p = (a - 1) / 4 := ⟨_, rfl⟩
      have hd : ((a : Int) - 1).tdiv 4 = (p : Int) := by
        rw [Int.tdiv_eq_ediv_of_nonneg (by omega)]
        omega
      have hw2 : IntKind.i64.wrap (p : Int) = (p : Int) := by rw [IntKind.wrap_i64]; omega
      obtain ⟨x, hx⟩ : ∃ x, ys[a]? = some x := ⟨_, List.getElem?_eq_getElem (by omega)⟩
      obtain ⟨y, hy⟩ : ∃ y, ys[p]? = some y := ⟨_, List.getElem?_eq_getElem (by omega)⟩
      have HX1 := hid hx
      have HY1 := hid hy
      have HPP := hid hp
      have hpa : p < a := by omega
      clear hx hy hp
      go_wp2_with fail
      refine (ahead_any b g km cap a p ys M' clock nx x y V HC0.out HX1.out HY1.out).mono ?_
      rintro e w1 ⟨rfl, g1⟩
      have HC1 := hid (HC0.out.still g1)
      have HG1 := hid (HG.out.trans g1 (fun q e => e.elim))
      clear g1
      cases hlt : lt x y with
      | false =>
        have HLT := hid hlt
        clear hlt
        go_wp2
        go_end0
        have hnb : nb ys a ((a - 1) / 4) := fun u v hu hv => by
          rw [HX1.out] at hu
          rw [← HPP.out, HY1.out] at hv
          injection hu with hu
          injection hv with hv
          rw [← hu, ← hv]
          exact HLT.out
        refine ⟨rfl, ys, M', HC1.out, HP0.out, ?_, HG1.out⟩
        rcases HI.out with ⟨rfl, h1⟩ | h1
        · exact rise_end h1 hnb
        · exact (rise_hp h1 hnb).hs _
      | true =>
        have HLT := hid hlt
        clear hlt
        go_wp2_with fail
        refine (swap_any b g km cap a p ys M' clock nx x y w1 HC1.out HX1.out HY1.out).mono ?_
        rintro e w2 ⟨rfl, M2, c2, g2⟩
        have hx' : HX ys a := HI.out.elim (fun h => by rw [h.1]; exact h.2) (fun h => h.hx)
        have hr := rise_step hx' (by omega) HX1.out (by rw [← HPP.out]; exact HY1.out) HLT.out
        rw [← HPP.out] at hr
        have HC2 := hid c2
        have HR2 := hid hr
        have HP2 := hid ((swp_perm HX1.out HY1.out).trans HP0.out)
        have HG2 := hid (HG1.out.trans' g2)
        clear c2 g2 hr hx'
        go_wp2
        go_roundg (K1 - 1)
        case measure => omega
        case rel => exact ⟨p, _, M2, by omega, rfl, HC2.out, HP2.out, by omega, .inr HR2.out, HG2.out⟩
end Go.Proofs.Ytgkapopkjgljjaa.Hp
