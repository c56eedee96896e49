/-
  What the document's Take answers, of a state that may be: just what the program's freeSlot finds. Condition: the state is there and may be.
-/
import Derived.Test.YtfbkifkfhgkdbabSbOpsP
import Derived.Test.YtfbkifkfhgkdbabSbRefG
namespace Go.Proofs.Ytfbkifkfhgkdbab.Sb
open Go.RowKit
theorem uncache_last (x : Sl) (p : Nat) (c : List Int) (z : Int) : uncacheS x p c.length (c ++ [z]) = { x with C := x.C.set p c } := by
  unfold uncacheS
  rw [List.take_left, List.drop_of_length_le (by simp), List.append_nil]
theorem uncache_first (x : Sl) (p : Nat) (c : List Int) (z : Int) : uncacheS x p 0 (z :: c) = { x with C := x.C.set p c } := rfl
theorem fill_none (x : Sl) (p : Nat) (hc : x.C[p]? = some []) (hF : x.F = []) (n : Nat) : fillS x p n = x := by
  have e1 : x.C.set p [] = x.C := by
    apply List.ext_getElem?
    intro i
    by_cases hi : i = p
    · subst hi
      rw [List.getElem?_set_self (List.getElem?_eq_some_iff.1 hc).1, hc]
    · rw [List.getElem?_set_ne (fun e => hi e.symm)]
  unfold fillS
  rw [hF, List.take_nil, List.drop_nil, e1, ← hF]

theorem rtake_any (P : Nat → Prop) (p : Nat) (L : Int) (c : List Int) (r : Option Int) (x1 : Sl) (vg va vc vf : Value) (cv : List Value) (x : Sl) (w : World) (h : Rd P w vg va vc vf cv x) (hm : May L x) (hc : x.C[p]? = some c) (hf : Freed L (refillS x p c) p r x1) :
    Calls Try.prog 39 #[.agg #[.int .i64 L, vg, va, vc, vf], .int .i64 (p : Int)] w fun e w' => Toldn L (tookN r x1).1 (tookN r x1).2.1 (tookN r x1).2.2 (tookV r x1).2 w e w' := by
  have hp : p < x.C.length := (List.getElem?_eq_some_iff.1 hc).1
  have hfine := ((hm.refill hc).freed hf).1
  have hgl := hm.gl2
  by_cases hne : c = []
  · subst hne
    have he : refillS x p [] = fillS x p (min 16 x.F.length) := if_pos rfl
    rw [he] at hf
    have hcp : (fillS x p (min 16 x.F.length)).C[p]? = some (x.F.take (min 16 x.F.length)) := List.getElem?_set_self hp
    have hnil : (fillS x p (min 16 x.F.length)).C[p]? = some [] → x.F = [] := fun e => by
      rw [hcp] at e
      injection e with e
      have := congrArg List.length e
      rw [List.length_take, List.length_nil] at this
      exact List.eq_nil_of_length_eq_zero (by omega)
    cases hf using Freed.elim with
    | @own c0 z hc0 =>
      obtain ⟨k, g, a, rfl, hG, hA, hg0, hg1⟩ := hfine z rfl
      have hG' : x.G[k]? = some g := hG
      have hA' : x.A[k]? = some a := hA
      rw [hcp] at hc0
      injection hc0 with hc0
      rw [tookN_some hG, tookV_some hG, uncache_last]
      by_cases h16 : 16 < x.F.length
      · have e16 : min 16 x.F.length = 16 := by omega
        rw [e16] at hc0 ⊢
        exact rtake_16 P p k L g a c0 vg va vc vf cv x w h hm.fits hc h16 hc0 hG' hA' hg0 hg1
      · have e16 : min 16 x.F.length = x.F.length := by omega
        rw [e16] at hc0 ⊢
        rw [List.take_length] at hc0
        exact rtake_all P p k L g a c0 vg va vc vf cv x w h hm.fits hc (by omega) hc0 hG' hA' hg0 hg1
    | made hc0 hl =>
      have hF := hnil hc0
      rw [fill_none x p hc hF] at hl hfine ⊢
      have hG : (makeS x).G[x.G.length]? = some 0 := by simp [makeS]
      rw [tookN_some hG, tookV_some hG]
      exact rtake_made P p L vg va vc vf cv x w h hm.fits hc hF hl (by omega) (by have := hm.ag; omega) hm.ag
    | @found q z c0 hc0 hl hq hz =>
      have hF := hnil hc0
      rw [fill_none x p hc hF] at hl hq hz hfine ⊢
      obtain ⟨k, g, a, rfl, hG, hA, hg0, hg1⟩ := hfine z rfl
      have hG' : x.G[k]? = some g := hG
      rw [tookN_some hG, tookV_some hG, uncache_first]
      refine (rtake_seek P p L vg va vc vf cv x w h hm.fits hc hF hl (fun q' z' cl' hq' hz' => ?_)).mono ?_
      · obtain ⟨k', g', e, h1, h2, h3, h4, _⟩ := hm.uncache (k := 0) hz' rfl
        exact ⟨k', g', false, e, h1, h2, by omega, h4⟩
      · intro e w' hs
        rcases hs with ⟨h1, _⟩ | ⟨q', k', cl, g', h1, h2, h3, h4⟩
        · rw [hq] at h1
          cases h1
        · rw [hq] at h1
          injection h1 with h1
          subst h1
          rw [hz] at h2
          injection h2 with h2
          injection h2 with h2 h5
          have ek : k = k' := by omega
          subst ek h5
          rw [hG'] at h3
          injection h3 with h3
          subst h3
          exact h4
    | none hc0 hl hq =>
      have hF := hnil hc0
      rw [fill_none x p hc hF] at hl hq ⊢
      refine (rtake_seek P p L vg va vc vf cv x w h hm.fits hc hF hl (fun q' z' cl' hq' hz' => ?_)).mono ?_
      · obtain ⟨k', g', e, h1, h2, h3, h4, _⟩ := hm.uncache (k := 0) hz' rfl
        exact ⟨k', g', false, e, h1, h2, by omega, h4⟩
      · intro e w' hs
        rcases hs with ⟨_, h1⟩ | ⟨q', k', cl, g', h1, _⟩
        · exact h1
        · rw [hq] at h1
          cases h1
  · have he : refillS x p c = x := if_neg hne
    rw [he] at hf
    cases hf using Freed.elim with
    | @own c0 z hc0 =>
      obtain ⟨k, g, a, rfl, hG, hA, hg0, hg1⟩ := hfine z rfl
      rw [tookN_some hG, tookV_some hG, uncache_last]
      exact rtake_own P p k L g a c0 vg va vc vf cv x w h hm.fits hc0 hG hA hg0 hg1
    | made hc0 hl =>
      rw [hc] at hc0
      injection hc0 with hc0
      exact absurd hc0 hne
    | found hc0 hl hq hz =>
      rw [hc] at hc0
      injection hc0 with hc0
      exact absurd hc0 hne
    | none hc0 hl hq =>
      rw [hc] at hc0
      injection hc0 with hc0
      exact absurd hc0 hne
end Go.Proofs.Ytfbkifkfhgkdbab.Sb
