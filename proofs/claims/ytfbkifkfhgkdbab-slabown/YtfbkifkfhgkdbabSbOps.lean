/-
  The program's calls and the document's, of a slab that may be, side by side: the same answer, the same state. Condition: the slab and the state are there and may be.
-/
import Derived.Test.YtfbkifkfhgkdbabSbTook
namespace Go.Proofs.Ytfbkifkfhgkdbab.Sb
open Go.RowKit
open Classical
/-- a state and what stands behind it are told, and the state reads so -/
def Says (P : Nat → Prop) (L : Int) (rest : List Value) (x' : Sl) (w : World) (e : Ending) (w' : World) : Prop :=
  ∃ vg' va' vc' vf' cv', e = .returned (.tuple (Value.agg #[.int .i64 L, vg', va', vc', vf'] :: rest).toArray) ∧ Rd (fun q => P q ∨ w.heap.size ≤ q) w' vg' va' vc' vf' cv' x' ∧ Ch NoB w w'
theorem Says.same {P : Nat → Prop} {L : Int} {rest : List Value} {x : Sl} {w w' : World} {vg va vc vf : Value} {cv : List Value} (h : Rd P w vg va vc vf cv x) (g : Ch NoB w w') : Says P L rest x w (.returned (.tuple (Value.agg #[.int .i64 L, vg, va, vc, vf] :: rest).toArray)) w' :=
  ⟨vg, va, vc, vf, cv, rfl, (h.ch g (fun _ _ _ => noB _)).mono (fun _ _ a => .inl a), g⟩
theorem Says.new {P : Nat → Prop} {L : Int} {rest : List Value} {x' : Sl} {w w' : World} {vg' va' vc' vf' : Value} {cv' : List Value} (h : St w.heap.size w' vg' va' vc' vf' cv' x') (g : Ch NoB w w') : Says P L rest x' w (.returned (.tuple (Value.agg #[.int .i64 L, vg', va', vc', vf'] :: rest).toArray)) w' :=
  ⟨vg', va', vc', vf', cv', rfl, h.rd.mono (fun _ _ a => .inr (h.blk a).1), g⟩

theorem rtake_may (P : Nat → Prop) (p L : Int) (n : Int × Int × Int) (x' : Sl) (vg va vc vf : Value) (cv : List Value) (x : Sl) (w : World) (h : Rd P w vg va vc vf cv x) (hm : May L x) (ht : TakeR L x p n x') :
    Calls Try.prog 39 #[.agg #[.int .i64 L, vg, va, vc, vf], .int .i64 p] w fun e w' => Says P L [.agg #[.int .i64 n.1, .int .i64 n.2.1], .int .i64 n.2.2] x' w e w' := by
  rcases ht with ⟨hp, rfl, rfl⟩ | ⟨k, c, r, x1, rfl, hc, hf, rfl, rfl⟩
  · refine (rtake_bad P p L vg va vc vf cv x' w h hm.fits hp).mono ?_
    rintro e w' ⟨rfl, g⟩
    exact Says.same h g
  · refine (rtake_any P k L c r x1 vg va vc vf cv x w h hm hc hf).mono ?_
    rintro e w' ⟨vg', va', vc', vf', cv', rfl, hs, g⟩
    exact Says.new hs g

theorem rgive_may (P : Nat → Prop) (p s gn L : Int) (vg va vc vf : Value) (cv : List Value) (x : Sl) (w : World) (h : Rd P w vg va vc vf cv x) (hm : May L x) :
    Calls Try.prog 40 #[.agg #[.int .i64 L, vg, va, vc, vf], .int .i64 p, .agg #[.int .i64 s, .int .i64 gn]] w fun e w' => Says P L [.int .i64 (giveR x p s gn).1] (giveR x p s gn).2 w e w' := by
  by_cases hp : HasP x p
  · by_cases ha : aliveB x s gn = true
    · obtain ⟨n, c, rfl, hc⟩ := hasP_nat hp
      obtain ⟨k, rfl, hG, hA⟩ := alive_nat hm.ag ha
      rw [giveR_good hc hG hA]
      refine (rgive_good P n k gn L c vg va vc vf cv x w h hm.fits hm.ag.symm hc hG hA (hm.gen k gn hG).2 (by have := hm.cl n c hc; omega)).mono ?_
      rintro e w' ⟨vg', va', vc', vf', cv', rfl, hs, g⟩
      exact Says.new hs g
    · rw [giveR, if_pos hp, if_neg ha]
      refine (rgive_stale P p s gn L vg va vc vf cv x w h hm.fits hm.ag.symm hp (by simpa using ha)).mono ?_
      rintro e w' ⟨rfl, g⟩
      exact Says.same h g
  · rw [giveR, if_neg hp]
    refine (rgive_bad P p s gn L vg va vc vf cv x w h hm.fits hm.ag.symm hp).mono ?_
    rintro e w' ⟨rfl, g⟩
    exact Says.same h g

theorem rflush_may (P : Nat → Prop) (p L : Int) (vg va vc vf : Value) (cv : List Value) (x : Sl) (w : World) (h : Rd P w vg va vc vf cv x) (hm : May L x) :
    Calls Try.prog 41 #[.agg #[.int .i64 L, vg, va, vc, vf], .int .i64 p] w fun e w' => Says P L [.int .i64 (flushR x p).1] (flushR x p).2 w e w' := by
  by_cases hp : HasP x p
  · obtain ⟨n, c, rfl, hc⟩ := hasP_nat hp
    rw [flushR_good hc]
    refine (rflush_good P n L vg va vc vf cv x c w h hm.fits hc).mono ?_
    rintro e w' ⟨vg', va', vc', vf', cv', rfl, hs, g⟩
    exact Says.new hs g
  · rw [flushR, if_neg hp]
    refine (rflush_bad P p L vg va vc vf cv x w h hm.fits hp).mono ?_
    rintro e w' ⟨rfl, g⟩
    exact Says.same h g
end Go.Proofs.Ytfbkifkfhgkdbab.Sb
