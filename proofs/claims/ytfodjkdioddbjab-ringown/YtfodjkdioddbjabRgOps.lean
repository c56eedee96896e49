/-
  What Put, Kick, Ready and Take of the program's ring answer and leave. Condition: the ring is there.
-/
import Derived.Test.YtfodjkdioddbjabRgBehind
namespace Go.Proofs.Ytfodjkdioddbjab.Rg
open Go.RowKit
attribute [local go_sem ↓] Go.wp_at_zero Go.wp_at_succ

/-- is a turn not below that of the next one? -/
def notBelow (nx : Option W3) (t : Int) : Bool := match nx with
  | none => false
  | some y => decide (y.t ≤ t)
/-- is a turn not above that of the next one? -/
def notAbove (nx : Option W3) (t : Int) : Bool := match nx with
  | none => false
  | some y => decide (t ≤ y.t)
def putBad (ps : List W3) (nx : Option W3) (x : W3) : Bool := !aboveB ps x.t || notBelow nx x.t
def putE (ps : List W3) (nx : Option W3) (x : W3) : Int := if putBad ps nx x then 20 else 0
def putP (ps : List W3) (nx : Option W3) (x : W3) : List W3 := if putBad ps nx x then ps else behindP ps x
def putL (ps : List W3) (nx : Option W3) (x : W3) : List W3 := if putBad ps nx x then [] else behindL ps x
def kickP (ps : List W3) (nx : Option W3) : List W3 := match nx with
  | none => ps
  | some y => behindP ps y
def kickL (ps : List W3) (nx : Option W3) : List W3 := match nx with
  | none => []
  | some y => behindL ps y
def readyBad (ps : List W3) (nx : Option W3) (x : W3) : Bool := !aboveB ps x.t || notAbove nx x.t
def readyE (ps : List W3) (nx : Option W3) (x : W3) : Int := if readyBad ps nx x then 20 else 0
def readyP (ps : List W3) (nx : Option W3) (x : W3) : List W3 := if readyBad ps nx x then ps else kickP ps nx
def readyN (ps : List W3) (nx : Option W3) (x : W3) : Option W3 := if readyBad ps nx x then nx else some x
def readyL (ps : List W3) (nx : Option W3) (x : W3) : List W3 := if readyBad ps nx x then [] else kickL ps nx

theorem put_bad (b : Nat) (x : W3) (ps : List W3) (nx : Option W3) (w : World) (h : RingAt w b ps nx) (hbad : putBad ps nx x = true) :
    Calls Try.prog 9 #[.pointer (some ⟨b, 0, none⟩), .agg #[.int .i64 x.s, .int .i64 x.g, .int .u64 x.t]] w fun e w' => e = .returned (.tuple #[.slice none 0 0, .int .i64 20]) ∧ Ch NoB w w' := by
  have hlt := h.lt
  cases hab : aboveB ps x.t with
  | false =>
    have hA : ∀ w2 : World, RingAt w2 b ps nx → Calls Try.prog 26 #[.pointer (some ⟨b, 0, none⟩), .int .u64 x.t] w2 fun e w' => e = .returned (.bool false) ∧ ∃ n, w' = w2.drewN n := by
      intro w2 h2
      have := above_any b nx ps x.t w2 h2
      rw [hab] at this
      exact this
    have H := hid h
    clear h hbad hab
    go_enter Try.func9, Try.ntmps9
    go_wp2
    go_quiet (first | (go_at_call 26; refine Calls.quiet_of (hA _ ?_); exact (H.out.alloc _).drewN _))
    go_wp2
    go_ret2
    exact ⟨rfl, ((Ch.refl _ _).alloc _).drewN _⟩
  | true =>
    have hA : ∀ w2 : World, RingAt w2 b ps nx → Calls Try.prog 26 #[.pointer (some ⟨b, 0, none⟩), .int .u64 x.t] w2 fun e w' => e = .returned (.bool true) ∧ ∃ n, w' = w2.drewN n := by
      intro w2 h2
      have := above_any b nx ps x.t w2 h2
      rw [hab] at this
      exact this
    unfold putBad at hbad
    rw [hab] at hbad
    cases nx with
    | none => simp [notBelow] at hbad
    | some y =>
      simp only [notBelow, Bool.not_true, Bool.false_or, decide_eq_true_eq] at hbad
      have h' := h
      obtain ⟨c, f, hb, hc⟩ := h'
      have c4 := (cell_of hb 194).trans hc.has
      have c7 := (cell_of hb 197).trans hc.next.2.2
      simp only [Option.getD_some, Option.isSome_some] at c4 c7
      have H := hid h
      clear h hab hb hc
      go_enter Try.func9, Try.ntmps9
      go_wp2
      go_quiet (first | (go_at_call 26; refine Calls.quiet_of (hA _ ?_); exact (H.out.alloc _).drewN _))
      go_wp2
      go_ret2
      exact ⟨rfl, ((Ch.refl _ _).alloc _).drewN _⟩

theorem put_good (b : Nat) (x : W3) (ps : List W3) (nx : Option W3) (w : World) (h : RingAt w b ps nx) (hbad : putBad ps nx x = false) :
    Calls Try.prog 9 #[.pointer (some ⟨b, 0, none⟩), .agg #[.int .i64 x.s, .int .i64 x.g, .int .u64 x.t]] w fun e w' =>
      ∃ v, e = .returned (.tuple #[v, .int .i64 0]) ∧ Lst (w.heap.size ≤ ·) w' v (behindL ps x) ∧ RingAt w' b (behindP ps x) nx ∧ Ch (Only b) w w' := by
  have hlt := h.lt
  unfold putBad at hbad
  simp only [Bool.or_eq_false_iff, Bool.not_eq_eq_eq_not, Bool.not_false] at hbad
  obtain ⟨hab, hnb⟩ := hbad
  have hA : ∀ w2 : World, RingAt w2 b ps nx → Calls Try.prog 26 #[.pointer (some ⟨b, 0, none⟩), .int .u64 x.t] w2 fun e w' => e = .returned (.bool true) ∧ ∃ n, w' = w2.drewN n := by
    intro w2 h2
    have := above_any b nx ps x.t w2 h2
    rw [hab] at this
    exact this
  have h' := h
  obtain ⟨c, f, hb, hc⟩ := h'
  have c4 := (cell_of hb 194).trans hc.has
  have c7 := (cell_of hb 197).trans hc.next.2.2
  have H := hid h
  clear h hab hb hc
  cases nx with
  | none =>
    simp only [Option.isSome_none] at c4
    clear c7 hnb
    go_enter Try.func9, Try.ntmps9
    go_wp2
    go_quiet (first | (go_at_call 26; refine Calls.quiet_of (hA _ ?_); exact (H.out.alloc _).drewN _))
    go_wp2_with fail
    refine (behind_any b x ps none _ ((H.out.alloc _).drewN _)).mono ?_
    rintro e w1 ⟨v, rfl, l1, r1, g1⟩
    have HL := hid l1
    have HR := hid r1
    have HG := hid g1
    clear l1 r1 g1
    go_wp2
    go_ret2
    exact ⟨v, rfl, HL.out.mono (fun g _ hg => by simp at hg; omega), HR.out, (((Ch.refl _ _).alloc _).drewN _).trans' HG.out⟩
  | some y =>
    simp only [Option.isSome_some, Option.getD_some] at c4 c7
    simp only [notBelow] at hnb
    go_enter Try.func9, Try.ntmps9
    go_wp2
    go_quiet (first | (go_at_call 26; refine Calls.quiet_of (hA _ ?_); exact (H.out.alloc _).drewN _))
    go_wp2_with fail
    refine (behind_any b x ps (some y) _ ((H.out.alloc _).drewN _)).mono ?_
    rintro e w1 ⟨v, rfl, l1, r1, g1⟩
    have HL := hid l1
    have HR := hid r1
    have HG := hid g1
    clear l1 r1 g1
    go_wp2
    go_ret2
    exact ⟨v, rfl, HL.out.mono (fun g _ hg => by simp at hg; omega), HR.out, (((Ch.refl _ _).alloc _).drewN _).trans' HG.out⟩
end Go.Proofs.Ytfodjkdioddbjab.Rg
