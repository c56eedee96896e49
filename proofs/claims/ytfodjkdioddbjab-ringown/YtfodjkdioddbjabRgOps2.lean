/-
  What Put, Kick, Ready and Take of the program's ring answer and leave, one contract each. Condition: the ring is there.
-/
import Derived.Test.YtfodjkdioddbjabRgOps
namespace Go.Proofs.Ytfodjkdioddbjab.Rg
open Go.RowKit
attribute [local go_sem ↓] Go.wp_at_zero Go.wp_at_succ

theorem put_any (b : Nat) (x : W3) (ps : List W3) (nx : Option W3) (w : World) (h : RingAt w b ps nx) :
    Calls Try.prog 9 #[.pointer (some ⟨b, 0, none⟩), .agg #[.int .i64 x.s, .int .i64 x.g, .int .u64 x.t]] w fun e w' =>
      ∃ v, e = .returned (.tuple #[v, .int .i64 (putE ps nx x)]) ∧ Lst (w.heap.size ≤ ·) w' v (putL ps nx x) ∧ RingAt w' b (putP ps nx x) nx ∧ Ch (Only b) w w' := by
  unfold putE putL putP
  cases hb : putBad ps nx x with
  | true =>
    refine (put_bad b x ps nx w h hb).mono ?_
    rintro e w1 ⟨rfl, g1⟩
    exact ⟨_, rfl, Lst.nil _ _, h.ch g1 (fun x => x), g1.any⟩
  | false => exact put_good b x ps nx w h hb

theorem kick_any (b : Nat) (ps : List W3) (nx : Option W3) (w : World) (h : RingAt w b ps nx) :
    Calls Try.prog 19 #[.pointer (some ⟨b, 0, none⟩)] w fun e w' =>
      ∃ v, e = .returned v ∧ Lst (w.heap.size ≤ ·) w' v (kickL ps nx) ∧ RingAt w' b (kickP ps nx) none ∧ Ch (Only b) w w' := by
  have h' := h
  obtain ⟨c, f, hb, hc⟩ := h'
  have c4 := (cell_of hb 194).trans hc.has
  have H := hid h
  clear h hb hc
  cases nx with
  | none =>
    simp only [Option.isSome_none] at c4
    go_enter Try.func19, Try.ntmps19
    go_wp2
    go_ret
    exact ⟨_, rfl, Lst.nil _ _, H.out, Ch.refl _ _⟩
  | some y =>
    simp only [Option.isSome_some] at c4
    go_enter Try.func19, Try.ntmps19
    go_wp2_with fail
    refine (takeNext_any b y ps _ H.out).mono ?_
    rintro e w1 ⟨rfl, r1, g1⟩
    have HR1 := hid r1
    have HG1 := hid g1
    clear r1 g1
    go_wp2_with fail
    refine (behind_any b y ps none _ HR1.out).mono ?_
    rintro e w2 ⟨v, rfl, l2, r2, g2⟩
    have HL := hid l2
    have HR := hid r2
    have HG := hid g2
    clear l2 r2 g2
    go_wp2
    go_ret
    exact ⟨v, rfl, HL.out.mono (fun g _ hg => Nat.le_trans HG1.out.size hg), HR.out, HG1.out.trans' HG.out⟩

theorem ready_bad (b : Nat) (x : W3) (ps : List W3) (nx : Option W3) (w : World) (h : RingAt w b ps nx) (hbad : readyBad ps nx x = true) :
    Calls Try.prog 15 #[.pointer (some ⟨b, 0, none⟩), .agg #[.int .i64 x.s, .int .i64 x.g, .int .u64 x.t]] w fun e w' => e = .returned (.tuple #[.slice none 0 0, .int .i64 20]) ∧ Ch NoB w w' := by
  have hlt := h.lt
  cases hab : aboveB ps x.t with
  | false =>
    have hA : ∀ w2 : World, RingAt w2 b ps nx → Calls Try.prog 26 #[.pointer (some ⟨b, 0, none⟩), .int .u64 x.t] w2 fun e w' => e = .returned (.bool false) ∧ ∃ n, w' = w2.drewN n := by
      intro w2 h2
      have := above_any b nx ps x.t w2 h2
      rw [hab] at this
      exact this
    have H := hid h
    clear h hbad hab
    go_enter Try.func15, Try.ntmps15
    go_wp2
    go_quiet (first | (go_at_call 26; refine Calls.quiet_of (hA _ ?_); exact (H.out.alloc _).drewN _))
    go_wp2
    go_ret2
    exact ⟨rfl, ((Ch.refl _ _).alloc _).drewN _⟩
  | true =>
    have hA : ∀ w2 : World, RingAt w2 b ps nx → Calls Try.prog 26 #[.pointer (some ⟨b, 0, none⟩), .int .u64 x.t] w2 fun e w' => e = .returned (.bool true) ∧ ∃ n, w' = w2.drewN n := by
      intro w2 h2
      have := above_any b nx ps x.t w2 h2
      rw [hab] at this
      exact this
    unfold readyBad at hbad
    rw [hab] at hbad
    cases nx with
    | none => simp [notAbove] at hbad
    | some y =>
      simp only [notAbove, Bool.not_true, Bool.false_or, decide_eq_true_eq] at hbad
      have h' := h
      obtain ⟨c, f, hb, hc⟩ := h'
      have c4 := (cell_of hb 194).trans hc.has
      have c7 := (cell_of hb 197).trans hc.next.2.2
      simp only [Option.getD_some, Option.isSome_some] at c4 c7
      have H := hid h
      clear h hab hb hc
      go_enter Try.func15, Try.ntmps15
      go_wp2
      go_quiet (first | (go_at_call 26; refine Calls.quiet_of (hA _ ?_); exact (H.out.alloc _).drewN _))
      go_wp2
      go_ret2
      exact ⟨rfl, ((Ch.refl _ _).alloc _).drewN _⟩

theorem ready_good (b : Nat) (x : W3) (ps : List W3) (nx : Option W3) (w : World) (h : RingAt w b ps nx) (hbad : readyBad ps nx x = false) :
    Calls Try.prog 15 #[.pointer (some ⟨b, 0, none⟩), .agg #[.int .i64 x.s, .int .i64 x.g, .int .u64 x.t]] w fun e w' =>
      ∃ v, e = .returned (.tuple #[v, .int .i64 0]) ∧ Lst (w.heap.size ≤ ·) w' v (kickL ps nx) ∧ RingAt w' b (kickP ps nx) (some x) ∧ Ch (Only b) w w' := by
  have hlt := h.lt
  unfold readyBad at hbad
  simp only [Bool.or_eq_false_iff, Bool.not_eq_eq_eq_not, Bool.not_false] at hbad
  obtain ⟨hab, hnb⟩ := hbad
  have hA : ∀ w2 : World, RingAt w2 b ps nx → Calls Try.prog 26 #[.pointer (some ⟨b, 0, none⟩), .int .u64 x.t] w2 fun e w' => e = .returned (.bool true) ∧ ∃ n, w' = w2.drewN n := by
    intro w2 h2
    have := above_any b nx ps x.t w2 h2
    rw [hab] at this
    exact this
  have h' := h
  obtain ⟨c, f, hb, hc⟩ := h'
  have c4 := (cell_of hb 194).trans hc.has
  have c7 := (cell_of hb 197).trans hc.next.2.2
  have H := hid h
  clear h hab hb hc
  cases nx with
  | none =>
    simp only [Option.isSome_none] at c4
    clear c7 hnb
    go_enter Try.func15, Try.ntmps15
    go_wp2
    go_quiet (first | (go_at_call 26; refine Calls.quiet_of (hA _ ?_); exact (H.out.alloc _).drewN _))
    go_wp2_with fail
    refine (kick_any b ps none _ ((H.out.alloc _).drewN _)).mono ?_
    rintro e w1 ⟨v, rfl, l1, r1, g1⟩
    obtain ⟨x0, x1, x2, x3⟩ := ((Box.new w x).ch ((Ch.refl NoB _).drewN _) (fun x => x)).ch g1 (fun e => by have : w.heap.size = b := e; omega)
    have HL := hid l1
    have HR := hid r1
    have HG := hid g1
    clear l1 r1 g1
    go_wp2_with fail
    refine (setNext_any b none _ x _ HR.out).mono ?_
    rintro e w2 ⟨rfl, r2, g2⟩
    have HR2 := hid r2
    have HG2 := hid g2
    clear r2 g2
    go_wp2
    go_ret2
    exact ⟨v, rfl, (HL.out.ch HG2.out (fun g _ hg e => by have : g = b := e; simp at hg; omega)).mono (fun g _ hg => by simp at hg; omega), HR2.out, ((((Ch.refl _ _).alloc _).drewN _).trans' HG.out).trans' HG2.out⟩
  | some y =>
    simp only [Option.isSome_some, Option.getD_some] at c4 c7
    simp only [notAbove] at hnb
    go_enter Try.func15, Try.ntmps15
    go_wp2
    go_quiet (first | (go_at_call 26; refine Calls.quiet_of (hA _ ?_); exact (H.out.alloc _).drewN _))
    go_wp2_with fail
    refine (kick_any b ps (some y) _ ((H.out.alloc _).drewN _)).mono ?_
    rintro e w1 ⟨v, rfl, l1, r1, g1⟩
    obtain ⟨x0, x1, x2, x3⟩ := ((Box.new w x).ch ((Ch.refl NoB _).drewN _) (fun x => x)).ch g1 (fun e => by have : w.heap.size = b := e; omega)
    have HL := hid l1
    have HR := hid r1
    have HG := hid g1
    clear l1 r1 g1
    go_wp2_with fail
    refine (setNext_any b none _ x _ HR.out).mono ?_
    rintro e w2 ⟨rfl, r2, g2⟩
    have HR2 := hid r2
    have HG2 := hid g2
    clear r2 g2
    go_wp2
    go_ret2
    exact ⟨v, rfl, (HL.out.ch HG2.out (fun g _ hg e => by have : g = b := e; simp at hg; omega)).mono (fun g _ hg => by simp at hg; omega), HR2.out, ((((Ch.refl _ _).alloc _).drewN _).trans' HG.out).trans' HG2.out⟩

theorem ready_any (b : Nat) (x : W3) (ps : List W3) (nx : Option W3) (w : World) (h : RingAt w b ps nx) :
    Calls Try.prog 15 #[.pointer (some ⟨b, 0, none⟩), .agg #[.int .i64 x.s, .int .i64 x.g, .int .u64 x.t]] w fun e w' =>
      ∃ v, e = .returned (.tuple #[v, .int .i64 (readyE ps nx x)]) ∧ Lst (w.heap.size ≤ ·) w' v (readyL ps nx x) ∧ RingAt w' b (readyP ps nx x) (readyN ps nx x) ∧ Ch (Only b) w w' := by
  unfold readyE readyL readyP readyN
  cases hb : readyBad ps nx x with
  | true =>
    refine (ready_bad b x ps nx w h hb).mono ?_
    rintro e w1 ⟨rfl, g1⟩
    exact ⟨_, rfl, Lst.nil _ _, h.ch g1 (fun x => x), g1.any⟩
  | false => exact ready_good b x ps nx w h hb

def tkX (ps : List W3) (nx : Option W3) : W3 := match nx with
  | some y => y
  | none => ps.headD W3.zero
def tkE (ps : List W3) (nx : Option W3) : Int := match nx, ps with
  | some _, _ => 0
  | none, _ :: _ => 0
  | none, [] => 21
def tkP (ps : List W3) (nx : Option W3) : List W3 := match nx with
  | some _ => ps
  | none => ps.tail

theorem frozen_new {S : Nat → Prop} {w w1 : World} {c : Array Value} {T : TypeId} (g : Ch S (w.alloc (.cells c T)) w1) (hn : ¬ S w.heap.size) (o : Nat) : w1.frozen? ⟨w.heap.size, o, none⟩ = false := by
  have e := g.block w.heap.size (by simp) hn
  rw [(MapKept.heap_alloc w _).1] at e
  exact frozen_of e o

theorem take_any (b : Nat) (ps : List W3) (nx : Option W3) (w : World) (h : RingAt w b ps nx) :
    Calls Try.prog 16 #[.pointer (some ⟨b, 0, none⟩)] w fun e w' =>
      e = .returned (.tuple #[.agg #[.int .i64 (tkX ps nx).s, .int .i64 (tkX ps nx).g, .int .u64 (tkX ps nx).t], .bool nx.isSome, .int .i64 (tkE ps nx)]) ∧ RingAt w' b (tkP ps nx) none ∧ Ch (Only b) w w' := by
  have hlt := h.lt
  have hl := h.len
  have h' := h
  obtain ⟨c, f, hb, hc⟩ := h'
  have c3 := (cell_of hb 193).trans hc.count
  have c4 := (cell_of hb 194).trans hc.has
  have H := hid h
  clear h hb hc
  cases nx with
  | some y =>
    simp only [Option.isSome_some] at c4
    clear c3
    go_enter Try.func16, Try.ntmps16
    go_wp2_with fail
    refine (takeNext_any b y ps _ (H.out.alloc _)).mono ?_
    rintro e w1 ⟨rfl, r1, g1⟩
    have HX : Box w1 w.heap.size W3.zero := (Box.new w W3.zero).ch g1 (fun e => by have : w.heap.size = b := e; omega)
    obtain ⟨x0, x1, x2, x3⟩ := HX
    have hf := frozen_new (w := w) g1 (fun e => by have : w.heap.size = b := e; omega)
    have f0 := hf 0
    have f1 := hf 1
    have f2 := hf 2
    have HR := hid r1
    have HG := hid g1
    clear r1 g1 hf
    go_wp2
    refine bodyPost_ret (v := .tuple #[.agg #[.int .i64 y.s, .int .i64 y.g, .int .u64 y.t], .bool true, .int .i64 0]) (by simp [results, Try.results16, go_sem, x0, x1, x2]) rfl ⟨rfl, ?_, ?_⟩
    · exact ((HR.out.set (by simp; omega) _).set (by simp; omega) _).set (by simp; omega) _
    · exact (((((Ch.refl _ _).alloc _).trans' HG.out).fresh (Nat.le_refl _) _ _).fresh (Nat.le_refl _) _ _).fresh (Nat.le_refl _) _ _
  | none =>
    simp only [Option.isSome_none] at c4
    cases ps with
    | nil =>
      go_enter Try.func16, Try.ntmps16
      go_wp2
      refine bodyPost_ret (v := .tuple #[.agg #[.int .i64 0, .int .i64 0, .int .u64 0], .bool false, .int .i64 21]) (by simp [results, Try.results16, go_sem]) rfl ⟨rfl, H.out.alloc _, (Ch.refl _ _).alloc _⟩
    | cons x r =>
      have c3' : w.cell? ⟨b, 193, none⟩ = some (.int .i64 ((r.length : Int) + 1)) := by rw [c3]; simp
      clear c3
      go_enter Try.func16, Try.ntmps16
      go_wp2_with fail
      refine (takeOldest_any b x r none _ (H.out.alloc _)).mono ?_
      rintro e w1 ⟨rfl, r1, g1⟩
      have HX : Box w1 w.heap.size W3.zero := (Box.new w W3.zero).ch g1 (fun e => by have : w.heap.size = b := e; omega)
      obtain ⟨x0, x1, x2, x3⟩ := HX
      have hf := frozen_new (w := w) g1 (fun e => by have : w.heap.size = b := e; omega)
      have f0 := hf 0
      have f1 := hf 1
      have f2 := hf 2
      have HR := hid r1
      have HG := hid g1
      clear r1 g1 hf
      go_wp2
      refine bodyPost_ret (v := .tuple #[.agg #[.int .i64 x.s, .int .i64 x.g, .int .u64 x.t], .bool false, .int .i64 0]) (by simp [results, Try.results16, go_sem, x0, x1, x2]) rfl ⟨rfl, ?_, ?_⟩
      · exact ((HR.out.set (by simp; omega) _).set (by simp; omega) _).set (by simp; omega) _
      · exact (((((Ch.refl _ _).alloc _).trans' HG.out).fresh (Nat.le_refl _) _ _).fresh (Nat.le_refl _) _ _).fresh (Nat.le_refl _) _ _
end Go.Proofs.Ytfodjkdioddbjab.Rg
