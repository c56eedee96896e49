/-
  What Load of the program answers and leaves, of any state: a new ring just if the state may be. Condition: the state's list is there.
-/
import Derived.Test.YtfodjkdioddbjabRgSteal
namespace Go.Proofs.Ytfodjkdioddbjab.Rg
open Go.RowKit
attribute [local go_sem ↓] Go.wp_at_zero Go.wp_at_succ

/-- is the first turn of a list above one? -/
def headUp (x : W3) : List W3 → Bool
  | [] => true
  | y :: _ => decide (x.t < y.t)
/-- do the turns rise? -/
def upB : List W3 → Bool
  | [] => true
  | x :: r => headUp x r && upB r
theorem upB_concat (l : List W3) (x : W3) : upB (l ++ [x]) = (upB l && aboveB l x.t) := by
  induction l with
  | nil => rfl
  | cons a r ih =>
    cases r with
    | nil => simp [upB, headUp, aboveB]
    | cons b r =>
      have e : aboveB (a :: b :: r) x.t = aboveB (b :: r) x.t := by simp [aboveB]
      rw [e]
      show (decide (a.t < b.t) && upB ((b :: r) ++ [x])) = ((decide (a.t < b.t) && upB (b :: r)) && _)
      rw [ih, Bool.and_assoc]
theorem upB_take {l : List W3} (h : upB l = true) (k : Nat) : upB (l.take k) = true := by
  induction k generalizing l with
  | zero => rfl
  | succ k ih =>
    cases l with
    | nil => rfl
    | cons a r =>
      simp only [upB, Bool.and_eq_true] at h
      have := ih h.2
      cases r with
      | nil => simp [upB, headUp]
      | cons b r =>
        cases k with
        | zero => simp [upB, headUp]
        | succ k =>
          simp only [List.take_succ_cons] at this ⊢
          rw [upB, this]
          simpa [headUp] using h.1
theorem upB_left {l m : List W3} (h : upB (l ++ m) = true) : upB l = true := by
  have := upB_take h l.length
  simpa using this

def nxo (hs : Bool) (y : W3) : Option W3 := if hs then some y else none
/-- what Load must answer -/
def ldE (xs : List W3) (nx : Option W3) : Int := if 64 < xs.length then 2 else if upB (xs ++ nx.toList) then 0 else 20

/-- New, its block a letter -/
theorem new_ex (w : World) : Calls Try.prog 18 #[] w fun e w' => ∃ b, e = .returned (.pointer (some ⟨b, 0, none⟩)) ∧ w.heap.size ≤ b ∧ RingAt w' b [] none ∧ Ch NoB w w' := by
  refine (new_any w).mono ?_
  rintro e w1 ⟨rfl, r1, g1, _⟩
  exact ⟨_, rfl, Nat.le_refl _, r1, g1⟩

/-- what Load says, E its error -/
def LoadSays (E : Int) (xs : List W3) (nx : Option W3) (w : World) (e : Ending) (w' : World) : Prop :=
  ∃ p, e = .returned (.tuple #[.pointer p, .int .i64 E]) ∧ Ch NoB w w' ∧ (E = 0 → ∃ b, p = some ⟨b, 0, none⟩ ∧ w.heap.size ≤ b ∧ RingAt w' b xs nx) ∧ (E ≠ 0 → p = none)
theorem LoadSays.bad {E : Int} {xs : List W3} {nx : Option W3} {w w' : World} (h : E ≠ 0) (g : Ch NoB w w') : LoadSays E xs nx w (.returned (.tuple #[.pointer none, .int .i64 E])) w' :=
  ⟨none, rfl, g, fun x => absurd x h, fun _ => rfl⟩
theorem LoadSays.good {xs : List W3} {nx : Option W3} {w w' : World} {b : Nat} (hb : w.heap.size ≤ b) (g : Ch NoB w w') (r : RingAt w' b xs nx) : LoadSays 0 xs nx w (.returned (.tuple #[.pointer (some ⟨b, 0, none⟩), .int .i64 0])) w' :=
  ⟨_, rfl, g, fun _ => ⟨b, rfl, hb, r⟩, fun h => absurd rfl h⟩

theorem load_any (P : Nat → Prop) (sv : Value) (xs : List W3) (hs : Bool) (y : W3) (w : World) (hx : Lst P w sv xs) (hmax : xs.length ≤ 9223372036854775807) :
    Calls Try.prog 8 #[.agg #[sv, .bool hs, .int .i64 y.s, .int .i64 y.g, .int .u64 y.t]] w fun e w' => LoadSays (ldE xs (nxo hs y)) xs (nxo hs y) w e w' := by
  obtain ⟨ao, cap, rfl⟩ := hx.form
  obtain ⟨n, hn⟩ : ∃ n, n = xs.length := ⟨_, rfl⟩
  rw [← hn] at hmax ⊢
  by_cases hbig : 64 < n
  · have e : ldE xs (nxo hs y) = 2 := by unfold ldE; rw [if_pos (by omega)]
    rw [e]
    clear e hx hn
    go_enter Try.func8, Try.ntmps8
    go_wp2
    go_ret2
    exact LoadSays.bad (by omega) ((Ch.refl _ _).alloc _)
  · have e : ldE xs (nxo hs y) = if upB (xs ++ (nxo hs y).toList) then 0 else 20 := by unfold ldE; rw [if_neg (by omega)]
    rw [e]
    obtain ⟨U, hU⟩ : ∃ U, U = upB (xs ++ (nxo hs y).toList) := ⟨_, rfl⟩
    rw [← hU]
    have HU := hid hU
    have HX := hid hx
    have HN := hid hn
    clear e hx hn hU
    go_enter Try.func8, Try.ntmps8
    go_wp2_with fail
    refine (new_ex _).mono ?_
    rintro e w1 ⟨b, rfl, hbw, r1, g1⟩
    simp only [World.size_alloc] at hbw
    have F := (Five.new w (.slice ao n cap) (.bool hs) (.int .i64 y.s) (.int .i64 y.g) (.int .u64 y.t)).ch g1 (noB _)
    obtain ⟨f0, f1, f2, f3, f4⟩ := F.cells
    have HF := hid F
    have HR := hid r1
    have HG := hid (((Ch.refl NoB w).alloc _).trans' g1)
    clear F g1 r1
    go_wp2_with fail
    go_loopg [6, 15] n (fun k _ i wr => ∃ j, j + k = n ∧ i = .int .i64 (j : Int) ∧ RingAt wr b (xs.take j) none ∧ Hid (upB (xs.take j) = true) ∧ Five wr w.heap.size (.slice ao n cap) (.bool hs) (.int .i64 y.s) (.int .i64 y.g) (.int .u64 y.t) ∧ Ch NoB w wr)
    case atStart => exact ⟨0, by omega, rfl, HR.out, rfl, HF.out, HG.out⟩
    case round =>
      obtain ⟨j, hjk, rfl, hr, hup, hF, hg⟩ := hrel
      by_cases hj : j < n
      · obtain ⟨z, hz⟩ : ∃ z, xs[j]? = some z := ⟨_, List.getElem?_eq_getElem (by rw [← HN.out]; exact hj)⟩
        obtain ⟨ao', cap', he, _, hcase⟩ := HX.out
        injection he with he1 he2 he3
        subst he1 he3
        rcases hcase with h0 | ⟨g, o, rfl, hP, hlt, hcell⟩
        · rw [h0] at hz
          simp at hz
        · obtain ⟨e0, e1, e2⟩ := hcell j z hz
          have k0 := (hg.cell hlt (noB _)).trans e0
          have k1 := (hg.cell hlt (noB _)).trans e1
          have k2 := (hg.cell hlt (noB _)).trans e2
          have htk : xs.take (j + 1) = xs.take j ++ [z] := by rw [List.take_add_one, hz]; rfl
          have hlen : (xs.take j).length < 64 := by rw [List.length_take]; omega
          have HR' := hid hr
          have HF' := hid hF
          have HG' := hid hg
          have HTK := hid htk
          have HLEN := hid hlen
          clear hr hF hg htk hlen hcell e0 e1 e2 hz he2 f0 f1 f2 f3 f4
          cases hab : aboveB (xs.take j) z.t with
          | false =>
            have hbad : U = false := by
              rw [HU.out, ← Bool.not_eq_true]
              intro hc
              have := upB_take (upB_left hc) (j + 1)
              rw [HTK.out, upB_concat, hab] at this
              simp at this
            subst hbad
            have hA : ∀ w2 : World, RingAt w2 b (xs.take j) none → Calls Try.prog 26 #[.pointer (some ⟨b, 0, none⟩), .int .u64 z.t] w2 fun e w' => e = .returned (.bool false) ∧ ∃ n, w' = w2.drewN n := by
              intro w2 h2
              have := above_any b none _ z.t w2 h2
              rw [hab] at this
              exact this
            clear hab
            go_wp2_with fail
            refine (hA _ (HR'.out.alloc _)).mono ?_
            rintro e w3 ⟨rfl, m, rfl⟩
            go_wp2
            go_ret2
            exact LoadSays.bad (by simp) ((HG'.out.alloc _).drewN _)
          | true =>
            have hA : ∀ w2 : World, RingAt w2 b (xs.take j) none → Calls Try.prog 26 #[.pointer (some ⟨b, 0, none⟩), .int .u64 z.t] w2 fun e w' => e = .returned (.bool true) ∧ ∃ n, w' = w2.drewN n := by
              intro w2 h2
              have := above_any b none _ z.t w2 h2
              rw [hab] at this
              exact this
            have HUP : Hid (upB (xs.take (j + 1)) = true) := by
              show _ = _
              rw [HTK.out, upB_concat, hup.out, hab]
              rfl
            clear hab
            go_wp2_with fail
            refine (hA _ (HR'.out.alloc _)).mono ?_
            rintro e w3 ⟨rfl, m, rfl⟩
            go_wp2_with fail
            refine (add_any b z _ none _ ((HR'.out.alloc _).drewN _) HLEN.out).mono ?_
            rintro e w4 ⟨rfl, r4, g4⟩
            have HR4 := hid r4
            have HF4 := hid ((HF'.out.ch (((Ch.refl NoB _).alloc _).drewN _) (noB _)).ch g4 (fun e => by have : w.heap.size = b := e; omega))
            have HG4 := hid (((HG'.out.alloc _).drewN _).trans g4 (fun q e => .inr (by have : q = b := e; omega)))
            clear r4 g4
            go_wp2
            go_roundg (gk - 1)
            case measure => omega
            case rel => exact ⟨j + 1, by omega, by simp, by rw [HTK.out]; exact HR4.out, HUP, HF4.out, HG4.out⟩
      · have e : j = n := by omega
        subst e
        have hxs : xs.take j = xs := List.take_of_length_le (by rw [← HN.out]; exact Nat.le_refl _)
        rw [hxs] at hr hup
        clear f0 f1 f2 f3 f4
        obtain ⟨f0, f1, f2, f3, f4⟩ := hF.cells
        have HR' := hid hr
        have HF' := hid hF
        have HG' := hid hg
        clear hr hF hg hxs
        cases hs with
        | false =>
          have hgood : U = true := by rw [HU.out]; simpa [nxo] using hup.out
          subst hgood
          go_wp2
          go_ret2
          exact LoadSays.good (by omega) HG'.out HR'.out
        | true =>
          have hgood : U = aboveB xs y.t := by
            rw [HU.out]
            show upB (xs ++ [y]) = _
            rw [upB_concat, hup.out]
            rfl
          cases hab : aboveB xs y.t with
          | false =>
            rw [hab] at hgood
            subst hgood
            have hA : ∀ w2 : World, RingAt w2 b xs none → Calls Try.prog 26 #[.pointer (some ⟨b, 0, none⟩), .int .u64 y.t] w2 fun e w' => e = .returned (.bool false) ∧ ∃ n, w' = w2.drewN n := by
              intro w2 h2
              have := above_any b none _ y.t w2 h2
              rw [hab] at this
              exact this
            clear hab
            go_wp2_with fail
            refine (hA _ HR'.out).mono ?_
            rintro e w3 ⟨rfl, m, rfl⟩
            go_wp2
            go_ret2
            exact LoadSays.bad (by simp) (HG'.out.drewN _)
          | true =>
            rw [hab] at hgood
            subst hgood
            have hA : ∀ w2 : World, RingAt w2 b xs none → Calls Try.prog 26 #[.pointer (some ⟨b, 0, none⟩), .int .u64 y.t] w2 fun e w' => e = .returned (.bool true) ∧ ∃ n, w' = w2.drewN n := by
              intro w2 h2
              have := above_any b none _ y.t w2 h2
              rw [hab] at this
              exact this
            clear hab
            go_wp2_with fail
            refine (hA _ HR'.out).mono ?_
            rintro e w3 ⟨rfl, m, rfl⟩
            go_wp2_with fail
            refine (setNext_any b none xs y _ (HR'.out.drewN _)).mono ?_
            rintro e w4 ⟨rfl, r4, g4⟩
            have HR4 := hid r4
            have HG4 := hid ((HG'.out.drewN _).trans g4 (fun q e => .inr (by have : q = b := e; omega)))
            clear r4 g4
            go_wp2
            go_ret2
            exact LoadSays.good (by omega) HG4.out HR4.out
end Go.Proofs.Ytfodjkdioddbjab.Rg
