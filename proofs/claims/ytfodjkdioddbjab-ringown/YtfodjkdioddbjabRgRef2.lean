/-
  What rises and Load of the document's answer tell, of any state. Condition: the state's list is there.
-/
import Derived.Test.YtfodjkdioddbjabRgRef1
namespace Go.Proofs.Ytfodjkdioddbjab.Rg
open Go.RowKit
attribute [local go_sem ↓] Go.wp_at_zero Go.wp_at_succ

theorem aboveB_concat (l : List W3) (z : W3) (t : Int) : aboveB (l ++ [z]) t = decide (z.t < t) := by unfold aboveB; rw [List.getLast?_concat]

theorem rises_any (P : Nat → Prop) (sv : Value) (xs : List W3) (hs : Bool) (y : W3) (w : World) (hx : Lst P w sv xs) (hmax : xs.length ≤ 64) :
    Calls Try.prog 25 #[.agg #[sv, .bool hs, .int .i64 y.s, .int .i64 y.g, .int .u64 y.t]] w fun e w' => e = .returned (.bool (upB (xs ++ (nxo hs y).toList))) ∧ Ch NoB w w' := by
  obtain ⟨ao, cap, rfl⟩ := hx.form
  obtain ⟨n, hn⟩ : ∃ n, n = xs.length := ⟨_, rfl⟩
  obtain ⟨U, hU⟩ : ∃ U, U = upB (xs ++ (nxo hs y).toList) := ⟨_, rfl⟩
  rw [← hn] at hmax hx ⊢
  rw [← hU]
  have HX := hid (hx.alloc (.cells #[.slice ao n cap, .bool hs, .int .i64 y.s, .int .i64 y.g, .int .u64 y.t] 29))
  obtain ⟨f0, f1, f2, f3, f4⟩ := (Five.new w (.slice ao n cap) (.bool hs) (.int .i64 y.s) (.int .i64 y.g) (.int .u64 y.t)).cells
  have HN := hid hn
  have HU := hid hU
  clear hx hn hU
  go_enter Try.func25, Try.ntmps25
  go_wp2_with fail
  obtain ⟨w1, hw1⟩ : ∃ w1, w1 = w.alloc (.cells #[.slice ao n cap, .bool hs, .int .i64 y.s, .int .i64 y.g, .int .u64 y.t] 29) := ⟨_, rfl⟩
  have HG : Hid (Ch NoB w w1) := by rw [hw1]; exact (Ch.refl _ _).alloc _
  rw [← hw1] at HX f0 f1 f2 f3 f4 ⊢
  clear hw1
  go_loopg [3] n (fun k i wr => ∃ j, j + k = n + 1 ∧ 1 ≤ j ∧ i = .int .i64 (j : Int) ∧ Hid (upB (xs.take j) = true) ∧ ∃ m, wr = w1.drewN m)
  case atStart =>
    refine ⟨1, by omega, by omega, rfl, ?_, 0, rfl⟩
    cases xs with
    | nil => rfl
    | cons a r => simp [Hid, upB, headUp]
  case round =>
    obtain ⟨j, hjk, h1, rfl, hup, m, rfl⟩ := hrel
    by_cases hj : j < n
    · obtain ⟨q, hq⟩ : ∃ q, q = j - 1 := ⟨_, rfl⟩
      obtain ⟨z, hz⟩ : ∃ z, xs[j]? = some z := ⟨_, List.getElem?_eq_getElem (by rw [← HN.out]; exact hj)⟩
      obtain ⟨p, hp⟩ : ∃ p, xs[q]? = some p := ⟨_, List.getElem?_eq_getElem (by rw [← HN.out]; omega)⟩
      obtain ⟨g, o, rfl, _, _, a0, a1, a2⟩ := HX.out.get hz
      obtain ⟨g', o', he, _, _, b0, b1, b2⟩ := HX.out.get hp
      injection he with he
      injection he with he1 he2
      subst he1 he2
      have htk : xs.take (j + 1) = xs.take j ++ [z] := by rw [List.take_add_one, hz]; rfl
      have htq : xs.take j = xs.take q ++ [p] := by
        have e : j = q + 1 := by omega
        rw [e, List.take_add_one, hp]
        rfl
      have hstep : upB (xs.take (j + 1)) = decide (p.t < z.t) := by
        rw [htk, upB_concat, hup.out, htq, aboveB_concat]
        rfl
      have j0 : (0 : Int) ≤ (j : Int) := by omega
      have j1 : (j : Int) < (n : Int) := by omega
      have q0 : (0 : Int) ≤ (q : Int) := by omega
      have q1 : (q : Int) < (n : Int) := by omega
      have r1 : (j : Int) - 1 = (q : Int) := by omega
      have r2 : IntKind.i64.wrap (q : Int) = (q : Int) := by rw [IntKind.wrap_i64]; omega
      have HS := hid hstep
      clear hz hp htk htq hstep hq
      by_cases hle : z.t ≤ p.t
      · have hbad : U = false := by
          rw [HU.out, ← Bool.not_eq_true]
          intro hc
          have := upB_take (upB_left hc) (j + 1)
          rw [HS.out] at this
          simp at this
          omega
        subst hbad
        go_wp2
        go_quiet (fail)
        go_wp2
        go_ret
        exact ⟨rfl, (HG.out.drewN _).drewN _⟩
      · have hlt : ¬ (z.t ≤ p.t) := hle
        have hdec : decide (z.t ≤ p.t) = false := by simpa using hle
        go_wp2
        go_quiet (fail)
        go_wp2
        go_roundg (gk - 1)
        case measure => omega
        case rel => exact ⟨j + 1, by omega, by omega, by simp, by show _ = _; rw [HS.out]; simp; omega, _, rfl⟩
    · have hxs : xs.take j = xs := List.take_of_length_le (by rw [← HN.out]; omega)
      rw [hxs] at hup
      cases hs with
      | false =>
        have hgood : U = true := by rw [HU.out]; simpa [nxo] using hup.out
        subst hgood
        go_wp2
        go_quiet (fail)
        go_wp2
        go_ret
        exact ⟨rfl, (HG.out.drewN _).drewN _⟩
      | true =>
        have hgood : U = aboveB xs y.t := by
          rw [HU.out]
          show upB (xs ++ [y]) = _
          rw [upB_concat, hup.out]
          rfl
        rcases List.eq_nil_or_concat xs with rfl | ⟨qs, p, rfl⟩
        · have hn0 : n = 0 := HN.out
          subst hn0
          have hU1 : U = true := hgood
          clear hgood hxs
          subst hU1
          go_wp2
          go_quiet (fail)
          go_wp2
          go_ret
          exact ⟨rfl, (HG.out.drewN _).drewN _⟩
        · rw [List.concat_eq_append] at hgood HN HX
          rw [aboveB_concat] at hgood
          have hnq : n = qs.length + 1 := by rw [HN.out]; simp
          obtain ⟨q, hq⟩ : ∃ q, q = qs.length := ⟨_, rfl⟩
          have hp : (qs ++ [p])[q]? = some p := by rw [hq]; simp
          obtain ⟨g, o, rfl, _, _, a0, a1, a2⟩ := HX.out.get hp
          have r1 : (n : Int) - 1 = (q : Int) := by omega
          have r2 : IntKind.i64.wrap (q : Int) = (q : Int) := by rw [IntKind.wrap_i64]; omega
          have q0 : (0 : Int) ≤ (q : Int) := by omega
          have q1 : (q : Int) < (n : Int) := by omega
          have hz2 : ((n : Int) == 0) = false := by simp; omega
          have HNQ := hid hnq
          have HQ := hid hq
          have HGD := hid hgood
          clear hnq hq hgood hp hxs
          go_wp2
          go_quiet (fail)
          go_wp2
          go_ret
          exact ⟨by rw [HGD.out]; rfl, (HG.out.drewN _).drewN _⟩

/-- what Load of the document says, E its error -/
def RLoadSays (E : Int) (xs : List W3) (hs : Bool) (y : W3) (w : World) (e : Ending) (w' : World) : Prop :=
  Ch NoB w w' ∧ ((E ≠ 0 ∧ e = .returned (.tuple #[.agg #[.slice none 0 0, .bool false, .int .i64 0, .int .i64 0, .int .u64 0], .int .i64 E])) ∨
    (E = 0 ∧ ∃ v, e = .returned (.tuple #[.agg #[v, .bool hs, .int .i64 ((nxo hs y).getD W3.zero).s, .int .i64 ((nxo hs y).getD W3.zero).g, .int .u64 ((nxo hs y).getD W3.zero).t], .int .i64 0]) ∧ Lst (w.heap.size ≤ ·) w' v xs))

theorem rload_any (P : Nat → Prop) (sv : Value) (xs : List W3) (hs : Bool) (y : W3) (w : World) (hx : Lst P w sv xs) (hmax : xs.length ≤ 9223372036854775807) :
    Calls Try.prog 6 #[.agg #[sv, .bool hs, .int .i64 y.s, .int .i64 y.g, .int .u64 y.t]] w fun e w' => RLoadSays (ldE xs (nxo hs y)) xs hs y w e w' := by
  obtain ⟨ao, cap, rfl⟩ := hx.form
  obtain ⟨n, hn⟩ : ∃ n, n = xs.length := ⟨_, rfl⟩
  rw [← hn] at hmax hx ⊢
  by_cases hbig : 64 < n
  · have e : ldE xs (nxo hs y) = 2 := by unfold ldE; rw [if_pos (by omega)]
    rw [e]
    clear e hx hn
    go_enter Try.func6, Try.ntmps6
    go_wp2
    refine bodyPost_ret (v := .tuple #[.agg #[.slice none 0 0, .bool false, .int .i64 0, .int .i64 0, .int .u64 0], .int .i64 2]) (by simp [results, Try.results6, go_sem]) rfl ?_
    exact ⟨((Ch.refl _ _).alloc _).alloc _, .inl ⟨by omega, rfl⟩⟩
  · have e : ldE xs (nxo hs y) = if upB (xs ++ (nxo hs y).toList) then 0 else 20 := by unfold ldE; rw [if_neg (by omega)]
    rw [e]
    clear e
    have hA := fun w2 (h2 : Lst P w2 (.slice ao n cap) xs) => rises_any P _ xs hs y w2 h2 (by omega)
    obtain ⟨U, hU⟩ : ∃ U, U = upB (xs ++ (nxo hs y).toList) := ⟨_, rfl⟩
    rw [← hU] at hA ⊢
    have HX := hid hx
    have HN := hid hn
    have HA := hid hA
    clear hx hn hU hA
    cases U with
    | false =>
      go_enter Try.func6, Try.ntmps6
      go_wp2_with fail
      refine (HA.out _ ((HX.out.alloc _).alloc _)).mono ?_
      rintro e w1 ⟨rfl, g1⟩
      have F := (Five.new (w.alloc (.cells #[.slice ao n cap, .bool hs, .int .i64 y.s, .int .i64 y.g, .int .u64 y.t] 29)) (.slice none 0 0) (.bool false) (.int .i64 0) (.int .i64 0) (.int .u64 0)).ch g1 (noB _)
      simp only [World.size_alloc] at F
      obtain ⟨f0, f1, f2, f3, f4⟩ := F.cells
      have z0 := F.frozen 0
      have z1 := F.frozen 1
      have z2 := F.frozen 2
      have z3 := F.frozen 3
      have z4 := F.frozen 4
      have HG := hid ((((Ch.refl NoB w).alloc _).alloc _).trans' g1)
      have C5 := (((((Ch.refl (Only (w.heap.size + 1)) w1).own 0 (.slice none 0 0)).own 1 (.bool false)).own 2 (.int .i64 0)).own 3 (.int .i64 0)).own 4 (.int .u64 0)
      have HC5 := hid C5
      clear g1 F C5
      go_wp2
      refine bodyPost_ret (v := .tuple #[.agg #[.slice none 0 0, .bool false, .int .i64 0, .int .i64 0, .int .u64 0], .int .i64 20]) (by simp [results, Try.results6, go_sem, f0, f1, f2, f3, f4]) rfl ?_
      exact ⟨HG.out.trans HC5.out (fun q e => .inr (by have : q = w.heap.size + 1 := e; omega)), .inl ⟨by simp, rfl⟩⟩
    | true =>
      go_enter Try.func6, Try.ntmps6
      go_wp2_with fail
      refine (HA.out _ ((HX.out.alloc _).alloc _)).mono ?_
      rintro e w1 ⟨rfl, g1⟩
      have F := ((Five.new w (.slice ao n cap) (.bool hs) (.int .i64 y.s) (.int .i64 y.g) (.int .u64 y.t)).ch ((Ch.refl NoB _).alloc (.cells #[.slice none 0 0, .bool false, .int .i64 0, .int .i64 0, .int .u64 0] 29)) (noB _)).ch g1 (noB _)
      have F2 := (Five.new (w.alloc (.cells #[.slice ao n cap, .bool hs, .int .i64 y.s, .int .i64 y.g, .int .u64 y.t] 29)) (.slice none 0 0) (.bool false) (.int .i64 0) (.int .i64 0) (.int .u64 0)).ch g1 (noB _)
      simp only [World.size_alloc] at F2
      have HX1 := hid (((HX.out.alloc _).alloc _).ch g1 (fun _ _ _ => noB _))
      obtain ⟨f0, f1, f2, f3, f4⟩ := F.cells
      have hlt1 := F.lt
      have hlt2 := F2.lt
      have HG := hid ((((Ch.refl NoB w).alloc _).alloc _).trans' g1)
      have HF := hid F
      have HF2 := hid F2
      have F3 := Five.new w1 (.slice none 0 0) (.bool hs) (.int .i64 0) (.int .i64 0) (.int .u64 0)
      have HF3 := hid F3
      clear g1 F F2 F3
      cases hs with
      | false =>
        go_wp2_with (first | (at_builtin; refine wpList_append_lst rfl (.tmp 20) (.tmp 22) rfl (w1.heap.size + 1) _ 0 [] rfl (World.ownsRow_nil _ _ _ _) P _ xs rfl (HX1.out.alloc _) n (by rw [HN.out]; simp) (by omega) (by simp) ?_; intro ao2 cap2 w2 hown2 g2; obtain ⟨a0, a1, a2, a3, a4⟩ := ((HF.out.alloc _).ch g2 (by omega)).cells; have B := (HF2.out.alloc _).ch g2 (by omega); obtain ⟨b0, b1, b2, b3, b4⟩ := B.cells; obtain ⟨y0, y1, y2, y3, y4⟩ := B.fz; have C := HF3.out.ch g2 (by omega); obtain ⟨c0, c1, c2, c3, c4⟩ := C.cells; obtain ⟨z0, z1, z2, z3, z4⟩ := C.fz; have HO2 := hid hown2; have HG2 := hid g2; clear B C hown2 g2))
        refine bodyPost_ret (v := .tuple #[.agg #[.slice ao2 n cap2, .bool false, .int .i64 0, .int .i64 0, .int .u64 0], .int .i64 0]) (by simp [results, Try.results6, go_sem, b0, b1, b2, b3, b4]) rfl ?_
        refine ⟨?_, .inr ⟨rfl, _, rfl, ?_⟩⟩
        · repeat refine Ch.fresh ?_ (by omega) _ _
          exact (HG.out.alloc _).trans HG2.out (fun _ h => .inr (by omega))
        · refine ((Lst.of_own HO2.out).ch (S := Upto w1.heap.size) ?_ (fun g _ h e => by have : g ≤ w1.heap.size := e; omega)).mono (fun _ _ h => by omega)
          repeat refine Ch.upto ?_ (by omega) _ _
          exact Ch.refl _ _
      | true =>
        go_wp2_with (first | (at_builtin; refine wpList_append_lst rfl (.tmp 20) (.tmp 22) rfl (w1.heap.size + 1) _ 0 [] rfl (World.ownsRow_nil _ _ _ _) P _ xs rfl (HX1.out.alloc _) n (by rw [HN.out]; simp) (by omega) (by simp) ?_; intro ao2 cap2 w2 hown2 g2; obtain ⟨a0, a1, a2, a3, a4⟩ := ((HF.out.alloc _).ch g2 (by omega)).cells; have B := (HF2.out.alloc _).ch g2 (by omega); obtain ⟨b0, b1, b2, b3, b4⟩ := B.cells; obtain ⟨y0, y1, y2, y3, y4⟩ := B.fz; have C := HF3.out.ch g2 (by omega); obtain ⟨c0, c1, c2, c3, c4⟩ := C.cells; obtain ⟨z0, z1, z2, z3, z4⟩ := C.fz; have HO2 := hid hown2; have HG2 := hid g2; clear B C hown2 g2))
        refine bodyPost_ret (v := .tuple #[.agg #[.slice ao2 n cap2, .bool true, .int .i64 y.s, .int .i64 y.g, .int .u64 y.t], .int .i64 0]) (by simp [results, Try.results6, go_sem, b0, b1, b2, b3, b4]) rfl ?_
        refine ⟨?_, .inr ⟨rfl, _, rfl, ?_⟩⟩
        · repeat refine Ch.fresh ?_ (by omega) _ _
          exact (HG.out.alloc _).trans HG2.out (fun _ h => .inr (by omega))
        · refine ((Lst.of_own HO2.out).ch (S := Upto w1.heap.size) ?_ (fun g _ h e => by have : g ≤ w1.heap.size := e; omega)).mono (fun _ _ h => by omega)
          repeat refine Ch.upto ?_ (by omega) _ _
          exact Ch.refl _ _
end Go.Proofs.Ytfodjkdioddbjab.Rg
