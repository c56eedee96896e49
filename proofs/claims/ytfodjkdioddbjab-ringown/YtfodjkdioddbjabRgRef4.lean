/-
  What Put of the document's answer tells. Condition: the state's list is there, and has no more than 64 places.
-/
import Derived.Test.YtfodjkdioddbjabRgRef2
import Derived.Test.YtfodjkdioddbjabRgRef3
namespace Go.Proofs.Ytfodjkdioddbjab.Rg
open Go.RowKit
attribute [local go_sem ↓] Go.wp_at_zero Go.wp_at_succ

set_option maxHeartbeats 1000000 in
theorem rput_bad (P : Nat → Prop) (sv : Value) (xs : List W3) (hs : Bool) (y x : W3) (w : World) (hx : Lst P w sv xs) (hl : xs.length ≤ 64) (hbad : putBad xs (nxo hs y) x = true) :
    Calls Try.prog 33 #[.agg #[sv, .bool hs, .int .i64 y.s, .int .i64 y.g, .int .u64 y.t], .agg #[.int .i64 x.s, .int .i64 x.g, .int .u64 x.t]] w fun e w' => e = .returned (.tuple #[.agg #[sv, .bool hs, .int .i64 y.s, .int .i64 y.g, .int .u64 y.t], .slice none 0 0, .int .i64 20]) ∧ Ch NoB w w' := by
  obtain ⟨ao, cap, rfl⟩ := hx.form
  obtain ⟨n, hn⟩ : ∃ n, n = xs.length := ⟨_, rfl⟩
  rw [← hn] at hl hx ⊢
  obtain ⟨W, hW⟩ : ∃ W, W = ((w.alloc (.cells #[.slice ao n cap, .bool hs, .int .i64 y.s, .int .i64 y.g, .int .u64 y.t] 29)).alloc (.cells #[.int .i64 x.s, .int .i64 x.g, .int .u64 x.t] 27)).alloc (.cells #[.slice none 0 0, .bool false, .int .i64 0, .int .i64 0, .int .u64 0] 29) := ⟨_, rfl⟩
  have F1 : Five W w.heap.size (.slice ao n cap) (.bool hs) (.int .i64 y.s) (.int .i64 y.g) (.int .u64 y.t) := by rw [hW]; exact ((Five.new w _ _ _ _ _).alloc _).alloc _
  have F2 : Three W (w.heap.size + 1) x := by rw [hW]; have := (Three.new (w.alloc (.cells #[.slice ao n cap, .bool hs, .int .i64 y.s, .int .i64 y.g, .int .u64 y.t] 29)) x).alloc (.cells #[.slice none 0 0, .bool false, .int .i64 0, .int .i64 0, .int .u64 0] 29); simpa only [World.size_alloc] using this
  have F3 : Five W (w.heap.size + 1 + 1) (.slice none 0 0) (.bool false) (.int .i64 0) (.int .i64 0) (.int .u64 0) := by rw [hW]; have := Five.new ((w.alloc (.cells #[.slice ao n cap, .bool hs, .int .i64 y.s, .int .i64 y.g, .int .u64 y.t] 29)).alloc (.cells #[.int .i64 x.s, .int .i64 x.g, .int .u64 x.t] 27)) (.slice none 0 0) (.bool false) (.int .i64 0) (.int .i64 0) (.int .u64 0); simpa only [World.size_alloc] using this
  have LX : Lst P W (.slice ao n cap) xs := by rw [hW]; exact ((hx.alloc _).alloc _).alloc _
  have LX0 : Lst (fun g => P g ∧ g < w.heap.size) W (.slice ao n cap) xs := by rw [hW]; exact (((hx.mono (fun g h p => ⟨p, h⟩)).alloc _).alloc _).alloc _
  have GW : Ch NoB w W := by rw [hW]; exact (((Ch.refl _ _).alloc _).alloc _).alloc _
  obtain ⟨f0, f1, f2, f3, f4⟩ := F1.cells
  obtain ⟨x0, x1, x2⟩ := F2.cells
  obtain ⟨b0, b1, b2, b3, b4⟩ := F3.cells
  obtain ⟨z0, z1, z2, z3, z4⟩ := F3.fz
  have HF3 := hid F3
  have HF1 := hid F1
  have HF2 := hid F2
  have HLX := hid LX
  have HLX0 := hid LX0
  have HGW := hid GW
  have hsz : W.heap.size = w.heap.size + 3 := by rw [hW]; simp
  have HSZ := hid hsz
  have HW := hid hW
  clear hx F1 F2 F3 LX LX0 GW hW hsz
  rcases List.eq_nil_or_concat xs with rfl | ⟨qs, p, rfl⟩
  · have hn0 : n = 0 := hn
    have HN : Hid (n = ([] : List W3).length) := hn
    clear hn
    subst hn0
    cases hs with
    | false => simp [putBad, aboveB, nxo, notBelow] at hbad
    | true =>
      have hc : (y.t ≤ x.t) := by simpa [putBad, aboveB, nxo, notBelow] using hbad
      clear hbad
      go_enter Try.func33, Try.ntmps33
      go_wp2_with fail
      rw [← HW.out]
      go_quiet (fail)
      go_wp2
      refine bodyPost_ret (v := .tuple #[.agg #[.slice ao 0 cap, .bool true, .int .i64 y.s, .int .i64 y.g, .int .u64 y.t], .slice none 0 0, .int .i64 20]) (by simp [results, Try.results33, go_sem, b0, b1, b2, b3, b4]) rfl ⟨rfl, ?_⟩
      repeat refine Ch.fresh ?_ (by omega) _ _
      exact HGW.out.drewN _
  · simp only [List.concat_eq_append] at hbad hn HLX HLX0 ⊢
    unfold putBad at hbad
    rw [aboveB_concat] at hbad
    have hnq : n = qs.length + 1 := by rw [hn]; simp
    obtain ⟨q, hq⟩ : ∃ q, q = qs.length := ⟨_, rfl⟩
    have hp : (qs ++ [p])[q]? = some p := by rw [hq]; simp
    obtain ⟨g, o, rfl, _, hglt, a0, a1, a2⟩ := HLX.out.get hp
    have r1 : (n : Int) - 1 = (q : Int) := by omega
    have r2 : IntKind.i64.wrap (q : Int) = (q : Int) := by rw [IntKind.wrap_i64]; omega
    have q0 : (0 : Int) ≤ (q : Int) := by omega
    have q1 : (q : Int) < (n : Int) := by omega
    have hz2 : decide ((n : Int) > 0) = true := by simp; omega
    have hz3 : (0 : Int) < (n : Int) := by omega
    have hz4 : decide (0 < n) = true := by simp; omega
    have hz5 : 0 < n := by omega
    have HNQ := hid hnq
    have HQ := hid hq
    have HN := hid hn
    clear hnq hq hp hn
    by_cases hle : x.t ≤ p.t
    · clear hbad
      go_enter Try.func33, Try.ntmps33
      go_wp2_with fail
      rw [← HW.out]
      go_quiet (fail)
      go_wp2
      refine bodyPost_ret (v := .tuple #[.agg #[.slice (some ⟨g, o, none⟩) n cap, .bool hs, .int .i64 y.s, .int .i64 y.g, .int .u64 y.t], .slice none 0 0, .int .i64 20]) (by simp [results, Try.results33, go_sem, b0, b1, b2, b3, b4]) rfl ⟨rfl, ?_⟩
      repeat refine Ch.fresh ?_ (by omega) _ _
      exact HGW.out.drewN _
    · have hled : decide (x.t ≤ p.t) = false := by simpa using hle
      have hpx : decide (p.t < x.t) = true := by simp; omega
      rw [hpx] at hbad
      clear hpx
      cases hs with
      | false => simp [nxo, notBelow] at hbad
      | true =>
        have hc : y.t ≤ x.t := by simpa [nxo, notBelow] using hbad
        clear hbad
        go_enter Try.func33, Try.ntmps33
        go_wp2_with fail
        rw [← HW.out]
        go_quiet (fail)
        go_wp2
        refine bodyPost_ret (v := .tuple #[.agg #[.slice (some ⟨g, o, none⟩) n cap, .bool true, .int .i64 y.s, .int .i64 y.g, .int .u64 y.t], .slice none 0 0, .int .i64 20]) (by simp [results, Try.results33, go_sem, b0, b1, b2, b3, b4]) rfl ⟨rfl, ?_⟩
        repeat refine Ch.fresh ?_ (by omega) _ _
        exact HGW.out.drewN _

set_option maxHeartbeats 1000000 in
theorem rput_good (P : Nat → Prop) (sv : Value) (xs : List W3) (hs : Bool) (y x : W3) (w : World) (hx : Lst P w sv xs) (hl : xs.length ≤ 64) (hbad : putBad xs (nxo hs y) x = false) :
    Calls Try.prog 33 #[.agg #[sv, .bool hs, .int .i64 y.s, .int .i64 y.g, .int .u64 y.t], .agg #[.int .i64 x.s, .int .i64 x.g, .int .u64 x.t]] w fun e w' => ∃ v l, e = .returned (.tuple #[.agg #[v, .bool hs, .int .i64 y.s, .int .i64 y.g, .int .u64 y.t], l, .int .i64 0]) ∧ Lst (w.heap.size ≤ ·) w' v (behindP xs x) ∧ Lst (w.heap.size ≤ ·) w' l (behindL xs x) ∧ Ch NoB w w' := by
  obtain ⟨ao, cap, rfl⟩ := hx.form
  obtain ⟨n, hn⟩ : ∃ n, n = xs.length := ⟨_, rfl⟩
  rw [← hn] at hl hx ⊢
  obtain ⟨W, hW⟩ : ∃ W, W = ((w.alloc (.cells #[.slice ao n cap, .bool hs, .int .i64 y.s, .int .i64 y.g, .int .u64 y.t] 29)).alloc (.cells #[.int .i64 x.s, .int .i64 x.g, .int .u64 x.t] 27)).alloc (.cells #[.slice none 0 0, .bool false, .int .i64 0, .int .i64 0, .int .u64 0] 29) := ⟨_, rfl⟩
  have F1 : Five W w.heap.size (.slice ao n cap) (.bool hs) (.int .i64 y.s) (.int .i64 y.g) (.int .u64 y.t) := by rw [hW]; exact ((Five.new w _ _ _ _ _).alloc _).alloc _
  have F2 : Three W (w.heap.size + 1) x := by rw [hW]; have := (Three.new (w.alloc (.cells #[.slice ao n cap, .bool hs, .int .i64 y.s, .int .i64 y.g, .int .u64 y.t] 29)) x).alloc (.cells #[.slice none 0 0, .bool false, .int .i64 0, .int .i64 0, .int .u64 0] 29); simpa only [World.size_alloc] using this
  have F3 : Five W (w.heap.size + 1 + 1) (.slice none 0 0) (.bool false) (.int .i64 0) (.int .i64 0) (.int .u64 0) := by rw [hW]; have := Five.new ((w.alloc (.cells #[.slice ao n cap, .bool hs, .int .i64 y.s, .int .i64 y.g, .int .u64 y.t] 29)).alloc (.cells #[.int .i64 x.s, .int .i64 x.g, .int .u64 x.t] 27)) (.slice none 0 0) (.bool false) (.int .i64 0) (.int .i64 0) (.int .u64 0); simpa only [World.size_alloc] using this
  have LX : Lst P W (.slice ao n cap) xs := by rw [hW]; exact ((hx.alloc _).alloc _).alloc _
  have LX0 : Lst (fun g => P g ∧ g < w.heap.size) W (.slice ao n cap) xs := by rw [hW]; exact (((hx.mono (fun g h p => ⟨p, h⟩)).alloc _).alloc _).alloc _
  have GW : Ch NoB w W := by rw [hW]; exact (((Ch.refl _ _).alloc _).alloc _).alloc _
  obtain ⟨f0, f1, f2, f3, f4⟩ := F1.cells
  obtain ⟨x0, x1, x2⟩ := F2.cells
  obtain ⟨b0, b1, b2, b3, b4⟩ := F3.cells
  obtain ⟨z0, z1, z2, z3, z4⟩ := F3.fz
  have HF3 := hid F3
  have HF1 := hid F1
  have HF2 := hid F2
  have HLX := hid LX
  have HLX0 := hid LX0
  have HGW := hid GW
  have hsz : W.heap.size = w.heap.size + 3 := by rw [hW]; simp
  have HSZ := hid hsz
  have HW := hid hW
  clear hx F1 F2 F3 LX LX0 GW hW hsz
  rcases List.eq_nil_or_concat xs with rfl | ⟨qs, p, rfl⟩
  · have hn0 : n = 0 := hn
    have HN : Hid (n = ([] : List W3).length) := hn
    clear hn
    subst hn0
    cases hs with
    | false =>
      clear hbad
      go_enter Try.func33, Try.ntmps33
      go_wp2_with fail
      rw [← HW.out]
      go_quiet (fail)
      go_wp2_with fail
      refine (rbehind_any P _ [] false y x _ (HLX.out.drewN _) (by rw [← HN.out]; exact hl)).mono ?_
      rintro e w1 ⟨v, l, rfl, l1, l2, g1⟩
      obtain ⟨va, vc, rfl⟩ := l1.form
      obtain ⟨la, lc, rfl⟩ := l2.form
      have F := (HF3.out.drewN _).ch g1 (noB _)
      clear b0 b1 b2 b3 b4 z0 z1 z2 z3 z4
      obtain ⟨b0, b1, b2, b3, b4⟩ := F.cells
      obtain ⟨z0, z1, z2, z3, z4⟩ := F.fz
      have hlt1 := F.lt
      have hsz1 : w.heap.size + 3 ≤ w1.heap.size := by have := g1.size; have h3 := HSZ.out; simp at this; omega
      have HL1 := hid l1
      have HL2 := hid l2
      have HG := hid ((HGW.out.drewN _).trans' g1)
      clear F l1 l2 g1
      go_wp2
      refine bodyPost_ret (v := .tuple #[.agg #[.slice va (behindP [] x).length vc, .bool false, .int .i64 y.s, .int .i64 y.g, .int .u64 y.t], .slice la (behindL [] x).length lc, .int .i64 0]) (by simp [results, Try.results33, go_sem, b0, b1, b2, b3, b4, hlt1]) rfl ⟨_, _, rfl, ?_, ?_, ?_⟩
      · refine (((HL1.out.mono (Q := (w.heap.size + 3 ≤ ·)) (fun g _ h => by have h3 := HSZ.out; simp at h; omega)).ch (S := Upto (w.heap.size + 2)) ?_ (fun g _ h e => by have : g ≤ w.heap.size + 2 := e; omega)).mono (fun _ _ h => by omega))
        refine Ch.alloc ?_ _
        repeat refine Ch.upto ?_ (by omega) _ _
        exact Ch.refl _ _
      · refine (((HL2.out.mono (Q := (w.heap.size + 3 ≤ ·)) (fun g _ h => by have h3 := HSZ.out; simp at h; omega)).ch (S := Upto (w.heap.size + 2)) ?_ (fun g _ h e => by have : g ≤ w.heap.size + 2 := e; omega)).mono (fun _ _ h => by omega))
        refine Ch.alloc ?_ _
        repeat refine Ch.upto ?_ (by omega) _ _
        exact Ch.refl _ _
      · refine Ch.alloc ?_ _
        repeat refine Ch.fresh ?_ (by omega) _ _
        exact HG.out
    | true =>
      have hc : ¬ (y.t ≤ x.t) := by simpa [putBad, aboveB, nxo, notBelow] using hbad
      have hd : decide (y.t ≤ x.t) = false := by simpa using hc
      clear hbad
      go_enter Try.func33, Try.ntmps33
      go_wp2_with fail
      rw [← HW.out]
      go_quiet (fail)
      go_wp2_with fail
      refine (rbehind_any P _ [] true y x _ (HLX.out.drewN _) (by rw [← HN.out]; exact hl)).mono ?_
      rintro e w1 ⟨v, l, rfl, l1, l2, g1⟩
      obtain ⟨va, vc, rfl⟩ := l1.form
      obtain ⟨la, lc, rfl⟩ := l2.form
      have F := (HF3.out.drewN _).ch g1 (noB _)
      clear b0 b1 b2 b3 b4 z0 z1 z2 z3 z4
      obtain ⟨b0, b1, b2, b3, b4⟩ := F.cells
      obtain ⟨z0, z1, z2, z3, z4⟩ := F.fz
      have hlt1 := F.lt
      have hsz1 : w.heap.size + 3 ≤ w1.heap.size := by have := g1.size; have h3 := HSZ.out; simp at this; omega
      have HL1 := hid l1
      have HL2 := hid l2
      have HG := hid ((HGW.out.drewN _).trans' g1)
      clear F l1 l2 g1
      go_wp2
      refine bodyPost_ret (v := .tuple #[.agg #[.slice va (behindP [] x).length vc, .bool true, .int .i64 y.s, .int .i64 y.g, .int .u64 y.t], .slice la (behindL [] x).length lc, .int .i64 0]) (by simp [results, Try.results33, go_sem, b0, b1, b2, b3, b4, hlt1]) rfl ⟨_, _, rfl, ?_, ?_, ?_⟩
      · refine (((HL1.out.mono (Q := (w.heap.size + 3 ≤ ·)) (fun g _ h => by have h3 := HSZ.out; simp at h; omega)).ch (S := Upto (w.heap.size + 2)) ?_ (fun g _ h e => by have : g ≤ w.heap.size + 2 := e; omega)).mono (fun _ _ h => by omega))
        refine Ch.alloc ?_ _
        repeat refine Ch.upto ?_ (by omega) _ _
        exact Ch.refl _ _
      · refine (((HL2.out.mono (Q := (w.heap.size + 3 ≤ ·)) (fun g _ h => by have h3 := HSZ.out; simp at h; omega)).ch (S := Upto (w.heap.size + 2)) ?_ (fun g _ h e => by have : g ≤ w.heap.size + 2 := e; omega)).mono (fun _ _ h => by omega))
        refine Ch.alloc ?_ _
        repeat refine Ch.upto ?_ (by omega) _ _
        exact Ch.refl _ _
      · refine Ch.alloc ?_ _
        repeat refine Ch.fresh ?_ (by omega) _ _
        exact HG.out
  · simp only [List.concat_eq_append] at hbad hn HLX HLX0 ⊢
    unfold putBad at hbad
    rw [aboveB_concat] at hbad
    have hnq : n = qs.length + 1 := by rw [hn]; simp
    obtain ⟨q, hq⟩ : ∃ q, q = qs.length := ⟨_, rfl⟩
    have hp : (qs ++ [p])[q]? = some p := by rw [hq]; simp
    obtain ⟨g, o, rfl, _, hglt, a0, a1, a2⟩ := HLX.out.get hp
    have r1 : (n : Int) - 1 = (q : Int) := by omega
    have r2 : IntKind.i64.wrap (q : Int) = (q : Int) := by rw [IntKind.wrap_i64]; omega
    have q0 : (0 : Int) ≤ (q : Int) := by omega
    have q1 : (q : Int) < (n : Int) := by omega
    have hz2 : decide ((n : Int) > 0) = true := by simp; omega
    have hz3 : (0 : Int) < (n : Int) := by omega
    have hz4 : decide (0 < n) = true := by simp; omega
    have hz5 : 0 < n := by omega
    have HNQ := hid hnq
    have HQ := hid hq
    have HN := hid hn
    clear hnq hq hp hn
    have hle : ¬ (x.t ≤ p.t) := by
      intro h
      have : decide (p.t < x.t) = false := by simpa using h
      rw [this] at hbad
      simp at hbad
    have hled : decide (x.t ≤ p.t) = false := by simpa using hle
    have hpx : decide (p.t < x.t) = true := by simp; omega
    rw [hpx] at hbad
    clear hpx
    cases hs with
    | false =>
      clear hbad
      go_enter Try.func33, Try.ntmps33
      go_wp2_with fail
      rw [← HW.out]
      go_quiet (fail)
      go_wp2_with fail
      refine (rbehind_any P _ (qs ++ [p]) false y x _ (HLX.out.drewN _) (by rw [← HN.out]; exact hl)).mono ?_
      rintro e w1 ⟨v, l, rfl, l1, l2, g1⟩
      obtain ⟨va, vc, rfl⟩ := l1.form
      obtain ⟨la, lc, rfl⟩ := l2.form
      have F := (HF3.out.drewN _).ch g1 (noB _)
      clear b0 b1 b2 b3 b4 z0 z1 z2 z3 z4
      obtain ⟨b0, b1, b2, b3, b4⟩ := F.cells
      obtain ⟨z0, z1, z2, z3, z4⟩ := F.fz
      have hlt1 := F.lt
      have hsz1 : w.heap.size + 3 ≤ w1.heap.size := by have := g1.size; have h3 := HSZ.out; simp at this; omega
      have HL1 := hid l1
      have HL2 := hid l2
      have HG := hid ((HGW.out.drewN _).trans' g1)
      clear F l1 l2 g1
      go_wp2
      refine bodyPost_ret (v := .tuple #[.agg #[.slice va (behindP (qs ++ [p]) x).length vc, .bool false, .int .i64 y.s, .int .i64 y.g, .int .u64 y.t], .slice la (behindL (qs ++ [p]) x).length lc, .int .i64 0]) (by simp [results, Try.results33, go_sem, b0, b1, b2, b3, b4, hlt1]) rfl ⟨_, _, rfl, ?_, ?_, ?_⟩
      · refine (((HL1.out.mono (Q := (w.heap.size + 3 ≤ ·)) (fun g _ h => by have h3 := HSZ.out; simp at h; omega)).ch (S := Upto (w.heap.size + 2)) ?_ (fun g _ h e => by have : g ≤ w.heap.size + 2 := e; omega)).mono (fun _ _ h => by omega))
        refine Ch.alloc ?_ _
        repeat refine Ch.upto ?_ (by omega) _ _
        exact Ch.refl _ _
      · refine (((HL2.out.mono (Q := (w.heap.size + 3 ≤ ·)) (fun g _ h => by have h3 := HSZ.out; simp at h; omega)).ch (S := Upto (w.heap.size + 2)) ?_ (fun g _ h e => by have : g ≤ w.heap.size + 2 := e; omega)).mono (fun _ _ h => by omega))
        refine Ch.alloc ?_ _
        repeat refine Ch.upto ?_ (by omega) _ _
        exact Ch.refl _ _
      · refine Ch.alloc ?_ _
        repeat refine Ch.fresh ?_ (by omega) _ _
        exact HG.out
    | true =>
      have hc : ¬ (y.t ≤ x.t) := by simpa [nxo, notBelow] using hbad
      have hd : decide (y.t ≤ x.t) = false := by simpa using hc
      clear hbad
      go_enter Try.func33, Try.ntmps33
      go_wp2_with fail
      rw [← HW.out]
      go_quiet (fail)
      go_wp2_with fail
      refine (rbehind_any P _ (qs ++ [p]) true y x _ (HLX.out.drewN _) (by rw [← HN.out]; exact hl)).mono ?_
      rintro e w1 ⟨v, l, rfl, l1, l2, g1⟩
      obtain ⟨va, vc, rfl⟩ := l1.form
      obtain ⟨la, lc, rfl⟩ := l2.form
      have F := (HF3.out.drewN _).ch g1 (noB _)
      clear b0 b1 b2 b3 b4 z0 z1 z2 z3 z4
      obtain ⟨b0, b1, b2, b3, b4⟩ := F.cells
      obtain ⟨z0, z1, z2, z3, z4⟩ := F.fz
      have hlt1 := F.lt
      have hsz1 : w.heap.size + 3 ≤ w1.heap.size := by have := g1.size; have h3 := HSZ.out; simp at this; omega
      have HL1 := hid l1
      have HL2 := hid l2
      have HG := hid ((HGW.out.drewN _).trans' g1)
      clear F l1 l2 g1
      go_wp2
      refine bodyPost_ret (v := .tuple #[.agg #[.slice va (behindP (qs ++ [p]) x).length vc, .bool true, .int .i64 y.s, .int .i64 y.g, .int .u64 y.t], .slice la (behindL (qs ++ [p]) x).length lc, .int .i64 0]) (by simp [results, Try.results33, go_sem, b0, b1, b2, b3, b4, hlt1]) rfl ⟨_, _, rfl, ?_, ?_, ?_⟩
      · refine (((HL1.out.mono (Q := (w.heap.size + 3 ≤ ·)) (fun g _ h => by have h3 := HSZ.out; simp at h; omega)).ch (S := Upto (w.heap.size + 2)) ?_ (fun g _ h e => by have : g ≤ w.heap.size + 2 := e; omega)).mono (fun _ _ h => by omega))
        refine Ch.alloc ?_ _
        repeat refine Ch.upto ?_ (by omega) _ _
        exact Ch.refl _ _
      · refine (((HL2.out.mono (Q := (w.heap.size + 3 ≤ ·)) (fun g _ h => by have h3 := HSZ.out; simp at h; omega)).ch (S := Upto (w.heap.size + 2)) ?_ (fun g _ h e => by have : g ≤ w.heap.size + 2 := e; omega)).mono (fun _ _ h => by omega))
        refine Ch.alloc ?_ _
        repeat refine Ch.upto ?_ (by omega) _ _
        exact Ch.refl _ _
      · refine Ch.alloc ?_ _
        repeat refine Ch.fresh ?_ (by omega) _ _
        exact HG.out

end Go.Proofs.Ytfodjkdioddbjab.Rg
