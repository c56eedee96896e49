/-
  What the program's mayBe of layer 11 answers: whether a channel may be so. Condition: the lists are not too long.
  What the program's mayBe of layer 11 answers: whether a channel may be so. Condition: the lists are not too long.
  What the program's mayBe of layer 11 answers; what is left when a channel is put behind the others, and when places of a whole list are noted. Conditions: lists are not too long, goroutines' numbers are ints.
  What the program's Load of layer 11 answers and leaves. Conditions: lists are not too long, goroutines' numbers are ints.
  Whom a call wakes waits nowhere behind it, and whoever else waited waits still, in the same order; behind every act channels may be as they are: nobody waits for what is there; all in plain words. Conditions: the channels are good (Gd).
-/
import Derived.Test.YtalmiphddgmfbabCpWo
import Derived.Test.YtalmiphddgmfbabGnRegion
import Derived.Deep.Cut
import Derived.Deep.QuietTactic
import Derived.BigQuiet
import Derived.Test.YtalmiphddgmfbabCnMf
import Derived.Test.YtalmiphddgmfbabCpNt
import Derived.Test.YtalmiphddgmfbabCpStm
import Derived.Test.YtalmiphddgmfbabCpWa
import Derived.Test.YtalmiphddgmfbabCpWk
import Derived.Test.YtalmiphddgmfbabCpAny
import Derived.Test.YtalmiphddgmfbabCpLives
import Derived.Deep.DeepCutAuto
import Derived.Test.YtalmiphddgmfbabCnMe
namespace Go.Proofs.Ytalmiphddgmfbab.Lt
open Go.RowKit Wd
attribute [local go_sem ↓] Go.wp_at_zero Go.wp_at_succ

theorem skipS_on {P : Program} {md : Region.Mode} {ops : Array Oper} {Q : Exit → Act → World → Prop} {S : World → Prop} {i : Nat} (k : Nat) {oi : Oper} {fuel : Nat} {listed : Array Bool} {a : Act} {w : World} (hi : ops[i]? = some oi) (hd : oi.dst = some k)
    (hs : Region.noSelect ops = true) (hf : Region.free md ops listed i = true) (hr : (Region.ready md ops listed).contains i = true)
    (hQ : ∀ c a w, Q (.panic c) (a.put (some k) undef) w → Q (.panic c) a w) (hw : Region.wanted oi (yielded ops a.tmps) = false) (hS : S w)
    (h : wpAnyH P md ops Q S fuel (listed.setIfInBounds i true) (a.put (some k) undef) w) : wpAnyH P md ops Q S (fuel + 1) listed a w :=
  wpAnyH_take hi hs hf hr (by rw [hd]; exact hQ) (Or.inr ⟨hw, rfl⟩) hS (by rw [hd]; exact h)
/-- the closure of ofOne -/
theorem clof_any (s g x0 x1 x2 x3 : Int) (gb : Nat) (w : World) (h : w.heap[gb]? = some (.cells #[.int .i64 s, .int .i64 g] 24 (0, 0))) : Calls Try.prog 67 #[.agg #[.int .i64 x0, .int .i64 x1, .int .i64 x2, .int .i64 x3], .pointer (some ⟨gb, 0, none⟩)] w fun e w' => e = .returned (.bool (!isG s g ⟨x0, x1, x2, x3⟩)) ∧ Gr w w' := by
  have b0 := cell_of h 0
  have b1 := cell_of h 1
  simp at b0 b1
  have l0 := lt_of_block h
  have G0 := hid (show Gr w (w.alloc (.cells #[.int .i64 x0, .int .i64 x1, .int .i64 x2, .int .i64 x3] 95)) from Ch.alloc (Gr.refl w) _)
  clear h
  unfold isG
  by_cases e1 : x0 = s
  · subst e1
    by_cases e2 : x1 = g
    · subst e2
      go_enter Try.func67, Try.ntmps67
      go_wp2
      go_ret
      exact ⟨by simp, G0.out⟩
    · have e3 : (x1 == g) = false := by simpa using e2
      go_enter Try.func67, Try.ntmps67
      go_wp2
      go_ret
      exact ⟨by simp [e3], G0.out⟩
  · have e3 : (x0 == s) = false := by simpa using e1
    go_enter Try.func67, Try.ntmps67
    go_wp2
    go_ret
    exact ⟨by simp [e3], G0.out⟩
theorem brings_any (x0 x1 x2 x3 : Int) (w : World) : Calls Try.prog 47 #[.agg #[.int .i64 x0, .int .i64 x1, .int .i64 x2, .int .i64 x3]] w fun e w' => e = .returned (.bool (!(x3 == 0))) ∧ Gr w w' := by
  have G0 := hid (show Gr w (w.alloc (.cells #[.int .i64 x0, .int .i64 x1, .int .i64 x2, .int .i64 x3] 95)) from Ch.alloc (Gr.refl w) _)
  by_cases e1 : x3 = 0
  · subst e1
    go_enter Try.func47, Try.ntmps47
    go_wp2
    go_ret
    exact ⟨by simp, G0.out⟩
  · have e2 : (x3 == 0) = false := by simpa using e1
    go_enter Try.func47, Try.ntmps47
    go_wp2
    go_ret
    exact ⟨by simp [e2, e1], G0.out⟩
abbrev cloO (gb : Nat) : Value := .func (.func 67) #[] #[.pointer (some ⟨gb, 0, none⟩)]
set_option maxRecDepth 20000 in
set_option maxHeartbeats 2000000 in
theorem index_one (P : Nat → Prop) (w : World) (ao : Option Addr) (n cap : Nat) (ws : List Wt) (s g : Int) (gb : Nat) (h : Ls eW P w (.slice ao n cap) ws) (hn : n ≤ 4398046511104) (hb : w.heap[gb]? = some (.cells #[.int .i64 s, .int .i64 g] 24 (0, 0))) : Calls Try.prog 60 #[.slice ao n cap, cloO gb] w fun e w' => ∃ r : Int, e = .returned (.int .i64 r) ∧ decide (0 ≤ r) = ws.any (fun x : Wt => !isG s g x) ∧ Gr w w' := by
  have HL := hid h.len.1
  have HB := hid h
  have HC := hid hb
  clear hb
  clear h
  go_enter Try.func60, Try.ntmps60
  go_wp2_with fail
  go_loopg [8] n (fun q i wr => ∃ (j : Nat), j + q = n ∧ i = .int .i64 (j : Int) ∧ (∀ y ∈ ws.take j, (fun x : Wt => !isG s g x) y = false) ∧ Gr w wr)
  case atStart => exact ⟨0, by omega, rfl, (fun y hy => by simp at hy), Gr.refl _⟩
  case round =>
    obtain ⟨j, hjk, rfl, hN, hG⟩ := hrel
    have HN := hid hN
    have HG := hid hG
    clear hN hG
    by_cases hj : j < n
    · obtain ⟨⟨x0, x1, x2, x3⟩, hx⟩ : ∃ x, ws[j]? = some x := ⟨_, List.getElem?_eq_getElem (by rw [← HL.out]; omega)⟩
      obtain ⟨gg, oo, cap', hv, _, hgl, _, hcs⟩ := (HB.out.gr HG.out).get eW_len hx
      injection hv with hv1 hv2 hv3
      subst hv1
      have c0 := hcs 0 _ rfl
      have c1 := hcs 1 _ rfl
      have c2 := hcs 2 _ rfl
      have c3 := hcs 3 _ rfl
      dsimp only [Nat.add_zero] at c0 c1 c2 c3
      have j0 : (0 : Int) ≤ (j : Int) := by omega
      have j1 : (j : Int) < (n : Int) := by omega
      have HX := hid hx
      have HCL := hid (clof_any s g x0 x1 x2 x3 gb wr (gr_blk HC.out HG.out))
      obtain ⟨z, hz⟩ : ∃ z, z = (fun x : Wt => !isG s g x) ⟨x0, x1, x2, x3⟩ := ⟨_, rfl⟩
      have HZ := hid hz
      dsimp only at hz
      rw [← hz] at HCL
      clear hcs hv2 hv3 hx hgl hz
      cases z with
      | true =>
        have HI := hid (show decide ((0 : Int) ≤ (j : Int)) = ws.any (fun x : Wt => !isG s g x) from by
          rw [decide_eq_true j0]
          exact (List.any_eq_true.2 ⟨_, List.mem_of_getElem? HX.out, HZ.out.symm⟩).symm)
        go_wp2_with (go_at_call 67; refine HCL.out.mono ?_; rintro e w5 ⟨rfl, g5⟩; have G5 := hid (Gr.trans HG.out g5); clear g5)
        go_ret
        exact ⟨_, rfl, HI.out, G5.out⟩
      | false =>
        go_wp2_with (go_at_call 67; refine HCL.out.mono ?_; rintro e w5 ⟨rfl, g5⟩; have G5 := hid (Gr.trans HG.out g5); clear g5)
        go_roundg (gk - 1)
        case measure => omega
        case rel => exact ⟨j + 1, by omega, by simp, (fun y hy => by
          rw [take_one HX.out, List.mem_append] at hy
          rcases hy with hy | hy
          · exact HN.out y hy
          · simp only [List.mem_cons, List.not_mem_nil, or_false] at hy
            rw [hy]
            exact HZ.out.symm), G5.out⟩
    · have jn : ¬ (j : Int) < (n : Int) := by omega
      have HI := hid (show decide ((0 : Int) ≤ -1) = ws.any (fun x : Wt => !isG s g x) from by
        rw [show decide ((0 : Int) ≤ -1) = false from rfl]
        exact (List.any_eq_false.2 (fun x hx => by have := HN.out x (by rw [List.take_of_length_le (by rw [← HL.out]; omega)]; exact hx); simp only [this]; simp)).symm)
      go_wp2
      go_ret
      exact ⟨_, rfl, HI.out, HG.out⟩
theorem contains_one (P : Nat → Prop) (w : World) (ao : Option Addr) (n cap : Nat) (ws : List Wt) (s g : Int) (gb : Nat) (h : Ls eW P w (.slice ao n cap) ws) (hn : n ≤ 4398046511104) (hb : w.heap[gb]? = some (.cells #[.int .i64 s, .int .i64 g] 24 (0, 0))) : Calls Try.prog 46 #[.slice ao n cap, cloO gb] w fun e w' => e = .returned (.bool (ws.any (fun x : Wt => !isG s g x))) ∧ Gr w w' := by
  have HI := hid (index_one P w ao n cap ws s g gb h hn hb)
  clear h
  go_enter Try.func46, Try.ntmps46
  go_wp2_with (go_at_call 60; refine HI.out.mono ?_; rintro e w5 ⟨r, rfl, hr, g5⟩; have HR := hid hr; have G5 := hid g5; clear hr g5)
  go_ret
  exact ⟨by rw [← HR.out]; try rfl, G5.out⟩
set_option maxRecDepth 20000 in
set_option maxHeartbeats 2000000 in
theorem index_some (P : Nat → Prop) (w : World) (ao : Option Addr) (n cap : Nat) (ws : List Wt) (h : Ls eW P w (.slice ao n cap) ws) (hn : n ≤ 4398046511104) : Calls Try.prog 60 #[.slice ao n cap, .func (.func 47) #[] #[]] w fun e w' => ∃ r : Int, e = .returned (.int .i64 r) ∧ decide (0 ≤ r) = ws.any (fun x : Wt => !(x.v == 0)) ∧ Gr w w' := by
  have HL := hid h.len.1
  have HB := hid h
  clear h
  go_enter Try.func60, Try.ntmps60
  go_wp2_with fail
  go_loopg [8] n (fun q i wr => ∃ (j : Nat), j + q = n ∧ i = .int .i64 (j : Int) ∧ (∀ y ∈ ws.take j, (fun x : Wt => !(x.v == 0)) y = false) ∧ Gr w wr)
  case atStart => exact ⟨0, by omega, rfl, (fun y hy => by simp at hy), Gr.refl _⟩
  case round =>
    obtain ⟨j, hjk, rfl, hN, hG⟩ := hrel
    have HN := hid hN
    have HG := hid hG
    clear hN hG
    by_cases hj : j < n
    · obtain ⟨⟨x0, x1, x2, x3⟩, hx⟩ : ∃ x, ws[j]? = some x := ⟨_, List.getElem?_eq_getElem (by rw [← HL.out]; omega)⟩
      obtain ⟨gg, oo, cap', hv, _, hgl, _, hcs⟩ := (HB.out.gr HG.out).get eW_len hx
      injection hv with hv1 hv2 hv3
      subst hv1
      have c0 := hcs 0 _ rfl
      have c1 := hcs 1 _ rfl
      have c2 := hcs 2 _ rfl
      have c3 := hcs 3 _ rfl
      dsimp only [Nat.add_zero] at c0 c1 c2 c3
      have j0 : (0 : Int) ≤ (j : Int) := by omega
      have j1 : (j : Int) < (n : Int) := by omega
      have HX := hid hx
      have HCL := hid (brings_any x0 x1 x2 x3 wr)
      obtain ⟨z, hz⟩ : ∃ z, z = (fun x : Wt => !(x.v == 0)) ⟨x0, x1, x2, x3⟩ := ⟨_, rfl⟩
      have HZ := hid hz
      dsimp only at hz
      rw [← hz] at HCL
      clear hcs hv2 hv3 hx hgl hz
      cases z with
      | true =>
        have HI := hid (show decide ((0 : Int) ≤ (j : Int)) = ws.any (fun x : Wt => !(x.v == 0)) from by
          rw [decide_eq_true j0]
          exact (List.any_eq_true.2 ⟨_, List.mem_of_getElem? HX.out, HZ.out.symm⟩).symm)
        go_wp2_with (go_at_call 47; refine HCL.out.mono ?_; rintro e w5 ⟨rfl, g5⟩; have G5 := hid (Gr.trans HG.out g5); clear g5)
        go_ret
        exact ⟨_, rfl, HI.out, G5.out⟩
      | false =>
        go_wp2_with (go_at_call 47; refine HCL.out.mono ?_; rintro e w5 ⟨rfl, g5⟩; have G5 := hid (Gr.trans HG.out g5); clear g5)
        go_roundg (gk - 1)
        case measure => omega
        case rel => exact ⟨j + 1, by omega, by simp, (fun y hy => by
          rw [take_one HX.out, List.mem_append] at hy
          rcases hy with hy | hy
          · exact HN.out y hy
          · simp only [List.mem_cons, List.not_mem_nil, or_false] at hy
            rw [hy]
            exact HZ.out.symm), G5.out⟩
    · have jn : ¬ (j : Int) < (n : Int) := by omega
      have HI := hid (show decide ((0 : Int) ≤ -1) = ws.any (fun x : Wt => !(x.v == 0)) from by
        rw [show decide ((0 : Int) ≤ -1) = false from rfl]
        exact (List.any_eq_false.2 (fun x hx => by have := HN.out x (by rw [List.take_of_length_le (by rw [← HL.out]; omega)]; exact hx); simp only [this]; simp)).symm)
      go_wp2
      go_ret
      exact ⟨_, rfl, HI.out, HG.out⟩
theorem contains_some (P : Nat → Prop) (w : World) (ao : Option Addr) (n cap : Nat) (ws : List Wt) (h : Ls eW P w (.slice ao n cap) ws) (hn : n ≤ 4398046511104) : Calls Try.prog 46 #[.slice ao n cap, .func (.func 47) #[] #[]] w fun e w' => e = .returned (.bool (ws.any (fun x : Wt => !(x.v == 0)))) ∧ Gr w w' := by
  have HI := hid (index_some P w ao n cap ws h hn )
  clear h
  go_enter Try.func46, Try.ntmps46
  go_wp2_with (go_at_call 60; refine HI.out.mono ?_; rintro e w5 ⟨r, rfl, hr, g5⟩; have HR := hid hr; have G5 := hid g5; clear hr g5)
  go_ret
  exact ⟨by rw [← HR.out]; try rfl, G5.out⟩
theorem ofone_any (P : Nat → Prop) (w : World) (ao : Option Addr) (n cap : Nat) (ws : List Wt) (s g : Int) (h : Ls eW P w (.slice ao n cap) ws) (hn : n ≤ 4398046511104) : Calls Try.prog 59 #[.slice ao n cap, .agg #[.int .i64 s, .int .i64 g]] w fun e w' => e = .returned (.bool (ws.all (isG s g))) ∧ Gr w w' := by
  have GA := hid (show Gr w (w.alloc (.cells #[.int .i64 s, .int .i64 g] 24)) from Ch.alloc (Gr.refl w) _)
  have HC := hid (contains_one P (w.alloc (.cells #[.int .i64 s, .int .i64 g] 24)) ao n cap ws s g w.heap.size (h.gr GA.out) hn (MapKept.heap_alloc w _).1)
  have HA := hid (show (!(ws.any (fun x : Wt => !isG s g x))) = ws.all (isG s g) from by rw [List.not_any_eq_all_not]; simp)
  clear h
  generalize ws.any (fun x : Wt => !isG s g x) = z at HC HA
  generalize ws.all (isG s g) = y at HA ⊢
  cases z <;> (
    go_enter Try.func59, Try.ntmps59
    go_wp2_with (go_at_call 46; refine HC.out.mono ?_; rintro e w5 ⟨rfl, g5⟩; have G5 := hid (Gr.trans GA.out g5); clear g5)
    go_ret
    exact ⟨by rw [← HA.out]; try rfl, G5.out⟩)
end Go.Proofs.Ytalmiphddgmfbab.Lt

namespace Go.Proofs.Ytalmiphddgmfbab.Lt
open Go.RowKit Wd
attribute [local go_sem ↓] Go.wp_at_zero Go.wp_at_succ

/-- do those that wait have something to wait for? -/
def wmB (cp : Int) (vs : List Int) (ss rs : List Wt) (cl : Bool) : Bool := if cl = true then (decide (ss.length = 0) && decide (rs.length = 0)) else if (0 < ss.length ∧ (vs.length : Int) ≠ cp) ∨ (0 < rs.length ∧ vs.length ≠ 0) then false else alB ss rs
structure Sb (w : World) (R : Array Value) (W : World) : Prop where
  g : Gr w W
  bx : W.heap[w.heap.size]? = some (.cells R 70 (0, 0))
theorem Sb.gr {w W W' : World} {R : Array Value} (h : Sb w R W) (k : Gr W W') : Sb w R W' := ⟨Gr.trans h.g k, gr_blk h.bx k⟩
set_option maxHeartbeats 8000000 in
set_option maxRecDepth 20000 in
theorem wmay_any (P : Nat → Prop) (w : World) (cp : Int) (vo so ro : Option Addr) (vn vc sn sc rn rc : Nat) (cl : Bool) (vs : List Int) (ss rs : List Wt) (hvl : vn = vs.length) (hs : Ls eW P w (.slice so sn sc) ss) (hr : Ls eW P w (.slice ro rn rc) rs) (hb : sn ≤ 4398046511104 ∧ rn ≤ 4398046511104) :
    Calls Try.prog 45 #[.agg #[.int .i64 cp, .slice vo vn vc, .slice so sn sc, .slice ro rn rc, .bool cl]] w fun e w' => e = .returned (.bool (wmB cp vs ss rs cl)) ∧ Gr w w' := by
  have HSL := hid hs.len.1
  have HRL := hid hr.len.1
  have HVL := hid hvl
  have HS := hid hs
  have HR := hid hr
  have HB := hid hb
  clear hs hr hvl hb
  by_cases s0 : sn = 0
  · subst s0
    by_cases r0 : rn = 0
    · subst r0
      cases cl with
      | true =>
        have es : ss = [] := List.length_eq_zero_iff.1 HSL.out.symm
        have er : rs = [] := List.length_eq_zero_iff.1 HRL.out.symm
        obtain ⟨W0, hW0⟩ : ∃ W, W = w.alloc (.cells #[.int .i64 cp, .slice vo vn vc, .slice so 0 sc, .slice ro 0 rc, .bool true] 70) := ⟨_, rfl⟩
        have G1 := hid (show Gr w W0 from by rw [hW0]; exact Ch.alloc (Gr.refl w) _)
        have BX := hid (show W0.heap[w.heap.size]? = some (.cells #[.int .i64 cp, .slice vo vn vc, .slice so 0 sc, .slice ro 0 rc, .bool true] 70 (0, 0)) from by rw [hW0]; exact (MapKept.heap_alloc w _).1)
        have HV := hid (show wmB cp vs ss rs true = true from by unfold wmB; rw [es, er]; rfl)
        go_enter Try.func45, Try.ntmps45
        go_upto_region 1 with fail
        rw [← hW0]
        clear hW0
        obtain ⟨p0, p1, p2, p3, p4⟩ := five_cells BX.out
        have lB := lt_of_block BX.out
        go_quiet (fail)
        go_wp2_with fail
        go_ret
        exact ⟨by rw [HV.out]; try rfl, Ch.drewN G1.out _⟩
      | false =>
        have es : ss = [] := List.length_eq_zero_iff.1 HSL.out.symm
        have er : rs = [] := List.length_eq_zero_iff.1 HRL.out.symm
        obtain ⟨W0, hW0⟩ : ∃ W, W = w.alloc (.cells #[.int .i64 cp, .slice vo vn vc, .slice so 0 sc, .slice ro 0 rc, .bool false] 70) := ⟨_, rfl⟩
        have G1 := hid (show Gr w W0 from by rw [hW0]; exact Ch.alloc (Gr.refl w) _)
        have BX := hid (show W0.heap[w.heap.size]? = some (.cells #[.int .i64 cp, .slice vo vn vc, .slice so 0 sc, .slice ro 0 rc, .bool false] 70 (0, 0)) from by rw [hW0]; exact (MapKept.heap_alloc w _).1)
        have HV := hid (show wmB cp vs ss rs false = true from by unfold wmB; rw [es, er]; simp [alB])
        go_enter Try.func45, Try.ntmps45
        go_upto_region 1 with fail
        rw [← hW0]
        clear hW0
        obtain ⟨p0, p1, p2, p3, p4⟩ := five_cells BX.out
        have lB := lt_of_block BX.out
        go_quiet (fail)
        go_upto_region 7 with fail
        clear p0 p1 p2 p3 p4 lB
        have hS0 : Sb w #[.int .i64 cp, .slice vo vn vc, .slice so 0 sc, .slice ro 0 rc, .bool false] (World.drew (W0.drewN nq)) := ⟨Ch.drew (Ch.drewN G1.out _), BX.out⟩
        refine wp_region_held_drew (S := Sb w #[.int .i64 cp, .slice vo vn vc, .slice so 0 sc, .slice ro 0 rc, .bool false]) (by kernel_rfl) (by exact hS0) (fun _ => ?_)
        generalize World.drew (W0.drewN nq) = V0 at hS0 ⊢
        refine takeS_on (i := 0) 39 (v := ?hv1) rfl rfl (by kernel_rfl) (by kernel_rfl) (by kernel_rfl) (fun _ _ _ h => h) (by kernel_rfl) ?hh1 (by exact hS0) ?_
        case hh1 => (intro w' hSw; go_simp; try (with_reducible rfl))
        simp only [Act.put, List.setIfInBounds_toArray, List.set_cons_zero, List.set_cons_succ]
        refine takeS_on (i := 1) 40 (v := ?hv2) rfl rfl (by kernel_rfl) (by kernel_rfl) (by kernel_rfl) (fun _ _ _ h => h) (by kernel_rfl) ?hh2 (by exact hS0) ?_
        case hh2 => (intro w' hSw; go_simp; try (with_reducible rfl))
        simp only [Act.put, List.setIfInBounds_toArray, List.set_cons_zero, List.set_cons_succ]
        refine takeS_on (i := 2) 41 (v := ?hv3) rfl rfl (by kernel_rfl) (by kernel_rfl) (by kernel_rfl) (fun _ _ _ h => h) (by kernel_rfl) ?hh3 (by exact hS0) ?_
        case hh3 => (intro w' hSw; go_simp; try (with_reducible rfl))
        simp only [Act.put, List.setIfInBounds_toArray, List.set_cons_zero, List.set_cons_succ]
        refine skipS_on (i := 3) 42 rfl rfl (by kernel_rfl) (by kernel_rfl) (by kernel_rfl) (fun _ _ _ h => h) (by kernel_rfl) (by exact hS0) ?_
        simp only [Act.put, List.setIfInBounds_toArray, List.set_cons_zero, List.set_cons_succ]
        refine skipS_on (i := 4) 43 rfl rfl (by kernel_rfl) (by kernel_rfl) (by kernel_rfl) (fun _ _ _ h => h) (by kernel_rfl) (by exact hS0) ?_
        simp only [Act.put, List.setIfInBounds_toArray, List.set_cons_zero, List.set_cons_succ]
        refine takeS_on (i := 5) 44 (v := ?hv6) rfl rfl (by kernel_rfl) (by kernel_rfl) (by kernel_rfl) (fun _ _ _ h => h) (by kernel_rfl) ?hh6 (by exact hS0) ?_
        case hh6 => (intro w' hSw; go_simp; try (with_reducible rfl))
        simp only [Act.put, List.setIfInBounds_toArray, List.set_cons_zero, List.set_cons_succ]
        refine takeS_on (i := 6) 45 (v := ?hv7) rfl rfl (by kernel_rfl) (by kernel_rfl) (by kernel_rfl) (fun _ _ _ h => h) (by kernel_rfl) ?hh7 (by exact hS0) ?_
        case hh7 => (intro w' hSw; go_simp; try (with_reducible rfl))
        simp only [Act.put, List.setIfInBounds_toArray, List.set_cons_zero, List.set_cons_succ]
        refine skipS_on (i := 7) 46 rfl rfl (by kernel_rfl) (by kernel_rfl) (by kernel_rfl) (fun _ _ _ h => h) (by kernel_rfl) (by exact hS0) ?_
        simp only [Act.put, List.setIfInBounds_toArray, List.set_cons_zero, List.set_cons_succ]
        refine skipS_on (i := 8) 47 rfl rfl (by kernel_rfl) (by kernel_rfl) (by kernel_rfl) (fun _ _ _ h => h) (by kernel_rfl) (by exact hS0) ?_
        simp only [Act.put, List.setIfInBounds_toArray, List.set_cons_zero, List.set_cons_succ]
        refine skipS_on (i := 9) 48 rfl rfl (by kernel_rfl) (by kernel_rfl) (by kernel_rfl) (fun _ _ _ h => h) (by kernel_rfl) (by exact hS0) ?_
        simp only [Act.put, List.setIfInBounds_toArray, List.set_cons_zero, List.set_cons_succ]
        refine skipS_on (i := 10) 49 rfl rfl (by kernel_rfl) (by kernel_rfl) (by kernel_rfl) (fun _ _ _ h => h) (by kernel_rfl) (by exact hS0) ?_
        simp only [Act.put, List.setIfInBounds_toArray, List.set_cons_zero, List.set_cons_succ]
        refine skipS_on (i := 11) 50 rfl rfl (by kernel_rfl) (by kernel_rfl) (by kernel_rfl) (fun _ _ _ h => h) (by kernel_rfl) (by exact hS0) ?_
        simp only [Act.put, List.setIfInBounds_toArray, List.set_cons_zero, List.set_cons_succ]
        refine skipS_on (i := 12) 51 rfl rfl (by kernel_rfl) (by kernel_rfl) (by kernel_rfl) (fun _ _ _ h => h) (by kernel_rfl) (by exact hS0) ?_
        simp only [Act.put, List.setIfInBounds_toArray, List.set_cons_zero, List.set_cons_succ]
        refine skipS_on (i := 13) 52 rfl rfl (by kernel_rfl) (by kernel_rfl) (by kernel_rfl) (fun _ _ _ h => h) (by kernel_rfl) (by exact hS0) ?_
        simp only [Act.put, List.setIfInBounds_toArray, List.set_cons_zero, List.set_cons_succ]
        refine skipS_on (i := 14) 53 rfl rfl (by kernel_rfl) (by kernel_rfl) (by kernel_rfl) (fun _ _ _ h => h) (by kernel_rfl) (by exact hS0) ?_
        simp only [Act.put, List.setIfInBounds_toArray, List.set_cons_zero, List.set_cons_succ]
        refine skipS_on (i := 15) 54 rfl rfl (by kernel_rfl) (by kernel_rfl) (by kernel_rfl) (fun _ _ _ h => h) (by kernel_rfl) (by exact hS0) ?_
        simp only [Act.put, List.setIfInBounds_toArray, List.set_cons_zero, List.set_cons_succ]
        refine skipS_on (i := 16) 55 rfl rfl (by kernel_rfl) (by kernel_rfl) (by kernel_rfl) (fun _ _ _ h => h) (by kernel_rfl) (by exact hS0) ?_
        simp only [Act.put, List.setIfInBounds_toArray, List.set_cons_zero, List.set_cons_succ]
        refine skipS_on (i := 17) 56 rfl rfl (by kernel_rfl) (by kernel_rfl) (by kernel_rfl) (fun _ _ _ h => h) (by kernel_rfl) (by exact hS0) ?_
        simp only [Act.put, List.setIfInBounds_toArray, List.set_cons_zero, List.set_cons_succ]
        refine skipS_on (i := 18) 57 rfl rfl (by kernel_rfl) (by kernel_rfl) (by kernel_rfl) (fun _ _ _ h => h) (by kernel_rfl) (by exact hS0) ?_
        simp only [Act.put, List.setIfInBounds_toArray, List.set_cons_zero, List.set_cons_succ]
        refine skipS_on (i := 19) 58 rfl rfl (by kernel_rfl) (by kernel_rfl) (by kernel_rfl) (fun _ _ _ h => h) (by kernel_rfl) (by exact hS0) ?_
        simp only [Act.put, List.setIfInBounds_toArray, List.set_cons_zero, List.set_cons_succ]
        refine skipS_on (i := 20) 59 rfl rfl (by kernel_rfl) (by kernel_rfl) (by kernel_rfl) (fun _ _ _ h => h) (by kernel_rfl) (by exact hS0) ?_
        simp only [Act.put, List.setIfInBounds_toArray, List.set_cons_zero, List.set_cons_succ]
        refine skipS_on (i := 21) 60 rfl rfl (by kernel_rfl) (by kernel_rfl) (by kernel_rfl) (fun _ _ _ h => h) (by kernel_rfl) (by exact hS0) ?_
        simp only [Act.put, List.setIfInBounds_toArray, List.set_cons_zero, List.set_cons_succ]
        refine skipS_on (i := 22) 61 rfl rfl (by kernel_rfl) (by kernel_rfl) (by kernel_rfl) (fun _ _ _ h => h) (by kernel_rfl) (by exact hS0) ?_
        simp only [Act.put, List.setIfInBounds_toArray, List.set_cons_zero, List.set_cons_succ]
        refine skipS_on (i := 23) 62 rfl rfl (by kernel_rfl) (by kernel_rfl) (by kernel_rfl) (fun _ _ _ h => h) (by kernel_rfl) (by exact hS0) ?_
        simp only [Act.put, List.setIfInBounds_toArray, List.set_cons_zero, List.set_cons_succ]
        refine skipS_on (i := 24) 63 rfl rfl (by kernel_rfl) (by kernel_rfl) (by kernel_rfl) (fun _ _ _ h => h) (by kernel_rfl) (by exact hS0) ?_
        simp only [Act.put, List.setIfInBounds_toArray, List.set_cons_zero, List.set_cons_succ]
        refine takeS_on (i := 25) 64 (v := ?hv26) rfl rfl (by kernel_rfl) (by kernel_rfl) (by kernel_rfl) (fun _ _ _ h => h) (by kernel_rfl) ?hh26 (by exact hS0) ?_
        case hh26 => (intro w' hSw; go_simp; try (with_reducible rfl))
        simp only [Act.put, List.setIfInBounds_toArray, List.set_cons_zero, List.set_cons_succ]
        refine takeS_on (i := 26) 2 (v := ?hv27) rfl rfl (by kernel_rfl) (by kernel_rfl) (by kernel_rfl) (fun _ _ _ h => h) (by kernel_rfl) ?hh27 (by exact hS0) ?_
        case hh27 => (intro w' hSw; go_simp; try (with_reducible rfl))
        simp only [Act.put, List.setIfInBounds_toArray, List.set_cons_zero, List.set_cons_succ]
        refine wpAnyH_done (by kernel_rfl) ?_ _
        go_wp2_with fail
        go_ret
        exact ⟨by rw [HV.out]; try rfl, hS0.g⟩
    · cases cl with
      | true =>
        have es : ss = [] := List.length_eq_zero_iff.1 HSL.out.symm
        have b1 : (0 : Int) < (rn : Int) := by omega
        have b2 : decide ((0 : Int) < (rn : Int)) = true := decide_eq_true b1
        have b3 : 0 < rs.length := by have := HRL.out; omega
        have b4 : 0 < rn := by omega
        have b5 : decide (0 < rn) = true := decide_eq_true b4
        obtain ⟨W0, hW0⟩ : ∃ W, W = w.alloc (.cells #[.int .i64 cp, .slice vo vn vc, .slice so 0 sc, .slice ro rn rc, .bool true] 70) := ⟨_, rfl⟩
        have G1 := hid (show Gr w W0 from by rw [hW0]; exact Ch.alloc (Gr.refl w) _)
        have BX := hid (show W0.heap[w.heap.size]? = some (.cells #[.int .i64 cp, .slice vo vn vc, .slice so 0 sc, .slice ro rn rc, .bool true] 70 (0, 0)) from by rw [hW0]; exact (MapKept.heap_alloc w _).1)
        have HV := hid (show wmB cp vs ss rs true = false from by unfold wmB; rw [if_pos rfl, decide_eq_false (show ¬ rs.length = 0 by omega), Bool.and_false])
        go_enter Try.func45, Try.ntmps45
        go_upto_region 1 with fail
        rw [← hW0]
        clear hW0
        obtain ⟨p0, p1, p2, p3, p4⟩ := five_cells BX.out
        have lB := lt_of_block BX.out
        go_quiet (fail)
        go_wp2_with fail
        go_ret
        exact ⟨by rw [HV.out]; try rfl, Ch.drewN G1.out _⟩
      | false =>
        by_cases v0 : vn = 0
        · subst v0
          have es : ss = [] := List.length_eq_zero_iff.1 HSL.out.symm
          have b1 : (0 : Int) < (rn : Int) := by omega
          have b2 : decide ((0 : Int) < (rn : Int)) = true := decide_eq_true b1
          have b3 : 0 < rs.length := by have := HRL.out; omega
          have b4 : 0 < rn := by omega
          have b5 : decide (0 < rn) = true := decide_eq_true b4
          obtain ⟨W0, hW0⟩ : ∃ W, W = w.alloc (.cells #[.int .i64 cp, .slice vo 0 vc, .slice so 0 sc, .slice ro rn rc, .bool false] 70) := ⟨_, rfl⟩
          have G1 := hid (show Gr w W0 from by rw [hW0]; exact Ch.alloc (Gr.refl w) _)
          have BX := hid (show W0.heap[w.heap.size]? = some (.cells #[.int .i64 cp, .slice vo 0 vc, .slice so 0 sc, .slice ro rn rc, .bool false] 70 (0, 0)) from by rw [hW0]; exact (MapKept.heap_alloc w _).1)
          have HV := hid (show wmB cp vs ss rs false = true from by unfold wmB; rw [if_neg (by simp), if_neg (by rw [es, ← HVL.out]; simp), es]; rfl)
          go_enter Try.func45, Try.ntmps45
          go_upto_region 1 with fail
          rw [← hW0]
          clear hW0
          obtain ⟨p0, p1, p2, p3, p4⟩ := five_cells BX.out
          have lB := lt_of_block BX.out
          go_quiet (fail)
          go_upto_region 7 with fail
          clear p0 p1 p2 p3 p4 lB
          have hS0 : Sb w #[.int .i64 cp, .slice vo 0 vc, .slice so 0 sc, .slice ro rn rc, .bool false] (World.drew (W0.drewN nq)) := ⟨Ch.drew (Ch.drewN G1.out _), BX.out⟩
          refine wp_region_held_drew (S := Sb w #[.int .i64 cp, .slice vo 0 vc, .slice so 0 sc, .slice ro rn rc, .bool false]) (by kernel_rfl) (by exact hS0) (fun _ => ?_)
          generalize World.drew (W0.drewN nq) = V0 at hS0 ⊢
          refine takeS_on (i := 0) 39 (v := ?hv28) rfl rfl (by kernel_rfl) (by kernel_rfl) (by kernel_rfl) (fun _ _ _ h => h) (by kernel_rfl) ?hh28 (by exact hS0) ?_
          case hh28 => (intro w' hSw; go_simp; try (with_reducible rfl))
          simp only [Act.put, List.setIfInBounds_toArray, List.set_cons_zero, List.set_cons_succ]
          refine takeS_on (i := 1) 40 (v := ?hv29) rfl rfl (by kernel_rfl) (by kernel_rfl) (by kernel_rfl) (fun _ _ _ h => h) (by kernel_rfl) ?hh29 (by exact hS0) ?_
          case hh29 => (intro w' hSw; go_simp; try (with_reducible rfl))
          simp only [Act.put, List.setIfInBounds_toArray, List.set_cons_zero, List.set_cons_succ]
          refine takeS_on (i := 2) 41 (v := ?hv30) rfl rfl (by kernel_rfl) (by kernel_rfl) (by kernel_rfl) (fun _ _ _ h => h) (by kernel_rfl) ?hh30 (by exact hS0) ?_
          case hh30 => (intro w' hSw; go_simp; try (with_reducible rfl))
          simp only [Act.put, List.setIfInBounds_toArray, List.set_cons_zero, List.set_cons_succ]
          refine skipS_on (i := 3) 42 rfl rfl (by kernel_rfl) (by kernel_rfl) (by kernel_rfl) (fun _ _ _ h => h) (by kernel_rfl) (by exact hS0) ?_
          simp only [Act.put, List.setIfInBounds_toArray, List.set_cons_zero, List.set_cons_succ]
          refine skipS_on (i := 4) 43 rfl rfl (by kernel_rfl) (by kernel_rfl) (by kernel_rfl) (fun _ _ _ h => h) (by kernel_rfl) (by exact hS0) ?_
          simp only [Act.put, List.setIfInBounds_toArray, List.set_cons_zero, List.set_cons_succ]
          refine takeS_on (i := 5) 44 (v := ?hv33) rfl rfl (by kernel_rfl) (by kernel_rfl) (by kernel_rfl) (fun _ _ _ h => h) (by kernel_rfl) ?hh33 (by exact hS0) ?_
          case hh33 => (intro w' hSw; go_simp; try (with_reducible rfl))
          simp only [Act.put, List.setIfInBounds_toArray, List.set_cons_zero, List.set_cons_succ]
          refine takeS_on (i := 6) 45 (v := ?hv34) rfl rfl (by kernel_rfl) (by kernel_rfl) (by kernel_rfl) (fun _ _ _ h => h) (by kernel_rfl) ?hh34 (by exact hS0) ?_
          case hh34 => (intro w' hSw; go_simp; try (with_reducible rfl))
          simp only [Act.put, List.setIfInBounds_toArray, List.set_cons_zero, List.set_cons_succ]
          refine skipS_on (i := 7) 46 rfl rfl (by kernel_rfl) (by kernel_rfl) (by kernel_rfl) (fun _ _ _ h => h) (by kernel_rfl) (by exact hS0) ?_
          simp only [Act.put, List.setIfInBounds_toArray, List.set_cons_zero, List.set_cons_succ]
          refine skipS_on (i := 8) 47 rfl rfl (by kernel_rfl) (by kernel_rfl) (by kernel_rfl) (fun _ _ _ h => h) (by kernel_rfl) (by exact hS0) ?_
          simp only [Act.put, List.setIfInBounds_toArray, List.set_cons_zero, List.set_cons_succ]
          refine skipS_on (i := 9) 48 rfl rfl (by kernel_rfl) (by kernel_rfl) (by kernel_rfl) (fun _ _ _ h => h) (by kernel_rfl) (by exact hS0) ?_
          simp only [Act.put, List.setIfInBounds_toArray, List.set_cons_zero, List.set_cons_succ]
          refine skipS_on (i := 10) 49 rfl rfl (by kernel_rfl) (by kernel_rfl) (by kernel_rfl) (fun _ _ _ h => h) (by kernel_rfl) (by exact hS0) ?_
          simp only [Act.put, List.setIfInBounds_toArray, List.set_cons_zero, List.set_cons_succ]
          refine skipS_on (i := 11) 50 rfl rfl (by kernel_rfl) (by kernel_rfl) (by kernel_rfl) (fun _ _ _ h => h) (by kernel_rfl) (by exact hS0) ?_
          simp only [Act.put, List.setIfInBounds_toArray, List.set_cons_zero, List.set_cons_succ]
          refine skipS_on (i := 12) 51 rfl rfl (by kernel_rfl) (by kernel_rfl) (by kernel_rfl) (fun _ _ _ h => h) (by kernel_rfl) (by exact hS0) ?_
          simp only [Act.put, List.setIfInBounds_toArray, List.set_cons_zero, List.set_cons_succ]
          refine skipS_on (i := 13) 52 rfl rfl (by kernel_rfl) (by kernel_rfl) (by kernel_rfl) (fun _ _ _ h => h) (by kernel_rfl) (by exact hS0) ?_
          simp only [Act.put, List.setIfInBounds_toArray, List.set_cons_zero, List.set_cons_succ]
          refine skipS_on (i := 14) 53 rfl rfl (by kernel_rfl) (by kernel_rfl) (by kernel_rfl) (fun _ _ _ h => h) (by kernel_rfl) (by exact hS0) ?_
          simp only [Act.put, List.setIfInBounds_toArray, List.set_cons_zero, List.set_cons_succ]
          refine skipS_on (i := 15) 54 rfl rfl (by kernel_rfl) (by kernel_rfl) (by kernel_rfl) (fun _ _ _ h => h) (by kernel_rfl) (by exact hS0) ?_
          simp only [Act.put, List.setIfInBounds_toArray, List.set_cons_zero, List.set_cons_succ]
          refine skipS_on (i := 16) 55 rfl rfl (by kernel_rfl) (by kernel_rfl) (by kernel_rfl) (fun _ _ _ h => h) (by kernel_rfl) (by exact hS0) ?_
          simp only [Act.put, List.setIfInBounds_toArray, List.set_cons_zero, List.set_cons_succ]
          refine skipS_on (i := 17) 56 rfl rfl (by kernel_rfl) (by kernel_rfl) (by kernel_rfl) (fun _ _ _ h => h) (by kernel_rfl) (by exact hS0) ?_
          simp only [Act.put, List.setIfInBounds_toArray, List.set_cons_zero, List.set_cons_succ]
          refine skipS_on (i := 18) 57 rfl rfl (by kernel_rfl) (by kernel_rfl) (by kernel_rfl) (fun _ _ _ h => h) (by kernel_rfl) (by exact hS0) ?_
          simp only [Act.put, List.setIfInBounds_toArray, List.set_cons_zero, List.set_cons_succ]
          refine skipS_on (i := 19) 58 rfl rfl (by kernel_rfl) (by kernel_rfl) (by kernel_rfl) (fun _ _ _ h => h) (by kernel_rfl) (by exact hS0) ?_
          simp only [Act.put, List.setIfInBounds_toArray, List.set_cons_zero, List.set_cons_succ]
          refine skipS_on (i := 20) 59 rfl rfl (by kernel_rfl) (by kernel_rfl) (by kernel_rfl) (fun _ _ _ h => h) (by kernel_rfl) (by exact hS0) ?_
          simp only [Act.put, List.setIfInBounds_toArray, List.set_cons_zero, List.set_cons_succ]
          refine skipS_on (i := 21) 60 rfl rfl (by kernel_rfl) (by kernel_rfl) (by kernel_rfl) (fun _ _ _ h => h) (by kernel_rfl) (by exact hS0) ?_
          simp only [Act.put, List.setIfInBounds_toArray, List.set_cons_zero, List.set_cons_succ]
          refine skipS_on (i := 22) 61 rfl rfl (by kernel_rfl) (by kernel_rfl) (by kernel_rfl) (fun _ _ _ h => h) (by kernel_rfl) (by exact hS0) ?_
          simp only [Act.put, List.setIfInBounds_toArray, List.set_cons_zero, List.set_cons_succ]
          refine skipS_on (i := 23) 62 rfl rfl (by kernel_rfl) (by kernel_rfl) (by kernel_rfl) (fun _ _ _ h => h) (by kernel_rfl) (by exact hS0) ?_
          simp only [Act.put, List.setIfInBounds_toArray, List.set_cons_zero, List.set_cons_succ]
          refine skipS_on (i := 24) 63 rfl rfl (by kernel_rfl) (by kernel_rfl) (by kernel_rfl) (fun _ _ _ h => h) (by kernel_rfl) (by exact hS0) ?_
          simp only [Act.put, List.setIfInBounds_toArray, List.set_cons_zero, List.set_cons_succ]
          refine takeS_on (i := 25) 64 (v := ?hv53) rfl rfl (by kernel_rfl) (by kernel_rfl) (by kernel_rfl) (fun _ _ _ h => h) (by kernel_rfl) ?hh53 (by exact hS0) ?_
          case hh53 => (intro w' hSw; go_simp; try (with_reducible rfl))
          simp only [Act.put, List.setIfInBounds_toArray, List.set_cons_zero, List.set_cons_succ]
          refine takeS_on (i := 26) 2 (v := ?hv54) rfl rfl (by kernel_rfl) (by kernel_rfl) (by kernel_rfl) (fun _ _ _ h => h) (by kernel_rfl) ?hh54 (by exact hS0) ?_
          case hh54 => (intro w' hSw; go_simp; try (with_reducible rfl))
          simp only [Act.put, List.setIfInBounds_toArray, List.set_cons_zero, List.set_cons_succ]
          refine wpAnyH_done (by kernel_rfl) ?_ _
          go_wp2_with fail
          go_ret
          exact ⟨by rw [HV.out]; try rfl, hS0.g⟩
        · skip
          have es : ss = [] := List.length_eq_zero_iff.1 HSL.out.symm
          have b1 : (0 : Int) < (rn : Int) := by omega
          have b2 : decide ((0 : Int) < (rn : Int)) = true := decide_eq_true b1
          have b3 : 0 < rs.length := by have := HRL.out; omega
          have b4 : 0 < rn := by omega
          have b5 : decide (0 < rn) = true := decide_eq_true b4
          have v1 : ((vn : Int) == 0) = false := by simp; omega
          have v2 : ¬ (vn : Int) = 0 := by omega
          obtain ⟨W0, hW0⟩ : ∃ W, W = w.alloc (.cells #[.int .i64 cp, .slice vo vn vc, .slice so 0 sc, .slice ro rn rc, .bool false] 70) := ⟨_, rfl⟩
          have G1 := hid (show Gr w W0 from by rw [hW0]; exact Ch.alloc (Gr.refl w) _)
          have BX := hid (show W0.heap[w.heap.size]? = some (.cells #[.int .i64 cp, .slice vo vn vc, .slice so 0 sc, .slice ro rn rc, .bool false] 70 (0, 0)) from by rw [hW0]; exact (MapKept.heap_alloc w _).1)
          have HV := hid (show wmB cp vs ss rs false = false from by unfold wmB; rw [if_neg (by simp), if_pos (.inr ⟨b3, by have := HVL.out; omega⟩)])
          go_enter Try.func45, Try.ntmps45
          go_upto_region 1 with fail
          rw [← hW0]
          clear hW0
          obtain ⟨p0, p1, p2, p3, p4⟩ := five_cells BX.out
          have lB := lt_of_block BX.out
          go_quiet (fail)
          go_wp2_with fail
          go_ret
          exact ⟨by rw [HV.out]; try rfl, Ch.drewN G1.out _⟩
  · by_cases r0 : rn = 0
    · subst r0
      cases cl with
      | true =>
        have a1 : (0 : Int) < (sn : Int) := by omega
        have a2 : decide ((0 : Int) < (sn : Int)) = true := decide_eq_true a1
        have a3 : 0 < ss.length := by have := HSL.out; omega
        have a4 : 0 < sn := by omega
        have a5 : decide (0 < sn) = true := decide_eq_true a4
        have er : rs = [] := List.length_eq_zero_iff.1 HRL.out.symm
        obtain ⟨W0, hW0⟩ : ∃ W, W = w.alloc (.cells #[.int .i64 cp, .slice vo vn vc, .slice so sn sc, .slice ro 0 rc, .bool true] 70) := ⟨_, rfl⟩
        have G1 := hid (show Gr w W0 from by rw [hW0]; exact Ch.alloc (Gr.refl w) _)
        have BX := hid (show W0.heap[w.heap.size]? = some (.cells #[.int .i64 cp, .slice vo vn vc, .slice so sn sc, .slice ro 0 rc, .bool true] 70 (0, 0)) from by rw [hW0]; exact (MapKept.heap_alloc w _).1)
        have HV := hid (show wmB cp vs ss rs true = false from by unfold wmB; rw [if_pos rfl, decide_eq_false (show ¬ ss.length = 0 by omega), Bool.false_and])
        go_enter Try.func45, Try.ntmps45
        go_upto_region 1 with fail
        rw [← hW0]
        clear hW0
        obtain ⟨p0, p1, p2, p3, p4⟩ := five_cells BX.out
        have lB := lt_of_block BX.out
        go_quiet (fail)
        go_wp2_with fail
        go_ret
        exact ⟨by rw [HV.out]; try rfl, Ch.drewN G1.out _⟩
      | false =>
        by_cases vc0 : (vn : Int) = cp
        · subst vc0
          have a1 : (0 : Int) < (sn : Int) := by omega
          have a2 : decide ((0 : Int) < (sn : Int)) = true := decide_eq_true a1
          have a3 : 0 < ss.length := by have := HSL.out; omega
          have a4 : 0 < sn := by omega
          have a5 : decide (0 < sn) = true := decide_eq_true a4
          have er : rs = [] := List.length_eq_zero_iff.1 HRL.out.symm
          obtain ⟨W0, hW0⟩ : ∃ W, W = w.alloc (.cells #[.int .i64 (vn : Int), .slice vo vn vc, .slice so sn sc, .slice ro 0 rc, .bool false] 70) := ⟨_, rfl⟩
          have G1 := hid (show Gr w W0 from by rw [hW0]; exact Ch.alloc (Gr.refl w) _)
          have BX := hid (show W0.heap[w.heap.size]? = some (.cells #[.int .i64 (vn : Int), .slice vo vn vc, .slice so sn sc, .slice ro 0 rc, .bool false] 70 (0, 0)) from by rw [hW0]; exact (MapKept.heap_alloc w _).1)
          have HV := hid (show wmB (vn : Int) vs ss rs false = true from by unfold wmB; rw [if_neg (by simp), if_neg (by rw [er, ← HVL.out]; simp), er]; unfold alB; split <;> rfl)
          go_enter Try.func45, Try.ntmps45
          go_upto_region 1 with fail
          rw [← hW0]
          clear hW0
          obtain ⟨p0, p1, p2, p3, p4⟩ := five_cells BX.out
          have lB := lt_of_block BX.out
          go_quiet (fail)
          go_upto_region 7 with fail
          clear p0 p1 p2 p3 p4 lB
          have hS0 : Sb w #[.int .i64 (vn : Int), .slice vo vn vc, .slice so sn sc, .slice ro 0 rc, .bool false] (World.drew (W0.drewN nq)) := ⟨Ch.drew (Ch.drewN G1.out _), BX.out⟩
          refine wp_region_held_drew (S := Sb w #[.int .i64 (vn : Int), .slice vo vn vc, .slice so sn sc, .slice ro 0 rc, .bool false]) (by kernel_rfl) (by exact hS0) (fun _ => ?_)
          generalize World.drew (W0.drewN nq) = V0 at hS0 ⊢
          refine takeS_on (i := 0) 39 (v := ?hv55) rfl rfl (by kernel_rfl) (by kernel_rfl) (by kernel_rfl) (fun _ _ _ h => h) (by kernel_rfl) ?hh55 (by exact hS0) ?_
          case hh55 => (intro w' hSw; go_simp; try (with_reducible rfl))
          simp only [Act.put, List.setIfInBounds_toArray, List.set_cons_zero, List.set_cons_succ]
          refine takeS_on (i := 1) 40 (v := ?hv56) rfl rfl (by kernel_rfl) (by kernel_rfl) (by kernel_rfl) (fun _ _ _ h => h) (by kernel_rfl) ?hh56 (by exact hS0) ?_
          case hh56 => (intro w' hSw; go_simp; try (with_reducible rfl))
          simp only [Act.put, List.setIfInBounds_toArray, List.set_cons_zero, List.set_cons_succ]
          refine takeS_on (i := 2) 41 (v := ?hv57) rfl rfl (by kernel_rfl) (by kernel_rfl) (by kernel_rfl) (fun _ _ _ h => h) (by kernel_rfl) ?hh57 (by exact hS0) ?_
          case hh57 => (intro w' hSw; go_simp; try (with_reducible rfl))
          simp only [Act.put, List.setIfInBounds_toArray, List.set_cons_zero, List.set_cons_succ]
          refine takeS_on (i := 3) 42 (v := ?hv58) rfl rfl (by kernel_rfl) (by kernel_rfl) (by kernel_rfl) (fun _ _ _ h => h) (by kernel_rfl) ?hh58 (by exact hS0) ?_
          case hh58 => (intro w' hSw; go_simp; try (with_reducible rfl))
          simp only [Act.put, List.setIfInBounds_toArray, List.set_cons_zero, List.set_cons_succ]
          refine takeS_on (i := 4) 43 (v := ?hv59) rfl rfl (by kernel_rfl) (by kernel_rfl) (by kernel_rfl) (fun _ _ _ h => h) (by kernel_rfl) ?hh59 (by exact hS0) ?_
          case hh59 => (intro w' hSw; go_simp; try (with_reducible rfl))
          simp only [Act.put, List.setIfInBounds_toArray, List.set_cons_zero, List.set_cons_succ]
          refine takeS_on (i := 5) 44 (v := ?hv60) rfl rfl (by kernel_rfl) (by kernel_rfl) (by kernel_rfl) (fun _ _ _ h => h) (by kernel_rfl) ?hh60 (by exact hS0) ?_
          case hh60 => (intro w' hSw; go_simp; try (with_reducible rfl))
          simp only [Act.put, List.setIfInBounds_toArray, List.set_cons_zero, List.set_cons_succ]
          refine takeS_on (i := 6) 45 (v := ?hv61) rfl rfl (by kernel_rfl) (by kernel_rfl) (by kernel_rfl) (fun _ _ _ h => h) (by kernel_rfl) ?hh61 (by exact hS0) ?_
          case hh61 => (intro w' hSw; go_simp; try (with_reducible rfl))
          simp only [Act.put, List.setIfInBounds_toArray, List.set_cons_zero, List.set_cons_succ]
          refine skipS_on (i := 7) 46 rfl rfl (by kernel_rfl) (by kernel_rfl) (by kernel_rfl) (fun _ _ _ h => h) (by kernel_rfl) (by exact hS0) ?_
          simp only [Act.put, List.setIfInBounds_toArray, List.set_cons_zero, List.set_cons_succ]
          refine skipS_on (i := 8) 47 rfl rfl (by kernel_rfl) (by kernel_rfl) (by kernel_rfl) (fun _ _ _ h => h) (by kernel_rfl) (by exact hS0) ?_
          simp only [Act.put, List.setIfInBounds_toArray, List.set_cons_zero, List.set_cons_succ]
          refine skipS_on (i := 9) 48 rfl rfl (by kernel_rfl) (by kernel_rfl) (by kernel_rfl) (fun _ _ _ h => h) (by kernel_rfl) (by exact hS0) ?_
          simp only [Act.put, List.setIfInBounds_toArray, List.set_cons_zero, List.set_cons_succ]
          refine skipS_on (i := 10) 49 rfl rfl (by kernel_rfl) (by kernel_rfl) (by kernel_rfl) (fun _ _ _ h => h) (by kernel_rfl) (by exact hS0) ?_
          simp only [Act.put, List.setIfInBounds_toArray, List.set_cons_zero, List.set_cons_succ]
          refine skipS_on (i := 11) 50 rfl rfl (by kernel_rfl) (by kernel_rfl) (by kernel_rfl) (fun _ _ _ h => h) (by kernel_rfl) (by exact hS0) ?_
          simp only [Act.put, List.setIfInBounds_toArray, List.set_cons_zero, List.set_cons_succ]
          refine skipS_on (i := 12) 51 rfl rfl (by kernel_rfl) (by kernel_rfl) (by kernel_rfl) (fun _ _ _ h => h) (by kernel_rfl) (by exact hS0) ?_
          simp only [Act.put, List.setIfInBounds_toArray, List.set_cons_zero, List.set_cons_succ]
          refine skipS_on (i := 13) 52 rfl rfl (by kernel_rfl) (by kernel_rfl) (by kernel_rfl) (fun _ _ _ h => h) (by kernel_rfl) (by exact hS0) ?_
          simp only [Act.put, List.setIfInBounds_toArray, List.set_cons_zero, List.set_cons_succ]
          refine skipS_on (i := 14) 53 rfl rfl (by kernel_rfl) (by kernel_rfl) (by kernel_rfl) (fun _ _ _ h => h) (by kernel_rfl) (by exact hS0) ?_
          simp only [Act.put, List.setIfInBounds_toArray, List.set_cons_zero, List.set_cons_succ]
          refine skipS_on (i := 15) 54 rfl rfl (by kernel_rfl) (by kernel_rfl) (by kernel_rfl) (fun _ _ _ h => h) (by kernel_rfl) (by exact hS0) ?_
          simp only [Act.put, List.setIfInBounds_toArray, List.set_cons_zero, List.set_cons_succ]
          refine skipS_on (i := 16) 55 rfl rfl (by kernel_rfl) (by kernel_rfl) (by kernel_rfl) (fun _ _ _ h => h) (by kernel_rfl) (by exact hS0) ?_
          simp only [Act.put, List.setIfInBounds_toArray, List.set_cons_zero, List.set_cons_succ]
          refine skipS_on (i := 17) 56 rfl rfl (by kernel_rfl) (by kernel_rfl) (by kernel_rfl) (fun _ _ _ h => h) (by kernel_rfl) (by exact hS0) ?_
          simp only [Act.put, List.setIfInBounds_toArray, List.set_cons_zero, List.set_cons_succ]
          refine skipS_on (i := 18) 57 rfl rfl (by kernel_rfl) (by kernel_rfl) (by kernel_rfl) (fun _ _ _ h => h) (by kernel_rfl) (by exact hS0) ?_
          simp only [Act.put, List.setIfInBounds_toArray, List.set_cons_zero, List.set_cons_succ]
          refine skipS_on (i := 19) 58 rfl rfl (by kernel_rfl) (by kernel_rfl) (by kernel_rfl) (fun _ _ _ h => h) (by kernel_rfl) (by exact hS0) ?_
          simp only [Act.put, List.setIfInBounds_toArray, List.set_cons_zero, List.set_cons_succ]
          refine skipS_on (i := 20) 59 rfl rfl (by kernel_rfl) (by kernel_rfl) (by kernel_rfl) (fun _ _ _ h => h) (by kernel_rfl) (by exact hS0) ?_
          simp only [Act.put, List.setIfInBounds_toArray, List.set_cons_zero, List.set_cons_succ]
          refine skipS_on (i := 21) 60 rfl rfl (by kernel_rfl) (by kernel_rfl) (by kernel_rfl) (fun _ _ _ h => h) (by kernel_rfl) (by exact hS0) ?_
          simp only [Act.put, List.setIfInBounds_toArray, List.set_cons_zero, List.set_cons_succ]
          refine skipS_on (i := 22) 61 rfl rfl (by kernel_rfl) (by kernel_rfl) (by kernel_rfl) (fun _ _ _ h => h) (by kernel_rfl) (by exact hS0) ?_
          simp only [Act.put, List.setIfInBounds_toArray, List.set_cons_zero, List.set_cons_succ]
          refine skipS_on (i := 23) 62 rfl rfl (by kernel_rfl) (by kernel_rfl) (by kernel_rfl) (fun _ _ _ h => h) (by kernel_rfl) (by exact hS0) ?_
          simp only [Act.put, List.setIfInBounds_toArray, List.set_cons_zero, List.set_cons_succ]
          refine skipS_on (i := 24) 63 rfl rfl (by kernel_rfl) (by kernel_rfl) (by kernel_rfl) (fun _ _ _ h => h) (by kernel_rfl) (by exact hS0) ?_
          simp only [Act.put, List.setIfInBounds_toArray, List.set_cons_zero, List.set_cons_succ]
          refine takeS_on (i := 25) 64 (v := ?hv80) rfl rfl (by kernel_rfl) (by kernel_rfl) (by kernel_rfl) (fun _ _ _ h => h) (by kernel_rfl) ?hh80 (by exact hS0) ?_
          case hh80 => (intro w' hSw; go_simp; try (with_reducible rfl))
          simp only [Act.put, List.setIfInBounds_toArray, List.set_cons_zero, List.set_cons_succ]
          refine takeS_on (i := 26) 2 (v := ?hv81) rfl rfl (by kernel_rfl) (by kernel_rfl) (by kernel_rfl) (fun _ _ _ h => h) (by kernel_rfl) ?hh81 (by exact hS0) ?_
          case hh81 => (intro w' hSw; go_simp; try (with_reducible rfl))
          simp only [Act.put, List.setIfInBounds_toArray, List.set_cons_zero, List.set_cons_succ]
          refine wpAnyH_done (by kernel_rfl) ?_ _
          go_wp2_with fail
          go_ret
          exact ⟨by rw [HV.out]; try rfl, hS0.g⟩
        · skip
          have a1 : (0 : Int) < (sn : Int) := by omega
          have a2 : decide ((0 : Int) < (sn : Int)) = true := decide_eq_true a1
          have a3 : 0 < ss.length := by have := HSL.out; omega
          have a4 : 0 < sn := by omega
          have a5 : decide (0 < sn) = true := decide_eq_true a4
          have er : rs = [] := List.length_eq_zero_iff.1 HRL.out.symm
          have v1 : ((vn : Int) == cp) = false := by simpa using vc0
          obtain ⟨W0, hW0⟩ : ∃ W, W = w.alloc (.cells #[.int .i64 cp, .slice vo vn vc, .slice so sn sc, .slice ro 0 rc, .bool false] 70) := ⟨_, rfl⟩
          have G1 := hid (show Gr w W0 from by rw [hW0]; exact Ch.alloc (Gr.refl w) _)
          have BX := hid (show W0.heap[w.heap.size]? = some (.cells #[.int .i64 cp, .slice vo vn vc, .slice so sn sc, .slice ro 0 rc, .bool false] 70 (0, 0)) from by rw [hW0]; exact (MapKept.heap_alloc w _).1)
          have HV := hid (show wmB cp vs ss rs false = false from by unfold wmB; rw [if_neg (by simp), if_pos (.inl ⟨a3, by rw [← HVL.out]; exact vc0⟩)])
          go_enter Try.func45, Try.ntmps45
          go_upto_region 1 with fail
          rw [← hW0]
          clear hW0
          obtain ⟨p0, p1, p2, p3, p4⟩ := five_cells BX.out
          have lB := lt_of_block BX.out
          go_quiet (fail)
          go_wp2_with fail
          go_ret
          exact ⟨by rw [HV.out]; try rfl, Ch.drewN G1.out _⟩
    · cases cl with
      | true =>
        have a1 : (0 : Int) < (sn : Int) := by omega
        have a2 : decide ((0 : Int) < (sn : Int)) = true := decide_eq_true a1
        have a3 : 0 < ss.length := by have := HSL.out; omega
        have a4 : 0 < sn := by omega
        have a5 : decide (0 < sn) = true := decide_eq_true a4
        have b1 : (0 : Int) < (rn : Int) := by omega
        have b2 : decide ((0 : Int) < (rn : Int)) = true := decide_eq_true b1
        have b3 : 0 < rs.length := by have := HRL.out; omega
        have b4 : 0 < rn := by omega
        have b5 : decide (0 < rn) = true := decide_eq_true b4
        obtain ⟨W0, hW0⟩ : ∃ W, W = w.alloc (.cells #[.int .i64 cp, .slice vo vn vc, .slice so sn sc, .slice ro rn rc, .bool true] 70) := ⟨_, rfl⟩
        have G1 := hid (show Gr w W0 from by rw [hW0]; exact Ch.alloc (Gr.refl w) _)
        have BX := hid (show W0.heap[w.heap.size]? = some (.cells #[.int .i64 cp, .slice vo vn vc, .slice so sn sc, .slice ro rn rc, .bool true] 70 (0, 0)) from by rw [hW0]; exact (MapKept.heap_alloc w _).1)
        have HV := hid (show wmB cp vs ss rs true = false from by unfold wmB; rw [if_pos rfl, decide_eq_false (show ¬ ss.length = 0 by omega), Bool.false_and])
        go_enter Try.func45, Try.ntmps45
        go_upto_region 1 with fail
        rw [← hW0]
        clear hW0
        obtain ⟨p0, p1, p2, p3, p4⟩ := five_cells BX.out
        have lB := lt_of_block BX.out
        go_quiet (fail)
        go_wp2_with fail
        go_ret
        exact ⟨by rw [HV.out]; try rfl, Ch.drewN G1.out _⟩
      | false =>
        by_cases vc0 : (vn : Int) = cp
        · by_cases v0 : vn = 0
          · subst v0
            obtain rfl : cp = 0 := by simpa using vc0.symm
            clear vc0
            have a1 : (0 : Int) < (sn : Int) := by omega
            have a2 : decide ((0 : Int) < (sn : Int)) = true := decide_eq_true a1
            have a3 : 0 < ss.length := by have := HSL.out; omega
            have a4 : 0 < sn := by omega
            have a5 : decide (0 < sn) = true := decide_eq_true a4
            have b1 : (0 : Int) < (rn : Int) := by omega
            have b2 : decide ((0 : Int) < (rn : Int)) = true := decide_eq_true b1
            have b3 : 0 < rs.length := by have := HRL.out; omega
            have b4 : 0 < rn := by omega
            have b5 : decide (0 < rn) = true := decide_eq_true b4
            obtain ⟨x, sr, ex⟩ : ∃ x sr, ss = x :: sr := by
              cases ss with
              | nil => simp at a3
              | cons x sr => exact ⟨x, sr, rfl⟩
            obtain ⟨y, rr, ey⟩ : ∃ y rr, rs = y :: rr := by
              cases rs with
              | nil => simp at b3
              | cons y rr => exact ⟨y, rr, rfl⟩
            obtain ⟨gs, os, ks, eso, -, hgs, -, hcs⟩ := (HS.out).get eW_len (i := 0) (a := x) (by rw [ex]; rfl)
            injection eso with eso es2 es3
            subst eso
            clear es2 es3
            have q0 := hcs 0 _ rfl
            have q1 := hcs 1 _ rfl
            simp only [Nat.zero_mul, Nat.add_zero] at q0 q1
            have hab : wmB 0 vs ss rs false = (ss.all (isG x.s x.g) && rs.all (isG x.s x.g)) := by
              unfold wmB
              rw [if_neg (by simp), if_neg (by rw [← HVL.out]; simp)]
              rw [ex, ey]
              rfl
            obtain ⟨W0, hW0⟩ : ∃ W, W = w.alloc (.cells #[.int .i64 0, .slice vo 0 vc, .slice (some ⟨gs, os, none⟩) sn sc, .slice ro rn rc, .bool false] 70) := ⟨_, rfl⟩
            have G1 := hid (show Gr w W0 from by rw [hW0]; exact Ch.alloc (Gr.refl w) _)
            have BX := hid (show W0.heap[w.heap.size]? = some (.cells #[.int .i64 0, .slice vo 0 vc, .slice (some ⟨gs, os, none⟩) sn sc, .slice ro rn rc, .bool false] 70 (0, 0)) from by rw [hW0]; exact (MapKept.heap_alloc w _).1)
            have s0 := q0
            have s1 := q1
            have LGS := hid (show gs < w.heap.size from hgs)
            have HO1 := hid (fun (W : World) (p : Gr w W) => ofone_any P W _ sn sc ss x.s x.g (HS.out.gr p) HB.out.1)
            have HO2 := hid (fun (W : World) (p : Gr w W) => ofone_any P W _ rn rc rs x.s x.g (HR.out.gr p) HB.out.2)
            obtain ⟨x0, x1, x2, x3⟩ := x
            dsimp only at q0 q1 s0 s1 HO1 HO2 hab
            clear hcs ex ey
            cases hz : ss.all (isG x0 x1) with
            | false =>
              rw [hz] at HO1
              rw [hz, Bool.false_and] at hab
              have HV := hid hab
              clear hab hz
              go_enter Try.func45, Try.ntmps45
              go_upto_region 1 with fail
              rw [← hW0]
              clear hW0
              obtain ⟨p0, p1, p2, p3, p4⟩ := five_cells BX.out
              have lB := lt_of_block BX.out
              go_quiet (fail)
              go_upto_region 7 with fail
              clear p0 p1 p2 p3 p4 lB
              have hS0 : Sb w #[.int .i64 0, .slice vo 0 vc, .slice (some ⟨gs, os, none⟩) sn sc, .slice ro rn rc, .bool false] (World.drew (W0.drewN nq)) := ⟨Ch.drew (Ch.drewN G1.out _), BX.out⟩
              refine wp_region_held_drew (S := Sb w #[.int .i64 0, .slice vo 0 vc, .slice (some ⟨gs, os, none⟩) sn sc, .slice ro rn rc, .bool false]) (by kernel_rfl) (by exact hS0) (fun _ => ?_)
              generalize World.drew (W0.drewN nq) = V0 at hS0 ⊢
              refine takeS_on (i := 0) 39 (v := ?hv82) rfl rfl (by kernel_rfl) (by kernel_rfl) (by kernel_rfl) (fun _ _ _ h => h) (by kernel_rfl) ?hh82 (by exact hS0) ?_
              case hh82 => (intro w' hSw; go_simp; try (with_reducible rfl))
              simp only [Act.put, List.setIfInBounds_toArray, List.set_cons_zero, List.set_cons_succ]
              refine takeS_on (i := 1) 40 (v := ?hv83) rfl rfl (by kernel_rfl) (by kernel_rfl) (by kernel_rfl) (fun _ _ _ h => h) (by kernel_rfl) ?hh83 (by exact hS0) ?_
              case hh83 => (intro w' hSw; go_simp; try (with_reducible rfl))
              simp only [Act.put, List.setIfInBounds_toArray, List.set_cons_zero, List.set_cons_succ]
              refine takeS_on (i := 2) 41 (v := ?hv84) rfl rfl (by kernel_rfl) (by kernel_rfl) (by kernel_rfl) (fun _ _ _ h => h) (by kernel_rfl) ?hh84 (by exact hS0) ?_
              case hh84 => (intro w' hSw; go_simp; try (with_reducible rfl))
              simp only [Act.put, List.setIfInBounds_toArray, List.set_cons_zero, List.set_cons_succ]
              refine takeS_on (i := 3) 42 (v := ?hv85) rfl rfl (by kernel_rfl) (by kernel_rfl) (by kernel_rfl) (fun _ _ _ h => h) (by kernel_rfl) ?hh85 (by exact hS0) ?_
              case hh85 => (intro w' hSw; go_simp; try (with_reducible rfl))
              simp only [Act.put, List.setIfInBounds_toArray, List.set_cons_zero, List.set_cons_succ]
              refine takeS_on (i := 4) 43 (v := ?hv86) rfl rfl (by kernel_rfl) (by kernel_rfl) (by kernel_rfl) (fun _ _ _ h => h) (by kernel_rfl) ?hh86 (by exact hS0) ?_
              case hh86 => (intro w' hSw; go_simp; try (with_reducible rfl))
              simp only [Act.put, List.setIfInBounds_toArray, List.set_cons_zero, List.set_cons_succ]
              refine takeS_on (i := 5) 44 (v := ?hv87) rfl rfl (by kernel_rfl) (by kernel_rfl) (by kernel_rfl) (fun _ _ _ h => h) (by kernel_rfl) ?hh87 (by exact hS0) ?_
              case hh87 => (intro w' hSw; go_simp; try (with_reducible rfl))
              simp only [Act.put, List.setIfInBounds_toArray, List.set_cons_zero, List.set_cons_succ]
              refine takeS_on (i := 6) 45 (v := ?hv88) rfl rfl (by kernel_rfl) (by kernel_rfl) (by kernel_rfl) (fun _ _ _ h => h) (by kernel_rfl) ?hh88 (by exact hS0) ?_
              case hh88 => (intro w' hSw; go_simp; try (with_reducible rfl))
              simp only [Act.put, List.setIfInBounds_toArray, List.set_cons_zero, List.set_cons_succ]
              refine takeS_on (i := 7) 46 (v := ?hv89) rfl rfl (by kernel_rfl) (by kernel_rfl) (by kernel_rfl) (fun _ _ _ h => h) (by kernel_rfl) ?hh89 (by exact hS0) ?_
              case hh89 => (intro w' hSw; go_simp; try (with_reducible rfl))
              simp only [Act.put, List.setIfInBounds_toArray, List.set_cons_zero, List.set_cons_succ]
              refine takeS_on (i := 8) 47 (v := ?hv90) rfl rfl (by kernel_rfl) (by kernel_rfl) (by kernel_rfl) (fun _ _ _ h => h) (by kernel_rfl) ?hh90 (by exact hS0) ?_
              case hh90 => (intro w' hSw; obtain ⟨p0, p1, p2, p3, p4⟩ := five_cells hSw.bx; have lB := lt_of_block hSw.bx; go_simp; try (with_reducible rfl))
              simp only [Act.put, List.setIfInBounds_toArray, List.set_cons_zero, List.set_cons_succ]
              refine takeS_on (i := 9) 48 (v := ?hv91) rfl rfl (by kernel_rfl) (by kernel_rfl) (by kernel_rfl) (fun _ _ _ h => h) (by kernel_rfl) ?hh91 (by exact hS0) ?_
              case hh91 => (intro w' hSw; go_simp; try (with_reducible rfl))
              simp only [Act.put, List.setIfInBounds_toArray, List.set_cons_zero, List.set_cons_succ]
              refine takeS_on (i := 10) 49 (v := ?hv92) rfl rfl (by kernel_rfl) (by kernel_rfl) (by kernel_rfl) (fun _ _ _ h => h) (by kernel_rfl) ?hh92 (by exact hS0) ?_
              case hh92 => (intro w' hSw; obtain ⟨p0, p1, p2, p3, p4⟩ := five_cells hSw.bx; have lB := lt_of_block hSw.bx; go_simp; try (with_reducible rfl))
              simp only [Act.put, List.setIfInBounds_toArray, List.set_cons_zero, List.set_cons_succ]
              refine takeS_on (i := 11) 50 (v := ?hv93) rfl rfl (by kernel_rfl) (by kernel_rfl) (by kernel_rfl) (fun _ _ _ h => h) (by kernel_rfl) ?hh93 (by exact hS0) ?_
              case hh93 => (intro w' hSw; go_simp; try (with_reducible rfl))
              simp only [Act.put, List.setIfInBounds_toArray, List.set_cons_zero, List.set_cons_succ]
              refine takeS_on (i := 12) 51 (v := ?hv94) rfl rfl (by kernel_rfl) (by kernel_rfl) (by kernel_rfl) (fun _ _ _ h => h) (by kernel_rfl) ?hh94 (by exact hS0) ?_
              case hh94 => (intro w' hSw; go_simp; try (with_reducible rfl))
              simp only [Act.put, List.setIfInBounds_toArray, List.set_cons_zero, List.set_cons_succ]
              refine takeS_on (i := 13) 52 (v := ?hv95) rfl rfl (by kernel_rfl) (by kernel_rfl) (by kernel_rfl) (fun _ _ _ h => h) (by kernel_rfl) ?hh95 (by exact hS0) ?_
              case hh95 => (intro w' hSw; have d0 := (Gr.cell hSw.g LGS.out).trans s0; have d1 := (Gr.cell hSw.g LGS.out).trans s1; go_simp; try (with_reducible rfl))
              simp only [Act.put, List.setIfInBounds_toArray, List.set_cons_zero, List.set_cons_succ]
              refine wpAnyH_ready (rs := [14]) (by kernel_rfl) (by simp) (AllReadyH.cons rfl (fun K hK => ?_) AllReadyH.nil)
              go_simp
              refine (HO1.out _ hS0.g).mono ?_
              rintro e w2 ⟨rfl, g2⟩
              have hS1 := hS0.gr g2
              clear g2
              refine hK.out _ _ (by exact hS1) (fun _ => ?_)
              clear hK K
              refine takeS_on (i := 15) 54 (v := ?hv96) rfl rfl (by kernel_rfl) (by kernel_rfl) (by kernel_rfl) (fun _ _ _ h => h) (by kernel_rfl) ?hh96 (by exact hS1) ?_
              case hh96 => (intro w' hSw; go_simp; try (with_reducible rfl))
              simp only [Act.put, List.setIfInBounds_toArray, List.set_cons_zero, List.set_cons_succ]
              refine skipS_on (i := 16) 55 rfl rfl (by kernel_rfl) (by kernel_rfl) (by kernel_rfl) (fun _ _ _ h => h) (by kernel_rfl) (by exact hS1) ?_
              simp only [Act.put, List.setIfInBounds_toArray, List.set_cons_zero, List.set_cons_succ]
              refine skipS_on (i := 17) 56 rfl rfl (by kernel_rfl) (by kernel_rfl) (by kernel_rfl) (fun _ _ _ h => h) (by kernel_rfl) (by exact hS1) ?_
              simp only [Act.put, List.setIfInBounds_toArray, List.set_cons_zero, List.set_cons_succ]
              refine skipS_on (i := 18) 57 rfl rfl (by kernel_rfl) (by kernel_rfl) (by kernel_rfl) (fun _ _ _ h => h) (by kernel_rfl) (by exact hS1) ?_
              simp only [Act.put, List.setIfInBounds_toArray, List.set_cons_zero, List.set_cons_succ]
              refine skipS_on (i := 19) 58 rfl rfl (by kernel_rfl) (by kernel_rfl) (by kernel_rfl) (fun _ _ _ h => h) (by kernel_rfl) (by exact hS1) ?_
              simp only [Act.put, List.setIfInBounds_toArray, List.set_cons_zero, List.set_cons_succ]
              refine skipS_on (i := 20) 59 rfl rfl (by kernel_rfl) (by kernel_rfl) (by kernel_rfl) (fun _ _ _ h => h) (by kernel_rfl) (by exact hS1) ?_
              simp only [Act.put, List.setIfInBounds_toArray, List.set_cons_zero, List.set_cons_succ]
              refine skipS_on (i := 21) 60 rfl rfl (by kernel_rfl) (by kernel_rfl) (by kernel_rfl) (fun _ _ _ h => h) (by kernel_rfl) (by exact hS1) ?_
              simp only [Act.put, List.setIfInBounds_toArray, List.set_cons_zero, List.set_cons_succ]
              refine skipS_on (i := 22) 61 rfl rfl (by kernel_rfl) (by kernel_rfl) (by kernel_rfl) (fun _ _ _ h => h) (by kernel_rfl) (by exact hS1) ?_
              simp only [Act.put, List.setIfInBounds_toArray, List.set_cons_zero, List.set_cons_succ]
              refine skipS_on (i := 23) 62 rfl rfl (by kernel_rfl) (by kernel_rfl) (by kernel_rfl) (fun _ _ _ h => h) (by kernel_rfl) (by exact hS1) ?_
              simp only [Act.put, List.setIfInBounds_toArray, List.set_cons_zero, List.set_cons_succ]
              refine takeS_on (i := 24) 63 (v := ?hv105) rfl rfl (by kernel_rfl) (by kernel_rfl) (by kernel_rfl) (fun _ _ _ h => h) (by kernel_rfl) ?hh105 (by exact hS1) ?_
              case hh105 => (intro w' hSw; go_simp; try (with_reducible rfl))
              simp only [Act.put, List.setIfInBounds_toArray, List.set_cons_zero, List.set_cons_succ]
              refine takeS_on (i := 25) 64 (v := ?hv106) rfl rfl (by kernel_rfl) (by kernel_rfl) (by kernel_rfl) (fun _ _ _ h => h) (by kernel_rfl) ?hh106 (by exact hS1) ?_
              case hh106 => (intro w' hSw; go_simp; try (with_reducible rfl))
              simp only [Act.put, List.setIfInBounds_toArray, List.set_cons_zero, List.set_cons_succ]
              refine takeS_on (i := 26) 2 (v := ?hv107) rfl rfl (by kernel_rfl) (by kernel_rfl) (by kernel_rfl) (fun _ _ _ h => h) (by kernel_rfl) ?hh107 (by exact hS1) ?_
              case hh107 => (intro w' hSw; go_simp; try (with_reducible rfl))
              simp only [Act.put, List.setIfInBounds_toArray, List.set_cons_zero, List.set_cons_succ]
              refine wpAnyH_done (by kernel_rfl) ?_ _
              go_wp2_with fail
              go_ret
              exact ⟨by rw [HV.out]; try rfl, hS1.g⟩
            | true =>
              rw [hz] at HO1
              rw [hz, Bool.true_and] at hab
              have HV := hid hab
              clear hab hz
              generalize rs.all (isG x0 x1) = zz at HO2 HV
              cases zz with
              | false =>
                go_enter Try.func45, Try.ntmps45
                go_upto_region 1 with fail
                rw [← hW0]
                clear hW0
                obtain ⟨p0, p1, p2, p3, p4⟩ := five_cells BX.out
                have lB := lt_of_block BX.out
                go_quiet (fail)
                go_upto_region 7 with fail
                clear p0 p1 p2 p3 p4 lB
                have hS0 : Sb w #[.int .i64 0, .slice vo 0 vc, .slice (some ⟨gs, os, none⟩) sn sc, .slice ro rn rc, .bool false] (World.drew (W0.drewN nq)) := ⟨Ch.drew (Ch.drewN G1.out _), BX.out⟩
                refine wp_region_held_drew (S := Sb w #[.int .i64 0, .slice vo 0 vc, .slice (some ⟨gs, os, none⟩) sn sc, .slice ro rn rc, .bool false]) (by kernel_rfl) (by exact hS0) (fun _ => ?_)
                generalize World.drew (W0.drewN nq) = V0 at hS0 ⊢
                refine takeS_on (i := 0) 39 (v := ?hv108) rfl rfl (by kernel_rfl) (by kernel_rfl) (by kernel_rfl) (fun _ _ _ h => h) (by kernel_rfl) ?hh108 (by exact hS0) ?_
                case hh108 => (intro w' hSw; go_simp; try (with_reducible rfl))
                simp only [Act.put, List.setIfInBounds_toArray, List.set_cons_zero, List.set_cons_succ]
                refine takeS_on (i := 1) 40 (v := ?hv109) rfl rfl (by kernel_rfl) (by kernel_rfl) (by kernel_rfl) (fun _ _ _ h => h) (by kernel_rfl) ?hh109 (by exact hS0) ?_
                case hh109 => (intro w' hSw; go_simp; try (with_reducible rfl))
                simp only [Act.put, List.setIfInBounds_toArray, List.set_cons_zero, List.set_cons_succ]
                refine takeS_on (i := 2) 41 (v := ?hv110) rfl rfl (by kernel_rfl) (by kernel_rfl) (by kernel_rfl) (fun _ _ _ h => h) (by kernel_rfl) ?hh110 (by exact hS0) ?_
                case hh110 => (intro w' hSw; go_simp; try (with_reducible rfl))
                simp only [Act.put, List.setIfInBounds_toArray, List.set_cons_zero, List.set_cons_succ]
                refine takeS_on (i := 3) 42 (v := ?hv111) rfl rfl (by kernel_rfl) (by kernel_rfl) (by kernel_rfl) (fun _ _ _ h => h) (by kernel_rfl) ?hh111 (by exact hS0) ?_
                case hh111 => (intro w' hSw; go_simp; try (with_reducible rfl))
                simp only [Act.put, List.setIfInBounds_toArray, List.set_cons_zero, List.set_cons_succ]
                refine takeS_on (i := 4) 43 (v := ?hv112) rfl rfl (by kernel_rfl) (by kernel_rfl) (by kernel_rfl) (fun _ _ _ h => h) (by kernel_rfl) ?hh112 (by exact hS0) ?_
                case hh112 => (intro w' hSw; go_simp; try (with_reducible rfl))
                simp only [Act.put, List.setIfInBounds_toArray, List.set_cons_zero, List.set_cons_succ]
                refine takeS_on (i := 5) 44 (v := ?hv113) rfl rfl (by kernel_rfl) (by kernel_rfl) (by kernel_rfl) (fun _ _ _ h => h) (by kernel_rfl) ?hh113 (by exact hS0) ?_
                case hh113 => (intro w' hSw; go_simp; try (with_reducible rfl))
                simp only [Act.put, List.setIfInBounds_toArray, List.set_cons_zero, List.set_cons_succ]
                refine takeS_on (i := 6) 45 (v := ?hv114) rfl rfl (by kernel_rfl) (by kernel_rfl) (by kernel_rfl) (fun _ _ _ h => h) (by kernel_rfl) ?hh114 (by exact hS0) ?_
                case hh114 => (intro w' hSw; go_simp; try (with_reducible rfl))
                simp only [Act.put, List.setIfInBounds_toArray, List.set_cons_zero, List.set_cons_succ]
                refine takeS_on (i := 7) 46 (v := ?hv115) rfl rfl (by kernel_rfl) (by kernel_rfl) (by kernel_rfl) (fun _ _ _ h => h) (by kernel_rfl) ?hh115 (by exact hS0) ?_
                case hh115 => (intro w' hSw; go_simp; try (with_reducible rfl))
                simp only [Act.put, List.setIfInBounds_toArray, List.set_cons_zero, List.set_cons_succ]
                refine takeS_on (i := 8) 47 (v := ?hv116) rfl rfl (by kernel_rfl) (by kernel_rfl) (by kernel_rfl) (fun _ _ _ h => h) (by kernel_rfl) ?hh116 (by exact hS0) ?_
                case hh116 => (intro w' hSw; obtain ⟨p0, p1, p2, p3, p4⟩ := five_cells hSw.bx; have lB := lt_of_block hSw.bx; go_simp; try (with_reducible rfl))
                simp only [Act.put, List.setIfInBounds_toArray, List.set_cons_zero, List.set_cons_succ]
                refine takeS_on (i := 9) 48 (v := ?hv117) rfl rfl (by kernel_rfl) (by kernel_rfl) (by kernel_rfl) (fun _ _ _ h => h) (by kernel_rfl) ?hh117 (by exact hS0) ?_
                case hh117 => (intro w' hSw; go_simp; try (with_reducible rfl))
                simp only [Act.put, List.setIfInBounds_toArray, List.set_cons_zero, List.set_cons_succ]
                refine takeS_on (i := 10) 49 (v := ?hv118) rfl rfl (by kernel_rfl) (by kernel_rfl) (by kernel_rfl) (fun _ _ _ h => h) (by kernel_rfl) ?hh118 (by exact hS0) ?_
                case hh118 => (intro w' hSw; obtain ⟨p0, p1, p2, p3, p4⟩ := five_cells hSw.bx; have lB := lt_of_block hSw.bx; go_simp; try (with_reducible rfl))
                simp only [Act.put, List.setIfInBounds_toArray, List.set_cons_zero, List.set_cons_succ]
                refine takeS_on (i := 11) 50 (v := ?hv119) rfl rfl (by kernel_rfl) (by kernel_rfl) (by kernel_rfl) (fun _ _ _ h => h) (by kernel_rfl) ?hh119 (by exact hS0) ?_
                case hh119 => (intro w' hSw; go_simp; try (with_reducible rfl))
                simp only [Act.put, List.setIfInBounds_toArray, List.set_cons_zero, List.set_cons_succ]
                refine takeS_on (i := 12) 51 (v := ?hv120) rfl rfl (by kernel_rfl) (by kernel_rfl) (by kernel_rfl) (fun _ _ _ h => h) (by kernel_rfl) ?hh120 (by exact hS0) ?_
                case hh120 => (intro w' hSw; go_simp; try (with_reducible rfl))
                simp only [Act.put, List.setIfInBounds_toArray, List.set_cons_zero, List.set_cons_succ]
                refine takeS_on (i := 13) 52 (v := ?hv121) rfl rfl (by kernel_rfl) (by kernel_rfl) (by kernel_rfl) (fun _ _ _ h => h) (by kernel_rfl) ?hh121 (by exact hS0) ?_
                case hh121 => (intro w' hSw; have d0 := (Gr.cell hSw.g LGS.out).trans s0; have d1 := (Gr.cell hSw.g LGS.out).trans s1; go_simp; try (with_reducible rfl))
                simp only [Act.put, List.setIfInBounds_toArray, List.set_cons_zero, List.set_cons_succ]
                refine wpAnyH_ready (rs := [14]) (by kernel_rfl) (by simp) (AllReadyH.cons rfl (fun K hK => ?_) AllReadyH.nil)
                go_simp
                refine (HO1.out _ hS0.g).mono ?_
                rintro e w2 ⟨rfl, g2⟩
                have hS1 := hS0.gr g2
                clear g2
                refine hK.out _ _ (by exact hS1) (fun _ => ?_)
                clear hK K
                refine takeS_on (i := 15) 54 (v := ?hv122) rfl rfl (by kernel_rfl) (by kernel_rfl) (by kernel_rfl) (fun _ _ _ h => h) (by kernel_rfl) ?hh122 (by exact hS1) ?_
                case hh122 => (intro w' hSw; go_simp; try (with_reducible rfl))
                simp only [Act.put, List.setIfInBounds_toArray, List.set_cons_zero, List.set_cons_succ]
                refine takeS_on (i := 16) 55 (v := ?hv123) rfl rfl (by kernel_rfl) (by kernel_rfl) (by kernel_rfl) (fun _ _ _ h => h) (by kernel_rfl) ?hh123 (by exact hS1) ?_
                case hh123 => (intro w' hSw; go_simp; try (with_reducible rfl))
                simp only [Act.put, List.setIfInBounds_toArray, List.set_cons_zero, List.set_cons_succ]
                refine takeS_on (i := 17) 56 (v := ?hv124) rfl rfl (by kernel_rfl) (by kernel_rfl) (by kernel_rfl) (fun _ _ _ h => h) (by kernel_rfl) ?hh124 (by exact hS1) ?_
                case hh124 => (intro w' hSw; obtain ⟨p0, p1, p2, p3, p4⟩ := five_cells hSw.bx; have lB := lt_of_block hSw.bx; go_simp; try (with_reducible rfl))
                simp only [Act.put, List.setIfInBounds_toArray, List.set_cons_zero, List.set_cons_succ]
                refine takeS_on (i := 18) 57 (v := ?hv125) rfl rfl (by kernel_rfl) (by kernel_rfl) (by kernel_rfl) (fun _ _ _ h => h) (by kernel_rfl) ?hh125 (by exact hS1) ?_
                case hh125 => (intro w' hSw; go_simp; try (with_reducible rfl))
                simp only [Act.put, List.setIfInBounds_toArray, List.set_cons_zero, List.set_cons_succ]
                refine takeS_on (i := 19) 58 (v := ?hv126) rfl rfl (by kernel_rfl) (by kernel_rfl) (by kernel_rfl) (fun _ _ _ h => h) (by kernel_rfl) ?hh126 (by exact hS1) ?_
                case hh126 => (intro w' hSw; obtain ⟨p0, p1, p2, p3, p4⟩ := five_cells hSw.bx; have lB := lt_of_block hSw.bx; go_simp; try (with_reducible rfl))
                simp only [Act.put, List.setIfInBounds_toArray, List.set_cons_zero, List.set_cons_succ]
                refine takeS_on (i := 20) 59 (v := ?hv127) rfl rfl (by kernel_rfl) (by kernel_rfl) (by kernel_rfl) (fun _ _ _ h => h) (by kernel_rfl) ?hh127 (by exact hS1) ?_
                case hh127 => (intro w' hSw; go_simp; try (with_reducible rfl))
                simp only [Act.put, List.setIfInBounds_toArray, List.set_cons_zero, List.set_cons_succ]
                refine takeS_on (i := 21) 60 (v := ?hv128) rfl rfl (by kernel_rfl) (by kernel_rfl) (by kernel_rfl) (fun _ _ _ h => h) (by kernel_rfl) ?hh128 (by exact hS1) ?_
                case hh128 => (intro w' hSw; go_simp; try (with_reducible rfl))
                simp only [Act.put, List.setIfInBounds_toArray, List.set_cons_zero, List.set_cons_succ]
                refine takeS_on (i := 22) 61 (v := ?hv129) rfl rfl (by kernel_rfl) (by kernel_rfl) (by kernel_rfl) (fun _ _ _ h => h) (by kernel_rfl) ?hh129 (by exact hS1) ?_
                case hh129 => (intro w' hSw; have d0 := (Gr.cell hSw.g LGS.out).trans s0; have d1 := (Gr.cell hSw.g LGS.out).trans s1; go_simp; try (with_reducible rfl))
                simp only [Act.put, List.setIfInBounds_toArray, List.set_cons_zero, List.set_cons_succ]
                refine wpAnyH_ready (rs := [23]) (by kernel_rfl) (by simp) (AllReadyH.cons rfl (fun K hK => ?_) AllReadyH.nil)
                go_simp
                refine (HO2.out _ hS1.g).mono ?_
                rintro e w3 ⟨rfl, g3⟩
                have hS2 := hS1.gr g3
                clear g3
                refine hK.out _ _ (by exact hS2) (fun _ => ?_)
                clear hK K
                refine takeS_on (i := 24) 63 (v := ?hv130) rfl rfl (by kernel_rfl) (by kernel_rfl) (by kernel_rfl) (fun _ _ _ h => h) (by kernel_rfl) ?hh130 (by exact hS2) ?_
                case hh130 => (intro w' hSw; go_simp; try (with_reducible rfl))
                simp only [Act.put, List.setIfInBounds_toArray, List.set_cons_zero, List.set_cons_succ]
                refine takeS_on (i := 25) 64 (v := ?hv131) rfl rfl (by kernel_rfl) (by kernel_rfl) (by kernel_rfl) (fun _ _ _ h => h) (by kernel_rfl) ?hh131 (by exact hS2) ?_
                case hh131 => (intro w' hSw; go_simp; try (with_reducible rfl))
                simp only [Act.put, List.setIfInBounds_toArray, List.set_cons_zero, List.set_cons_succ]
                refine takeS_on (i := 26) 2 (v := ?hv132) rfl rfl (by kernel_rfl) (by kernel_rfl) (by kernel_rfl) (fun _ _ _ h => h) (by kernel_rfl) ?hh132 (by exact hS2) ?_
                case hh132 => (intro w' hSw; go_simp; try (with_reducible rfl))
                simp only [Act.put, List.setIfInBounds_toArray, List.set_cons_zero, List.set_cons_succ]
                refine wpAnyH_done (by kernel_rfl) ?_ _
                go_wp2_with fail
                go_ret
                exact ⟨by rw [HV.out]; try rfl, hS2.g⟩
              | true =>
                go_enter Try.func45, Try.ntmps45
                go_upto_region 1 with fail
                rw [← hW0]
                clear hW0
                obtain ⟨p0, p1, p2, p3, p4⟩ := five_cells BX.out
                have lB := lt_of_block BX.out
                go_quiet (fail)
                go_upto_region 7 with fail
                clear p0 p1 p2 p3 p4 lB
                have hS0 : Sb w #[.int .i64 0, .slice vo 0 vc, .slice (some ⟨gs, os, none⟩) sn sc, .slice ro rn rc, .bool false] (World.drew (W0.drewN nq)) := ⟨Ch.drew (Ch.drewN G1.out _), BX.out⟩
                refine wp_region_held_drew (S := Sb w #[.int .i64 0, .slice vo 0 vc, .slice (some ⟨gs, os, none⟩) sn sc, .slice ro rn rc, .bool false]) (by kernel_rfl) (by exact hS0) (fun _ => ?_)
                generalize World.drew (W0.drewN nq) = V0 at hS0 ⊢
                refine takeS_on (i := 0) 39 (v := ?hv133) rfl rfl (by kernel_rfl) (by kernel_rfl) (by kernel_rfl) (fun _ _ _ h => h) (by kernel_rfl) ?hh133 (by exact hS0) ?_
                case hh133 => (intro w' hSw; go_simp; try (with_reducible rfl))
                simp only [Act.put, List.setIfInBounds_toArray, List.set_cons_zero, List.set_cons_succ]
                refine takeS_on (i := 1) 40 (v := ?hv134) rfl rfl (by kernel_rfl) (by kernel_rfl) (by kernel_rfl) (fun _ _ _ h => h) (by kernel_rfl) ?hh134 (by exact hS0) ?_
                case hh134 => (intro w' hSw; go_simp; try (with_reducible rfl))
                simp only [Act.put, List.setIfInBounds_toArray, List.set_cons_zero, List.set_cons_succ]
                refine takeS_on (i := 2) 41 (v := ?hv135) rfl rfl (by kernel_rfl) (by kernel_rfl) (by kernel_rfl) (fun _ _ _ h => h) (by kernel_rfl) ?hh135 (by exact hS0) ?_
                case hh135 => (intro w' hSw; go_simp; try (with_reducible rfl))
                simp only [Act.put, List.setIfInBounds_toArray, List.set_cons_zero, List.set_cons_succ]
                refine takeS_on (i := 3) 42 (v := ?hv136) rfl rfl (by kernel_rfl) (by kernel_rfl) (by kernel_rfl) (fun _ _ _ h => h) (by kernel_rfl) ?hh136 (by exact hS0) ?_
                case hh136 => (intro w' hSw; go_simp; try (with_reducible rfl))
                simp only [Act.put, List.setIfInBounds_toArray, List.set_cons_zero, List.set_cons_succ]
                refine takeS_on (i := 4) 43 (v := ?hv137) rfl rfl (by kernel_rfl) (by kernel_rfl) (by kernel_rfl) (fun _ _ _ h => h) (by kernel_rfl) ?hh137 (by exact hS0) ?_
                case hh137 => (intro w' hSw; go_simp; try (with_reducible rfl))
                simp only [Act.put, List.setIfInBounds_toArray, List.set_cons_zero, List.set_cons_succ]
                refine takeS_on (i := 5) 44 (v := ?hv138) rfl rfl (by kernel_rfl) (by kernel_rfl) (by kernel_rfl) (fun _ _ _ h => h) (by kernel_rfl) ?hh138 (by exact hS0) ?_
                case hh138 => (intro w' hSw; go_simp; try (with_reducible rfl))
                simp only [Act.put, List.setIfInBounds_toArray, List.set_cons_zero, List.set_cons_succ]
                refine takeS_on (i := 6) 45 (v := ?hv139) rfl rfl (by kernel_rfl) (by kernel_rfl) (by kernel_rfl) (fun _ _ _ h => h) (by kernel_rfl) ?hh139 (by exact hS0) ?_
                case hh139 => (intro w' hSw; go_simp; try (with_reducible rfl))
                simp only [Act.put, List.setIfInBounds_toArray, List.set_cons_zero, List.set_cons_succ]
                refine takeS_on (i := 7) 46 (v := ?hv140) rfl rfl (by kernel_rfl) (by kernel_rfl) (by kernel_rfl) (fun _ _ _ h => h) (by kernel_rfl) ?hh140 (by exact hS0) ?_
                case hh140 => (intro w' hSw; go_simp; try (with_reducible rfl))
                simp only [Act.put, List.setIfInBounds_toArray, List.set_cons_zero, List.set_cons_succ]
                refine takeS_on (i := 8) 47 (v := ?hv141) rfl rfl (by kernel_rfl) (by kernel_rfl) (by kernel_rfl) (fun _ _ _ h => h) (by kernel_rfl) ?hh141 (by exact hS0) ?_
                case hh141 => (intro w' hSw; obtain ⟨p0, p1, p2, p3, p4⟩ := five_cells hSw.bx; have lB := lt_of_block hSw.bx; go_simp; try (with_reducible rfl))
                simp only [Act.put, List.setIfInBounds_toArray, List.set_cons_zero, List.set_cons_succ]
                refine takeS_on (i := 9) 48 (v := ?hv142) rfl rfl (by kernel_rfl) (by kernel_rfl) (by kernel_rfl) (fun _ _ _ h => h) (by kernel_rfl) ?hh142 (by exact hS0) ?_
                case hh142 => (intro w' hSw; go_simp; try (with_reducible rfl))
                simp only [Act.put, List.setIfInBounds_toArray, List.set_cons_zero, List.set_cons_succ]
                refine takeS_on (i := 10) 49 (v := ?hv143) rfl rfl (by kernel_rfl) (by kernel_rfl) (by kernel_rfl) (fun _ _ _ h => h) (by kernel_rfl) ?hh143 (by exact hS0) ?_
                case hh143 => (intro w' hSw; obtain ⟨p0, p1, p2, p3, p4⟩ := five_cells hSw.bx; have lB := lt_of_block hSw.bx; go_simp; try (with_reducible rfl))
                simp only [Act.put, List.setIfInBounds_toArray, List.set_cons_zero, List.set_cons_succ]
                refine takeS_on (i := 11) 50 (v := ?hv144) rfl rfl (by kernel_rfl) (by kernel_rfl) (by kernel_rfl) (fun _ _ _ h => h) (by kernel_rfl) ?hh144 (by exact hS0) ?_
                case hh144 => (intro w' hSw; go_simp; try (with_reducible rfl))
                simp only [Act.put, List.setIfInBounds_toArray, List.set_cons_zero, List.set_cons_succ]
                refine takeS_on (i := 12) 51 (v := ?hv145) rfl rfl (by kernel_rfl) (by kernel_rfl) (by kernel_rfl) (fun _ _ _ h => h) (by kernel_rfl) ?hh145 (by exact hS0) ?_
                case hh145 => (intro w' hSw; go_simp; try (with_reducible rfl))
                simp only [Act.put, List.setIfInBounds_toArray, List.set_cons_zero, List.set_cons_succ]
                refine takeS_on (i := 13) 52 (v := ?hv146) rfl rfl (by kernel_rfl) (by kernel_rfl) (by kernel_rfl) (fun _ _ _ h => h) (by kernel_rfl) ?hh146 (by exact hS0) ?_
                case hh146 => (intro w' hSw; have d0 := (Gr.cell hSw.g LGS.out).trans s0; have d1 := (Gr.cell hSw.g LGS.out).trans s1; go_simp; try (with_reducible rfl))
                simp only [Act.put, List.setIfInBounds_toArray, List.set_cons_zero, List.set_cons_succ]
                refine wpAnyH_ready (rs := [14]) (by kernel_rfl) (by simp) (AllReadyH.cons rfl (fun K hK => ?_) AllReadyH.nil)
                go_simp
                refine (HO1.out _ hS0.g).mono ?_
                rintro e w2 ⟨rfl, g2⟩
                have hS1 := hS0.gr g2
                clear g2
                refine hK.out _ _ (by exact hS1) (fun _ => ?_)
                clear hK K
                refine takeS_on (i := 15) 54 (v := ?hv147) rfl rfl (by kernel_rfl) (by kernel_rfl) (by kernel_rfl) (fun _ _ _ h => h) (by kernel_rfl) ?hh147 (by exact hS1) ?_
                case hh147 => (intro w' hSw; go_simp; try (with_reducible rfl))
                simp only [Act.put, List.setIfInBounds_toArray, List.set_cons_zero, List.set_cons_succ]
                refine takeS_on (i := 16) 55 (v := ?hv148) rfl rfl (by kernel_rfl) (by kernel_rfl) (by kernel_rfl) (fun _ _ _ h => h) (by kernel_rfl) ?hh148 (by exact hS1) ?_
                case hh148 => (intro w' hSw; go_simp; try (with_reducible rfl))
                simp only [Act.put, List.setIfInBounds_toArray, List.set_cons_zero, List.set_cons_succ]
                refine takeS_on (i := 17) 56 (v := ?hv149) rfl rfl (by kernel_rfl) (by kernel_rfl) (by kernel_rfl) (fun _ _ _ h => h) (by kernel_rfl) ?hh149 (by exact hS1) ?_
                case hh149 => (intro w' hSw; obtain ⟨p0, p1, p2, p3, p4⟩ := five_cells hSw.bx; have lB := lt_of_block hSw.bx; go_simp; try (with_reducible rfl))
                simp only [Act.put, List.setIfInBounds_toArray, List.set_cons_zero, List.set_cons_succ]
                refine takeS_on (i := 18) 57 (v := ?hv150) rfl rfl (by kernel_rfl) (by kernel_rfl) (by kernel_rfl) (fun _ _ _ h => h) (by kernel_rfl) ?hh150 (by exact hS1) ?_
                case hh150 => (intro w' hSw; go_simp; try (with_reducible rfl))
                simp only [Act.put, List.setIfInBounds_toArray, List.set_cons_zero, List.set_cons_succ]
                refine takeS_on (i := 19) 58 (v := ?hv151) rfl rfl (by kernel_rfl) (by kernel_rfl) (by kernel_rfl) (fun _ _ _ h => h) (by kernel_rfl) ?hh151 (by exact hS1) ?_
                case hh151 => (intro w' hSw; obtain ⟨p0, p1, p2, p3, p4⟩ := five_cells hSw.bx; have lB := lt_of_block hSw.bx; go_simp; try (with_reducible rfl))
                simp only [Act.put, List.setIfInBounds_toArray, List.set_cons_zero, List.set_cons_succ]
                refine takeS_on (i := 20) 59 (v := ?hv152) rfl rfl (by kernel_rfl) (by kernel_rfl) (by kernel_rfl) (fun _ _ _ h => h) (by kernel_rfl) ?hh152 (by exact hS1) ?_
                case hh152 => (intro w' hSw; go_simp; try (with_reducible rfl))
                simp only [Act.put, List.setIfInBounds_toArray, List.set_cons_zero, List.set_cons_succ]
                refine takeS_on (i := 21) 60 (v := ?hv153) rfl rfl (by kernel_rfl) (by kernel_rfl) (by kernel_rfl) (fun _ _ _ h => h) (by kernel_rfl) ?hh153 (by exact hS1) ?_
                case hh153 => (intro w' hSw; go_simp; try (with_reducible rfl))
                simp only [Act.put, List.setIfInBounds_toArray, List.set_cons_zero, List.set_cons_succ]
                refine takeS_on (i := 22) 61 (v := ?hv154) rfl rfl (by kernel_rfl) (by kernel_rfl) (by kernel_rfl) (fun _ _ _ h => h) (by kernel_rfl) ?hh154 (by exact hS1) ?_
                case hh154 => (intro w' hSw; have d0 := (Gr.cell hSw.g LGS.out).trans s0; have d1 := (Gr.cell hSw.g LGS.out).trans s1; go_simp; try (with_reducible rfl))
                simp only [Act.put, List.setIfInBounds_toArray, List.set_cons_zero, List.set_cons_succ]
                refine wpAnyH_ready (rs := [23]) (by kernel_rfl) (by simp) (AllReadyH.cons rfl (fun K hK => ?_) AllReadyH.nil)
                go_simp
                refine (HO2.out _ hS1.g).mono ?_
                rintro e w3 ⟨rfl, g3⟩
                have hS2 := hS1.gr g3
                clear g3
                refine hK.out _ _ (by exact hS2) (fun _ => ?_)
                clear hK K
                refine takeS_on (i := 24) 63 (v := ?hv155) rfl rfl (by kernel_rfl) (by kernel_rfl) (by kernel_rfl) (fun _ _ _ h => h) (by kernel_rfl) ?hh155 (by exact hS2) ?_
                case hh155 => (intro w' hSw; go_simp; try (with_reducible rfl))
                simp only [Act.put, List.setIfInBounds_toArray, List.set_cons_zero, List.set_cons_succ]
                refine takeS_on (i := 25) 64 (v := ?hv156) rfl rfl (by kernel_rfl) (by kernel_rfl) (by kernel_rfl) (fun _ _ _ h => h) (by kernel_rfl) ?hh156 (by exact hS2) ?_
                case hh156 => (intro w' hSw; go_simp; try (with_reducible rfl))
                simp only [Act.put, List.setIfInBounds_toArray, List.set_cons_zero, List.set_cons_succ]
                refine takeS_on (i := 26) 2 (v := ?hv157) rfl rfl (by kernel_rfl) (by kernel_rfl) (by kernel_rfl) (fun _ _ _ h => h) (by kernel_rfl) ?hh157 (by exact hS2) ?_
                case hh157 => (intro w' hSw; go_simp; try (with_reducible rfl))
                simp only [Act.put, List.setIfInBounds_toArray, List.set_cons_zero, List.set_cons_succ]
                refine wpAnyH_done (by kernel_rfl) ?_ _
                go_wp2_with fail
                go_ret
                exact ⟨by rw [HV.out]; try rfl, hS2.g⟩
          · subst vc0
            have a1 : (0 : Int) < (sn : Int) := by omega
            have a2 : decide ((0 : Int) < (sn : Int)) = true := decide_eq_true a1
            have a3 : 0 < ss.length := by have := HSL.out; omega
            have a4 : 0 < sn := by omega
            have a5 : decide (0 < sn) = true := decide_eq_true a4
            have b1 : (0 : Int) < (rn : Int) := by omega
            have b2 : decide ((0 : Int) < (rn : Int)) = true := decide_eq_true b1
            have b3 : 0 < rs.length := by have := HRL.out; omega
            have b4 : 0 < rn := by omega
            have b5 : decide (0 < rn) = true := decide_eq_true b4
            have v1 : ((vn : Int) == 0) = false := by simp; omega
            have v2 : ¬ (vn : Int) = 0 := by omega
            obtain ⟨W0, hW0⟩ : ∃ W, W = w.alloc (.cells #[.int .i64 (vn : Int), .slice vo vn vc, .slice so sn sc, .slice ro rn rc, .bool false] 70) := ⟨_, rfl⟩
            have G1 := hid (show Gr w W0 from by rw [hW0]; exact Ch.alloc (Gr.refl w) _)
            have BX := hid (show W0.heap[w.heap.size]? = some (.cells #[.int .i64 (vn : Int), .slice vo vn vc, .slice so sn sc, .slice ro rn rc, .bool false] 70 (0, 0)) from by rw [hW0]; exact (MapKept.heap_alloc w _).1)
            have HV := hid (show wmB (vn : Int) vs ss rs false = false from by unfold wmB; rw [if_neg (by simp), if_pos (.inr ⟨b3, by have := HVL.out; omega⟩)])
            go_enter Try.func45, Try.ntmps45
            go_upto_region 1 with fail
            rw [← hW0]
            clear hW0
            obtain ⟨p0, p1, p2, p3, p4⟩ := five_cells BX.out
            have lB := lt_of_block BX.out
            go_quiet (fail)
            go_wp2_with fail
            go_ret
            exact ⟨by rw [HV.out]; try rfl, Ch.drewN G1.out _⟩
        · skip
          have a1 : (0 : Int) < (sn : Int) := by omega
          have a2 : decide ((0 : Int) < (sn : Int)) = true := decide_eq_true a1
          have a3 : 0 < ss.length := by have := HSL.out; omega
          have a4 : 0 < sn := by omega
          have a5 : decide (0 < sn) = true := decide_eq_true a4
          have b1 : (0 : Int) < (rn : Int) := by omega
          have b2 : decide ((0 : Int) < (rn : Int)) = true := decide_eq_true b1
          have b3 : 0 < rs.length := by have := HRL.out; omega
          have b4 : 0 < rn := by omega
          have b5 : decide (0 < rn) = true := decide_eq_true b4
          have v1 : ((vn : Int) == cp) = false := by simpa using vc0
          obtain ⟨W0, hW0⟩ : ∃ W, W = w.alloc (.cells #[.int .i64 cp, .slice vo vn vc, .slice so sn sc, .slice ro rn rc, .bool false] 70) := ⟨_, rfl⟩
          have G1 := hid (show Gr w W0 from by rw [hW0]; exact Ch.alloc (Gr.refl w) _)
          have BX := hid (show W0.heap[w.heap.size]? = some (.cells #[.int .i64 cp, .slice vo vn vc, .slice so sn sc, .slice ro rn rc, .bool false] 70 (0, 0)) from by rw [hW0]; exact (MapKept.heap_alloc w _).1)
          have HV := hid (show wmB cp vs ss rs false = false from by unfold wmB; rw [if_neg (by simp), if_pos (.inl ⟨a3, by rw [← HVL.out]; exact vc0⟩)])
          go_enter Try.func45, Try.ntmps45
          go_upto_region 1 with fail
          rw [← hW0]
          clear hW0
          obtain ⟨p0, p1, p2, p3, p4⟩ := five_cells BX.out
          have lB := lt_of_block BX.out
          go_quiet (fail)
          go_wp2_with fail
          go_ret
          exact ⟨by rw [HV.out]; try rfl, Ch.drewN G1.out _⟩
end Go.Proofs.Ytalmiphddgmfbab.Lt

namespace Go.Proofs.Ytalmiphddgmfbab.Lt
open Go.RowKit Wd
attribute [local go_sem ↓] Go.wp_at_zero Go.wp_at_succ

theorem may_split {cp : Int} {vs : List Int} {ss rs : List Wt} {cl : Bool} (h : (vs.length : Int) ≤ cp) : mayB cp vs ss rs cl = (wmB cp vs ss rs cl && !(rs.any (fun x : Wt => !(x.v == 0)))) := by
  have hz : (!(rs.any fun x : Wt => !(x.v == 0))) = rs.all (fun y => y.v == 0) := by rw [List.not_any_eq_all_not]; simp
  rw [hz]
  unfold mayB wmB
  cases cl with
  | false =>
    rw [if_neg (by simp)]
    by_cases hc : (0 < ss.length ∧ (vs.length : Int) ≠ cp) ∨ (0 < rs.length ∧ vs.length ≠ 0)
    · rw [if_pos hc]
      have e : ((decide (0 < ss.length) && decide ((vs.length : Int) < cp)) || (decide (0 < rs.length) && decide (0 < vs.length))) = true := by
        rcases hc with ⟨a, b⟩ | ⟨a, b⟩
        · rw [decide_eq_true a, decide_eq_true (show (vs.length : Int) < cp by omega)]; rfl
        · rw [decide_eq_true a, decide_eq_true (show 0 < vs.length by omega)]; simp
      rw [e]
      simp
    · rw [if_neg hc]
      have e : ((decide (0 < ss.length) && decide ((vs.length : Int) < cp)) || (decide (0 < rs.length) && decide (0 < vs.length))) = false := by
        rw [Bool.or_eq_false_iff, Bool.and_eq_false_iff, Bool.and_eq_false_iff]
        simp only [decide_eq_false_iff_not]
        refine ⟨?_, ?_⟩
        · by_cases a : 0 < ss.length
          · right; intro b; exact hc (.inl ⟨a, by omega⟩)
          · exact .inl a
        · by_cases a : 0 < rs.length
          · right; intro b; exact hc (.inr ⟨a, by omega⟩)
          · exact .inl a
      rw [e]
      simp
  | true =>
    rw [if_pos rfl]
    by_cases a : ss.length = 0
    · by_cases b : rs.length = 0
      · have e1 := List.length_eq_zero_iff.1 a
        have e2 := List.length_eq_zero_iff.1 b
        subst e1 e2
        simp [alB]
      · rw [decide_eq_false b]; simp
    · rw [decide_eq_false a]; simp
/-- may a channel be so? -/
def mayT (cp : Int) (vs : List Int) (ss rs : List Wt) (cl : Bool) : Bool := decide (0 ≤ cp ∧ cp ≤ 1024 ∧ (vs.length : Int) ≤ cp) && mayB cp vs ss rs cl
set_option maxHeartbeats 4000000 in
set_option maxRecDepth 20000 in
theorem maybe_any (P : Nat → Prop) (w : World) (cp : Int) (vo so ro : Option Addr) (vn vc sn sc rn rc : Nat) (cl : Bool) (vs : List Int) (ss rs : List Wt) (hvl : vn = vs.length) (hs : Ls eW P w (.slice so sn sc) ss) (hr : Ls eW P w (.slice ro rn rc) rs) (hb : sn ≤ 4398046511104 ∧ rn ≤ 4398046511104) :
    Calls Try.prog 22 #[.agg #[.int .i64 cp, .slice vo vn vc, .slice so sn sc, .slice ro rn rc, .bool cl]] w fun e w' => e = .returned (.bool (mayT cp vs ss rs cl)) ∧ Gr w w' := by
  obtain ⟨W0, hW0⟩ : ∃ W, W = w.alloc (.cells #[.int .i64 cp, .slice vo vn vc, .slice so sn sc, .slice ro rn rc, .bool cl] 70) := ⟨_, rfl⟩
  have G1 := hid (show Gr w W0 from by rw [hW0]; exact Ch.alloc (Gr.refl w) _)
  have BX := hid (show W0.heap[w.heap.size]? = some (.cells #[.int .i64 cp, .slice vo vn vc, .slice so sn sc, .slice ro rn rc, .bool cl] 70 (0, 0)) from by rw [hW0]; exact (MapKept.heap_alloc w _).1)
  have HW := hid (wmay_any P W0 cp vo so ro vn vc sn sc rn rc cl vs ss rs hvl (hs.gr G1.out) (hr.gr G1.out) hb)
  have HC := hid (fun (W : World) (p : Gr w W) => contains_some P W ro rn rc rs (hr.gr p) hb.2)
  have HM := hid (fun (q : (vn : Int) ≤ cp) => may_split (ss := ss) (rs := rs) (cl := cl) (show (vs.length : Int) ≤ cp from by rw [← hvl]; exact q))
  have HVL := hid hvl
  obtain ⟨M, hM⟩ : ∃ M, M = mayT cp vs ss rs cl := ⟨_, rfl⟩
  rw [← hM]
  have HT := hid hM
  clear hs hr hvl hb hM
  obtain ⟨p0, p1, p2, p3, p4⟩ := five_cells BX.out
  have lB := lt_of_block BX.out
  by_cases c0 : 0 ≤ cp
  · have c0' : decide (0 ≤ cp) = true := decide_eq_true c0
    by_cases c1 : cp ≤ 1024
    · have c1' : decide (cp ≤ 1024) = true := decide_eq_true c1
      by_cases c2 : (vn : Int) ≤ cp
      · have c2' : decide ((vn : Int) ≤ cp) = true := decide_eq_true c2
        have hm := HM.out c2
        have HT2 := hid (show M = mayB cp vs ss rs cl from by rw [HT.out]; unfold mayT; rw [decide_eq_true ⟨c0, c1, by rw [← HVL.out]; exact c2⟩, Bool.true_and])
        rw [hm] at HT2
        clear hm HT HM
        generalize wmB cp vs ss rs cl = z at HW HT2
        generalize rs.any (fun x : Wt => !(x.v == 0)) = y at HC HT2
        cases z with
        | false =>
          have e1 : M = false := HT2.out
          subst e1
          go_enter Try.func22, Try.ntmps22
          go_upto_region 1 with fail
          rw [← hW0]
          clear hW0
          go_wp2_with (first
            | (go_at_call 45; refine HW.out.mono ?_; rintro e w1 ⟨rfl, g1⟩; have G2 := hid (Gr.trans G1.out g1); have B2 := hid (gr_blk BX.out g1); clear g1; obtain ⟨p0, p1, p2, p3, p4⟩ := five_cells B2.out; have lB := lt_of_block B2.out)
            | (refine ld_rowM (by kernel_rfl) 70 (.tmp 1) rfl w.heap.size rfl _ _ _ _ BX.out Try.underlying70 rfl chn_size ?_))
          go_ret
          exact ⟨rfl, G2.out⟩
        | true =>
          cases y with
          | false =>
            have e1 : M = true := HT2.out
            subst e1
            go_enter Try.func22, Try.ntmps22
            go_upto_region 1 with fail
            rw [← hW0]
            clear hW0
            go_wp2_with (first
              | (go_at_call 46; refine (HC.out _ G2.out).mono ?_; rintro e w2 ⟨rfl, g2⟩; have G3 := hid (Gr.trans G2.out g2); clear g2)
              | (go_at_call 45; refine HW.out.mono ?_; rintro e w1 ⟨rfl, g1⟩; have G2 := hid (Gr.trans G1.out g1); have B2 := hid (gr_blk BX.out g1); clear g1; obtain ⟨p0, p1, p2, p3, p4⟩ := five_cells B2.out; have lB := lt_of_block B2.out))
            go_ret
            exact ⟨rfl, G3.out⟩
          | true =>
            have e1 : M = false := HT2.out
            subst e1
            go_enter Try.func22, Try.ntmps22
            go_upto_region 1 with fail
            rw [← hW0]
            clear hW0
            go_wp2_with (first
              | (go_at_call 46; refine (HC.out _ G2.out).mono ?_; rintro e w2 ⟨rfl, g2⟩; have G3 := hid (Gr.trans G2.out g2); clear g2)
              | (go_at_call 45; refine HW.out.mono ?_; rintro e w1 ⟨rfl, g1⟩; have G2 := hid (Gr.trans G1.out g1); have B2 := hid (gr_blk BX.out g1); clear g1; obtain ⟨p0, p1, p2, p3, p4⟩ := five_cells B2.out; have lB := lt_of_block B2.out))
            go_ret
            exact ⟨rfl, G3.out⟩
      · have c2' : decide ((vn : Int) ≤ cp) = false := decide_eq_false c2
        have e1 : M = false := by rw [HT.out]; unfold mayT; rw [decide_eq_false (fun q => c2 (by rw [HVL.out]; exact q.2.2)), Bool.false_and]
        subst e1
        go_enter Try.func22, Try.ntmps22
        go_upto_region 1 with fail
        rw [← hW0]
        clear hW0
        go_wp2_with fail
        go_ret
        exact ⟨rfl, G1.out⟩
    · have c1' : decide (cp ≤ 1024) = false := decide_eq_false c1
      have e1 : M = false := by rw [HT.out]; unfold mayT; rw [decide_eq_false (fun q => c1 q.2.1), Bool.false_and]
      subst e1
      go_enter Try.func22, Try.ntmps22
      go_upto_region 1 with fail
      rw [← hW0]
      clear hW0
      go_wp2_with fail
      go_ret
      exact ⟨rfl, G1.out⟩
  · have c0' : decide (0 ≤ cp) = false := decide_eq_false c0
    have e1 : M = false := by rw [HT.out]; unfold mayT; rw [decide_eq_false (fun q => c0 q.1), Bool.false_and]
    subst e1
    go_enter Try.func22, Try.ntmps22
    go_upto_region 1 with fail
    rw [← hW0]
    clear hW0
    go_wp2_with fail
    go_ret
    exact ⟨rfl, G1.out⟩
open Classical in
/-- one more channel behind the others, in lists of its own -/
theorem Cb.snoc {t : Nat → Tg} {w w1 w9 : World} {b k n m ca c9 : Nat} {ao a9 : Option Addr} {xs : List Rw} {M : List Me} {clock : Nat} {cs ds : List Cn} {x : Rw} {c : Cn} (H : Cb t w b k (.slice ao n ca) xs M clock cs ds) (g1 : Gr w w1) (hcap : x.cap = c.cap) (hcl : x.cl = c.cl)
    (hv : Ow eI 1 2 0 w1 x.v c.vs) (hs : Ow eW 4 95 0 w1 x.s c.ss) (hr : Ow eW 4 95 0 w1 x.r c.rs)
    (nv : ∀ q, Blk x.v q → w.heap.size ≤ q) (ns : ∀ q, Blk x.s q → w.heap.size ≤ q ∧ ¬ Blk x.v q) (nr : ∀ q, Blk x.r q → w.heap.size ≤ q ∧ ¬ Blk x.v q ∧ ¬ Blk x.s q)
    (O9 : Ow eR 5 70 0 w9 (.slice a9 m c9) (xs ++ [x])) (C9 : Ch (Blk (.slice ao n ca)) w1 w9) (B9 : ∀ q, Blk (.slice a9 m c9) q → Blk (.slice ao n ca) q ∨ w1.heap.size ≤ q) :
    ∃ t', Cb t' (w9.setCell ⟨b, 0, none⟩ (.slice a9 m c9)) b k (.slice a9 m c9) (xs ++ [x]) M clock (cs ++ [c]) ds ∧ Tn t t' w (w9.setCell ⟨b, 0, none⟩ (.slice a9 m c9)) := by
  have hbv : ∀ q, Blk (.slice ao n ca) q → t q = .out := H.nl.to
  obtain ⟨t1, ht1, nl1⟩ := H.nl.snoc g1 hcap hcl hv hs hr nv ns nr O9 C9 B9
  have hold : ∀ q, q < w.heap.size → (Blk (.slice a9 m c9) q ∨ Blk x.v q ∨ Blk x.s q ∨ Blk x.r q) → t q = .out := fun q hq hb => by
    have hs1 := g1.size
    rcases hb with hb | hb | hb | hb
    · rcases B9 q hb with h2 | h2
      · exact hbv q h2
      · omega
    · have := nv q hb; omega
    · have := (ns q hb).1; omega
    · have := (nr q hb).1; omega
  have hb9 : ¬ (Blk (.slice a9 m c9) b ∨ Blk x.v b ∨ Blk x.s b ∨ Blk x.r b) := fun hq => by
    have e1 := hold b (lt_of_block H.me) hq
    rw [H.tb] at e1
    cases e1
  have M1 : w1.heap[b]? = some (.cells #[.slice ao n ca, .map (some k)] 74 (0, 0)) := gr_blk H.me g1
  have M9 : w9.heap[b]? = some (.cells #[.slice ao n ca, .map (some k)] 74 (0, 0)) := (C9.block b (lt_of_block M1) (fun hq => by have e1 := hbv b hq; rw [H.tb] at e1; cases e1)).trans M1
  have kb : Ch (Only b) w9 (w9.setCell ⟨b, 0, none⟩ (.slice a9 m c9)) := Ch.own (Ch.refl _ _) _ _
  have kt : Ch (fun q => t q = .out ∨ t q = .me) w (w9.setCell ⟨b, 0, none⟩ (.slice a9 m c9)) :=
    ((show Ch (fun q => t q = .out ∨ t q = .me) w w1 from g1.any).trans C9 (fun q hq => .inl (.inl (hbv q hq)))).trans kb (fun q hq => .inl (.inr (by have e : q = b := hq; rw [e]; exact H.tb)))
  refine ⟨fun q => if (Blk (.slice a9 m c9) q ∨ Blk x.v q ∨ Blk x.s q ∨ Blk x.r q) then t1 q else t q, ⟨?_, (if_neg hb9).trans H.tb, ?_, ?_, ?_, ?_⟩, ⟨kt.mono (fun q hq => .inl (by rcases hq with hq | hq <;> rw [hq] <;> exact fun e => by cases e)), fun q hq e => ?_⟩⟩
  · have := setCell_block M9 0 (.slice a9 m c9)
    simpa using this
  · refine (if_neg (fun hq => ?_)).trans H.tk
    have e1 := hold k H.mp.at_.lt hq
    rw [H.tk] at e1
    cases e1
  · refine NL.ch (NL.retag nl1 (fun q hq => ?_)) kb (fun q hq => ?_)
    · by_cases hb : (Blk (.slice a9 m c9) q ∨ Blk x.v q ∨ Blk x.s q ∨ Blk x.r q)
      · exact if_pos hb
      · refine (if_neg hb).trans ?_
        rcases hq with hq | ⟨i, y, hy, hq⟩
        · exact (hb (.inl hq)).elim
        · by_cases hi : i < xs.length
          · rw [List.getElem?_append_left hi] at hy
            obtain ⟨d, hd⟩ : ∃ d, cs[i]? = some d := ⟨_, List.getElem?_eq_getElem (by rw [← H.nl.n]; exact hi)⟩
            have yo := H.nl.f i y d hy hd
            refine (ht1 q ?_).symm
            rcases hq with hq | hq | hq
            · exact (yo.v.blk hq).2
            · exact (yo.s.blk hq).2
            · exact (yo.r.blk hq).2
          · rw [List.getElem?_append_right (by omega)] at hy
            have e1 : i - xs.length = 0 := by
              rcases Nat.eq_zero_or_pos (i - xs.length) with e | e
              · exact e
              · rw [List.getElem?_eq_none (by simp; omega)] at hy; cases hy
            rw [e1, List.getElem?_cons_zero] at hy
            injection hy with hy
            subst hy
            exact (hb (.inr hq)).elim
    · have e : q = b := hq
      rw [e]
      show ¬ (if (Blk (.slice a9 m c9) b ∨ Blk x.v b ∨ Blk x.s b ∨ Blk x.r b) then t1 b else t b).in_
      rw [if_neg hb9, H.tb]
      decide
  · refine H.mp.to H.tk kt (fun q _ hq => ?_) (fun q hq h7 => ?_) (fun s g => rfl)
    · rcases hq with hq | hq <;> rw [hq] <;> decide
    · exact if_neg (fun hb => by have e1 := hold q hq hb; rw [e1] at h7; cases h7)
  · intro q hq
    have hsz : (w9.setCell ⟨b, 0, none⟩ (.slice a9 m c9)).heap.size = w9.heap.size := by simp [World.setCell]
    have hs9 := C9.size
    by_cases hb : (Blk (.slice a9 m c9) q ∨ Blk x.v q ∨ Blk x.s q ∨ Blk x.r q)
    · rcases hb with hb | hb | hb | hb
      · have := (O9.blk hb).2; omega
      · have := (hv.blk hb).2; omega
      · have := (hs.blk hb).2; omega
      · have := (hr.blk hb).2; omega
    · rw [if_neg hb] at hq
      exact Nat.lt_of_lt_of_le (H.hi q hq) kt.size
  · exact (if_neg (fun hb => by have e1 := hold q hq hb; rw [e] at e1; cases e1)).trans e
theorem Cb.ds {t : Nat → Tg} {w : World} {b k : Nat} {v : Value} {xs : List Rw} {M : List Me} {clock : Nat} {cs ds ds' : List Cn} (h : Cb t w b k v xs M clock cs ds) (hp : ∀ s g, plA s g 0 ds' = plA s g 0 ds) : Cb t w b k v xs M clock cs ds' :=
  ⟨h.me, h.tb, h.tk, h.nl, h.mp.to h.tk (Ch.refl NoB w) (fun _ _ q => q.elim) (fun _ _ _ => rfl) hp, h.hi⟩
set_option maxRecDepth 40000 in
set_option maxHeartbeats 8000000 in
theorem note_any {t : Nat → Tg} {w : World} {b k : Nat} {v : Value} {xs : List Rw} {M0 : List Me} {clock0 : Nat} {cs : List Cn} (dsf : Nat → List Cn) {ch : Int} (P : Nat → Prop) (ao : Option Addr) (n cap : Nat) (ws : List Wt) (h0 : Cb t w b k v xs M0 clock0 cs (dsf 0)) (hkk : ∀ x ∈ ws, Gok x.s x.g) (hl : Ls eW P w (.slice ao n cap) ws) (hP : ∀ q, q < w.heap.size → P q → t q = .no)
    (hst : ∀ (j : Nat) (x : Wt), ws[j]? = some x → (plA x.s x.g 0 (dsf (j + 1))).Perm (plA x.s x.g 0 (dsf j) ++ [ch]) ∧ ∀ s' g', ¬ (s' = x.s ∧ g' = x.g) → plA s' g' 0 (dsf (j + 1)) = plA s' g' 0 (dsf j)) (hbb : ∀ (j : Nat) (x : Wt), ws[j]? = some x → pls (dsf j) x.s x.g ≤ 4398046511104) (hn : n ≤ 4398046511104) :
    Calls Try.prog 24 #[.pointer (some ⟨b, 0, none⟩), .int .i64 ch, .slice ao n cap] w fun e w' => e = .returned (.tuple #[]) ∧ NtR t w b k v xs cs (dsf n) w' := by
  have HL := hid hl
  have HLN := hid hl.len.1
  have HKK := hid hkk
  have HPP := hid hP
  have HST := hid hst
  have HBB := hid hbb
  have H0 := hid (show NtR t w b k v xs cs (dsf 0) w from ⟨t, M0, clock0, h0, Tn.refl _ _⟩)
  clear h0 hkk hl hP hst hbb
  go_enter Try.func24, Try.ntmps24
  go_wp2_with fail
  go_loopg [10] n (fun q v10 wr => ∃ j : Nat, j + q = n ∧ v10 = .int .i64 (j : Int) ∧ NtR t w b k v xs cs (dsf j) wr)
  case atStart => exact ⟨0, by omega, rfl, H0.out⟩
  case round =>
    obtain ⟨j, hjq, rfl, hN⟩ := hrel
    have HN := hid hN
    clear hN H0
    by_cases hj : j < n
    · obtain ⟨⟨s, g, cc, vv⟩, hx⟩ : ∃ x, ws[j]? = some x := ⟨_, List.getElem?_eq_getElem (by rw [← HLN.out]; exact hj)⟩
      obtain ⟨t1, M, clock, h, hT⟩ := HN.out
      have NT := hid hT
      have hk := HKK.out _ (List.mem_of_getElem? hx)
      obtain ⟨hps, hpo⟩ := HST.out j _ hx
      have hb := HBB.out j _ hx
      dsimp only at hk hps hpo hb
      have LL := hid (NT.out.ls HL.out HPP.out)
      obtain ⟨uo, un, uc, M1, clock1, jj, b0, hs, en, hun, hp, hol, htg⟩ := h.mp.entry hk
      have NOTED := hid (fun w5 u K mm o nb => h.noted en hp hps hpo w5 u K mm o nb)
      have EN := hid en.run
      have STO := hid (fun (W : World) (val : Value) (p : MAt W k M1 clock1) => stoG p en.st.1 en.at_ val)
      dsimp only at STO
      unfold goInt at STO
      have HUN := hid hol.len.1
      have HUB := hid (show un ≤ 4398046511104 from by rw [hun]; exact hb)
      have TG := hid htg
      have TK := hid h.tk
      have TB := hid h.tb
      have TW := hid (show t1 wr.heap.size = .no from by
        rcases Classical.em (t1 wr.heap.size = .no) with e | e
        · exact e
        · have := h.hi _ e; omega)
      have NBK := hid (show b ≠ k from fun e => by have e1 := h.tb; rw [e, h.tk] at e1; cases e1)
      have NWK := hid (show wr.heap.size ≠ k from by have := h.mp.at_.lt; omega)
      have HCB := hid h
      have HOL := hid hol
      obtain ⟨gg, oo, cap', hv, _, hgl, _, hcs⟩ := LL.out.get eW_len hx
      injection hv with hv1 hv2 hv3
      subst hv1
      clear hv2 hv3
      have c0 := hcs 0 _ rfl
      have c1 := hcs 1 _ rfl
      have c2 := hcs 2 _ rfl
      have c3 := hcs 3 _ rfl
      simp only [Nat.add_zero] at c0 c1 c2 c3
      have j0 : (0 : Int) ≤ (j : Int) := by omega
      have j1 : (j : Int) < (n : Int) := by omega
      have HJW := hid (show wrap64 ((j : Int) + 1) = ((j + 1 : Nat) : Int) from by unfold wrap64; omega)
      clear h hk hps hpo hb hx hun hp hol htg en hT
      have GA : Gr wr (World.drew (wr.alloc (.cells #[.int .i64 s, .int .i64 g, .int .i64 cc, .int .i64 vv] 95))) := Ch.drew (Ch.alloc (Gr.refl wr) _)
      have hS0 : Sn wr b v k s g cc vv (World.drew (wr.alloc (.cells #[.int .i64 s, .int .i64 g, .int .i64 cc, .int .i64 vv] 95))) := ⟨gr_blk HCB.out.me GA, (MapKept.heap_alloc wr _).1⟩
      have MM := hid (HCB.out.mp.at_.ch GA (noB _))
      have OO := hid (HOL.out.gr GA)
      have KK := hid (show Ch (fun q => t1 q = .mp ∨ t1 q = .pl s g) wr _ from GA.any)
      have ZZ := hid GA.size
      clear hcs hgl GA
      go_wp2_with fail
      refine wp_region_held_drew (S := Sn wr b v k s g cc vv) (by kernel_rfl) (by exact hS0) (fun _ => ?_)
      generalize World.drew (wr.alloc (.cells #[.int .i64 s, .int .i64 g, .int .i64 cc, .int .i64 vv] 95)) = V0 at hS0 MM OO KK ZZ ⊢
      refine takeS_on (i := 0) 14 (v := ?v1) rfl rfl (by kernel_rfl) (by kernel_rfl) (by kernel_rfl) (fun _ _ _ h => h) (by kernel_rfl) ?hy1 (by exact hS0) ?_
      case hy1 => (intro w' hSw; go_simp; try (with_reducible rfl))
      simp only [Act.put, List.setIfInBounds_toArray, List.set_cons_zero, List.set_cons_succ]
      refine takeS_on (i := 1) 15 (v := ?v2) rfl rfl (by kernel_rfl) (by kernel_rfl) (by kernel_rfl) (fun _ _ _ h => h) (by kernel_rfl) ?hy2 (by exact hS0) ?_
      case hy2 => (intro w' hSw; go_simp; try (with_reducible rfl))
      simp only [Act.put, List.setIfInBounds_toArray, List.set_cons_zero, List.set_cons_succ]
      refine takeS_on (i := 2) 16 (v := ?v3) rfl rfl (by kernel_rfl) (by kernel_rfl) (by kernel_rfl) (fun _ _ _ h => h) (by kernel_rfl) ?hy3 (by exact hS0) ?_
      case hy3 => (intro w' hSw; go_simp; try (with_reducible rfl))
      simp only [Act.put, List.setIfInBounds_toArray, List.set_cons_zero, List.set_cons_succ]
      refine takeS_on (i := 3) 17 (v := ?v4) rfl rfl (by kernel_rfl) (by kernel_rfl) (by kernel_rfl) (fun _ _ _ h => h) (by kernel_rfl) ?hy4 (by exact hS0) ?_
      case hy4 => (intro w' hSw; have c1 := cell_of hSw.me 1; simp at c1; go_simp; try (with_reducible rfl))
      simp only [Act.put, List.setIfInBounds_toArray, List.set_cons_zero, List.set_cons_succ]
      refine takeS_on (i := 4) 18 (v := ?v5) rfl rfl (by kernel_rfl) (by kernel_rfl) (by kernel_rfl) (fun _ _ _ h => h) (by kernel_rfl) ?hy5 (by exact hS0) ?_
      case hy5 => (intro w' hSw; go_simp; try (with_reducible rfl))
      simp only [Act.put, List.setIfInBounds_toArray, List.set_cons_zero, List.set_cons_succ]
      refine takeS_on (i := 5) 19 (v := ?v6) rfl rfl (by kernel_rfl) (by kernel_rfl) (by kernel_rfl) (fun _ _ _ h => h) (by kernel_rfl) ?hy6 (by exact hS0) ?_
      case hy6 => (intro w' hSw; have c0 := cell_of hSw.bx 0; have c1 := cell_of hSw.bx 1; simp at c0 c1; go_simp; try (with_reducible rfl))
      simp only [Act.put, List.setIfInBounds_toArray, List.set_cons_zero, List.set_cons_succ]
      refine takeS_on (i := 6) 21 (v := ?v7) rfl rfl (by kernel_rfl) (by kernel_rfl) (by kernel_rfl) (fun _ _ _ h => h) (by kernel_rfl) ?hy7 (by exact hS0) ?_
      case hy7 => (intro w' hSw; go_simp; try (with_reducible rfl))
      simp only [Act.put, List.setIfInBounds_toArray, List.set_cons_zero, List.set_cons_succ]
      refine wpAnyH_ready (rs := [7]) (by kernel_rfl) (by simp) (AllReadyH.cons rfl (fun K hK => ?_) AllReadyH.nil)
      go_simp
      have G7 : Gr V0 (V0.alloc (.cells #[.int .i64 ch] 2)) := Ch.alloc (Gr.refl _) _
      have SG := hid (Ls.single (enc := eI) V0 ch 2 #[.int .i64 ch] rfl)
      have SZ := hid (show k < V0.heap.size from MM.out.lt)
      have hS1 := hS0.gr G7
      have MM := hid (MM.out.ch G7 (noB _))
      have OO := hid (OO.out.gr G7)
      have KK := hid (KK.out.trans G7 (fun _ q => q.elim))
      have ZZ := hid (Nat.le_trans ZZ.out G7.size)
      clear G7
      generalize V0.alloc (.cells #[.int .i64 ch] 2) = u1 at hS1 MM OO KK SG ZZ ⊢
      refine hK.out _ _ (by exact hS1) (fun _ => ?_)
      clear hK K
      refine wpAnyH_ready (rs := [8]) (by kernel_rfl) (by simp) (AllReadyH.cons rfl (fun K hK => ?_) AllReadyH.nil)
      have hE := EN.out _ MM.out
      go_simp
      have G7 := putM_ch u1 k M1 clock1
      clear hE
      have hS2 := hS1.ch G7 (fun e => NBK.out e) (fun e => NWK.out e)
      have SG := hid (SG.out.ch G7 (fun q _ hq e => by have e1 : q = k := e; have := SZ.out; omega))
      have MM := hid (putM_at (MM.out.lt) M1 clock1)
      have OO := hid (OO.out.ch G7 (fun q hq e => by have e1 : q = k := e; have e2 := TG.out q hq; rw [e1, TK.out] at e2; cases e2))
      have KK := hid (KK.out.trans G7 (fun q e => .inl (.inl (by have e1 : q = k := e; rw [e1]; exact TK.out))))
      have ZZ := hid (Nat.le_trans ZZ.out G7.size)
      clear G7
      generalize putM u1 k M1 clock1 = u2 at hS2 MM OO KK ZZ SG ⊢
      refine hK.out _ _ (by exact hS2) (fun _ => ?_)
      clear hK K
      refine takeS_on (i := 9) 20 (v := ?v8) rfl rfl (by kernel_rfl) (by kernel_rfl) (by kernel_rfl) (fun _ _ _ h => h) (by kernel_rfl) ?hy8 (by exact hS2) ?_
      case hy8 => (intro w' hSw; go_simp; try (with_reducible rfl))
      simp only [Act.put, List.setIfInBounds_toArray, List.set_cons_zero, List.set_cons_succ]
      refine takeS_on (i := 11) 25 (v := ?v9) rfl rfl (by kernel_rfl) (by kernel_rfl) (by kernel_rfl) (fun _ _ _ h => h) (by kernel_rfl) ?hy9 (by exact hS2) ?_
      case hy9 => (intro w' hSw; go_simp; try (with_reducible rfl))
      simp only [Act.put, List.setIfInBounds_toArray, List.set_cons_zero, List.set_cons_succ]
      refine wpAnyH_ready (rs := [10]) (by kernel_rfl) (by simp) (AllReadyH.cons rfl (fun K hK => ?_) AllReadyH.nil)
      refine step_append_ow eI_len rfl (.tmp 20) (.tmp 22) _ 2 8 _ Try.underlying67 i64_info rfl (by omega) rfl 0 _ hs rfl OO.out _ _ [ch] rfl SG.out (eI_one _) (un + 1) (by rw [HUN.out]; rfl) (by have := HUB.out; omega) (by unfold maxLen; have := HUB.out; omega) (Nat.zero_le _) (hs ++ [ch]) rfl ?_
      intro ao5 cap5 w5 ow5 cw5 bl5
      have hS5 := hS2.ch cw5 (fun hq => by have e2 := TG.out b hq; rw [TB.out] at e2; cases e2) (fun hq => by have e2 := TG.out _ hq; rw [TW.out] at e2; cases e2)
      have MM5 := hid (MM.out.ch cw5 (fun hq => by have e2 := TG.out k hq; rw [TK.out] at e2; cases e2))
      have O5 := hid ow5
      have N5 := hid (show ∀ q, Blk (.slice ao5 (un + 1) cap5) q → t1 q = .pl s g ∨ wr.heap.size ≤ q from fun q hq => (bl5 q hq).elim (fun h1 => .inl (TG.out q h1)) (fun h1 => .inr (Nat.le_trans ZZ.out h1)))
      have K5 := hid (KK.out.trans cw5 (fun q hq => .inl (.inr (TG.out q hq))))
      clear ow5 cw5 bl5
      refine hK.out _ _ (by exact hS5) (fun _ => ?_)
      change wpAnyH _ _ _ _ _ _ _ (Act.put _ (some 24) _) _
      simp only [Act.put, List.setIfInBounds_toArray, List.set_cons_zero, List.set_cons_succ]
      clear hK K
      refine wpAnyH_ready (rs := [12]) (by kernel_rfl) (by simp) (AllReadyH.cons rfl (fun K hK => ?_) AllReadyH.nil)
      have hE := STO.out _ (.slice ao5 (un + 1) cap5) MM5.out
      go_simp
      clear hE
      have hS6 := hS5.ch (putM_ch w5 k (M1.set jj ⟨s, g, .slice ao5 (un + 1) cap5, b0⟩) clock1) (fun e => NBK.out e) (fun e => NWK.out e)
      refine hK.out _ _ (by exact hS6) (fun _ => ?_)
      clear hK K
      refine wpAnyH_done (by kernel_rfl) ?_ _
      go_wp2_with fail
      go_roundg (gk - 1)
      case measure => omega
      case rel =>
        obtain ⟨t2, M2, clock2, C2, T2⟩ := NOTED.out w5 _ K5.out MM5.out O5.out N5.out
        refine ⟨j + 1, by omega, ?_, t2, M2, clock2, C2, NT.out.trans T2⟩
        first | exact congrArg _ HJW.out | simp
    · have jn : ¬ (j : Int) < (n : Int) := by omega
      obtain rfl : j = n := by omega
      go_wp2
      go_end0
      exact ⟨rfl, HN.out⟩
end Go.Proofs.Ytalmiphddgmfbab.Lt

namespace Go.Proofs.Ytalmiphddgmfbab.Lt
open Go.RowKit Wd
attribute [local go_sem ↓] Go.wp_at_zero Go.wp_at_succ

/-- may channels be so? -/
def ldB (cs : List Cn) : Bool := decide (cs.length ≤ 1024) && cs.all (fun c => mayT c.cap c.vs c.ss c.rs c.cl)
/-- what Load tells -/
def LdR (w : World) (cs : List Cn) (e : Ending) (w' : World) : Prop := (ldB cs = true → ∃ (b : Nat) (t : Nat → Tg), e = .returned (.tuple #[.pointer (some ⟨b, 0, none⟩), .int .i64 0]) ∧ Cs t w' b cs ∧ (∀ q, q < w.heap.size → t q = .no)) ∧ (ldB cs = false → e = .returned (.tuple #[.pointer none, .int .i64 110])) ∧ Gr w w'
structure Sl (B : Nat) (R : Array Value) (W : World) : Prop where
  bx : W.heap[B]? = some (.cells R 70 (0, 0))
theorem Sl.gr {W W' : World} {B : Nat} {R : Array Value} (h : Sl B R W) (k : Gr W W') : Sl B R W' := ⟨gr_blk h.bx k⟩
theorem Sl.ch {W W' : World} {B : Nat} {R : Array Value} {S : Nat → Prop} (h : Sl B R W) (k : Ch S W W') (hn : ¬ S B) : Sl B R W' := ⟨(k.block _ (lt_of_block h.bx) hn).trans h.bx⟩
theorem eRy_one (yc : Int) (a1 a2 a3 : Option Addr) (n1 k1 n2 k2 n3 k3 : Nat) (yl : Bool) : ∀ u ∈ [Rw.mk yc (.slice a1 n1 k1) (.slice a2 n2 k2) (.slice a3 n3 k3) yl].flatMap eR, u.oneCell' = true := by
  intro u hu
  simp [eR] at hu
  rcases hu with rfl | rfl | rfl | rfl | rfl <;> rfl
/-- the channels of which the map of places speaks while those that wait are noted -/
def dS (cs : List Cn) (j : Nat) (c : Cn) (i : Nat) : List Cn := cs.take j ++ [⟨c.cap, c.vs, c.ss.take i, [], c.cl⟩]
def dR (cs : List Cn) (j : Nat) (c : Cn) (i : Nat) : List Cn := cs.take j ++ [⟨c.cap, c.vs, c.ss, c.rs.take i, c.cl⟩]
theorem dS_zero (cs : List Cn) (j : Nat) (c : Cn) (s g : Int) : plA s g 0 (dS cs j c 0) = plA s g 0 (cs.take j) := by
  unfold dS
  rw [plA_snoc]
  simp [Cn.pl, Lt.wo]
theorem dS_end (cs : List Cn) (j : Nat) (c : Cn) : dS cs j c c.ss.length = dR cs j c 0 := by unfold dS dR; rw [List.take_length, List.take_zero]
theorem dR_end {cs : List Cn} {j : Nat} {c : Cn} (h : cs[j]? = some c) : dR cs j c c.rs.length = cs.take (j + 1) := by unfold dR; rw [List.take_length, take_one h]
theorem snoc_more {cs : List Cn} {c d : Cn} {s g : Int} (h : d.pl s g = c.pl s g + 1) : (plA s g 0 (cs ++ [d])).Perm (plA s g 0 (cs ++ [c]) ++ [((cs.length + 1 : Nat) : Int)]) := by
  rw [plA_snoc, plA_snoc, h, List.replicate_succ', List.append_assoc, Nat.zero_add]
theorem snoc_same {cs : List Cn} {c d : Cn} {s g : Int} (h : d.pl s g = c.pl s g) : plA s g 0 (cs ++ [d]) = plA s g 0 (cs ++ [c]) := by rw [plA_snoc, plA_snoc, h]
theorem tot_take {cs : List Cn} {j : Nat} {c : Cn} (h : cs[j]? = some c) : tot (cs.take j) + wl c ≤ tot cs := by
  obtain ⟨hj, he⟩ := List.getElem?_eq_some_iff.1 h
  have e : cs = cs.take j ++ c :: cs.drop (j + 1) := by rw [← he, ← List.drop_eq_getElem_cons hj, List.take_append_drop]
  have e2 : tot cs = tot (cs.take j ++ c :: cs.drop (j + 1)) := by rw [← e]
  rw [e2]
  unfold tot
  rw [List.map_append, List.map_cons, List.sum_append, List.sum_cons]
  omega
theorem tot_snoc (cs : List Cn) (c : Cn) : tot (cs ++ [c]) = tot cs + wl c := by unfold tot; rw [List.map_append, List.sum_append]; simp
theorem dS_ok {cs : List Cn} {j : Nat} {c : Cn} (hc : cs[j]? = some c) (ht : tot cs ≤ 4398046511104) :
    (∀ (i : Nat) (x : Wt), c.ss[i]? = some x → (plA x.s x.g 0 (dS cs j c (i + 1))).Perm (plA x.s x.g 0 (dS cs j c i) ++ [((j + 1 : Nat) : Int)]) ∧ ∀ s' g', ¬ (s' = x.s ∧ g' = x.g) → plA s' g' 0 (dS cs j c (i + 1)) = plA s' g' 0 (dS cs j c i)) ∧ ∀ (i : Nat) (x : Wt), c.ss[i]? = some x → pls (dS cs j c i) x.s x.g ≤ 4398046511104 := by
  have hjl := (List.getElem?_eq_some_iff.1 hc).1
  have hl : (cs.take j).length = j := by rw [List.length_take]; omega
  refine ⟨fun i x hx => ?_, fun i x hx => ?_⟩
  · unfold dS
    rw [take_one hx]
    have q := pl_ss ⟨c.cap, c.vs, c.ss.take i, [], c.cl⟩ x.s x.g x.c x.v
    refine ⟨?_, fun s' g' hne => snoc_same (q.2 s' g' hne)⟩
    have := snoc_more (cs := cs.take j) (q.1 trivial)
    rw [hl] at this
    exact this
  · refine Nat.le_trans (pls_tot _ _ _) (Nat.le_trans ?_ ht)
    unfold dS
    rw [tot_snoc]
    have := tot_take hc
    have h2 : wl ⟨c.cap, c.vs, c.ss.take i, [], c.cl⟩ ≤ wl c := by unfold wl; dsimp only; rw [List.length_take]; simp; omega
    omega
theorem dR_ok {cs : List Cn} {j : Nat} {c : Cn} (hc : cs[j]? = some c) (ht : tot cs ≤ 4398046511104) :
    (∀ (i : Nat) (x : Wt), c.rs[i]? = some x → (plA x.s x.g 0 (dR cs j c (i + 1))).Perm (plA x.s x.g 0 (dR cs j c i) ++ [((j + 1 : Nat) : Int)]) ∧ ∀ s' g', ¬ (s' = x.s ∧ g' = x.g) → plA s' g' 0 (dR cs j c (i + 1)) = plA s' g' 0 (dR cs j c i)) ∧ ∀ (i : Nat) (x : Wt), c.rs[i]? = some x → pls (dR cs j c i) x.s x.g ≤ 4398046511104 := by
  have hjl := (List.getElem?_eq_some_iff.1 hc).1
  have hl : (cs.take j).length = j := by rw [List.length_take]; omega
  refine ⟨fun i x hx => ?_, fun i x hx => ?_⟩
  · unfold dR
    rw [take_one hx]
    have q := pl_rs ⟨c.cap, c.vs, c.ss, c.rs.take i, c.cl⟩ x.s x.g x.c x.v
    refine ⟨?_, fun s' g' hne => snoc_same (q.2 s' g' hne)⟩
    have := snoc_more (cs := cs.take j) (q.1 trivial)
    rw [hl] at this
    exact this
  · refine Nat.le_trans (pls_tot _ _ _) (Nat.le_trans ?_ ht)
    unfold dR
    rw [tot_snoc]
    have := tot_take hc
    have h2 : wl ⟨c.cap, c.vs, c.ss, c.rs.take i, c.cl⟩ ≤ wl c := by unfold wl; dsimp only; rw [List.length_take]; omega
    omega
theorem ldB_no {cs : List Cn} {j : Nat} {c : Cn} (hc : cs[j]? = some c) (h : mayT c.cap c.vs c.ss c.rs c.cl = false) : ldB cs = false := by
  unfold ldB
  have : cs.all (fun c => mayT c.cap c.vs c.ss c.rs c.cl) = false := List.all_eq_false.2 ⟨c, List.mem_of_getElem? hc, by rw [h]; simp⟩
  rw [this, Bool.and_false]
set_option maxRecDepth 40000 in
set_option maxHeartbeats 8000000 in
theorem load_walk (P : Nat → Prop) (w : World) (ao : Option Addr) (n cap : Nat) (cs : List Cn) (h : Rds P w (.slice ao n cap) cs) (hb : Bd cs) (ht : tot cs ≤ 4398046511104) (hg : ∀ c ∈ cs, ∀ x, x ∈ c.ss ∨ x ∈ c.rs → Gok x.s x.g) :
    Calls Try.prog 7 #[.slice ao n cap] w (LdR w cs) := by
  have hnl : n = cs.length := by
    obtain ⟨a, c, e⟩ := h.form
    injection e
  have HNL := hid hnl
  have HBD := hid hb
  have HTO := hid ht
  have HGO := hid hg
  have HR := hid (h.mono (Q := fun q => q < w.heap.size) (fun q h1 _ => h1))
  have HNW := hid (new_any w)
  clear h hb ht hg hnl
  by_cases h1 : n ≤ 1024
  · have h1' : ¬ (1024 : Int) < (n : Int) := by omega
    have h2' : ¬ ((n : Int) > 1024) := by omega
    have J24 := hid h1
    go_enter Try.func7, Try.ntmps7
    go_wp2_with (go_at_call 12; refine HNW.out.mono ?_; rintro e w1 ⟨b, t1, rfl, c1, g1, z1⟩; have C1 := hid c1; have G1 := hid g1; have Z1 := hid z1; clear c1 g1 z1)
    clear h1' h2'
    go_loopg [13] n (fun q v13 wr => ∃ (j : Nat) (t : Nat → Tg), j + q = n ∧ v13 = .int .i64 (j : Int) ∧ Cs t wr b (cs.take j) ∧ (∀ q, q < w.heap.size → t q = .no) ∧ Gr w wr ∧ (∀ c ∈ cs.take j, mayT c.cap c.vs c.ss c.rs c.cl = true))
    case atStart => exact ⟨0, t1, by omega, rfl, C1.out, Z1.out, G1.out, fun c hc => by simp at hc⟩
    case round =>
      obtain ⟨j, t, hjq, rfl, hC, hZ, hG, hA⟩ := hrel
      have CJ := hid hC
      have ZJ := hid hZ
      have GJ := hid hG
      have AJ := hid hA
      clear hC hZ hG hA C1 Z1 G1
      by_cases hj : j < n
      · obtain ⟨c, hc⟩ : ∃ c, cs[j]? = some c := ⟨_, List.getElem?_eq_getElem (by rw [← HNL.out]; exact hj)⟩
        obtain ⟨rows, hl, hrn, hf⟩ := HR.out
        obtain ⟨x, hx⟩ : ∃ x, rows[j]? = some x := ⟨_, List.getElem?_eq_getElem (by rw [hrn, ← HNL.out]; exact hj)⟩
        have hrd := hf j x c hx hc
        obtain ⟨gg, oo, cap', hv, _, hgl, _, hcs⟩ := (hl.gr GJ.out).get eR_len hx
        injection hv with hv1 hv2 hv3
        subst hv1
        clear hv2 hv3
        obtain ⟨vo, vk, ex⟩ := hrd.v.form
        obtain ⟨so, sk, ey⟩ := hrd.s.form
        obtain ⟨ro, rk, ez⟩ := hrd.r.form
        have c0 := hcs 0 _ rfl
        have c1 := hcs 1 _ rfl
        have c2 := hcs 2 _ rfl
        have c3 := hcs 3 _ rfl
        have c4 := hcs 4 _ rfl
        simp only [Nat.add_zero] at c0
        obtain ⟨xcap, xv, xs', xr, xcl⟩ := x
        dsimp only at ex ey ez c0 c1 c2 c3 c4
        subst ex ey ez
        have mem := List.mem_of_getElem? hc
        obtain ⟨vn, evn⟩ : ∃ m, m = c.vs.length := ⟨_, rfl⟩
        obtain ⟨sn, esn⟩ : ∃ m, m = c.ss.length := ⟨_, rfl⟩
        obtain ⟨rn, ern⟩ : ∃ m, m = c.rs.length := ⟨_, rfl⟩
        rw [← evn] at c1 hrd
        rw [← esn] at c2 hrd
        rw [← ern] at c3 hrd
        obtain ⟨W1, hW1⟩ : ∃ W1, W1 = wr.alloc (.cells #[.int .i64 xcap, .slice vo vn vk, .slice so sn sk, .slice ro rn rk, .bool xcl] 70) := ⟨_, rfl⟩
        have GA := hid (show Gr wr W1 from by rw [hW1]; exact Ch.alloc (Gr.refl wr) _)
        have BXA := hid (show W1.heap[wr.heap.size]? = some (.cells #[.int .i64 xcap, .slice vo vn vk, .slice so sn sk, .slice ro rn rk, .bool xcl] 70 (0, 0)) from by rw [hW1]; exact (MapKept.heap_alloc wr _).1)
        have bds := HBD.out.s c mem
        have bdr := HBD.out.r c mem
        have HRD := hid hrd
        have HMB := hid (maybe_any (fun q => q < w.heap.size) W1 xcap vo so ro vn vk sn sk rn rk xcl c.vs c.ss c.rs evn (hrd.s.gr (Gr.trans GJ.out GA.out)) (hrd.r.gr (Gr.trans GJ.out GA.out)) ⟨by omega, by omega⟩)
        have ecap : xcap = c.cap := hrd.cap
        have ecl : xcl = c.cl := hrd.cl
        have HEC := hid ecap
        have HEL := hid ecl
        have HZZ := hid (show mayT xcap c.vs c.ss c.rs xcl = mayT c.cap c.vs c.ss c.rs c.cl from by rw [ecap, ecl])
        have HMM := hid mem
        have HC := hid hc
        have HVN := hid evn
        have HSN := hid esn
        have HRN := hid ern
        have j0 : (0 : Int) ≤ (j : Int) := by omega
        have j1 : (j : Int) < (n : Int) := by omega
        have JW := (show wrap64 ((j : Int) + 1) = (j : Int) + 1 from by unfold wrap64; omega)
        clear hrd hf hl hrn hx hc mem evn esn ern ecap ecl hcs hgl bds bdr
        go_upto_region 7 with fail
        rw [← hW1]
        clear hW1 c0 c1 c2 c3 c4
        have TB := hid (cs_hi CJ.out _ (Nat.le_refl wr.heap.size))
        have BW := hid (show w.heap.size ≤ wr.heap.size from GJ.out.size)
        have LBW := hid (lt_of_block BXA.out)
        generalize wr.heap.size = B at BXA TB BW LBW ⊢
        obtain ⟨z, hz⟩ : ∃ z, z = mayT xcap c.vs c.ss c.rs xcl := ⟨_, rfl⟩
        rw [← hz] at HMB HZZ
        clear hz
        cases z with
        | false =>
          go_wp2_with (first
            | (refine wpList_load_row rfl 70 (.tmp 6) rfl B rfl _ _ _ _ BXA.out Try.underlying70 rfl chn_size ?_)
            | (go_at_call 22; refine HMB.out.mono ?_; rintro e w5 ⟨rfl, g5⟩; have G5 := hid g5; clear g5))
          refine bodyPost_ret (v := .tuple #[.pointer none, .int .i64 110]) (by simp [results, Try.results7, go_sem]) rfl ⟨fun e => ?_, fun _ => rfl, Gr.trans GJ.out (Gr.trans GA.out G5.out)⟩
          rw [ldB_no HC.out HZZ.out.symm] at e
          cases e
        | true =>
          go_upto_region 9 with (first
            | (refine wpList_load_row rfl 70 (.tmp 6) rfl B rfl _ _ _ _ BXA.out Try.underlying70 rfl chn_size ?_)
            | (go_at_call 22; refine HMB.out.mono ?_; rintro e w5 ⟨rfl, g5⟩; have G5 := hid g5; clear g5))
          obtain ⟨k, v0, xs, M, clock, hCA⟩ := CJ.out.gr (Gr.trans GA.out G5.out)
          obtain ⟨ao0, ca0, ev0⟩ := hCA.nl.o.form
          have hxl : xs.length = j := by rw [hCA.nl.n, List.length_take]; have := HNL.out; omega
          rw [hxl] at ev0
          subst ev0
          have XSL := hid hxl.symm
          clear hxl
          have HCB := hid ((hCA.b).gr (show Gr w5 (World.drew w5) from Ch.drew (Gr.refl w5)))
          have GV := hid (show Gr w (World.drew w5) from Ch.drew (Gr.trans GJ.out (Gr.trans GA.out G5.out)))
          have NBB := hid (show B ≠ b from fun e => by have e1 := TB.out; rw [e, hCA.tb] at e1; cases e1)
          have hS0 : Sl B #[.int .i64 xcap, .slice vo vn vk, .slice so sn sk, .slice ro rn rk, .bool xcl] (World.drew w5) := ⟨gr_blk BXA.out (Ch.drew G5.out)⟩
          have LBV := hid (lt_of_block hS0.bx)
          clear hCA BXA GA G5 HMB CJ LBW
          go_cut [6] (fun v6 wc => v6 = .pointer (some ⟨B, 0, none⟩) ∧ ∃ (t2 : Nat → Tg) (v2 : Value), Ct t2 wc b v2 (cs.take j ++ [c]) (cs.take j) ∧ (∀ q, q < w.heap.size → t2 q = .no) ∧ Gr w wc ∧ t2 B = .no ∧ wc.heap[B]? = some (.cells #[.int .i64 xcap, .slice vo vn vk, .slice so sn sk, .slice ro rn rk, .bool xcl] 70 (0, 0)))
          case first =>
            refine wp_region_held_drew (S := Sl B #[.int .i64 xcap, .slice vo vn vk, .slice so sn sk, .slice ro rn rk, .bool xcl]) (by kernel_rfl) (by exact hS0) (fun _ => ?_)
            generalize World.drew w5 = V0 at hS0 HCB GV LBV ⊢
            have ME0 := HCB.out.me
            have OXS := hid HCB.out.nl.o
            have HCP := hid (copied_any (fun q => q < w.heap.size) V0 ⟨xcap, .slice vo vn vk, .slice so sn sk, .slice ro rn rk, xcl⟩ c HEC.out HEL.out (HRD.out.v.gr GV.out) (HRD.out.s.gr GV.out) (HRD.out.r.gr GV.out) (HBD.out.v c HMM.out) (HBD.out.s c HMM.out) (HBD.out.r c HMM.out))
            dsimp only at HCP
            refine takeS_on (i := 0) 21 (v := ?hv1) rfl rfl (by kernel_rfl) (by kernel_rfl) (by kernel_rfl) (fun _ _ _ h => h) (by kernel_rfl) ?hh1 (by exact hS0) ?_
            case hh1 => (intro w' hSw; go_simp; try (with_reducible rfl))
            simp only [Act.put, List.setIfInBounds_toArray, List.set_cons_zero, List.set_cons_succ]
            refine takeS_on (i := 1) 22 (v := ?hv2) rfl rfl (by kernel_rfl) (by kernel_rfl) (by kernel_rfl) (fun _ _ _ h => h) (by kernel_rfl) ?hh2 (by exact hS0) ?_
            case hh2 => (intro w' hSw; go_simp; try (with_reducible rfl))
            simp only [Act.put, List.setIfInBounds_toArray, List.set_cons_zero, List.set_cons_succ]
            refine takeS_on (i := 2) 23 (v := ?hv3) rfl rfl (by kernel_rfl) (by kernel_rfl) (by kernel_rfl) (fun _ _ _ h => h) (by kernel_rfl) ?hh3 (by exact hS0) ?_
            case hh3 => (intro w' hSw; go_simp; try (with_reducible rfl))
            simp only [Act.put, List.setIfInBounds_toArray, List.set_cons_zero, List.set_cons_succ]
            refine takeS_on (i := 3) 24 (v := ?hv4) rfl rfl (by kernel_rfl) (by kernel_rfl) (by kernel_rfl) (fun _ _ _ h => h) (by kernel_rfl) ?hh4 (by exact hS0) ?_
            case hh4 => (intro w' hSw; go_simp; try (with_reducible rfl))
            simp only [Act.put, List.setIfInBounds_toArray, List.set_cons_zero, List.set_cons_succ]
            refine takeS_on (i := 5) 26 (v := ?hv5) rfl rfl (by kernel_rfl) (by kernel_rfl) (by kernel_rfl) (fun _ _ _ h => h) (by kernel_rfl) ?hh5 (by exact hS0) ?_
            case hh5 => (intro w' hSw; refine Eq.trans (exec_row 70 (.tmp 6) rfl _ rfl _ _ _ _ hSw.bx Try.underlying70 rfl chn_size) ?_; with_reducible rfl)
            simp only [Act.put, List.setIfInBounds_toArray, List.set_cons_zero, List.set_cons_succ]
            refine wpAnyH_ready (rs := [4, 6]) (by kernel_rfl) (by simp) (AllReadyH.cons rfl (fun K hK => ?_) (AllReadyH.cons rfl (fun K hK => ?_) AllReadyH.nil))
            · have c0 := cell_of ME0 0
              simp at c0
              go_simp
              clear c0
              refine hK.out _ _ (by exact hS0) (fun _ => ?_)
              clear hK K
              refine wpAnyH_ready (rs := [6]) (by kernel_rfl) (by simp) (AllReadyH.cons rfl (fun K hK => ?_) AllReadyH.nil)
              go_simp
              refine HCP.out.mono ?_
              rintro e w5 ⟨⟨ycap, yv, ys, yr, ycl⟩, rfl, cp⟩
              have CP := hid cp
              obtain ⟨a1, k1, ev1⟩ := cp.v.form
              obtain ⟨a2, k2, ev2⟩ := cp.s.form
              obtain ⟨a3, k3, ev3⟩ := cp.r.form
              dsimp only at ev1 ev2 ev3
              subst ev1 ev2 ev3
              have hS1 := hS0.gr cp.g
              have ME1 := gr_blk ME0 cp.g
              clear cp
              refine hK.out _ _ (by exact hS1) (fun _ => ?_)
              clear hK K
              refine wpAnyH_ready (rs := [7]) (by kernel_rfl) (by simp) (AllReadyH.cons rfl (fun K hK => ?_) AllReadyH.nil)
              go_simp
              have G7 : Gr w5 (w5.alloc (.cells #[.int .i64 ycap, .slice a1 c.vs.length k1, .slice a2 c.ss.length k2, .slice a3 c.rs.length k3, .bool ycl] 70)) := Ch.alloc (Gr.refl _) _
              have SG := hid (Ls.single (enc := eR) w5 ⟨ycap, .slice a1 c.vs.length k1, .slice a2 c.ss.length k2, .slice a3 c.rs.length k3, ycl⟩ 70 #[.int .i64 ycap, .slice a1 c.vs.length k1, .slice a2 c.ss.length k2, .slice a3 c.rs.length k3, .bool ycl] rfl)
              have S7 := hid (show w5.heap.size ≤ _ from G7.size)
              have hS2 := hS1.gr G7
              have ME2 := gr_blk ME1 G7
              have G57 := hid G7
              clear G7
              generalize w5.alloc (.cells #[.int .i64 ycap, .slice a1 c.vs.length k1, .slice a2 c.ss.length k2, .slice a3 c.rs.length k3, .bool ycl] 70) = u1 at hS2 ME2 SG G57 S7 ⊢
              refine hK.out _ _ (by exact hS2) (fun _ => ?_)
              clear hK K
              refine wpAnyH_ready (rs := [8]) (by kernel_rfl) (by simp) (AllReadyH.cons rfl (fun K hK => ?_) AllReadyH.nil)
              refine step_append_ow eR_len rfl (.tmp 25) (.tmp 28) _ 70 88 _ Try.underlying22 chn_info rfl (by omega) rfl 0 _ xs rfl (OXS.out.gr (Gr.trans CP.out.g G57.out)) _ _ [⟨ycap, .slice a1 c.vs.length k1, .slice a2 c.ss.length k2, .slice a3 c.rs.length k3, ycl⟩] rfl SG.out (eRy_one _ _ _ _ _ _ _ _ _ _ _) (j + 1) (by rw [XSL.out]; rfl) (by have := J24.out; omega) (by unfold maxLen; have := J24.out; omega) (Nat.zero_le _) (xs ++ [⟨ycap, .slice a1 c.vs.length k1, .slice a2 c.ss.length k2, .slice a3 c.rs.length k3, ycl⟩]) rfl ?_
              intro a9 c9 w9 ow9 cw9 bl9
              have O9 := hid ow9
              have C9 := hid cw9
              have B9 := hid bl9
              have hS3 := hS2.ch cw9 (fun hq => by have e1 := HCB.out.nl.to B hq; rw [TB.out] at e1; cases e1)
              have ME3 := (cw9.block b (lt_of_block ME2) (fun hq => by have e1 := HCB.out.nl.to b hq; rw [HCB.out.tb] at e1; cases e1)).trans ME2
              clear ow9 cw9 bl9
              refine hK.out _ _ (by exact hS3) (fun _ => ?_)
              change wpAnyH _ _ _ _ _ _ _ (Act.put _ (some 29) _) _
              simp only [Act.put, List.setIfInBounds_toArray, List.set_cons_zero, List.set_cons_succ]
              clear hK K
              refine takeS_on (i := 9) 30 (v := ?hv6) rfl rfl (by kernel_rfl) (by kernel_rfl) (by kernel_rfl) (fun _ _ _ h => h) (by kernel_rfl) ?hh6 (by exact hS3) ?_
              case hh6 => (intro w' hSw; go_simp; try (with_reducible rfl))
              simp only [Act.put, List.setIfInBounds_toArray, List.set_cons_zero, List.set_cons_succ]
              refine takeS_on (i := 10) 31 (v := ?hv7) rfl rfl (by kernel_rfl) (by kernel_rfl) (by kernel_rfl) (fun _ _ _ h => h) (by kernel_rfl) ?hh7 (by exact hS3) ?_
              case hh7 => (intro w' hSw; go_simp; try (with_reducible rfl))
              simp only [Act.put, List.setIfInBounds_toArray, List.set_cons_zero, List.set_cons_succ]
              refine wpAnyH_ready (rs := [11]) (by kernel_rfl) (by simp) (AllReadyH.cons rfl (fun K hK => ?_) AllReadyH.nil)
              have p0 := cell_of ME3 0
              have f0 := frozen_of ME3 0
              have l0 := lt_of_block ME3
              simp at p0
              go_simp
              clear p0 f0 l0
              have hS4 := hS3.ch (show Ch (Only b) w9 (w9.setCell ⟨b, 0, none⟩ (.slice a9 (j + 1) c9)) from Ch.own (Ch.refl _ _) _ _) (fun e => NBB.out e)
              refine hK.out _ _ (by exact hS4) (fun _ => ?_)
              clear hK K
              refine wpAnyH_done (by kernel_rfl) ?_ _
              go_wp2_with fail
              go_meet
              obtain ⟨t2, cb2, tn2⟩ := HCB.out.snoc (Gr.trans CP.out.g G57.out) CP.out.cap CP.out.cl ((CP.out.v.gr G57.out).lower (Nat.zero_le _)) ((CP.out.s.gr G57.out).lower (Nat.zero_le _)) ((CP.out.r.gr G57.out).lower (Nat.zero_le _)) (fun q hq => (CP.out.v.blk hq).1) (fun q hq => ⟨(CP.out.s.blk hq).1, CP.out.ns q hq⟩) (fun q hq => ⟨(CP.out.r.blk hq).1, CP.out.nr q hq⟩) O9.out C9.out B9.out
              obtain ⟨g2, z2⟩ := Tn.base ZJ.out GV.out tn2
              exact ⟨rfl, t2, _, ⟨_, _, _, _, cb2⟩, z2, g2, tn2.o B LBV.out TB.out, hS4.bx⟩
            · go_simp
              refine HCP.out.mono ?_
              rintro e w5 ⟨⟨ycap, yv, ys, yr, ycl⟩, rfl, cp⟩
              have CP := hid cp
              obtain ⟨a1, k1, ev1⟩ := cp.v.form
              obtain ⟨a2, k2, ev2⟩ := cp.s.form
              obtain ⟨a3, k3, ev3⟩ := cp.r.form
              dsimp only at ev1 ev2 ev3
              subst ev1 ev2 ev3
              have hS1 := hS0.gr cp.g
              have ME1 := gr_blk ME0 cp.g
              clear cp
              refine hK.out _ _ (by exact hS1) (fun _ => ?_)
              clear hK K
              refine wpAnyH_ready (rs := [4, 7]) (by kernel_rfl) (by simp) (AllReadyH.cons rfl (fun K hK => ?_) (AllReadyH.cons rfl (fun K hK => ?_) AllReadyH.nil))
              · have c0 := cell_of ME1 0
                simp at c0
                go_simp
                clear c0
                refine hK.out _ _ (by exact hS1) (fun _ => ?_)
                clear hK K
                refine wpAnyH_ready (rs := [7]) (by kernel_rfl) (by simp) (AllReadyH.cons rfl (fun K hK => ?_) AllReadyH.nil)
                go_simp
                have G7 : Gr w5 (w5.alloc (.cells #[.int .i64 ycap, .slice a1 c.vs.length k1, .slice a2 c.ss.length k2, .slice a3 c.rs.length k3, .bool ycl] 70)) := Ch.alloc (Gr.refl _) _
                have SG := hid (Ls.single (enc := eR) w5 ⟨ycap, .slice a1 c.vs.length k1, .slice a2 c.ss.length k2, .slice a3 c.rs.length k3, ycl⟩ 70 #[.int .i64 ycap, .slice a1 c.vs.length k1, .slice a2 c.ss.length k2, .slice a3 c.rs.length k3, .bool ycl] rfl)
                have S7 := hid (show w5.heap.size ≤ _ from G7.size)
                have hS2 := hS1.gr G7
                have ME2 := gr_blk ME1 G7
                have G57 := hid G7
                clear G7
                generalize w5.alloc (.cells #[.int .i64 ycap, .slice a1 c.vs.length k1, .slice a2 c.ss.length k2, .slice a3 c.rs.length k3, .bool ycl] 70) = u1 at hS2 ME2 SG G57 S7 ⊢
                refine hK.out _ _ (by exact hS2) (fun _ => ?_)
                clear hK K
                refine wpAnyH_ready (rs := [8]) (by kernel_rfl) (by simp) (AllReadyH.cons rfl (fun K hK => ?_) AllReadyH.nil)
                refine step_append_ow eR_len rfl (.tmp 25) (.tmp 28) _ 70 88 _ Try.underlying22 chn_info rfl (by omega) rfl 0 _ xs rfl (OXS.out.gr (Gr.trans CP.out.g G57.out)) _ _ [⟨ycap, .slice a1 c.vs.length k1, .slice a2 c.ss.length k2, .slice a3 c.rs.length k3, ycl⟩] rfl SG.out (eRy_one _ _ _ _ _ _ _ _ _ _ _) (j + 1) (by rw [XSL.out]; rfl) (by have := J24.out; omega) (by unfold maxLen; have := J24.out; omega) (Nat.zero_le _) (xs ++ [⟨ycap, .slice a1 c.vs.length k1, .slice a2 c.ss.length k2, .slice a3 c.rs.length k3, ycl⟩]) rfl ?_
                intro a9 c9 w9 ow9 cw9 bl9
                have O9 := hid ow9
                have C9 := hid cw9
                have B9 := hid bl9
                have hS3 := hS2.ch cw9 (fun hq => by have e1 := HCB.out.nl.to B hq; rw [TB.out] at e1; cases e1)
                have ME3 := (cw9.block b (lt_of_block ME2) (fun hq => by have e1 := HCB.out.nl.to b hq; rw [HCB.out.tb] at e1; cases e1)).trans ME2
                clear ow9 cw9 bl9
                refine hK.out _ _ (by exact hS3) (fun _ => ?_)
                change wpAnyH _ _ _ _ _ _ _ (Act.put _ (some 29) _) _
                simp only [Act.put, List.setIfInBounds_toArray, List.set_cons_zero, List.set_cons_succ]
                clear hK K
                refine takeS_on (i := 9) 30 (v := ?hv8) rfl rfl (by kernel_rfl) (by kernel_rfl) (by kernel_rfl) (fun _ _ _ h => h) (by kernel_rfl) ?hh8 (by exact hS3) ?_
                case hh8 => (intro w' hSw; go_simp; try (with_reducible rfl))
                simp only [Act.put, List.setIfInBounds_toArray, List.set_cons_zero, List.set_cons_succ]
                refine takeS_on (i := 10) 31 (v := ?hv9) rfl rfl (by kernel_rfl) (by kernel_rfl) (by kernel_rfl) (fun _ _ _ h => h) (by kernel_rfl) ?hh9 (by exact hS3) ?_
                case hh9 => (intro w' hSw; go_simp; try (with_reducible rfl))
                simp only [Act.put, List.setIfInBounds_toArray, List.set_cons_zero, List.set_cons_succ]
                refine wpAnyH_ready (rs := [11]) (by kernel_rfl) (by simp) (AllReadyH.cons rfl (fun K hK => ?_) AllReadyH.nil)
                have p0 := cell_of ME3 0
                have f0 := frozen_of ME3 0
                have l0 := lt_of_block ME3
                simp at p0
                go_simp
                clear p0 f0 l0
                have hS4 := hS3.ch (show Ch (Only b) w9 (w9.setCell ⟨b, 0, none⟩ (.slice a9 (j + 1) c9)) from Ch.own (Ch.refl _ _) _ _) (fun e => NBB.out e)
                refine hK.out _ _ (by exact hS4) (fun _ => ?_)
                clear hK K
                refine wpAnyH_done (by kernel_rfl) ?_ _
                go_wp2_with fail
                go_meet
                obtain ⟨t2, cb2, tn2⟩ := HCB.out.snoc (Gr.trans CP.out.g G57.out) CP.out.cap CP.out.cl ((CP.out.v.gr G57.out).lower (Nat.zero_le _)) ((CP.out.s.gr G57.out).lower (Nat.zero_le _)) ((CP.out.r.gr G57.out).lower (Nat.zero_le _)) (fun q hq => (CP.out.v.blk hq).1) (fun q hq => ⟨(CP.out.s.blk hq).1, CP.out.ns q hq⟩) (fun q hq => ⟨(CP.out.r.blk hq).1, CP.out.nr q hq⟩) O9.out C9.out B9.out
                obtain ⟨g2, z2⟩ := Tn.base ZJ.out GV.out tn2
                exact ⟨rfl, t2, _, ⟨_, _, _, _, cb2⟩, z2, g2, tn2.o B LBV.out TB.out, hS4.bx⟩
              · go_simp
                have G7 : Gr w5 (w5.alloc (.cells #[.int .i64 ycap, .slice a1 c.vs.length k1, .slice a2 c.ss.length k2, .slice a3 c.rs.length k3, .bool ycl] 70)) := Ch.alloc (Gr.refl _) _
                have SG := hid (Ls.single (enc := eR) w5 ⟨ycap, .slice a1 c.vs.length k1, .slice a2 c.ss.length k2, .slice a3 c.rs.length k3, ycl⟩ 70 #[.int .i64 ycap, .slice a1 c.vs.length k1, .slice a2 c.ss.length k2, .slice a3 c.rs.length k3, .bool ycl] rfl)
                have S7 := hid (show w5.heap.size ≤ _ from G7.size)
                have hS2 := hS1.gr G7
                have ME2 := gr_blk ME1 G7
                have G57 := hid G7
                clear G7
                generalize w5.alloc (.cells #[.int .i64 ycap, .slice a1 c.vs.length k1, .slice a2 c.ss.length k2, .slice a3 c.rs.length k3, .bool ycl] 70) = u1 at hS2 ME2 SG G57 S7 ⊢
                refine hK.out _ _ (by exact hS2) (fun _ => ?_)
                clear hK K
                refine wpAnyH_ready (rs := [4]) (by kernel_rfl) (by simp) (AllReadyH.cons rfl (fun K hK => ?_) AllReadyH.nil)
                have c0 := cell_of ME2 0
                simp at c0
                go_simp
                clear c0
                refine hK.out _ _ (by exact hS2) (fun _ => ?_)
                clear hK K
                refine wpAnyH_ready (rs := [8]) (by kernel_rfl) (by simp) (AllReadyH.cons rfl (fun K hK => ?_) AllReadyH.nil)
                refine step_append_ow eR_len rfl (.tmp 25) (.tmp 28) _ 70 88 _ Try.underlying22 chn_info rfl (by omega) rfl 0 _ xs rfl (OXS.out.gr (Gr.trans CP.out.g G57.out)) _ _ [⟨ycap, .slice a1 c.vs.length k1, .slice a2 c.ss.length k2, .slice a3 c.rs.length k3, ycl⟩] rfl SG.out (eRy_one _ _ _ _ _ _ _ _ _ _ _) (j + 1) (by rw [XSL.out]; rfl) (by have := J24.out; omega) (by unfold maxLen; have := J24.out; omega) (Nat.zero_le _) (xs ++ [⟨ycap, .slice a1 c.vs.length k1, .slice a2 c.ss.length k2, .slice a3 c.rs.length k3, ycl⟩]) rfl ?_
                intro a9 c9 w9 ow9 cw9 bl9
                have O9 := hid ow9
                have C9 := hid cw9
                have B9 := hid bl9
                have hS3 := hS2.ch cw9 (fun hq => by have e1 := HCB.out.nl.to B hq; rw [TB.out] at e1; cases e1)
                have ME3 := (cw9.block b (lt_of_block ME2) (fun hq => by have e1 := HCB.out.nl.to b hq; rw [HCB.out.tb] at e1; cases e1)).trans ME2
                clear ow9 cw9 bl9
                refine hK.out _ _ (by exact hS3) (fun _ => ?_)
                change wpAnyH _ _ _ _ _ _ _ (Act.put _ (some 29) _) _
                simp only [Act.put, List.setIfInBounds_toArray, List.set_cons_zero, List.set_cons_succ]
                clear hK K
                refine takeS_on (i := 9) 30 (v := ?hv10) rfl rfl (by kernel_rfl) (by kernel_rfl) (by kernel_rfl) (fun _ _ _ h => h) (by kernel_rfl) ?hh10 (by exact hS3) ?_
                case hh10 => (intro w' hSw; go_simp; try (with_reducible rfl))
                simp only [Act.put, List.setIfInBounds_toArray, List.set_cons_zero, List.set_cons_succ]
                refine takeS_on (i := 10) 31 (v := ?hv11) rfl rfl (by kernel_rfl) (by kernel_rfl) (by kernel_rfl) (fun _ _ _ h => h) (by kernel_rfl) ?hh11 (by exact hS3) ?_
                case hh11 => (intro w' hSw; go_simp; try (with_reducible rfl))
                simp only [Act.put, List.setIfInBounds_toArray, List.set_cons_zero, List.set_cons_succ]
                refine wpAnyH_ready (rs := [11]) (by kernel_rfl) (by simp) (AllReadyH.cons rfl (fun K hK => ?_) AllReadyH.nil)
                have p0 := cell_of ME3 0
                have f0 := frozen_of ME3 0
                have l0 := lt_of_block ME3
                simp at p0
                go_simp
                clear p0 f0 l0
                have hS4 := hS3.ch (show Ch (Only b) w9 (w9.setCell ⟨b, 0, none⟩ (.slice a9 (j + 1) c9)) from Ch.own (Ch.refl _ _) _ _) (fun e => NBB.out e)
                refine hK.out _ _ (by exact hS4) (fun _ => ?_)
                clear hK K
                refine wpAnyH_done (by kernel_rfl) ?_ _
                go_wp2_with fail
                go_meet
                obtain ⟨t2, cb2, tn2⟩ := HCB.out.snoc (Gr.trans CP.out.g G57.out) CP.out.cap CP.out.cl ((CP.out.v.gr G57.out).lower (Nat.zero_le _)) ((CP.out.s.gr G57.out).lower (Nat.zero_le _)) ((CP.out.r.gr G57.out).lower (Nat.zero_le _)) (fun q hq => (CP.out.v.blk hq).1) (fun q hq => ⟨(CP.out.s.blk hq).1, CP.out.ns q hq⟩) (fun q hq => ⟨(CP.out.r.blk hq).1, CP.out.nr q hq⟩) O9.out C9.out B9.out
                obtain ⟨g2, z2⟩ := Tn.base ZJ.out GV.out tn2
                exact ⟨rfl, t2, _, ⟨_, _, _, _, cb2⟩, z2, g2, tn2.o B LBV.out TB.out, hS4.bx⟩
          case rest =>
            obtain ⟨rfl, t2, v2, ⟨k2, xs2, M2, clock2, hcb⟩, hz2, hg2, htb2, hbx2⟩ := hcut
            clear HCB GV NBB hS0 LBV XSL TB
            have B2 := hid hbx2
            have T2 := hid htb2
            have Z2 := hid hz2
            have G2 := hid hg2
            have L2 := hid (lt_of_block hbx2)
            have ejj : ((j + 1 : Nat) : Int) = (j : Int) + 1 := by omega
            have dsok := dS_ok HC.out HTO.out
            have drok := dR_ok HC.out HTO.out
            rw [ejj] at dsok drok
            have hbs := HBD.out.s c HMM.out
            have hbr := HBD.out.r c HMM.out
            have HN1 := hid (note_any (dS cs j c) (fun q => q < w.heap.size) so sn sk c.ss (hcb.ds (fun s g => dS_zero cs j c s g)) (fun x hx => HGO.out c HMM.out x (.inl hx)) (HRD.out.s.gr hg2) (fun q _ hq => hz2 q hq) dsok.1 dsok.2 (by rw [HSN.out]; exact hbs))
            rw [show dS cs j c sn = dR cs j c 0 from by rw [HSN.out, dS_end]] at HN1
            have HN2 := hid (fun (W : World) (t' : Nat → Tg) (M' : List Me) (clock' : Nat) (cb : Cb t' W b k2 v2 xs2 M' clock' (cs.take j ++ [c]) (dR cs j c 0)) (z : ∀ q, q < w.heap.size → t' q = .no) (p : Gr w W) => note_any (dR cs j c) (fun q => q < w.heap.size) ro rn rk c.rs cb (fun x hx => HGO.out c HMM.out x (.inr hx)) (HRD.out.r.gr p) (fun q _ hq => z q hq) drok.1 drok.2 (by rw [HRN.out]; exact hbr))
            rw [show dR cs j c rn = cs.take (j + 1) from by rw [HRN.out]; exact dR_end HC.out] at HN2
            have p2 := cell_of hbx2 2
            have l2 := lt_of_block hbx2
            simp at p2
            clear hz2 hg2 htb2 hbx2 hcb dsok drok hbs hbr ejj
            go_wp2_with (first
              | (go_at_call 24; refine (HN2.out _ _ _ _ CB3.out Z3.out G3.out).mono ?_; rintro e w4 ⟨rfl, t4, M4, clock4, cb4, tn4⟩; have CB4 := hid cb4; obtain ⟨g4, z4⟩ := Tn.base Z3.out G3.out tn4; have G4 := hid g4; have Z4 := hid z4; clear cb4 tn4 g4 z4)
              | (go_at_call 24; refine HN1.out.mono ?_; rintro e w3 ⟨rfl, t3, M3, clock3, cb3, tn3⟩; have CB3 := hid cb3; obtain ⟨g3, z3⟩ := Tn.base Z2.out G2.out tn3; have G3 := hid g3; have Z3 := hid z3; have b3 := (tn3.c.block B L2.out (fun q => q T2.out)).trans B2.out; have p3 := cell_of b3 3; have l3 := lt_of_block b3; simp at p3; clear cb3 tn3 g3 z3))
            go_roundg (gk - 1)
            case measure => omega
            case rel =>
              have CB5 := CB4.out
              rw [← take_one HC.out] at CB5
              refine ⟨j + 1, t4, by omega, ?_, ⟨k2, v2, xs2, M4, clock4, CB5.a (fun _ _ => rfl)⟩, Z4.out, G4.out, ?_⟩
              · first | with_reducible rfl | simp
              · intro d hd
                rw [take_one HC.out] at hd
                rcases List.mem_append.1 hd with q | q
                · exact AJ.out d q
                · rw [List.mem_singleton] at q
                  rw [q]
                  exact HZZ.out.symm
      · have jn : ¬ (j : Int) < (n : Int) := by omega
        have hta : cs.take j = cs := List.take_of_length_le (by rw [← HNL.out]; omega)
        rw [hta] at CJ AJ
        clear hta
        go_wp2_with fail
        refine bodyPost_ret (v := .tuple #[.pointer (some ⟨b, 0, none⟩), .int .i64 0]) (by simp [results, Try.results7, go_sem]) rfl ⟨fun _ => ⟨b, t, rfl, CJ.out, ZJ.out⟩, fun e => ?_, GJ.out⟩
        rw [show ldB cs = true from by unfold ldB; rw [decide_eq_true (by rw [← HNL.out]; exact J24.out), Bool.true_and]; exact List.all_eq_true.2 (fun c hc => AJ.out c hc)] at e
        cases e
  · have h1' : (1024 : Int) < (n : Int) := by omega
    have HLB := hid (show ldB cs = false from by unfold ldB; rw [decide_eq_false (by rw [← HNL.out]; exact h1), Bool.false_and])
    go_enter Try.func7, Try.ntmps7
    go_wp2_with fail
    refine bodyPost_ret (v := .tuple #[.pointer none, .int .i64 110]) (by simp [results, Try.results7, go_sem]) rfl ⟨fun e => ?_, fun _ => rfl, Gr.refl w⟩
    rw [HLB.out] at e
    cases e
theorem load_any {P : Nat → Prop} {w : World} {v : Value} {cs : List Cn} (h : Rds P w v cs) (hb : Bd cs) (ht : tot cs ≤ 4398046511104) (hg : ∀ c ∈ cs, ∀ x, x ∈ c.ss ∨ x ∈ c.rs → Gok x.s x.g) :
    Calls Try.prog 7 #[v] w (LdR w cs) := by
  obtain ⟨ao, cap, rfl⟩ := h.form
  exact load_walk P w ao _ cap cs h hb ht hg
end Go.Proofs.Ytalmiphddgmfbab.Lt

namespace Go.Proofs.Ytalmiphddgmfbab.Lt
open Go.RowKit Wd

/-- each of them leaves -/
def lvK (l : List Wk) (cs : List Cn) : List Cn := l.foldl (fun cs x => lvs cs x.s x.g) cs
theorem lvK_snoc (l : List Wk) (x : Wk) (cs : List Cn) : lvK (l ++ [x]) cs = lvs (lvK l cs) x.s x.g := by unfold lvK; rw [List.foldl_append]; rfl
theorem lvK_app (l m : List Wk) (cs : List Cn) : lvK (l ++ m) cs = lvK m (lvK l cs) := by unfold lvK; rw [List.foldl_append]
theorem lvK_map (tr : Int) (l : List Wt) (cs : List Cn) : lvK (l.map (toK tr)) cs = lvl l cs := by unfold lvK lvl; rw [List.foldl_map]; rfl
theorem lvK_len (l : List Wk) : ∀ cs : List Cn, (lvK l cs).length = cs.length := by
  induction l with
  | nil => intro cs; rfl
  | cons x r ih => intro cs; exact (ih (lvs cs x.s x.g)).trans (lvs_len _ _ _)
/-- a list begins with another one, and has one more at most -/
def Bg (l m : List Wt) : Prop := ∃ r : List Wt, l = m ++ r ∧ r.length ≤ 1
theorem Bg.refl (l : List Wt) : Bg l l := ⟨[], by simp, by simp⟩
theorem Bg.one (l : List Wt) (x : Wt) : Bg (l ++ [x]) l := ⟨[x], rfl, Nat.le_refl _⟩
/-- whom a call wakes waits nowhere, whoever else waited waits still -/
structure WkOk (cs : List Cn) (o : Ot) : Prop where
  n : o.cs.length = cs.length
  g : ∀ k ∈ o.ks, Gok k.s k.g
  w : ∀ k ∈ o.ks, pls o.cs k.s k.g = 0
  b : ∀ (i : Nat) (c d : Cn), o.cs[i]? = some c → (lvK o.ks cs)[i]? = some d → Bg c.ss d.ss ∧ Bg c.rs d.rs
theorem wk_same {cs : List Cn} {o : Ot} (h1 : o.cs = cs) (h2 : o.ks = []) : WkOk cs o := by
  refine ⟨by rw [h1], ?_, ?_, ?_⟩
  · rw [h2]; intro k hk; cases hk
  · rw [h2]; intro k hk; cases hk
  · intro i c d hc hd
    rw [h2] at hd
    rw [h1] at hc
    have hd' : cs[i]? = some d := hd
    rw [hc] at hd'
    injection hd' with e
    subst e
    exact ⟨Bg.refl _, Bg.refl _⟩
theorem wk_set {cs : List Cn} {o : Ot} {i : Nat} {c d : Cn} (hc : cs[i]? = some c) (h1 : o.cs = cs.set i d) (h2 : o.ks = []) (hs : Bg d.ss c.ss) (hr : Bg d.rs c.rs) : WkOk cs o := by
  have hi := (List.getElem?_eq_some_iff.1 hc).1
  refine ⟨by rw [h1, List.length_set], ?_, ?_, ?_⟩
  · rw [h2]; intro k hk; cases hk
  · rw [h2]; intro k hk; cases hk
  · intro j x y hx hy
    rw [h2] at hy
    have hy' : cs[j]? = some y := hy
    rw [h1] at hx
    by_cases e : i = j
    · subst e
      rw [List.getElem?_set_self hi] at hx
      injection hx with hx
      subst hx
      rw [hc] at hy'
      injection hy' with hy'
      subst hy'
      exact ⟨hs, hr⟩
    · rw [List.getElem?_set_ne e, hy'] at hx
      injection hx with hx
      subst hx
      exact ⟨Bg.refl _, Bg.refl _⟩
theorem pl_wo {d c : Cn} {s g : Int} (h1 : d.ss = wo c.ss s g) (h2 : d.rs = wo c.rs s g) : d.pl s g = 0 := by
  unfold Cn.pl
  rw [h1, h2, wo_same, wo_same]
  omega
theorem pls_nil {cs : List Cn} {s g : Int} (h : ∀ c ∈ cs, c.pl s g = 0) : pls cs s g = 0 := by
  rw [← plA_len s g 0, plA_zero h]; rfl
theorem wk_leave {cs : List Cn} {o : Ot} {k : Wk} (h2 : o.ks = [k]) (hk : Gok k.s k.g) (hn : o.cs.length = cs.length) (h1 : ∀ (i : Nat) (c d : Cn), o.cs[i]? = some c → cs[i]? = some d → c.ss = wo d.ss k.s k.g ∧ c.rs = wo d.rs k.s k.g) : WkOk cs o := by
  have hall : ∀ c ∈ o.cs, c.pl k.s k.g = 0 := by
    intro c hc
    obtain ⟨i, hi⟩ := List.mem_iff_getElem?.1 hc
    have hl := (List.getElem?_eq_some_iff.1 hi).1
    have hd : cs[i]? = some (cs[i]'(by omega)) := List.getElem?_eq_getElem (by omega)
    obtain ⟨q1, q2⟩ := h1 i c _ hi hd
    exact pl_wo q1 q2
  refine ⟨hn, ?_, ?_, ?_⟩
  · rw [h2]; intro x hx; rw [List.mem_singleton] at hx; subst hx; exact hk
  · rw [h2]; intro x hx; rw [List.mem_singleton] at hx; subst hx; exact pls_nil hall
  · intro i c d hc hd
    rw [h2] at hd
    have hd' : (lvs cs k.s k.g)[i]? = some d := hd
    have hl := (List.getElem?_eq_some_iff.1 hc).1
    have he : cs[i]? = some (cs[i]'(by omega)) := List.getElem?_eq_getElem (by omega)
    rw [lvs_get he] at hd'
    injection hd' with e
    subst e
    obtain ⟨q1, q2⟩ := h1 i c _ hc he
    rw [q1, q2]
    exact ⟨Bg.refl _, Bg.refl _⟩
theorem lvs_at {cs : List Cn} {s g : Int} {i : Nat} {c d : Cn} (hc : (lvs cs s g)[i]? = some c) (hd : cs[i]? = some d) : c.ss = wo d.ss s g ∧ c.rs = wo d.rs s g := by
  rw [lvs_get hd] at hc
  injection hc with e
  subst e
  exact ⟨rfl, rfl⟩
theorem wk_snd {N : Nat} {cs : List Cn} (h : Gd N cs) (ch s g v : Int) : WkOk cs (sndF cs ch s g v) := by
  unfold sndF
  split
  · exact wk_same rfl rfl
  · rcases cAt_cases cs ch with ⟨i, c, rfl, hc, e⟩ | ⟨_, e⟩ <;> rw [e]
    · have mem := List.mem_of_getElem? hc
      dsimp only
      unfold sndI
      split
      · exact wk_same rfl rfl
      · split
        · rename_i r rr er
          exact wk_leave rfl (h.g c mem r (.inr (by rw [er]; exact List.mem_cons_self))) (lvs_len _ _ _) (fun j a b ha hb => lvs_at ha hb)
        · split
          · exact wk_set hc rfl rfl (Bg.refl _) (Bg.refl _)
          · exact wk_set hc rfl rfl (Bg.one _ _) (Bg.refl _)
    · exact wk_same rfl rfl
theorem wk_rcv {N : Nat} {cs : List Cn} (h : Gd N cs) (ch s g : Int) : WkOk cs (rcvF cs ch s g) := by
  unfold rcvF
  split
  · exact wk_same rfl rfl
  · rcases cAt_cases cs ch with ⟨i, c, rfl, hc, e⟩ | ⟨_, e⟩ <;> rw [e]
    · have mem := List.mem_of_getElem? hc
      have hi := (List.getElem?_eq_some_iff.1 hc).1
      dsimp only
      unfold rcvI
      split
      · rename_i x r ex
        have hx := h.g c mem x (.inl (by rw [ex]; exact List.mem_cons_self))
        split
        · refine wk_leave rfl hx (by dsimp only; rw [List.length_set]; exact lvs_len _ _ _) (fun j a b ha hb => ?_)
          dsimp only at ha ⊢
          by_cases ej : i = j
          · subst ej
            rw [List.getElem?_set_self (by rw [lvs_len]; exact hi)] at ha
            injection ha with ha
            subst ha
            rw [hc] at hb
            injection hb with hb
            subst hb
            exact ⟨rfl, rfl⟩
          · rw [List.getElem?_set_ne ej] at ha
            exact lvs_at ha hb
        · exact wk_leave rfl hx (lvs_len _ _ _) (fun j a b ha hb => lvs_at ha hb)
      · split
        · exact wk_set hc rfl rfl (Bg.refl _) (Bg.refl _)
        · split
          · exact wk_same rfl rfl
          · exact wk_set hc rfl rfl (Bg.refl _) (Bg.one _ _)
    · exact wk_same rfl rfl
theorem lvl_in : ∀ (l : List Wt) (fs : List Cn) (x : Wt), x ∈ l → pls (lvl l fs) x.s x.g = 0 := by
  intro l
  induction l with
  | nil => intro fs x hx; cases hx
  | cons y r ih =>
    intro fs x hx
    rw [lvl_cons]
    rcases List.mem_cons.1 hx with hx | hx
    · subst hx
      have := pls_lvl_le r x.s x.g (lvs fs x.s x.g)
      rw [pls_lvs] at this
      omega
    · exact ih _ x hx
theorem wkF_mem : ∀ (l : List Wt) (fs : List Cn) (x : Wt), x ∈ wkF fs l → x ∈ l := by
  intro l
  induction l with
  | nil => intro fs x hx; cases hx
  | cons y r ih =>
    intro fs x hx
    unfold wkF at hx
    split at hx
    · rcases List.mem_cons.1 hx with hx | hx
      · subst hx; exact List.mem_cons_self
      · exact List.mem_cons_of_mem _ (ih _ _ hx)
    · exact List.mem_cons_of_mem _ (ih _ _ hx)
theorem lvl_alike : ∀ (l : List Wt) (ps qs : List Cn) (j : Nat) (y z a b : Cn), ps[j]? = some y → qs[j]? = some z → y.ss = z.ss → y.rs = z.rs → (lvl l ps)[j]? = some a → (lvl l qs)[j]? = some b → a.ss = b.ss ∧ a.rs = b.rs := by
  intro l
  induction l with
  | nil =>
    intro ps qs j y z a b h1 h2 h3 h4 h5 h6
    rw [lvl_nil, h1] at h5
    rw [lvl_nil, h2] at h6
    injection h5 with h5
    injection h6 with h6
    subst h5 h6
    exact ⟨h3, h4⟩
  | cons x r ih =>
    intro ps qs j y z a b h1 h2 h3 h4 h5 h6
    rw [lvl_cons] at h5 h6
    exact ih _ _ j _ _ a b (lvs_get h1 _ _) (lvs_get h2 _ _) (by show wo y.ss _ _ = wo z.ss _ _; rw [h3]) (by show wo y.rs _ _ = wo z.rs _ _; rw [h4]) h5 h6
theorem wk_cls {N : Nat} {cs : List Cn} (h : Gd N cs) (ch : Int) : WkOk cs (clsF cs ch) := by
  unfold clsF
  rcases cAt_cases cs ch with ⟨i, c, rfl, hc, e⟩ | ⟨_, e⟩ <;> rw [e]
  · have mem := List.mem_of_getElem? hc
    have hi := (List.getElem?_eq_some_iff.1 hc).1
    dsimp only
    split
    · exact wk_same rfl rfl
    · have hks : ∀ k ∈ cwK cs i c, ∃ x, x ∈ cw1 cs i c ++ cw2 cs i c ∧ x.s = k.s ∧ x.g = k.g := by
        intro k hk
        unfold cwK at hk
        rcases List.mem_append.1 hk with q | q
        · obtain ⟨x, hx, rfl⟩ := List.mem_map.1 q
          exact ⟨x, List.mem_append.2 (.inl hx), rfl, rfl⟩
        · obtain ⟨x, hx, rfl⟩ := List.mem_map.1 q
          exact ⟨x, List.mem_append.2 (.inr hx), rfl, rfl⟩
      refine ⟨by dsimp only; unfold cwC; rw [lvl_len]; unfold sh2; rw [List.length_set], ?_, ?_, ?_⟩
      · intro k hk
        obtain ⟨x, hx, e1, e2⟩ := hks k hk
        rw [← e1, ← e2]
        rcases List.mem_append.1 hx with q | q
        · exact h.g c mem x (.inr (wkF_mem _ _ _ q))
        · exact h.g c mem x (.inl (wkF_mem _ _ _ q))
      · intro k hk
        obtain ⟨x, hx, e1, e2⟩ := hks k hk
        rw [← e1, ← e2]
        exact lvl_in _ _ _ hx
      · intro j a b ha hb
        dsimp only at ha hb
        unfold cwC at ha
        unfold cwK at hb
        rw [lvK_app, lvK_map, lvK_map, ← lvl_app] at hb
        have hj : j < cs.length := by
          have := (List.getElem?_eq_some_iff.1 hb).1
          rw [lvl_len] at this
          exact this
        have hq : cs[j]? = some cs[j] := List.getElem?_eq_getElem hj
        obtain ⟨y, hy, e3, e4⟩ : ∃ y, (sh2 cs i c)[j]? = some y ∧ y.ss = cs[j].ss ∧ y.rs = cs[j].rs := by
          unfold sh2
          by_cases ej : i = j
          · subst ej
            rw [List.getElem?_set_self hi]
            rw [hc] at hq
            injection hq with hq
            rw [← hq]
            exact ⟨_, rfl, rfl, rfl⟩
          · rw [List.getElem?_set_ne ej, hq]
            exact ⟨_, rfl, rfl, rfl⟩
        obtain ⟨r1, r2⟩ := lvl_alike _ _ _ j y _ a b hy hq e3 e4 ha hb
        rw [r1, r2]
        exact ⟨Bg.refl _, Bg.refl _⟩
  · exact wk_same rfl rfl
theorem alB_iff (ss rs : List Wt) : alB ss rs = true ↔ (ss = [] ∨ rs = [] ∨ ∃ s g, (∀ x ∈ ss, isG s g x = true) ∧ ∀ x ∈ rs, isG s g x = true) := by
  unfold alB
  cases ss with
  | nil => simp
  | cons x r =>
    cases rs with
    | nil => simp
    | cons y q =>
      dsimp only
      rw [Bool.and_eq_true, List.all_eq_true, List.all_eq_true]
      constructor
      · intro h; exact .inr (.inr ⟨x.s, x.g, h.1, h.2⟩)
      · rintro (h | h | ⟨s, g, h1, h2⟩)
        · cases h
        · cases h
        · have hx := h1 x List.mem_cons_self
          unfold isG at hx
          simp at hx
          rw [hx.1, hx.2]
          exact ⟨h1, h2⟩
theorem mayB_iff (cp : Int) (vs : List Int) (ss rs : List Wt) (cl : Bool) : mayB cp vs ss rs cl = true ↔ ((ss = [] ∨ rs = [] ∨ ∃ s g, (∀ x ∈ ss, isG s g x = true) ∧ ∀ x ∈ rs, isG s g x = true) ∧ (ss = [] ∨ cp ≤ (vs.length : Int)) ∧ (rs = [] ∨ vs = []) ∧ (∀ y ∈ rs, y.v = 0) ∧ (cl = true → ss = [] ∧ rs = [])) := by
  unfold mayB
  rw [Bool.and_eq_true, alB_iff]
  refine and_congr Iff.rfl ?_
  rw [Bool.and_eq_true, Bool.and_eq_true, List.all_eq_true]
  have e1 : (!((decide (0 < ss.length) && decide ((vs.length : Int) < cp)) || (decide (0 < rs.length) && decide (0 < vs.length)))) = true ↔ (ss = [] ∨ cp ≤ (vs.length : Int)) ∧ (rs = [] ∨ vs = []) := by
    rw [Bool.not_eq_true', Bool.or_eq_false_iff, Bool.and_eq_false_iff, Bool.and_eq_false_iff]
    simp only [decide_eq_false_iff_not]
    rw [show (¬ 0 < ss.length ↔ ss = []) by rw [← List.length_eq_zero_iff]; omega, show (¬ 0 < rs.length ↔ rs = []) by rw [← List.length_eq_zero_iff]; omega, show (¬ 0 < vs.length ↔ vs = []) by rw [← List.length_eq_zero_iff]; omega, Int.not_lt]
  have e2 : (!cl || (decide (ss.length = 0) && decide (rs.length = 0))) = true ↔ (cl = true → ss = [] ∧ rs = []) := by
    cases cl <;> simp
  rw [e1, e2, and_assoc]
  simp
theorem wo_mem {x : Wt} {l : List Wt} {s g : Int} (h : x ∈ wo l s g) : x ∈ l := (List.mem_filter.1 h).1
/-- a channel may be so -/
def MayC (c : Cn) : Prop := mayB c.cap c.vs c.ss c.rs c.cl = true
theorem MayC.wo {c : Cn} (h : MayC c) (s g : Int) : MayC (c.wo s g) := by
  unfold MayC at *
  rw [mayB_iff] at *
  obtain ⟨h1, h2, h3, h4, h5⟩ := h
  unfold Cn.wo
  dsimp only
  refine ⟨?_, ?_, ?_, fun y hy => h4 y (wo_mem hy), fun e => ?_⟩
  · rcases h1 with e | e | ⟨a, b, e1, e2⟩
    · left; rw [e]; rfl
    · right; left; rw [e]; rfl
    · right; right; exact ⟨a, b, fun x hx => e1 x (wo_mem hx), fun x hx => e2 x (wo_mem hx)⟩
  · rcases h2 with e | e
    · left; rw [e]; rfl
    · exact .inr e
  · rcases h3 with e | e
    · left; rw [e]; rfl
    · exact .inr e
  · obtain ⟨e1, e2⟩ := h5 e
    rw [e1, e2]
    exact ⟨rfl, rfl⟩
/-- channels may be so -/
def MayL (cs : List Cn) : Prop := ∀ c ∈ cs, MayC c
theorem MayL.lvs {cs : List Cn} (h : MayL cs) (s g : Int) : MayL (lvs cs s g) := by
  intro d hd
  obtain ⟨c, hc, rfl⟩ := List.mem_map.1 hd
  exact (h c hc).wo s g
theorem MayL.lvl (l : List Wt) : ∀ {cs : List Cn}, MayL cs → MayL (lvl l cs) := by
  induction l with
  | nil => intro cs h; exact h
  | cons x r ih => intro cs h; exact ih (h.lvs _ _)
theorem MayL.set {cs : List Cn} (h : MayL cs) (i : Nat) {d : Cn} (hd : MayC d) : MayL (cs.set i d) := by
  intro e he
  rcases List.mem_or_eq_of_mem_set he with q | q
  · exact h e q
  · subst q; exact hd
theorem MayL.snd {cs : List Cn} (h : MayL cs) (ch s g v : Int) : MayL (sndF cs ch s g v).cs := by
  unfold sndF
  split
  · exact h
  · rcases cAt_cases cs ch with ⟨i, c, rfl, hc, e⟩ | ⟨_, e⟩ <;> rw [e]
    · have hm := h c (List.mem_of_getElem? hc)
      dsimp only
      unfold sndI
      split
      · exact h
      · rename_i hcl
        split
        · exact h.lvs _ _
        · rename_i hr
          unfold MayC at hm
          rw [mayB_iff] at hm
          obtain ⟨h1, h2, h3, h4, h5⟩ := hm
          split
          · rename_i hl
            refine h.set i ?_
            unfold MayC
            rw [mayB_iff]
            dsimp only
            have hs : c.ss = [] := by rcases h2 with e | e; exact e; omega
            exact ⟨.inl hs, .inl hs, .inl hr, h4, h5⟩
          · rename_i hl
            refine h.set i ?_
            unfold MayC
            rw [mayB_iff]
            dsimp only
            exact ⟨.inr (.inl hr), .inr (by omega), .inl hr, h4, fun e => absurd e hcl⟩
    · exact h
theorem MayL.rcv {cs : List Cn} (h : MayL cs) (ch s g : Int) : MayL (rcvF cs ch s g).cs := by
  unfold rcvF
  split
  · exact h
  · rcases cAt_cases cs ch with ⟨i, c, rfl, hc, e⟩ | ⟨_, e⟩ <;> rw [e]
    · have hm := h c (List.mem_of_getElem? hc)
      have hm0 := hm
      unfold MayC at hm
      rw [mayB_iff] at hm
      obtain ⟨h1, h2, h3, h4, h5⟩ := hm
      dsimp only
      unfold rcvI
      split
      · rename_i x r ex
        have hne : c.ss ≠ [] := by rw [ex]; simp
        have hcl : ¬ c.cl = true := fun e => hne (h5 e).1
        split
        · rename_i u us ev
          refine (h.lvs _ _).set i ?_
          have hvn : c.vs ≠ [] := by rw [ev]; simp
          have hr : c.rs = [] := by rcases h3 with e | e; exact e; exact absurd e hvn
          unfold MayC
          rw [mayB_iff]
          dsimp only
          rw [hr]
          refine ⟨.inr (.inl rfl), .inr ?_, .inl rfl, fun y hy => (by cases hy), fun e => absurd e hcl⟩
          rcases h2 with e | e
          · exact absurd e hne
          · rw [ev] at e
            simp only [List.length_cons, List.length_append, List.length_nil] at e ⊢
            omega
        · exact h.lvs _ _
      · rename_i ex
        split
        · rename_i u us ev
          refine h.set i ?_
          have hvn : c.vs ≠ [] := by rw [ev]; simp
          have hr : c.rs = [] := by rcases h3 with e | e; exact e; exact absurd e hvn
          unfold MayC
          rw [mayB_iff]
          dsimp only
          exact ⟨.inl ex, .inl ex, .inl hr, h4, h5⟩
        · rename_i ev
          split
          · exact h
          · rename_i hcl
            refine h.set i ?_
            unfold MayC
            rw [mayB_iff]
            dsimp only
            refine ⟨.inl ex, .inl ex, .inr ev, ?_, fun e => absurd e hcl⟩
            intro y hy
            rcases List.mem_append.1 hy with q | q
            · exact h4 y q
            · rw [List.mem_singleton] at q; subst q; rfl
    · exact h
theorem MayL.cls {cs : List Cn} (h : MayL cs) (ch : Int) : MayL (clsF cs ch).cs := by
  unfold clsF
  rcases cAt_cases cs ch with ⟨i, c, rfl, hc, e⟩ | ⟨_, e⟩ <;> rw [e]
  · dsimp only
    split
    · exact h
    · dsimp only
      rw [← cw_same hc]
      refine MayL.lvl _ ?_
      refine h.set i ?_
      unfold MayC
      rw [mayB_iff]
      exact ⟨.inl rfl, .inl rfl, .inl rfl, fun y hy => (by cases hy), fun _ => ⟨rfl, rfl⟩⟩
  · exact h
theorem MayL.act {cs : List Cn} (h : MayL cs) (a : Ac) : MayL (actF cs a) := by
  unfold actF
  split
  · unfold mkF
    split
    · intro d hd
      rcases List.mem_append.1 hd with q | q
      · exact h d q
      · rw [List.mem_singleton] at q
        subst q
        unfold MayC
        rw [mayB_iff]
        exact ⟨.inl rfl, .inl rfl, .inl rfl, fun y hy => (by cases hy), fun _ => ⟨rfl, rfl⟩⟩
    · exact h
  · split
    · exact h.snd _ _ _ _
    · split
      · exact h.rcv _ _ _
      · split
        · exact h.cls _
        · split
          · split
            · rename_i hf
              unfold wtF
              unfold fitB at hf
              rcases cAt_cases cs a.ch with ⟨i, c, e1, hc, e⟩ | ⟨_, e⟩
              · rw [e] at hf ⊢
                dsimp only at hf ⊢
                split
                · rename_i hsd
                  rw [if_pos hsd] at hf
                  exact h.set i hf
                · rename_i hsd
                  rw [if_neg hsd] at hf
                  exact h.set i hf
              · rw [e]; exact h
            · exact h
          · split
            · exact h.lvs _ _
            · exact h
/-- the channels behind acts -/
def runR (cs : List Cn) (l : List Ac) : List Cn := l.foldl actF cs
theorem runR_snoc (cs : List Cn) (l : List Ac) (a : Ac) : runR cs (l ++ [a]) = actF (runR cs l) a := by unfold runR; rw [List.foldl_append]; rfl
theorem gr_nil : Gd 0 [] := ⟨Nat.zero_le _, fun c hc => (by cases hc), fun c hc => (by cases hc), Nat.le_refl _, fun c hc => (by cases hc)⟩
theorem gr_run {N : Nat} {cs : List Cn} (h : Gd N cs) : ∀ l : List Ac, (∀ a ∈ l, Gok a.s a.g) → Gd (N + l.length) (runR cs l) := by
  intro l
  induction l generalizing N cs with
  | nil => intro _; exact h
  | cons a r ih =>
    intro hk
    have := ih (h.act a (hk a List.mem_cons_self)) (fun b hb => hk b (List.mem_cons_of_mem _ hb))
    refine (show Gd (N + (a :: r).length) (runR (actF cs a) r) from ?_)
    rw [List.length_cons, show N + (r.length + 1) = N + 1 + r.length by omega]
    exact this
theorem may_run {cs : List Cn} (h : MayL cs) (l : List Ac) : MayL (runR cs l) := by
  induction l generalizing cs with
  | nil => exact h
  | cons a r ih => exact ih (h.act a)
theorem rdr_empty (w : World) (T : TypeId) (P : Nat → Prop) : Rds P (w.alloc (.cells #[] T)) (.slice (some ⟨w.heap.size, 0, none⟩) 0 0) [] :=
  ⟨[], ⟨_, _, rfl, ⟨Nat.le_refl _, fun e => (by cases e)⟩, .inl rfl⟩, rfl, fun i x c hx => (by simp at hx)⟩
theorem Gd.lvK {N : Nat} (l : List Wk) : ∀ {cs : List Cn}, Gd N cs → Gd N (lvK l cs) := by
  induction l with
  | nil => intro cs h; exact h
  | cons x r ih => intro cs h; exact ih (h.lvs x.s x.g)
/-- what a call that may wake answers -/
def wakO (cs : List Cn) (a : Ac) : Ot := if a.k = 1 then sndF cs a.ch a.s a.g a.v else if a.k = 2 then rcvF cs a.ch a.s a.g else clsF cs a.ch
theorem wakO_ok {N : Nat} {cs : List Cn} (h : Gd N cs) (a : Ac) (ha : Gok a.s a.g) : WkOk cs (wakO cs a) ∧ Gd (N + 1) (wakO cs a).cs ∧ (wakO cs a).ks.length ≤ N + 1 := by
  unfold wakO
  split
  · exact ⟨wk_snd h _ _ _ _, h.snd _ _ _ _ ha, Nat.le_trans (snd_ks _ _ _ _ _) (by omega)⟩
  · split
    · exact ⟨wk_rcv h _ _ _, h.rcv _ _ _ ha, Nat.le_trans (rcv_ks _ _ _ _) (by omega)⟩
    · exact ⟨wk_cls h _, (h.cls _).up (by omega), Nat.le_trans (cls_ks h _) (by omega)⟩
end Go.Proofs.Ytalmiphddgmfbab.Lt
