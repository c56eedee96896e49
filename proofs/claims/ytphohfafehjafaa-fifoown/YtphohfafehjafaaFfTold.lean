/-
  What 'told' of the statements answers: true, where the queue and the list are the same. Condition: both are there.
-/
import Derived.Test.YtphohfafehjafaaFfLoad
import Derived.Deep.RegionHeld3
namespace Go.Proofs.Ytphohfafehjafaa.Ff
open Go.RowKit
attribute [local go_sem ↓] Go.wp_at_zero Go.wp_at_succ

theorem eql_int (a : Int) (w : World) : (binOp .eql 3 (.int .i64 a) (.int .i64 a)).run Try.prog w = .ok (.bool true) w := by go_simp
theorem eql_bool (a : Bool) (w : World) : (binOp .eql 4 (.bool a) (.bool a)).run Try.prog w = .ok (.bool true) w := by cases a <;> go_simp

set_option maxHeartbeats 4000000 in
set_option maxRecDepth 20000 in
theorem told_any (P : Nat → Prop) (base b : Nat) (v lv : Value) (xs : List W3) (s g : Int) (w : World) (hq : Que base w b v xs) (hl : Lst P w lv xs) :
    Calls Try.prog 12 #[.pointer (some ⟨b, 0, none⟩), lv, .agg #[.int .i64 s, .int .i64 g]] w fun e w' => e = .returned (.bool true) ∧ Ch NoB w w' := by
  obtain ⟨ao, cap, rfl⟩ := hq.2.1.form
  obtain ⟨al, cl, rfl⟩ := hl.form
  have hlen := hq.2.2.2
  obtain ⟨n, hn⟩ : ∃ n, n = xs.length := ⟨_, rfl⟩
  obtain ⟨B, hB⟩ : ∃ B, B = decide (0 ≤ atG s g xs) := ⟨_, rfl⟩
  have hH := fun W (h1 : QAt W b (.slice ao xs.length cap)) (h2 : Lst (base ≤ ·) W (.slice ao xs.length cap) xs) => has_any (base ≤ ·) b (.slice ao xs.length cap) xs s g W h1 h2 (by omega)
  have hR := fun W (h2 : Lst P W (.slice al xs.length cl) xs) => rhas_any P (.slice al xs.length cl) xs s g W h2 (by omega)
  have hS := fun W (u : Value) (bs : Nat) (h1 : Own bs W u xs) (h2 : Lst P W (.slice al xs.length cl) xs) => same_eq _ P u (.slice al xs.length cl) xs W h1.lst h2 (by omega)
  have hA := fun W (h1 : QAt W b (.slice ao xs.length cap)) (h2 : Lst (base ≤ ·) W (.slice ao xs.length cap) xs) => all_any (base ≤ ·) b (.slice ao xs.length cap) xs W h1 h2 hlen
  rw [← hB] at hH hR
  rw [← hn] at hH hR hS hA hq hl ⊢
  have e1 := fun w => eql_int (n : Int) w
  have e2 := fun w => eql_bool B w
  have HH := hid hH
  have HR := hid hR
  have HS := hid hS
  have HA := hid hA
  have HQ := hid (hq.1.alloc (.cells #[.int .i64 s, .int .i64 g] 30))
  have HO := hid (hq.2.1.lst.alloc (.cells #[.int .i64 s, .int .i64 g] 30))
  have HL := hid (hl.alloc (.cells #[.int .i64 s, .int .i64 g] 30))
  have HG := hid ((Ch.refl NoB w).alloc (.cells #[.int .i64 s, .int .i64 g] 30))
  have k0 : (w.alloc (.cells #[.int .i64 s, .int .i64 g] 30)).cell? ⟨w.heap.size, 0, none⟩ = some (.int .i64 s) := by simp
  have k1 : (w.alloc (.cells #[.int .i64 s, .int .i64 g] 30)).cell? ⟨w.heap.size, 1, none⟩ = some (.int .i64 g) := by simp
  have kl : w.heap.size < (w.alloc (.cells #[.int .i64 s, .int .i64 g] 30)).heap.size := by simp
  obtain ⟨W, hW⟩ : ∃ W, W = w.alloc (.cells #[.int .i64 s, .int .i64 g] 30) := ⟨_, rfl⟩
  rw [← hW] at HQ HO HL HG k0 k1 kl
  clear hH hR hS hA hq hl hn hB
  go_enter Try.func12, Try.ntmps12
  go_wp2_with fail
  rw [← hW]
  clear hW
  go_region_held3 (fun w' => w'.cell? ⟨w.heap.size, 0, none⟩ = some (.int .i64 s) ∧ w'.cell? ⟨w.heap.size, 1, none⟩ = some (.int .i64 g)) (first | (simp only [World.cell?_drew, k0, k1, and_self]; done) | (simp only [a0, a1, and_self]; done) | (simp only [World.cell?_drewN, a0, a1, and_self]; done) | (simp only [b0, b1, and_self]; done) | (simp only [c0, c1, and_self]; done) | (go_keep; done))
    (first
      | (go_at_call 18; refine (HA.out _ HQ.out.drew HO.out.drew).mono ?_; rintro e wA ⟨vA, rfl, oA, gA⟩; obtain ⟨aA, cA, rfl⟩ := oA.form; have HOA := hid oA; have HGA := hid (HG.out.drew.trans' gA); have HQA := hid (QAt.ch HQ.out.drew gA (noB _)); have HTA := hid (Lst.ch HO.out.drew gA (fun _ _ _ => noB _)); have HLA := hid (Lst.ch HL.out.drew gA (fun _ _ _ => noB _)); have a0 := (gA.cell (o := 0) kl (noB _)).trans k0; have a1 := (gA.cell (o := 1) kl (noB _)).trans k1; have al := Nat.lt_of_lt_of_le kl gA.size; clear oA gA)
      | (go_at_call 22; refine (HS.out _ _ _ HOA.out HLA.out).mono ?_; rintro e wS ⟨rfl, m, rfl⟩)
      | (go_at_call 21; refine (len_any b ao n cap (wA.drewN m) HQA.out).mono ?_; rintro e wL ⟨rfl, rfl⟩)
      | (go_at_call 17; refine (HH.out _ ?_ ?_).mono ?_; (first | exact HQA.out | exact HQR.out); (first | exact HTA.out | exact HTR.out); rintro e wH ⟨rfl, gH⟩; (first | (have HGH := hid (HGR.out.trans' gH); have HLH := hid True.intro; have b0 := (gH.cell (o := 0) cl' (noB _)).trans c0; have b1 := (gH.cell (o := 1) cl' (noB _)).trans c1) | (have HGH := hid ((HGA.out.drewN m).trans' gH); have HLH := hid (Lst.ch (w := wA.drewN m) HLA.out gH (fun _ _ _ => noB _)); have b0 := (gH.cell (o := 0) al (noB _)).trans a0; have b1 := (gH.cell (o := 1) al (noB _)).trans a1; have bl' := Nat.lt_of_lt_of_le al gH.size)); clear gH)
      | (go_at_call 27; refine (HR.out _ ?_).mono ?_; (first | exact HLA.out | exact HLH.out); rintro e wR ⟨rfl, gR⟩; (first | (have HGR := hid (HGH.out.trans' gR); have c0 := (gR.cell (o := 0) bl' (noB _)).trans b0; have c1 := (gR.cell (o := 1) bl' (noB _)).trans b1) | (have HGR := hid ((HGA.out.drewN m).trans' gR); have HQR := hid (QAt.ch (w := wA.drewN m) HQA.out gR (noB _)); have HTR := hid (Lst.ch (w := wA.drewN m) HTA.out gR (fun _ _ _ => noB _)); have c0 := (gR.cell (o := 0) al (noB _)).trans a0; have c1 := (gR.cell (o := 1) al (noB _)).trans a1; have cl' := Nat.lt_of_lt_of_le al gR.size)); clear gR))
  all_goals go_wp2
  all_goals go_ret
  all_goals (first | exact ⟨rfl, HGR.out⟩ | exact ⟨rfl, HGH.out⟩)
end Go.Proofs.Ytphohfafehjafaa.Ff
