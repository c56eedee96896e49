/-
  What the document's Load answers behind its first refusals. Condition: the lists have no more than 1048576 elements.
-/
import Derived.Test.YtnpbehcfbceclaaPdLoad
namespace Go.Proofs.Ytnpbehcfbceclaa.Lt
open Go.RowKit Wd
attribute [local go_sem ↓] Go.wp_at_zero Go.wp_at_succ
set_option maxRecDepth 20000

/-- the age ahead -/
def abv (ys : List Ag) (j : Nat) : Int := if j = 0 then 2147483647 else (ys[j - 1]?.map Ag.a).getD 0
/-- what Load answers of a state whose numbers may be -/
def LdR (w : World) (q : Bool) (cap lost : Nat) (xs : List Int) (ys : List Ag) (R : Bool) (e : Ending) (w' : World) : Prop :=
  (R = false ∧ e = .returned (.tuple #[.agg #[.bool false, .int .i64 0, .slice none 0 0, .slice none 0 0, .int .i64 0], .int .i64 150]) ∧ Gr w w') ∨
  (R = true ∧ ∃ u1 u2, e = .returned (.tuple #[stV ⟨q, cap, xs, ys, lost⟩ u1 u2, .int .i64 0]) ∧ Ls eI (w.heap.size ≤ ·) w' u1 xs ∧ Ls eG (w.heap.size ≤ ·) w' u2 ys ∧ Gr w w')
theorem LdR.no {w w' : World} {q : Bool} {cap lost : Nat} {xs : List Int} {ys : List Ag} {R : Bool} (h : R = false) (g : Gr w w') : LdR w q cap lost xs ys R (.returned (.tuple #[.agg #[.bool false, .int .i64 0, .slice none 0 0, .slice none 0 0, .int .i64 0], .int .i64 150])) w' := .inl ⟨h, rfl, g⟩
theorem LdR.yes {w w3 w8 Z : World} {q : Bool} {cN lN : Nat} {l : Int} {xs : List Int} {ys : List Ag} {R : Bool} {u1 u2 : Value} {z : Array Value} (h : R = true) (hl : l = (lN : Int)) (o1 : Ow eI 1 2 Z.heap.size w3 u1 xs) (o2 : Ow eG 2 59 Z.heap.size w3 u2 ys) (g : Gr w w3) (hz : w.heap.size ≤ Z.heap.size) (xr : w3.heap[w.heap.size + 1]? = some (.cells z 32 (0, 0))) (k : Ch (Only (w.heap.size + 1)) w3 w8) :
    LdR w q cN lN xs ys R (.returned (.tuple #[.agg #[.bool q, .int .i64 (cN : Int), u1, u2, .int .i64 l], .int .i64 0])) w8 := by
  subst hl
  exact .inr ⟨h, u1, u2, rfl, (o1.ch k (fun q e e1 => not_blk o1 (by decide) xr (by have e2 : q = w.heap.size + 1 := e1; rw [← e2]; exact e))).lst.mono (fun _ _ e => Nat.le_trans hz e), (o2.ch k (fun q e e1 => not_blk o2 (by decide) xr (by have e2 : q = w.heap.size + 1 := e1; rw [← e2]; exact e))).lst.mono (fun _ _ e => Nat.le_trans hz e), gr_own15 g k (by omega)⟩
set_option maxHeartbeats 8000000 in
theorem rload_tl {P Q : Nat → Prop} (w : World) (q : Bool) (cN lN : Nat) (a1 a2 : Option Addr) (n1 n2 c1 c2 : Nat) (xs : List Int) (ys : List Ag) (h1 : Ls eI P w (.slice a1 n1 c1) xs) (h2 : Ls eG Q w (.slice a2 n2 c2) ys) (hn1 : n1 ≤ 1048576) (hn2 : n2 ≤ 1048576) (hb : hdB q cN n1 n2 lN = true) :
    Calls Try.prog 17 #[.agg #[.bool q, .int .i64 (cN : Int), .slice a1 n1 c1, .slice a2 n2 c2, .int .i64 (lN : Int)]] w fun e w' => LdR w q cN lN xs ys (agesB ys 2147483647) e w' := by
  obtain ⟨l, hlN⟩ : ∃ l : Int, l = (lN : Int) := ⟨_, rfl⟩
  rw [← hlN] at hb ⊢
  have HLN := hid hlN
  obtain ⟨A, hA⟩ : ∃ A, A = (w.alloc (.cells #[.bool q, .int .i64 (cN : Int), .slice a1 n1 c1, .slice a2 n2 c2, .int .i64 l] 32)).alloc (.cells #[.bool false, .int .i64 0, .slice none 0 0, .slice none 0 0, .int .i64 0] 32) := ⟨_, rfl⟩
  have GA := hid (show Gr w A by rw [hA]; exact Ch.alloc (Ch.alloc (Gr.refl w) _) _)
  have XB := hid (show A.heap[w.heap.size]? = some (.cells #[.bool q, .int .i64 (cN : Int), .slice a1 n1 c1, .slice a2 n2 c2, .int .i64 l] 32 (0, 0)) by rw [hA]; exact al_blk (al_at _ rfl) _)
  have XR := hid (show A.heap[w.heap.size + 1]? = some (.cells #[.bool false, .int .i64 0, .slice none 0 0, .slice none 0 0, .int .i64 0] 32 (0, 0)) by rw [hA]; exact al_at _ (by simp))
  have sB := boxL_of XB.out
  unfold boxL at sB
  have HB0 := hid sB
  have HY := hid (show ∀ W, Gr w W → Ls eG Q W (.slice a2 n2 c2) ys from fun W g => h2.gr g)
  have HL := hid h2.len.1
  have HCP := hid (fun W (g : Gr w W) => copyi_any W q (cN : Int) l a1 a2 n1 n2 c1 c2 xs ys (h1.gr g) (h2.gr g) hn1 hn2)
  obtain ⟨s0, s1, s2, s3, s4, sl⟩ := sB A (Gr.refl A)
  clear sB h1 h2
  unfold hdB at hb
  have hb1 : ((capB q (cN : Int) = true ∧ (n1 : Int) ≤ (cN : Int)) ∧ (n2 : Int) ≤ (cN : Int)) ∧ lostB q l = true := by simpa using hb
  obtain ⟨⟨⟨hc, k1⟩, k2⟩, k3⟩ := hb1
  have HC := hid hc
  have k4 : 0 ≤ l := by omega
  have k5 : l ≤ 2147483647 ∧ (q = false → l = 0) := by
    unfold lostB at k3
    cases q
    · rw [if_neg (by decide)] at k3
      have := of_decide_eq_true k3
      exact ⟨by omega, fun _ => this⟩
    · rw [if_pos rfl] at k3
      simp at k3
      exact ⟨k3.2, fun e => by cases e⟩
  obtain ⟨k5, k6⟩ := k5
  have kc : (cN : Int) ≤ 1024 := by
    obtain ⟨m, e, hm⟩ := cap_nat hc
    omega
  obtain ⟨R, hR⟩ : ∃ R, R = agesB ys 2147483647 := ⟨_, rfl⟩
  have HR := hid (show agesB (ys.drop 0) (abv ys 0) = R from hR.symm)
  rw [← hR]
  clear hb hc k3 hR hlN
  go_enter Try.func17, Try.ntmps17
  go_wp2_with fail
  rw [← hA]
  clear hA
  refine (rnew_yes q cN _ HC.out).mono ?_
  rintro e w1 ⟨rfl, g1⟩
  have XB1 := hid (al_blk (gr_blk XB.out g1) (.cells #[.bool q, .int .i64 (cN : Int), .slice none 0 0, .slice none 0 0, .int .i64 0] 32))
  have XR1 := hid (al_blk (gr_blk XR.out g1) (.cells #[.bool q, .int .i64 (cN : Int), .slice none 0 0, .slice none 0 0, .int .i64 0] 32))
  have G1 := hid (Gr.trans GA.out (Ch.alloc g1 (.cells #[.bool q, .int .i64 (cN : Int), .slice none 0 0, .slice none 0 0, .int .i64 0] 32)))
  clear s0 s1 s2 s3 s4 sl
  obtain ⟨s0, s1, s2, s3, s4, sl⟩ := HB0.out _ g1
  clear g1
  have k6' : q = true ∨ (q = false ∧ l = 0) := by cases q; exact .inr ⟨rfl, k6 rfl⟩; exact .inl rfl
  clear k6
  have hcond : ∃ W1, W1 = w1.alloc (.cells #[.bool q, .int .i64 (cN : Int), .slice none 0 0, .slice none 0 0, .int .i64 0] 32) := ⟨_, rfl⟩
  obtain ⟨W1, hW1⟩ := hcond
  have HB := hid (show ∀ W, Gr W1 W → _ from fun W g => boxL_of (show W1.heap[w.heap.size]? = some (.cells #[.bool q, .int .i64 (cN : Int), .slice a1 n1 c1, .slice a2 n2 c2, .int .i64 l] 32 (0, 0)) by rw [hW1]; exact XB1.out) W g)
  have XB2 := hid (show W1.heap[w.heap.size]? = some (.cells #[.bool q, .int .i64 (cN : Int), .slice a1 n1 c1, .slice a2 n2 c2, .int .i64 l] 32 (0, 0)) by rw [hW1]; exact XB1.out)
  rw [← hW1] at XR1 G1
  rcases k6' with rfl | ⟨rfl, rfl⟩
  · go_wp2_with fail
    rw [← hW1]
    clear hW1 s0 s1 s2 s3 s4 sl
    have t1 : decide (cN < n1) = false := decide_eq_false (by omega)
    have t2 : decide (cN < n2) = false := decide_eq_false (by omega)
    try have t3 : decide (l < 0) = false := decide_eq_false (by omega)
    try have t4 : decide (2147483647 < l) = false := decide_eq_false (by omega)
    try simp only [t1, t2, t3, t4, Bool.or_false]
    try simp only [t1, t2, Bool.or_false]
    clear t1 t2
    try clear t3
    try clear t4
    go_loopg [6] n2 (fun k i wr => ∃ (j : Nat), j + k = n2 ∧ i = .int .i64 (j : Int) ∧ agesB (ys.drop j) (abv ys j) = R ∧ abv ys j ≤ 2147483647 ∧ Gr W1 wr)
    case atStart => exact ⟨0, by omega, rfl, HR.out, Int.le_refl _, Gr.refl _⟩
    case round =>
      obtain ⟨j, hjk, rfl, hr, hab, hg⟩ := hrel
      obtain ⟨Z, hZ⟩ : ∃ W, W = wr := ⟨_, rfl⟩
      subst hZ
      have GZ := hid hg
      have HH := hid hr
      obtain ⟨s0, s1, s2, s3, s4, sl⟩ := HB.out _ hg
      clear hr
      by_cases hj : j < n2
      · have hj' : (j : Int) < (n2 : Int) := by omega
        have hj0 : (0 : Int) ≤ (j : Int) := by omega
        have hjl : j < ys.length := by rw [← HL.out]; exact hj
        have hjx : ys[j]? = some ys[j] := List.getElem?_eq_getElem hjl
        have hd : ys.drop j = ys[j] :: ys.drop (j + 1) := List.drop_eq_getElem_cons hjl
        generalize ys[j] = u at hjx hd
        have HD := hid (show (decide (0 ≤ u.a) && decide (u.a ≤ abv ys j) && agesB (ys.drop (j + 1)) u.a) = R by rw [← HH.out, hd]; rfl)
        have HN := hid (show abv ys (j + 1) = u.a by unfold abv; rw [if_neg (by omega), Nat.add_sub_cancel, hjx]; rfl)
        obtain ⟨g, o, cp, e, _, hgl, hcp, hcx⟩ := (HY.out _ (Gr.trans G1.out hg)).get eG_len hjx
        injection e with e1 e2 e3
        subst e1 e3
        have d1 := hcx 1 _ rfl
        have hcn : n2 ≤ c2 := by rw [HL.out]; exact hcp
        rcases Nat.eq_zero_or_pos j with h0 | h0
        · have hav : abv ys j = 2147483647 := by rw [h0]; rfl
          rw [hav] at HD
          clear hav hab
          subst h0
          have hj2 : (0 : Int) < (n2 : Int) := by omega
          have d2 := d1
          simp only [Nat.zero_mul, Nat.add_zero] at d2
          clear d1
          by_cases k1 : u.a < 0
          · clear hgl hcx e2 hjx hd hg
            go_wp2_with fail
            go_quiet (fail)
            have HE := hid (show R = false by rw [← HD.out, decide_eq_false (show ¬ (0 ≤ u.a) by omega), Bool.false_and, Bool.false_and])
            have XR2 := hid (show (Z.drewN nq).heap[w.heap.size + 1]? = some (.cells #[.bool false, .int .i64 0, .slice none 0 0, .slice none 0 0, .int .i64 0] 32 (0, 0)) from gr_blk XR1.out (Ch.drewN GZ.out _))
            go_upto_region 8 with (fail)
            go_wp2_with (refine st_row rfl 32 (.tmp 2) (.tmp 97) rfl (w.heap.size + 1) #[.bool false, .int .i64 0, .slice none 0 0, .slice none 0 0, .int .i64 0] rfl rfl _ _ XR2.out pst_size rfl (by simp [Value.oneCell']) ?_; intro w8 b8 k8; have B8 := hid b8; have K8 := hid k8; clear b8 k8)
            exact bodyPost_ret (results_cell_tmp2 rfl _ _ (w.heap.size + 1) _ rfl (run_loadVar_row _ _ _ _ _ _ _ B8.out Try.underlying32 rfl pst_size)) rfl (LdR.no HE.out (gr_own15 (Gr.trans G1.out (Ch.drewN GZ.out _)) K8.out (by omega)))
          · by_cases k2 : 2147483647 < u.a
            · clear hgl hcx e2 hjx hd hg
              have K1 := hid k1
              have K2 := hid k2
              have c1' : decide (u.a < 0) = false := decide_eq_false k1
              have c2' : decide (2147483647 < u.a) = true := decide_eq_true k2
              clear k1 k2
              go_wp2_with fail
              go_quiet (fail)
              have HE := hid (show R = false by have k1 := K1.out; have k2 := K2.out; rw [← HD.out, decide_eq_false (show ¬ (u.a ≤ 2147483647) by omega), Bool.and_false, Bool.false_and])
              have XR2 := hid (show (Z.drewN nq).heap[w.heap.size + 1]? = some (.cells #[.bool false, .int .i64 0, .slice none 0 0, .slice none 0 0, .int .i64 0] 32 (0, 0)) from gr_blk XR1.out (Ch.drewN GZ.out _))
              go_upto_region 8 with (fail)
              go_wp2_with (refine st_row rfl 32 (.tmp 2) (.tmp 97) rfl (w.heap.size + 1) #[.bool false, .int .i64 0, .slice none 0 0, .slice none 0 0, .int .i64 0] rfl rfl _ _ XR2.out pst_size rfl (by simp [Value.oneCell']) ?_; intro w8 b8 k8; have B8 := hid b8; have K8 := hid k8; clear b8 k8)
              exact bodyPost_ret (results_cell_tmp2 rfl _ _ (w.heap.size + 1) _ rfl (run_loadVar_row _ _ _ _ _ _ _ B8.out Try.underlying32 rfl pst_size)) rfl (LdR.no HE.out (gr_own15 (Gr.trans G1.out (Ch.drewN GZ.out _)) K8.out (by omega)))
            · have HOK := hid (show agesB (ys.drop (0 + 1)) u.a = R by rw [← HD.out, decide_eq_true (show 0 ≤ u.a by omega), decide_eq_true (show u.a ≤ 2147483647 by omega)]; rfl)
              have HLE := hid (show u.a ≤ 2147483647 by omega)
              clear hgl hcx e2 hjx hd hg
              have c1' : decide (u.a < 0) = false := decide_eq_false k1
              have c2' : decide (2147483647 < u.a) = false := decide_eq_false k2
              clear k1 k2
              go_wp2_with fail
              go_quiet (fail)
              go_wp2_with fail
              go_roundg (gk - 1)
              case measure => omega
              case rel =>
                refine ⟨0 + 1, by omega, ?_, by rw [HN.out]; exact HOK.out, by rw [HN.out]; exact HLE.out, Ch.drewN GZ.out _⟩
                first | with_reducible rfl | simp
        · obtain ⟨m, hm⟩ : ∃ m, m + 1 = j := ⟨j - 1, by omega⟩
          have hmx : ys[m]? = some (ys[m]'(by omega)) := List.getElem?_eq_getElem _
          generalize ys[m]'(by omega) = z at hmx
          have hav : abv ys j = z.a := by unfold abv; rw [if_neg (by omega), show j - 1 = m by omega, hmx]; rfl
          rw [hav] at HD hab
          obtain ⟨g', o', cp', e', _, hgl', _, hcz⟩ := (HY.out _ (Gr.trans G1.out hg)).get eG_len hmx
          injection e' with e1' e2' e3'
          injection e1' with e1'
          injection e1' with f1 f2
          subst f1 f2
          have d2 := hcz 1 _ rfl
          have hm1 : (j : Int) - 1 = (m : Int) := by omega
          have hwm : IntKind.i64.wrap (m : Int) = (m : Int) := by rw [IntKind.wrap_i64]; omega
          have hmn : (m : Int) < (n2 : Int) := by omega
          have hm0 : (0 : Int) ≤ (m : Int) := by omega
          have hjp : (0 : Int) < (j : Int) := by omega
          clear hcz hgl' e2' e3' hav hmx
          by_cases k1 : u.a < 0
          · clear hgl hcx e2 hjx hd hg
            go_wp2_with fail
            go_quiet (fail)
            have HE := hid (show R = false by rw [← HD.out, decide_eq_false (show ¬ (0 ≤ u.a) by omega), Bool.false_and, Bool.false_and])
            have XR2 := hid (show (Z.drewN nq).heap[w.heap.size + 1]? = some (.cells #[.bool false, .int .i64 0, .slice none 0 0, .slice none 0 0, .int .i64 0] 32 (0, 0)) from gr_blk XR1.out (Ch.drewN GZ.out _))
            go_upto_region 8 with (fail)
            go_wp2_with (refine st_row rfl 32 (.tmp 2) (.tmp 97) rfl (w.heap.size + 1) #[.bool false, .int .i64 0, .slice none 0 0, .slice none 0 0, .int .i64 0] rfl rfl _ _ XR2.out pst_size rfl (by simp [Value.oneCell']) ?_; intro w8 b8 k8; have B8 := hid b8; have K8 := hid k8; clear b8 k8)
            exact bodyPost_ret (results_cell_tmp2 rfl _ _ (w.heap.size + 1) _ rfl (run_loadVar_row _ _ _ _ _ _ _ B8.out Try.underlying32 rfl pst_size)) rfl (LdR.no HE.out (gr_own15 (Gr.trans G1.out (Ch.drewN GZ.out _)) K8.out (by omega)))
          · by_cases k2 : 2147483647 < u.a
            · clear hgl hcx e2 hjx hd hg
              have K1 := hid k1
              have K2 := hid k2
              have HAB := hid hab
              have c1' : decide (u.a < 0) = false := decide_eq_false k1
              have c2' : decide (2147483647 < u.a) = true := decide_eq_true k2
              clear k1 k2 hab
              go_wp2_with fail
              go_quiet (fail)
              have HE := hid (show R = false by have k1 := K1.out; have k2 := K2.out; have hab := HAB.out; rw [← HD.out, decide_eq_false (show ¬ (u.a ≤ z.a) by omega), Bool.and_false, Bool.false_and])
              have XR2 := hid (show (Z.drewN nq).heap[w.heap.size + 1]? = some (.cells #[.bool false, .int .i64 0, .slice none 0 0, .slice none 0 0, .int .i64 0] 32 (0, 0)) from gr_blk XR1.out (Ch.drewN GZ.out _))
              go_upto_region 8 with (fail)
              go_wp2_with (refine st_row rfl 32 (.tmp 2) (.tmp 97) rfl (w.heap.size + 1) #[.bool false, .int .i64 0, .slice none 0 0, .slice none 0 0, .int .i64 0] rfl rfl _ _ XR2.out pst_size rfl (by simp [Value.oneCell']) ?_; intro w8 b8 k8; have B8 := hid b8; have K8 := hid k8; clear b8 k8)
              exact bodyPost_ret (results_cell_tmp2 rfl _ _ (w.heap.size + 1) _ rfl (run_loadVar_row _ _ _ _ _ _ _ B8.out Try.underlying32 rfl pst_size)) rfl (LdR.no HE.out (gr_own15 (Gr.trans G1.out (Ch.drewN GZ.out _)) K8.out (by omega)))
            · by_cases k3 : z.a < u.a
              · clear hgl hcx e2 hjx hd hg
                have K3 := hid k3
                have c1' : decide (u.a < 0) = false := decide_eq_false k1
                have c2' : decide (2147483647 < u.a) = false := decide_eq_false k2
                have c3' : decide (z.a < u.a) = true := decide_eq_true k3
                clear k1 k2 k3 hab
                go_wp2_with fail
                go_quiet (fail)
                have HE := hid (show R = false by have k3 := K3.out; rw [← HD.out, decide_eq_false (show ¬ (u.a ≤ z.a) by omega), Bool.and_false, Bool.false_and])
                have XR2 := hid (show (Z.drewN nq).heap[w.heap.size + 1]? = some (.cells #[.bool false, .int .i64 0, .slice none 0 0, .slice none 0 0, .int .i64 0] 32 (0, 0)) from gr_blk XR1.out (Ch.drewN GZ.out _))
                go_upto_region 8 with (fail)
                go_wp2_with (refine st_row rfl 32 (.tmp 2) (.tmp 97) rfl (w.heap.size + 1) #[.bool false, .int .i64 0, .slice none 0 0, .slice none 0 0, .int .i64 0] rfl rfl _ _ XR2.out pst_size rfl (by simp [Value.oneCell']) ?_; intro w8 b8 k8; have B8 := hid b8; have K8 := hid k8; clear b8 k8)
                exact bodyPost_ret (results_cell_tmp2 rfl _ _ (w.heap.size + 1) _ rfl (run_loadVar_row _ _ _ _ _ _ _ B8.out Try.underlying32 rfl pst_size)) rfl (LdR.no HE.out (gr_own15 (Gr.trans G1.out (Ch.drewN GZ.out _)) K8.out (by omega)))
              · have HOK := hid (show agesB (ys.drop (j + 1)) u.a = R by rw [← HD.out, decide_eq_true (show 0 ≤ u.a by omega), decide_eq_true (show u.a ≤ z.a by omega)]; rfl)
                have HLE := hid (show u.a ≤ 2147483647 by omega)
                clear hgl hcx e2 hjx hd hg
                go_wp2_with fail
                go_quiet (fail)
                go_wp2_with fail
                go_roundg (gk - 1)
                case measure => omega
                case rel =>
                  refine ⟨j + 1, by omega, ?_, by rw [HN.out]; exact HOK.out, by rw [HN.out]; exact HLE.out, Ch.drewN GZ.out _⟩
                  first | with_reducible rfl | simp
      · have hj' : ¬ ((j : Int) < (n2 : Int)) := by omega
        have HE := hid (show R = true by
          have e : ys.drop j = [] := List.drop_of_length_le (by rw [← HL.out]; omega)
          rw [← HH.out, e]
          rfl)
        have XBZ := hid (show Z.heap[w.heap.size]? = some (.cells #[.bool true, .int .i64 (cN : Int), .slice a1 n1 c1, .slice a2 n2 c2, .int .i64 l] 32 (0, 0)) from gr_blk XB2.out hg)
        have XRZ := hid (gr_blk XR1.out hg)
        have GZ1 := hid (Gr.trans G1.out hg)
        clear hg
        go_upto_region 9 with (fail)
        go_wp2_with (refine wpList_load_row rfl 32 (.tmp 1) rfl w.heap.size rfl _ _ _ _ XBZ.out Try.underlying32 rfl pst_size ?_)
        refine (HCP.out _ GZ1.out).mono ?_
        rintro e w3 ⟨v1, v2, rfl, o1, o2, g3⟩
        obtain ⟨b1, d1, rfl⟩ := o1.form
        obtain ⟨b2, d2, rfl⟩ := o2.form
        have XR3 := hid (gr_blk XRZ.out g3)
        have G3 := hid (Gr.trans GZ1.out g3)
        have O1 := hid o1
        have O2 := hid o2
        clear o1 o2 g3
        go_wp2_with (refine st_row rfl 32 (.tmp 2) (.tmp 99) rfl (w.heap.size + 1) #[.bool true, .int .i64 (cN : Int), .slice b1 xs.length d1, .slice b2 ys.length d2, .int .i64 l] rfl rfl _ _ XR3.out pst_size rfl (by simp [Value.oneCell']) ?_; intro w8 b8 k8; have B8 := hid b8; have K8 := hid k8; clear b8 k8)
        exact bodyPost_ret (results_cell_tmp2 rfl _ _ (w.heap.size + 1) _ rfl (run_loadVar_row _ _ _ _ _ _ _ B8.out Try.underlying32 rfl pst_size)) rfl (LdR.yes HE.out HLN.out O1.out O2.out G3.out GZ1.out.size XR3.out K8.out)
  · go_wp2_with fail
    rw [← hW1]
    clear hW1 s0 s1 s2 s3 s4 sl
    have t1 : decide (cN < n1) = false := decide_eq_false (by omega)
    have t2 : decide (cN < n2) = false := decide_eq_false (by omega)
    try have t3 : decide (l < 0) = false := decide_eq_false (by omega)
    try have t4 : decide (2147483647 < l) = false := decide_eq_false (by omega)
    try simp only [t1, t2, t3, t4, Bool.or_false]
    try simp only [t1, t2, Bool.or_false]
    clear t1 t2
    try clear t3
    try clear t4
    go_loopg [6] n2 (fun k i wr => ∃ (j : Nat), j + k = n2 ∧ i = .int .i64 (j : Int) ∧ agesB (ys.drop j) (abv ys j) = R ∧ abv ys j ≤ 2147483647 ∧ Gr W1 wr)
    case atStart => exact ⟨0, by omega, rfl, HR.out, Int.le_refl _, Gr.refl _⟩
    case round =>
      obtain ⟨j, hjk, rfl, hr, hab, hg⟩ := hrel
      obtain ⟨Z, hZ⟩ : ∃ W, W = wr := ⟨_, rfl⟩
      subst hZ
      have GZ := hid hg
      have HH := hid hr
      obtain ⟨s0, s1, s2, s3, s4, sl⟩ := HB.out _ hg
      clear hr
      by_cases hj : j < n2
      · have hj' : (j : Int) < (n2 : Int) := by omega
        have hj0 : (0 : Int) ≤ (j : Int) := by omega
        have hjl : j < ys.length := by rw [← HL.out]; exact hj
        have hjx : ys[j]? = some ys[j] := List.getElem?_eq_getElem hjl
        have hd : ys.drop j = ys[j] :: ys.drop (j + 1) := List.drop_eq_getElem_cons hjl
        generalize ys[j] = u at hjx hd
        have HD := hid (show (decide (0 ≤ u.a) && decide (u.a ≤ abv ys j) && agesB (ys.drop (j + 1)) u.a) = R by rw [← HH.out, hd]; rfl)
        have HN := hid (show abv ys (j + 1) = u.a by unfold abv; rw [if_neg (by omega), Nat.add_sub_cancel, hjx]; rfl)
        obtain ⟨g, o, cp, e, _, hgl, hcp, hcx⟩ := (HY.out _ (Gr.trans G1.out hg)).get eG_len hjx
        injection e with e1 e2 e3
        subst e1 e3
        have d1 := hcx 1 _ rfl
        have hcn : n2 ≤ c2 := by rw [HL.out]; exact hcp
        rcases Nat.eq_zero_or_pos j with h0 | h0
        · have hav : abv ys j = 2147483647 := by rw [h0]; rfl
          rw [hav] at HD
          clear hav hab
          subst h0
          have hj2 : (0 : Int) < (n2 : Int) := by omega
          have d2 := d1
          simp only [Nat.zero_mul, Nat.add_zero] at d2
          clear d1
          by_cases k1 : u.a < 0
          · clear hgl hcx e2 hjx hd hg
            go_wp2_with fail
            go_quiet (fail)
            have HE := hid (show R = false by rw [← HD.out, decide_eq_false (show ¬ (0 ≤ u.a) by omega), Bool.false_and, Bool.false_and])
            have XR2 := hid (show (Z.drewN nq).heap[w.heap.size + 1]? = some (.cells #[.bool false, .int .i64 0, .slice none 0 0, .slice none 0 0, .int .i64 0] 32 (0, 0)) from gr_blk XR1.out (Ch.drewN GZ.out _))
            go_upto_region 8 with (fail)
            go_wp2_with (refine st_row rfl 32 (.tmp 2) (.tmp 97) rfl (w.heap.size + 1) #[.bool false, .int .i64 0, .slice none 0 0, .slice none 0 0, .int .i64 0] rfl rfl _ _ XR2.out pst_size rfl (by simp [Value.oneCell']) ?_; intro w8 b8 k8; have B8 := hid b8; have K8 := hid k8; clear b8 k8)
            exact bodyPost_ret (results_cell_tmp2 rfl _ _ (w.heap.size + 1) _ rfl (run_loadVar_row _ _ _ _ _ _ _ B8.out Try.underlying32 rfl pst_size)) rfl (LdR.no HE.out (gr_own15 (Gr.trans G1.out (Ch.drewN GZ.out _)) K8.out (by omega)))
          · by_cases k2 : 2147483647 < u.a
            · clear hgl hcx e2 hjx hd hg
              have K1 := hid k1
              have K2 := hid k2
              have c1' : decide (u.a < 0) = false := decide_eq_false k1
              have c2' : decide (2147483647 < u.a) = true := decide_eq_true k2
              clear k1 k2
              go_wp2_with fail
              go_quiet (fail)
              have HE := hid (show R = false by have k1 := K1.out; have k2 := K2.out; rw [← HD.out, decide_eq_false (show ¬ (u.a ≤ 2147483647) by omega), Bool.and_false, Bool.false_and])
              have XR2 := hid (show (Z.drewN nq).heap[w.heap.size + 1]? = some (.cells #[.bool false, .int .i64 0, .slice none 0 0, .slice none 0 0, .int .i64 0] 32 (0, 0)) from gr_blk XR1.out (Ch.drewN GZ.out _))
              go_upto_region 8 with (fail)
              go_wp2_with (refine st_row rfl 32 (.tmp 2) (.tmp 97) rfl (w.heap.size + 1) #[.bool false, .int .i64 0, .slice none 0 0, .slice none 0 0, .int .i64 0] rfl rfl _ _ XR2.out pst_size rfl (by simp [Value.oneCell']) ?_; intro w8 b8 k8; have B8 := hid b8; have K8 := hid k8; clear b8 k8)
              exact bodyPost_ret (results_cell_tmp2 rfl _ _ (w.heap.size + 1) _ rfl (run_loadVar_row _ _ _ _ _ _ _ B8.out Try.underlying32 rfl pst_size)) rfl (LdR.no HE.out (gr_own15 (Gr.trans G1.out (Ch.drewN GZ.out _)) K8.out (by omega)))
            · have HOK := hid (show agesB (ys.drop (0 + 1)) u.a = R by rw [← HD.out, decide_eq_true (show 0 ≤ u.a by omega), decide_eq_true (show u.a ≤ 2147483647 by omega)]; rfl)
              have HLE := hid (show u.a ≤ 2147483647 by omega)
              clear hgl hcx e2 hjx hd hg
              have c1' : decide (u.a < 0) = false := decide_eq_false k1
              have c2' : decide (2147483647 < u.a) = false := decide_eq_false k2
              clear k1 k2
              go_wp2_with fail
              go_quiet (fail)
              go_wp2_with fail
              go_roundg (gk - 1)
              case measure => omega
              case rel =>
                refine ⟨0 + 1, by omega, ?_, by rw [HN.out]; exact HOK.out, by rw [HN.out]; exact HLE.out, Ch.drewN GZ.out _⟩
                first | with_reducible rfl | simp
        · obtain ⟨m, hm⟩ : ∃ m, m + 1 = j := ⟨j - 1, by omega⟩
          have hmx : ys[m]? = some (ys[m]'(by omega)) := List.getElem?_eq_getElem _
          generalize ys[m]'(by omega) = z at hmx
          have hav : abv ys j = z.a := by unfold abv; rw [if_neg (by omega), show j - 1 = m by omega, hmx]; rfl
          rw [hav] at HD hab
          obtain ⟨g', o', cp', e', _, hgl', _, hcz⟩ := (HY.out _ (Gr.trans G1.out hg)).get eG_len hmx
          injection e' with e1' e2' e3'
          injection e1' with e1'
          injection e1' with f1 f2
          subst f1 f2
          have d2 := hcz 1 _ rfl
          have hm1 : (j : Int) - 1 = (m : Int) := by omega
          have hwm : IntKind.i64.wrap (m : Int) = (m : Int) := by rw [IntKind.wrap_i64]; omega
          have hmn : (m : Int) < (n2 : Int) := by omega
          have hm0 : (0 : Int) ≤ (m : Int) := by omega
          have hjp : (0 : Int) < (j : Int) := by omega
          clear hcz hgl' e2' e3' hav hmx
          by_cases k1 : u.a < 0
          · clear hgl hcx e2 hjx hd hg
            go_wp2_with fail
            go_quiet (fail)
            have HE := hid (show R = false by rw [← HD.out, decide_eq_false (show ¬ (0 ≤ u.a) by omega), Bool.false_and, Bool.false_and])
            have XR2 := hid (show (Z.drewN nq).heap[w.heap.size + 1]? = some (.cells #[.bool false, .int .i64 0, .slice none 0 0, .slice none 0 0, .int .i64 0] 32 (0, 0)) from gr_blk XR1.out (Ch.drewN GZ.out _))
            go_upto_region 8 with (fail)
            go_wp2_with (refine st_row rfl 32 (.tmp 2) (.tmp 97) rfl (w.heap.size + 1) #[.bool false, .int .i64 0, .slice none 0 0, .slice none 0 0, .int .i64 0] rfl rfl _ _ XR2.out pst_size rfl (by simp [Value.oneCell']) ?_; intro w8 b8 k8; have B8 := hid b8; have K8 := hid k8; clear b8 k8)
            exact bodyPost_ret (results_cell_tmp2 rfl _ _ (w.heap.size + 1) _ rfl (run_loadVar_row _ _ _ _ _ _ _ B8.out Try.underlying32 rfl pst_size)) rfl (LdR.no HE.out (gr_own15 (Gr.trans G1.out (Ch.drewN GZ.out _)) K8.out (by omega)))
          · by_cases k2 : 2147483647 < u.a
            · clear hgl hcx e2 hjx hd hg
              have K1 := hid k1
              have K2 := hid k2
              have HAB := hid hab
              have c1' : decide (u.a < 0) = false := decide_eq_false k1
              have c2' : decide (2147483647 < u.a) = true := decide_eq_true k2
              clear k1 k2 hab
              go_wp2_with fail
              go_quiet (fail)
              have HE := hid (show R = false by have k1 := K1.out; have k2 := K2.out; have hab := HAB.out; rw [← HD.out, decide_eq_false (show ¬ (u.a ≤ z.a) by omega), Bool.and_false, Bool.false_and])
              have XR2 := hid (show (Z.drewN nq).heap[w.heap.size + 1]? = some (.cells #[.bool false, .int .i64 0, .slice none 0 0, .slice none 0 0, .int .i64 0] 32 (0, 0)) from gr_blk XR1.out (Ch.drewN GZ.out _))
              go_upto_region 8 with (fail)
              go_wp2_with (refine st_row rfl 32 (.tmp 2) (.tmp 97) rfl (w.heap.size + 1) #[.bool false, .int .i64 0, .slice none 0 0, .slice none 0 0, .int .i64 0] rfl rfl _ _ XR2.out pst_size rfl (by simp [Value.oneCell']) ?_; intro w8 b8 k8; have B8 := hid b8; have K8 := hid k8; clear b8 k8)
              exact bodyPost_ret (results_cell_tmp2 rfl _ _ (w.heap.size + 1) _ rfl (run_loadVar_row _ _ _ _ _ _ _ B8.out Try.underlying32 rfl pst_size)) rfl (LdR.no HE.out (gr_own15 (Gr.trans G1.out (Ch.drewN GZ.out _)) K8.out (by omega)))
            · by_cases k3 : z.a < u.a
              · clear hgl hcx e2 hjx hd hg
                have K3 := hid k3
                have c1' : decide (u.a < 0) = false := decide_eq_false k1
                have c2' : decide (2147483647 < u.a) = false := decide_eq_false k2
                have c3' : decide (z.a < u.a) = true := decide_eq_true k3
                clear k1 k2 k3 hab
                go_wp2_with fail
                go_quiet (fail)
                have HE := hid (show R = false by have k3 := K3.out; rw [← HD.out, decide_eq_false (show ¬ (u.a ≤ z.a) by omega), Bool.and_false, Bool.false_and])
                have XR2 := hid (show (Z.drewN nq).heap[w.heap.size + 1]? = some (.cells #[.bool false, .int .i64 0, .slice none 0 0, .slice none 0 0, .int .i64 0] 32 (0, 0)) from gr_blk XR1.out (Ch.drewN GZ.out _))
                go_upto_region 8 with (fail)
                go_wp2_with (refine st_row rfl 32 (.tmp 2) (.tmp 97) rfl (w.heap.size + 1) #[.bool false, .int .i64 0, .slice none 0 0, .slice none 0 0, .int .i64 0] rfl rfl _ _ XR2.out pst_size rfl (by simp [Value.oneCell']) ?_; intro w8 b8 k8; have B8 := hid b8; have K8 := hid k8; clear b8 k8)
                exact bodyPost_ret (results_cell_tmp2 rfl _ _ (w.heap.size + 1) _ rfl (run_loadVar_row _ _ _ _ _ _ _ B8.out Try.underlying32 rfl pst_size)) rfl (LdR.no HE.out (gr_own15 (Gr.trans G1.out (Ch.drewN GZ.out _)) K8.out (by omega)))
              · have HOK := hid (show agesB (ys.drop (j + 1)) u.a = R by rw [← HD.out, decide_eq_true (show 0 ≤ u.a by omega), decide_eq_true (show u.a ≤ z.a by omega)]; rfl)
                have HLE := hid (show u.a ≤ 2147483647 by omega)
                clear hgl hcx e2 hjx hd hg
                go_wp2_with fail
                go_quiet (fail)
                go_wp2_with fail
                go_roundg (gk - 1)
                case measure => omega
                case rel =>
                  refine ⟨j + 1, by omega, ?_, by rw [HN.out]; exact HOK.out, by rw [HN.out]; exact HLE.out, Ch.drewN GZ.out _⟩
                  first | with_reducible rfl | simp
      · have hj' : ¬ ((j : Int) < (n2 : Int)) := by omega
        have HE := hid (show R = true by
          have e : ys.drop j = [] := List.drop_of_length_le (by rw [← HL.out]; omega)
          rw [← HH.out, e]
          rfl)
        have XBZ := hid (show Z.heap[w.heap.size]? = some (.cells #[.bool false, .int .i64 (cN : Int), .slice a1 n1 c1, .slice a2 n2 c2, .int .i64 0] 32 (0, 0)) from gr_blk XB2.out hg)
        have XRZ := hid (gr_blk XR1.out hg)
        have GZ1 := hid (Gr.trans G1.out hg)
        clear hg
        go_upto_region 9 with (fail)
        go_wp2_with (refine wpList_load_row rfl 32 (.tmp 1) rfl w.heap.size rfl _ _ _ _ XBZ.out Try.underlying32 rfl pst_size ?_)
        refine (HCP.out _ GZ1.out).mono ?_
        rintro e w3 ⟨v1, v2, rfl, o1, o2, g3⟩
        obtain ⟨b1, d1, rfl⟩ := o1.form
        obtain ⟨b2, d2, rfl⟩ := o2.form
        have XR3 := hid (gr_blk XRZ.out g3)
        have G3 := hid (Gr.trans GZ1.out g3)
        have O1 := hid o1
        have O2 := hid o2
        clear o1 o2 g3
        go_wp2_with (refine st_row rfl 32 (.tmp 2) (.tmp 99) rfl (w.heap.size + 1) #[.bool false, .int .i64 (cN : Int), .slice b1 xs.length d1, .slice b2 ys.length d2, .int .i64 0] rfl rfl _ _ XR3.out pst_size rfl (by simp [Value.oneCell']) ?_; intro w8 b8 k8; have B8 := hid b8; have K8 := hid k8; clear b8 k8)
        exact bodyPost_ret (results_cell_tmp2 rfl _ _ (w.heap.size + 1) _ rfl (run_loadVar_row _ _ _ _ _ _ _ B8.out Try.underlying32 rfl pst_size)) rfl (LdR.yes HE.out HLN.out O1.out O2.out G3.out GZ1.out.size XR3.out K8.out)
end Go.Proofs.Ytnpbehcfbceclaa.Lt
