/-
  The least sum of so many numbers, one behind the other, of a ring: least. Conditions: the numbers are how often a domain can run at each place of a frame.
-/
import Derived.Test.YtbghagpjkkmhpabTbArr
namespace Go.Proofs.Ytbghagpjkkmhpab.Lt
open Go.RowKit Wd
attribute [local go_sem ↓] Go.wp_at_zero Go.wp_at_succ
set_option maxRecDepth 20000

theorem u_at {w : World} {P : Nat → Prop} {ao : Option Addr} {n cap : Nat} {xs : List Int} (h : Ls eU P w (.slice ao n cap) xs) {i : Nat} {x : Int} (hi : xs[i]? = some x) :
    ∃ g o, ao = some ⟨g, o, none⟩ ∧ g < w.heap.size ∧ n ≤ cap ∧ w.cell? ⟨g, o + i, none⟩ = some (.int .u64 x) := by
  obtain ⟨g, o, cp, e, _, hg, hc, hx⟩ := h.get eU_len hi
  injection e with e1 e2 e3
  have h0 := hx 0 _ rfl
  rw [Nat.add_zero, Nat.mul_one] at h0
  exact ⟨g, o, e1, hg, by omega, h0⟩
theorem sm_crw {F : Int} {Fn : Nat} (hF : F = Fn) {L : List (List Sl)} (hg : Good F L) (dm : Int) : ∀ j : Nat, j ≤ Fn → 0 ≤ sm j (crw L dm) ∧ sm j (crw L dm) ≤ 64 * j := by
  intro j
  induction j with
  | zero => intro _; exact ⟨Int.le_refl _, Int.le_refl _⟩
  | succ j ih =>
    intro h
    have := ih (by omega)
    have := crw_bd hg dm j (by omega)
    show 0 ≤ sm j _ + crw L dm j ∧ sm j _ + crw L dm j ≤ 64 * ((j + 1 : Nat) : Int)
    omega
set_option maxHeartbeats 8000000 in
theorem least_any (w : World) (P : Nat → Prop) (g Fn many : Nat) (F : Int) (hF : F = Fn) (L : List (List Sl)) (hg : Good F L) (dm : Int) (xs : List Int) (h : Ls eU P w (.slice (some ⟨g, 0, none⟩) Fn Fn) xs) (hx : ∀ i, i < Fn → xs[i]? = some (crw L dm i)) (hm : many < Fn) :
    Calls Try.prog 37 #[.slice (some ⟨g, 0, none⟩) Fn Fn, .int .u64 (many : Int)] w fun e w' => ∃ m, e = .returned (.int .u64 m) ∧ IsSp Fn L dm many m ∧ Gr w w' := by
  have HA := hide (show ∀ W, Gr w W → ∀ i, i < Fn → W.cell? ⟨g, i, none⟩ = some (.int .u64 (crw L dm i)) ∧ g < W.heap.size from fun W k i hi => by
    obtain ⟨g2, o2, e, hgl, _, c0⟩ := u_at (h.gr k) (hx i hi)
    injection e with e
    injection e with e1 e2
    subst e1 e2
    rw [Nat.zero_add] at c0
    exact ⟨c0, hgl⟩)
  have HC := hide (fun (i : Nat) (hi : i < Fn) => crw_bd hg dm i (by omega))
  have HS := hide (fun (j : Nat) (hj : j ≤ Fn) => sm_crw hF hg dm j hj)
  have HU := hide (fun (i n : Nat) => sup_nonneg hF hg dm i n)
  have hf1 : 1 ≤ Fn := by have := hg.f1; omega
  have hf2 : Fn ≤ 65536 := by have := hg.f2; omega
  have hmi : (many : Int) < (Fn : Int) := by omega
  have hm0 : (0 : Int) ≤ (many : Int) := by omega
  have hml : (many : Int) ≤ (Fn : Int) := by omega
  clear h hx hg hF
  go_enter Try.func37, Try.ntmps37
  go_wp2_with fail
  go_loopg [5, 15] many (fun k sv i wr => ∃ (j : Nat), j + k = many ∧ i = .int .i64 (j : Int) ∧ sv = .int .u64 (sm j (crw L dm)) ∧ Gr w wr)
  case atStart => exact ⟨0, by omega, rfl, rfl, Gr.refl _⟩
  case round =>
    obtain ⟨j, hjk, rfl, rfl, hg⟩ := hrel
    obtain ⟨V, hV⟩ : ∃ W, W = wr := ⟨_, rfl⟩
    subst hV
    have G := hide hg
    by_cases hj : j < many
    · have hj' : (j : Int) < (many : Int) := by omega
      have hj0 : (0 : Int) ≤ (j : Int) := by omega
      obtain ⟨c0, gl⟩ := HA.out _ hg j (by omega)
      obtain ⟨b0, b1⟩ := HS.out j (by omega)
      obtain ⟨d0, d1⟩ := HC.out j (by omega)
      have HT := hide (show sm (j + 1) (crw L dm) = sm j (crw L dm) + crw L dm j from rfl)
      generalize sm j (crw L dm) = s at *
      generalize crw L dm j = x at *
      have k1 : 0 ≤ s + x := by omega
      have k2 : s + x ≤ 18446744073709551615 := by omega
      clear hg d1 b1
      go_wp2
      go_roundg (gk - 1)
      case measure => omega
      case rel =>
        refine ⟨j + 1, by omega, ?_, by rw [HT.out], G.out⟩
        first | with_reducible rfl | simp
    · have hj' : ¬ ((j : Int) < (many : Int)) := by omega
      have hje : j = many := by omega
      have HE := hide (show sm j (crw L dm) = sup Fn L dm 0 many by rw [hje]; exact (sup_first (by omega)).symm)
      have HM1 := hide (isMn_one (fun i => sup Fn L dm i many))
      rw [HE.out]
      clear hg hje
      go_wp2_with fail
      go_loopg [5, 8, 26] Fn (fun k sv lv i wr => ∃ (q : Nat) (lo : Int), q + k = Fn ∧ i = .int .i64 (q : Int) ∧ sv = .int .u64 (sup Fn L dm q many) ∧ lv = .int .u64 lo ∧ IsMn (q + 1) (fun i => sup Fn L dm i many) lo ∧ Gr w wr)
      case atStart => exact ⟨0, _, by omega, rfl, rfl, rfl, HM1.out, G.out⟩
      case round =>
        obtain ⟨q, lo, hqk, rfl, rfl, rfl, hmn, hg⟩ := hrel
        obtain ⟨Z, hZ⟩ : ∃ W, W = wr := ⟨_, rfl⟩
        subst hZ
        have GZ := hide hg
        have HMN := hide hmn
        by_cases hq : q < Fn
        · have hq' : (q : Int) < (Fn : Int) := by omega
          have hq0 : (0 : Int) ≤ (q : Int) := by omega
          obtain ⟨r, hr⟩ : ∃ r, r = (q + many) % Fn := ⟨_, rfl⟩
          have hrF : r < Fn := by rw [hr]; exact Nat.mod_lt _ (by omega)
          obtain ⟨c0, gl⟩ := HA.out _ hg q (by omega)
          obtain ⟨c1, _⟩ := HA.out _ hg r hrF
          have hri : (r : Int) < (Fn : Int) := by omega
          have hr0 : (0 : Int) ≤ (r : Int) := by omega
          have hqm : (q : Int) + (many : Int) ≤ 18446744073709551615 := by omega
          have hqm0 : 0 ≤ (q : Int) + (many : Int) := by omega
          have hne : ¬ ((Fn : Int) = 0) := by omega
          have hx0 : 0 ≤ ((q : Int) + (many : Int)) % (Fn : Int) := Int.emod_nonneg _ hne
          have hx1 : ((q : Int) + (many : Int)) % (Fn : Int) < (Fn : Int) := Int.emod_lt_of_pos _ (by omega)
          obtain ⟨u0, u1⟩ := HU.out q many
          obtain ⟨v0, v1⟩ := HU.out (q + 1) many
          have hsh := sup_shift Fn L dm q many
          rw [← hr, Nat.mod_eq_of_lt hq] at hsh
          obtain ⟨S1, hS1⟩ : ∃ S1, S1 = sup Fn L dm (q + 1) many := ⟨_, rfl⟩
          have HS1 := hide hS1
          rw [← hS1] at hsh v0 v1
          have hmb : (64 : Int) * (many : Int) ≤ 4294967296 := by omega
          have hwr : IntKind.u64.wrap (sup Fn L dm q many + IntKind.u64.wrap (crw L dm r - crw L dm q)) = S1 := by rw [wrap_way (by omega) (by omega), ← hsh]
          generalize sup Fn L dm q many = s at *
          generalize crw L dm r = cr at *
          generalize crw L dm q = cq at *
          rw [hr] at c1
          clear hg hmn hr hsh u0 u1 hS1 hmb
          by_cases hlt : S1 < lo
          · have HN := hide (HMN.out.step S1 (by rw [← HS1.out, if_pos hlt]))
            go_wp2
            go_roundg (gk - 1)
            case measure => omega
            case rel =>
              refine ⟨q + 1, S1, by omega, ?_, by rw [HS1.out], rfl, HN.out, GZ.out⟩
              first | with_reducible rfl | simp
          · have HN := hide (HMN.out.step lo (by rw [← HS1.out, if_neg hlt]))
            go_wp2
            go_roundg (gk - 1)
            case measure => omega
            case rel =>
              refine ⟨q + 1, lo, by omega, ?_, by rw [HS1.out], rfl, HN.out, GZ.out⟩
              first | with_reducible rfl | simp
        · have hq' : ¬ ((q : Int) < (Fn : Int)) := by omega
          have hqe : q = Fn := by omega
          subst hqe
          have HN := hide (isMn_wrap hf1 (sup_end q L dm many) HMN.out)
          clear hg hmn
          go_wp2
          go_ret
          exact ⟨lo, rfl, HN.out, GZ.out⟩
end Go.Proofs.Ytbghagpjkkmhpab.Lt
