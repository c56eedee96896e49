/-
  Windows made such as have no place twice: apart. Conditions: the sort sorts; the windows lie below 65536, and are not too many.
-/
import Derived.Test.YtbghagpjkkmhpaaTbTckM
import Derived.Test.YtbghagpjkkmhpaaTbSupC
namespace Go.Proofs.Ytbghagpjkkmhpaa.Lt
open Go.RowKit Wd
attribute [local go_sem ↓] Go.wp_at_zero Go.wp_at_succ
set_option maxRecDepth 20000

/-- the cells of windows -/
def Dw (w : World) (k : Nat) (ys : List (Int × Int)) : Prop := ∀ (i : Nat) (y : Int × Int), ys[i]? = some y → w.cell? ⟨k, i * 2, none⟩ = some (.int .u64 y.1) ∧ w.cell? ⟨k, i * 2 + 1, none⟩ = some (.int .u64 y.2)
theorem aprt_cons (nx : Int) (q : Int × Int) (r : List (Int × Int)) : aprt nx (q :: r) = if (if q.1 < nx then nx else q.1) < q.1 + q.2 then ((if q.1 < nx then nx else q.1), q.1 + q.2 - (if q.1 < nx then nx else q.1)) :: aprt (q.1 + q.2) r else aprt nx r := rfl
/-- what is asked of the sort -/
def SortsW : Prop := (∀ (k cap : Nat) (ys : List (Int × Int)) (w : World), Dw w k ys → (∀ o, w.frozen? ⟨k, o, none⟩ = false) → k < w.heap.size → ys.length ≤ 4294967296 →
    Calls Try.prog 54 #[.slice (some ⟨k, 0, none⟩) ys.length cap, .func (.func 55) #[] #[]] w fun e w' => e = .returned (.tuple #[]) ∧ ∃ zs, zs.Perm ys ∧ zs.Pairwise (fun a b => a.1 ≤ b.1) ∧ Dw w' k zs ∧ Ch (Only k) w w') ∧
  ∀ (p : Option Addr) (cap : Nat) (w : World), Calls Try.prog 54 #[.slice p 0 cap, .func (.func 55) #[] #[]] w fun e w' => e = .returned (.tuple #[]) ∧ w' = w
/-- the sort, of a list that the call owns -/
theorem sorted_ow (hS : SortsW) {base n cap : Nat} {ao : Option Addr} {w : World} {ws : List (Int × Int)} (h : Ow eW 2 52 base w (.slice ao n cap) ws) (hl : ws.length ≤ 65536) :
    Calls Try.prog 54 #[.slice ao n cap, .func (.func 55) #[] #[]] w fun e w' => e = .returned (.tuple #[]) ∧ ∃ zs, zs.Perm ws ∧ zs.Pairwise (fun a b => a.1 ≤ b.1) ∧ Ls eW (Blk (.slice ao n cap)) w' (.slice ao n cap) zs ∧ Ch (Blk (.slice ao n cap)) w w' := by
  have hn := h.len.1
  subst hn
  rcases ws with _ | ⟨y, r⟩
  · refine (hS.2 ao cap w).mono ?_
    rintro e w' ⟨rfl, rfl⟩
    exact ⟨rfl, [], List.Perm.refl _, List.Pairwise.nil, h.lstB, Ch.refl _ _⟩
  · obtain ⟨g, cap', hv, hb, hg, hc, -, hf, -⟩ := h.get eW_len (i := 0) (a := y) rfl
    injection hv with e1 e2 e3
    subst e1 e3
    have hD : Dw w g (y :: r) := fun i q hq => by
      obtain ⟨g2, c2, hv2, _, _, _, hx, _⟩ := h.get eW_len hq
      injection hv2 with a1 a2 a3
      injection a1 with a1
      injection a1 with a1
      subst a1
      exact ⟨by have k := hx 0 _ rfl; rwa [Nat.add_zero] at k, hx 1 _ rfl⟩
    refine (hS.1 g cap (y :: r) w hD hf hg (by omega)).mono ?_
    rintro e w' ⟨rfl, zs, hp, hs, hD2, hch⟩
    have hlen := hp.length_eq
    refine ⟨rfl, zs, hp, hs, ⟨some ⟨g, 0, none⟩, cap, by rw [hlen], ⟨by rw [hlen]; exact hc, fun q => by cases q⟩, .inr ⟨g, 0, rfl, rfl, Nat.lt_of_lt_of_le hg hch.size, ?_⟩⟩, hch.mono (fun q e => .inl (by have e1 : q = g := e; subst e1; rfl))⟩
    intro j u hu
    rw [Nat.zero_add]
    have hj : j < (zs.flatMap eW).length := (List.getElem?_eq_some_iff.1 hu).1
    rw [flat_len eW_len] at hj
    obtain ⟨q, hq⟩ : ∃ q, zs[j / 2]? = some q := ⟨_, List.getElem?_eq_getElem (by omega)⟩
    obtain ⟨c0, c1⟩ := hD2 _ q hq
    rcases Nat.mod_two_eq_zero_or_one j with e | e
    · have k := flat_get eW_len zs (j / 2) 0 q (.int .u64 q.1) hq rfl
      rw [show j / 2 * 2 + 0 = j by omega, hu] at k
      injection k with k
      rw [k]
      rwa [show j / 2 * 2 = j by omega] at c0
    · have k := flat_get eW_len zs (j / 2) 1 q (.int .u64 q.2) hq rfl
      rw [show j / 2 * 2 + 1 = j by omega, hu] at k
      injection k with k
      rw [k]
      rwa [show j / 2 * 2 + 1 = j by omega] at c1
def AptR (w : World) (v : Value) (ws : List (Int × Int)) (e : Ending) (w' : World) : Prop :=
  ∃ zs a2 c2, zs.Perm ws ∧ zs.Pairwise (fun a b => a.1 ≤ b.1) ∧ e = .returned (.slice a2 (aprt 0 zs).length c2) ∧ Ls eW (w.heap.size ≤ ·) w' (.slice a2 (aprt 0 zs).length c2) (aprt 0 zs) ∧ Ch (Blk v) w w'
set_option maxHeartbeats 4000000 in
theorem apart_any (hS : SortsW) (base n cap : Nat) (ao : Option Addr) (w : World) (ws : List (Int × Int)) (h : Ow eW 2 52 base w (.slice ao n cap) ws) (hl : ws.length ≤ 65536) (hb : ∀ q ∈ ws, 0 ≤ q.1 ∧ 1 ≤ q.2 ∧ q.1 + q.2 ≤ 65536) :
    Calls Try.prog 44 #[.slice ao n cap] w fun e w' => AptR w (.slice ao n cap) ws e w' := by
  have CS := sorted_ow hS h hl
  have HN := hide h.len.1
  have hn : n ≤ 65536 := by rw [h.len.1]; exact hl
  have HB := hide hb
  clear h hl hb hS
  go_enter Try.func44, Try.ntmps44
  go_wp2_with fail
  refine CS.mono ?_
  rintro e w1 ⟨rfl, zs, hp, hs, hls, hch⟩
  have HP := hide hp
  have HSD := hide hs
  have HCH := hide hch
  have HLS := hide (show ∀ W, Gr w1 W → Ls eW (Blk (.slice ao n cap)) W (.slice ao n cap) zs from fun W g => hls.gr g)
  have HZB := hide (show ∀ q ∈ zs, 0 ≤ q.1 ∧ 1 ≤ q.2 ∧ q.1 + q.2 ≤ 65536 from fun q hq => HB.out q (hp.mem_iff.1 hq))
  have HZN := hide (show n = zs.length by rw [HN.out, hp.length_eq])
  clear hp hs hls hch
  go_wp2_with fail
  go_loopg [3, 4, 13] n (fun k ov nv i wr => ∃ (j : Nat) (nx : Int) (os : List (Int × Int)), j + k = n ∧ i = .int .i64 (j : Int) ∧ Ow eW 2 52 w1.heap.size wr ov os ∧ nv = .int .u64 nx ∧ 0 ≤ nx ∧ nx ≤ 65536 ∧ os ++ aprt nx (zs.drop j) = aprt 0 zs ∧ Gr w1 wr)
  case atStart => exact ⟨0, 0, [], by omega, rfl, Ow.nil _ _ _ _ _, rfl, by omega, by omega, rfl, Gr.refl _⟩
  case round =>
    obtain ⟨j, nx, os, hjk, rfl, ho, rfl, hn0, hn1, hr, hg⟩ := hrel
    obtain ⟨Z, hZ⟩ : ∃ W, W = wr := ⟨_, rfl⟩
    subst hZ
    obtain ⟨ao2, cap2, e9⟩ := ho.form
    obtain ⟨ao9, hao⟩ : ∃ a, a = ao := ⟨_, rfl⟩
    subst e9
    have GZ := hide hg
    have HH := hide hr
    have HO := hide ho
    have HOL := hide (show os.length ≤ 65536 by
      have k := congrArg List.length hr
      rw [List.length_append] at k
      have k2 := aprt_len zs 0
      have k3 := HZN.out
      omega)
    clear hr ho
    by_cases hj : j < n
    · have hj' : (j : Int) < (n : Int) := by omega
      have hj0 : (0 : Int) ≤ (j : Int) := by omega
      have hjl : j < zs.length := by rw [← HZN.out]; exact hj
      have hjx : zs[j]? = some zs[j] := List.getElem?_eq_getElem hjl
      have hd : zs.drop j = zs[j] :: zs.drop (j + 1) := List.drop_eq_getElem_cons hjl
      have hqm : zs[j] ∈ zs := List.getElem_mem hjl
      generalize zs[j] = q at hjx hd hqm
      obtain ⟨q0, q1, q2⟩ := HZB.out q hqm
      have HD := hide hd
      obtain ⟨g, o, e1, hgl, hcap, c0, c1⟩ := win_at (HLS.out _ hg) hjx
      subst e1
      have k7 : q.1 + q.2 ≤ 18446744073709551615 := by omega
      have k6 : 0 ≤ q.1 + q.2 := by omega
      clear hjx hd hqm hg hao
      by_cases hq : q.1 < nx
      · have hb : (if q.1 < nx then nx else q.1) = nx := if_pos hq
        by_cases hlt : nx < q.1 + q.2
        · have HF := hide (show (os ++ [(nx, q.1 + q.2 - nx)]) ++ aprt (q.1 + q.2) (zs.drop (j + 1)) = aprt 0 zs by
            have k := HH.out
            rw [HD.out] at k
            rw [aprt_cons, hb, if_pos hlt] at k
            rw [List.append_assoc]
            exact k)
          have k8 : 0 ≤ q.1 + q.2 - nx := by omega
          have k9 : q.1 + q.2 - nx ≤ 18446744073709551615 := by omega
          clear hb
          go_wp2_with fail
          go_quiet (fail)
          have O2 := hide (show Ow eW 2 52 w1.heap.size (Z.drewN nq) (.slice ao2 os.length cap2) os from HO.out.drewN _)
          have OX := hide (show Ow eW 2 52 w1.heap.size ((Z.drewN nq).alloc (.cells #[.int .u64 q.1, .int .u64 q.2] 52)) (.slice ao2 os.length cap2) os from O2.out.alloc _)
          go_wp2_with (at_builtin; refine wpList_append_ow eW_len rfl (.tmp 29) (.tmp 35) _ 52 16 _ Try.underlying68 win_info rfl (by omega) rfl w1.heap.size _ os rfl (OX.out.alloc _) _ _ [(nx, q.1 + q.2 - nx)] rfl (ls_at _ (nx, q.1 + q.2 - nx) 52 #[.int .u64 nx, .int .u64 (q.1 + q.2 - nx)] (Z.heap.size + 1) (by simp) rfl) (eW_one _) (os.length + 1) (by simp) (by have := HOL.out; omega) (by unfold maxLen; have := HOL.out; omega) (by have h3 := GZ.out.size; simp; omega) (os ++ [(nx, q.1 + q.2 - nx)]) rfl ?_; intro ao5 cap5 w5 ow5 cw5 bl5; have O5 := hide ow5; have C5 := hide (show Gr w1 w5 from Ch.trans (Ch.alloc (Ch.alloc (Ch.drewN GZ.out _) _) _) cw5 (fun g hg => .inr (OX.out.blk hg).1)); clear ow5 cw5 bl5)
          go_roundg (gk - 1)
          case measure => omega
          case rel =>
            refine ⟨j + 1, q.1 + q.2, _, by omega, ?_, O5.out, rfl, by omega, by omega, HF.out, C5.out⟩
            first | with_reducible rfl | simp
        · have HF := hide (show os ++ aprt nx (zs.drop (j + 1)) = aprt 0 zs by
            have k := HH.out
            rw [HD.out] at k
            rw [aprt_cons, hb, if_neg hlt] at k
            exact k)
          clear hb
          go_wp2_with fail
          go_quiet (fail)
          go_wp2_with fail
          go_roundg (gk - 1)
          case measure => omega
          case rel =>
            refine ⟨j + 1, nx, os, by omega, ?_, (HO.out.drewN _).alloc _, rfl, by omega, by omega, HF.out, Ch.alloc (Ch.drewN GZ.out _) _⟩
            first | with_reducible rfl | simp
      · have hb : (if q.1 < nx then nx else q.1) = q.1 := if_neg hq
        by_cases hlt : q.1 < q.1 + q.2
        · have HF := hide (show (os ++ [(q.1, q.1 + q.2 - q.1)]) ++ aprt (q.1 + q.2) (zs.drop (j + 1)) = aprt 0 zs by
            have k := HH.out
            rw [HD.out] at k
            rw [aprt_cons, hb, if_pos hlt] at k
            rw [List.append_assoc]
            exact k)
          have k8 : 0 ≤ q.1 + q.2 - q.1 := by omega
          have k9 : q.1 + q.2 - q.1 ≤ 18446744073709551615 := by omega
          clear hb
          go_wp2_with fail
          go_quiet (fail)
          have O2 := hide (show Ow eW 2 52 w1.heap.size (Z.drewN nq) (.slice ao2 os.length cap2) os from HO.out.drewN _)
          have OX := hide (show Ow eW 2 52 w1.heap.size ((Z.drewN nq).alloc (.cells #[.int .u64 q.1, .int .u64 q.2] 52)) (.slice ao2 os.length cap2) os from O2.out.alloc _)
          go_wp2_with (at_builtin; refine wpList_append_ow eW_len rfl (.tmp 29) (.tmp 35) _ 52 16 _ Try.underlying68 win_info rfl (by omega) rfl w1.heap.size _ os rfl (OX.out.alloc _) _ _ [(q.1, q.1 + q.2 - q.1)] rfl (ls_at _ (q.1, q.1 + q.2 - q.1) 52 #[.int .u64 q.1, .int .u64 (q.1 + q.2 - q.1)] (Z.heap.size + 1) (by simp) rfl) (eW_one _) (os.length + 1) (by simp) (by have := HOL.out; omega) (by unfold maxLen; have := HOL.out; omega) (by have h3 := GZ.out.size; simp; omega) (os ++ [(q.1, q.1 + q.2 - q.1)]) rfl ?_; intro ao5 cap5 w5 ow5 cw5 bl5; have O5 := hide ow5; have C5 := hide (show Gr w1 w5 from Ch.trans (Ch.alloc (Ch.alloc (Ch.drewN GZ.out _) _) _) cw5 (fun g hg => .inr (OX.out.blk hg).1)); clear ow5 cw5 bl5)
          go_roundg (gk - 1)
          case measure => omega
          case rel =>
            refine ⟨j + 1, q.1 + q.2, _, by omega, ?_, O5.out, rfl, by omega, by omega, HF.out, C5.out⟩
            first | with_reducible rfl | simp
        · have HF := hide (show os ++ aprt nx (zs.drop (j + 1)) = aprt 0 zs by
            have k := HH.out
            rw [HD.out] at k
            rw [aprt_cons, hb, if_neg hlt] at k
            exact k)
          clear hb
          exact absurd hlt (by omega)
    · have hj' : ¬ ((j : Int) < (n : Int)) := by omega
      have HF := hide (show os = aprt 0 zs by
        have e : zs.drop j = [] := List.drop_of_length_le (by rw [← HZN.out]; omega)
        rw [← HH.out, e]
        exact (List.append_nil _).symm)
      clear hg
      go_wp2
      go_ret
      exact ⟨zs, ao2, cap2, HP.out, HSD.out, by rw [← HF.out]; rfl, by rw [← HF.out]; exact HO.out.lst.mono (fun _ _ h => Nat.le_trans HCH.out.size h), Ch.trans HCH.out GZ.out.any (fun _ h => .inl h)⟩
end Go.Proofs.Ytbghagpjkkmhpaa.Lt
