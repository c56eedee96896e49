/-
  What the document's Order answers at any number of cases and any draws. Condition: draws are as great as they can be.
-/
import Derived.Test.YtalmiphddgmfbabChOrd
import Derived.Deep.Cut
namespace Go.Proofs.Ytalmiphddgmfbab.Lt
open Go.RowKit Wd
attribute [local go_sem ↓] Go.wp_at_zero Go.wp_at_succ

theorem rorder_arg (n : Int) (v : Value) (w : World) (h : ¬ (0 ≤ n ∧ n ≤ 16)) : Calls Try.prog 37 #[.int .i64 n, v] w fun e w' => e = .returned (.tuple #[.slice none 0 0, .int .i64 1]) ∧ w' = w := by
  by_cases h0 : n < 0
  · clear h
    go_enter Try.func37, Try.ntmps37
    go_wp2
    exact bodyPost_ret (v := .tuple #[.slice none 0 0, .int .i64 1]) (by simp [results, Try.results37, go_sem]) rfl ⟨rfl, rfl⟩
  · have h1 : 16 < n := by omega
    clear h
    go_enter Try.func37, Try.ntmps37
    go_wp2
    exact bodyPost_ret (v := .tuple #[.slice none 0 0, .int .i64 1]) (by simp [results, Try.results37, go_sem]) rfl ⟨rfl, rfl⟩
theorem rorder_few (n m cap : Nat) (ao : Option Addr) (w : World) (h : n ≤ 16) (hm : m < n) : Calls Try.prog 37 #[.int .i64 (n : Int), .slice ao m cap] w fun e w' => e = .returned (.tuple #[.slice none 0 0, .int .i64 120]) ∧ w' = w := by
  have d0 : ¬ (n : Int) < 0 := by omega
  have d1 : ¬ (16 : Int) < (n : Int) := by omega
  have d2 : (m : Int) < (n : Int) := by omega
  go_enter Try.func37, Try.ntmps37
  go_wp2
  exact bodyPost_ret (v := .tuple #[.slice none 0 0, .int .i64 120]) (by simp [results, Try.results37, go_sem]) rfl ⟨rfl, rfl⟩
/-- a step of Order in a list that grows -/
theorem so_ap (l : List Int) (d x : Int) (hx : (l ++ [(l.length : Int)])[(d % ((l.length : Int) + 1)).toNat]? = some x) :
    ((l ++ [(l.length : Int)]).set l.length x).set (d % ((l.length : Int) + 1)).toNat (l.length : Int) = so l d := by
  have hj := mod_lt l.length d
  unfold so
  generalize (d % ((l.length : Int) + 1)).toNat = j at hj hx ⊢
  have e1 : (l ++ [(l.length : Int)]).set l.length x = l ++ [x] := by
    rw [List.set_append_right _ _ (Nat.le_refl _), Nat.sub_self, List.set_cons_zero]
  rw [e1]
  by_cases h : j < l.length
  · rw [List.getElem?_append_left h] at hx
    rw [List.getD_eq_getElem?_getD, hx]
    rfl
  · have e : j = l.length := by omega
    subst e
    rw [List.set_append_right _ _ (Nat.le_refl _), List.set_append_right _ _ (Nat.le_refl _)]
    simp
theorem Ow.some1 {T base n cap : Nat} {ao : Option Addr} {w : World} {xs : List Int} (h : Ow eI 1 T base w (.slice ao n cap) xs) (hp : 0 < n) : ∃ g, ao = some ⟨g, 0, none⟩ ∧ base ≤ g := by
  have e := h.len.1
  obtain ⟨x, hx⟩ : ∃ x, xs[0]? = some x := ⟨_, List.getElem?_eq_getElem (by omega)⟩
  obtain ⟨g', cap', e, h1, -⟩ := h.get eI_len hx
  injection e with e1 e2 e3
  exact ⟨g', e1, h1⟩
set_option maxRecDepth 20000 in
set_option maxHeartbeats 4000000 in
theorem rorder_ok (P : Nat → Prop) (w : World) (ao : Option Addr) (m cap : Nat) (ds : List Int) (n : Nat) (h : Ls eU P w (.slice ao m cap) ds) (hd : Dok ds) (hn : n ≤ 16) (hm : n ≤ m) : Calls Try.prog 37 #[.int .i64 (n : Int), .slice ao m cap] w (OrR w n (ord (ds.take n))) := by
  have d0 : ¬ (n : Int) < 0 := by omega
  have d1 : ¬ (16 : Int) < (n : Int) := by omega
  have d2 : ¬ (m : Int) < (n : Int) := by omega
  have HL := hid h.len.1
  have HB := hid h
  have HD := hid hd
  clear h hd
  go_enter Try.func37, Try.ntmps37
  go_wp2_with fail
  go_loopg [6, 7] n (fun q v i wr => ∃ (j : Nat) (a : Option Addr) (c : Nat), j + q = n ∧ i = .int .i64 (j : Int) ∧ v = .slice a j c ∧ Ow eI 1 3 w.heap.size wr (.slice a j c) (ord (ds.take j)) ∧ Gr w wr)
  case atStart => exact ⟨0, none, 0, by omega, rfl, rfl, Ow.nil _ _ _ _ _, Gr.refl _⟩
  case round =>
    obtain ⟨j, a, c, hjk, rfl, rfl, hO, hG⟩ := hrel
    have HO := hid hO
    have HG := hid hG
    clear hO hG
    by_cases hj : j < n
    · obtain ⟨d, hx⟩ : ∃ x, ds[j]? = some x := ⟨_, List.getElem?_eq_getElem (by rw [← HL.out]; omega)⟩
      obtain ⟨gg, oo, cap', hv, _, hgl, _, hcs⟩ := (HB.out.gr HG.out).get eU_len hx
      injection hv with hv1 hv2 hv3
      subst hv1
      have c0 := hcs 0 _ rfl
      simp only [Nat.mul_one, Nat.add_zero] at c0
      have j0 : (0 : Int) ≤ (j : Int) := by omega
      have j1 : (j : Int) < (m : Int) := by omega
      have j2 : (j : Int) < (n : Int) := by omega
      have hdd := HD.out d (List.mem_of_getElem? hx)
      have hjj := mod_lt j d
      have hll : (ord (ds.take j)).length = j := by rw [ord_len, List.length_take]; have := HL.out; omega
      obtain ⟨jj, hjd⟩ : ∃ k, (d % ((j : Int) + 1)).toNat = k := ⟨_, rfl⟩
      rw [hjd] at hjj
      have dm : d.tmod ((j : Int) + 1) = (jj : Int) := by
        rw [Int.tmod_eq_emod_of_nonneg hdd.1]
        have := Int.emod_nonneg d (show ((j : Int) + 1) ≠ 0 by omega)
        omega
      have k0 : (0 : Int) ≤ (jj : Int) := by omega
      have k1 : (jj : Int) < ((j + 1 : Nat) : Int) := by omega
      have k2 : (j : Int) < ((j + 1 : Nat) : Int) := by omega
      have hT : ∀ x, (ord (ds.take j) ++ [(j : Int)])[jj]? = some x → ((ord (ds.take j) ++ [(j : Int)]).set j x).set jj (j : Int) = ord (ds.take (j + 1)) := fun x hxx => by
        rw [take_one hx, ord_snoc]
        have e := so_ap (ord (ds.take j)) d x (by rw [hll, hjd]; exact hxx)
        rw [hll, hjd] at e
        exact e
      have HT := hid hT
      have HLL := hid hll
      generalize ord (ds.take j) = zs at HO HT HLL
      clear hcs hv2 hv3 hx hdd hll hjd hT hgl
      have HS := hid HG.out.size
      go_upto_region 11 with (at_builtin; refine wpList_append_ow eI_len rfl (.tmp 33) (.tmp 35) _ 3 8 _ Try.underlying50 int_info rfl (by omega) rfl w.heap.size _ zs rfl (HO.out.alloc _) _ _ [(j : Int)] rfl (Ls.single wr (j : Int) 3 #[.int .i64 (j : Int)] rfl) (eI_one _) (j + 1) (by rw [HLL.out]; rfl) (by omega) (by unfold maxLen; omega) (by simp; have := HS.out; omega) (zs ++ [(j : Int)]) rfl ?_; intro ao5 cap5 w5 ow5 cw5 bl5; have O5 := hid ow5; have G5 := hid (show Gr w w5 from Ch.trans (Ch.alloc HG.out _) cw5 (fun q h => .inr (HO.out.blk h).1)); clear ow5 cw5 bl5)
      obtain ⟨g5, rfl, hg5⟩ := O5.out.some1 (by omega)
      have HG5 := hid hg5
      have hlen : (zs ++ [(j : Int)]).length = j + 1 := by rw [List.length_append, HLL.out]; rfl
      obtain ⟨x, hxx⟩ : ∃ x, (zs ++ [(j : Int)])[jj]? = some x := ⟨_, List.getElem?_eq_getElem (by rw [hlen]; omega)⟩
      obtain ⟨y, hyy⟩ : ∃ x, (zs ++ [(j : Int)])[j]? = some x := ⟨_, List.getElem?_eq_getElem (by rw [hlen]; omega)⟩
      obtain ⟨c1, g1, f1, -⟩ := O5.out.at1 hxx
      obtain ⟨c2, -, f2, s2⟩ := O5.out.at1 hyy
      have HO2 := hid (s2 x)
      have hzz : ∃ z, ((zs ++ [(j : Int)]).set j x)[jj]? = some z := ⟨_, List.getElem?_eq_getElem (by rw [List.length_set, hlen]; omega)⟩
      obtain ⟨z, hzz⟩ := hzz
      obtain ⟨c3, g3, f3, s3⟩ := HO2.out.at1 hzz
      have HN := hid (s3 (j : Int))
      have HT2 := hid (HT.out x hxx)
      clear hlen hxx hyy hzz s2 s3 hg5 c0 dm
      go_wp2_with fail
      go_roundg (gk - 1)
      case measure => omega
      case rel => exact ⟨j + 1, _, cap5, by omega, by simp, rfl, by rw [← HT2.out]; exact HN.out, Ch.fresh (Ch.fresh G5.out HG5.out _ _) HG5.out _ _⟩
    · have jn : ¬ (j : Int) < (n : Int) := by omega
      obtain rfl : j = n := by omega
      go_wp2
      exact bodyPost_ret (v := .tuple #[.slice a j c, .int .i64 0]) (by simp [results, Try.results37, go_sem]) rfl ⟨_, _, rfl, HO.out, HG.out⟩
end Go.Proofs.Ytalmiphddgmfbab.Lt
