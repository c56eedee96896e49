/-
  What Order answers, of the program and of the document, at any number of cases and any draws. Condition: draws are as great as they can be.
-/
import Derived.Test.YtalmiphddgmfbabChPlain
import Derived.Test.YtalmiphddgmfbabCnBase
namespace Go.Proofs.Ytalmiphddgmfbab.Lt
open Go.RowKit Wd
attribute [local go_sem ↓] Go.wp_at_zero Go.wp_at_succ

/-- a draw's cell -/
def eU (n : Int) : List Value := [.int .u64 n]
theorem eU_len (n : Int) : (eU n).length = 1 := rfl
theorem eU_one (xs : List Int) : ∀ u ∈ xs.flatMap eU, u.oneCell' = true := by
  intro u hu
  rw [List.mem_flatMap] at hu
  obtain ⟨x, _, hx⟩ := hu
  simp only [eU, List.mem_cons, List.not_mem_nil, or_false] at hx
  rw [hx]
  rfl
/-- draws that can be -/
def Dok (ds : List Int) : Prop := ∀ d ∈ ds, 0 ≤ d ∧ d ≤ 18446744073709551615
theorem int_info : (Try.prog.info? 3).map (fun i => (i.zero, i.size, i.bytes)) = some (some (.int .i64 0), 1, 8) := by kernel_rfl
theorem u64_info : (Try.prog.info? 77).map (fun i => (i.zero, i.size, i.bytes)) = some (some (.int .u64 0), 1, 8) := by kernel_rfl
theorem zeros_cells (n : Nat) : (List.replicate n (0 : Int)).flatMap eI = List.replicate n (.int .i64 0) := by
  induction n with
  | zero => rfl
  | succ n ih => rw [List.replicate_succ, List.flatMap_cons, ih]; rfl
theorem zerosU_cells (n : Nat) : (List.replicate n (0 : Int)).flatMap eU = List.replicate n (.int .u64 0) := by
  induction n with
  | zero => rfl
  | succ n ih => rw [List.replicate_succ, List.flatMap_cons, ih]; rfl
/-- one of an owned list's numbers: its cell, and what is left when it is set -/
theorem Ow.at1 {T base g n cap : Nat} {w : World} {xs : List Int} {i : Nat} {x : Int} (h : Ow eI 1 T base w (.slice (some ⟨g, 0, none⟩) n cap) xs) (hx : xs[i]? = some x) :
    w.cell? ⟨g, i, none⟩ = some (.int .i64 x) ∧ g < w.heap.size ∧ w.frozen? ⟨g, i, none⟩ = false ∧ ∀ u, Ow eI 1 T base (w.setCell ⟨g, i, none⟩ (.int .i64 u)) (.slice (some ⟨g, 0, none⟩) n cap) (xs.set i u) := by
  obtain ⟨g', cap', e, -, h2, -, h4, h5, h6⟩ := h.get eI_len hx
  injection e with e1 e2 e3
  injection e1 with e1
  injection e1 with e1 _ _
  subst e1
  refine ⟨by simpa using h4 0 _ rfl, h2, h5 _, fun u => by simpa using h6 0 (.int .i64 u) u (by omega) rfl⟩
/-- the same of an owned list of draws -/
theorem Ow.at1U {T base g n cap : Nat} {w : World} {xs : List Int} {i : Nat} {x : Int} (h : Ow eU 1 T base w (.slice (some ⟨g, 0, none⟩) n cap) xs) (hx : xs[i]? = some x) :
    w.cell? ⟨g, i, none⟩ = some (.int .u64 x) ∧ g < w.heap.size ∧ w.frozen? ⟨g, i, none⟩ = false ∧ ∀ u, Ow eU 1 T base (w.setCell ⟨g, i, none⟩ (.int .u64 u)) (.slice (some ⟨g, 0, none⟩) n cap) (xs.set i u) := by
  obtain ⟨g', cap', e, -, h2, -, h4, h5, h6⟩ := h.get eU_len hx
  injection e with e1 e2 e3
  injection e1 with e1
  injection e1 with e1 _ _
  subst e1
  refine ⟨by simpa using h4 0 _ rfl, h2, h5 _, fun u => by simpa using h6 0 (.int .u64 u) u (by omega) rfl⟩
/-- a step of Order in a list that is made ahead -/
theorem so_in (l : List Int) (d x : Int) (k : Nat) (hx : (l ++ List.replicate (k + 1) 0)[(d % ((l.length : Int) + 1)).toNat]? = some x) :
    ((l ++ List.replicate (k + 1) 0).set l.length x).set (d % ((l.length : Int) + 1)).toNat (l.length : Int) = so l d ++ List.replicate k 0 := by
  have hj := mod_lt l.length d
  unfold so
  generalize (d % ((l.length : Int) + 1)).toNat = j at hj hx ⊢
  have e1 : (l ++ List.replicate (k + 1) 0).set l.length x = (l ++ [x]) ++ List.replicate k 0 := by
    rw [List.replicate_succ, List.set_append_right _ _ (Nat.le_refl _), Nat.sub_self, List.set_cons_zero]
    simp
  rw [e1, List.set_append_left _ _ (by simp; omega)]
  congr 1
  by_cases h : j < l.length
  · rw [List.getElem?_append_left h] at hx
    rw [List.getD_eq_getElem?_getD, hx]
    rfl
  · have e : j = l.length := by omega
    subst e
    rw [List.set_append_right _ _ (Nat.le_refl _), List.set_append_right _ _ (Nat.le_refl _)]
    simp
/-- an order that is told -/
def OrR (w : World) (n : Nat) (l : List Int) (e : Ending) (w' : World) : Prop := ∃ ao cap, e = .returned (.tuple #[.slice ao n cap, .int .i64 0]) ∧ Ow eI 1 3 w.heap.size w' (.slice ao n cap) l ∧ Gr w w'
theorem order_arg (n : Int) (v : Value) (w : World) (h : ¬ (0 ≤ n ∧ n ≤ 16)) : Calls Try.prog 16 #[.int .i64 n, v] w fun e w' => e = .returned (.tuple #[.slice none 0 0, .int .i64 1]) ∧ w' = w := by
  by_cases h0 : n < 0
  · clear h
    go_enter Try.func16, Try.ntmps16
    go_wp2
    exact bodyPost_ret (v := .tuple #[.slice none 0 0, .int .i64 1]) (by simp [results, Try.results16, go_sem]) rfl ⟨rfl, rfl⟩
  · have h1 : 16 < n := by omega
    clear h
    go_enter Try.func16, Try.ntmps16
    go_wp2
    exact bodyPost_ret (v := .tuple #[.slice none 0 0, .int .i64 1]) (by simp [results, Try.results16, go_sem]) rfl ⟨rfl, rfl⟩
theorem order_few (n m cap : Nat) (ao : Option Addr) (w : World) (h : n ≤ 16) (hm : m < n) : Calls Try.prog 16 #[.int .i64 (n : Int), .slice ao m cap] w fun e w' => e = .returned (.tuple #[.slice none 0 0, .int .i64 120]) ∧ w' = w := by
  have d0 : ¬ (n : Int) < 0 := by omega
  have d1 : ¬ (16 : Int) < (n : Int) := by omega
  have d2 : (m : Int) < (n : Int) := by omega
  go_enter Try.func16, Try.ntmps16
  go_wp2
  exact bodyPost_ret (v := .tuple #[.slice none 0 0, .int .i64 120]) (by simp [results, Try.results16, go_sem]) rfl ⟨rfl, rfl⟩
set_option maxRecDepth 20000 in
set_option maxHeartbeats 2000000 in
theorem order_ok (P : Nat → Prop) (w : World) (ao : Option Addr) (m cap : Nat) (ds : List Int) (n : Nat) (h : Ls eU P w (.slice ao m cap) ds) (hd : Dok ds) (hn : n ≤ 16) (hm : n ≤ m) : Calls Try.prog 16 #[.int .i64 (n : Int), .slice ao m cap] w (OrR w n (ord (ds.take n))) := by
  have d0 : ¬ (n : Int) < 0 := by omega
  have d1 : ¬ (16 : Int) < (n : Int) := by omega
  have d2 : ¬ (m : Int) < (n : Int) := by omega
  obtain ⟨i0, hi, hz0, hz1, hz2⟩ := info_parts int_info
  have HL := hid h.len.1
  have HB := hid h
  have HD := hid hd
  clear h hd
  go_enter Try.func16, Try.ntmps16
  go_wp2_with (first | (at_make; refine wpList_make_full _ rfl _ _ 50 rfl w.heap.size 3 i0 _ 1 Try.underlying50 hi hz0 hz1 _ _ _ _ n rfl rfl (by omega) (by omega) (by rw [hz2]; omega) (by unfold maxLen; omega) (by simp) ?_; intro w1 hown hgrow; have ho : Ow eI 1 3 w.heap.size w1 (.slice (some ⟨w.heap.size, 0, none⟩) n n) (List.replicate n 0) := (by have h2 := toList_madeCells_one (.int .i64 0) n; rw [Nat.mul_one] at hown; unfold Ow; rw [List.length_replicate, zeros_cells, ← h2]; exact hown); have HG1 := hid (show Gr w w1 from (Ch.refl NoB w).grown hgrow (fun k hk => by cases hk)); have HO1 := hid ho; clear ho hown hgrow))
  go_loopg [23] n (fun q i wr => ∃ (j : Nat), j + q = n ∧ i = .int .i64 (j : Int) ∧ Ow eI 1 3 w.heap.size wr (.slice (some ⟨w.heap.size, 0, none⟩) n n) (ord (ds.take j) ++ List.replicate (n - j) 0) ∧ Gr w wr)
  case atStart => exact ⟨0, by omega, rfl, HO1.out, HG1.out⟩
  case round =>
    obtain ⟨j, hjk, rfl, hO, hG⟩ := hrel
    have HO := hid hO
    have HG := hid hG
    clear hO hG
    by_cases hj : j < n
    · obtain ⟨d, hx⟩ : ∃ x, ds[j]? = some x := ⟨_, List.getElem?_eq_getElem (by rw [← HL.out]; omega)⟩
      obtain ⟨gg, oo, cap', hv, _, hgl, _, hcs⟩ := (HB.out.gr HG.out).get eU_len hx
      injection hv with hv1 hv2 hv3
      subst hv1
      have c0 := hcs 0 _ rfl
      simp only [Nat.mul_one, Nat.add_zero] at c0
      have j0 : (0 : Int) ≤ (j : Int) := by omega
      have j1 : (j : Int) < (m : Int) := by omega
      have j2 : (j : Int) < (n : Int) := by omega
      have hdd := HD.out d (List.mem_of_getElem? hx)
      have hjj := mod_lt j d
      have hll : (ord (ds.take j)).length = j := by rw [ord_len, List.length_take]; have := HL.out; omega
      obtain ⟨jj, hjd⟩ : ∃ k, (d % ((j : Int) + 1)).toNat = k := ⟨_, rfl⟩
      rw [hjd] at hjj
      have dm : d.tmod ((j : Int) + 1) = (jj : Int) := by
        rw [Int.tmod_eq_emod_of_nonneg hdd.1]
        have := Int.emod_nonneg d (show ((j : Int) + 1) ≠ 0 by omega)
        omega
      have k0 : (0 : Int) ≤ (jj : Int) := by omega
      have k1 : (jj : Int) < (n : Int) := by omega
      have hlen : (ord (ds.take j) ++ List.replicate (n - j) 0).length = n := by rw [List.length_append, hll, List.length_replicate]; omega
      obtain ⟨x, hxx⟩ : ∃ x, (ord (ds.take j) ++ List.replicate (n - j) 0)[jj]? = some x := ⟨_, List.getElem?_eq_getElem (by rw [hlen]; omega)⟩
      obtain ⟨y, hyy⟩ : ∃ x, (ord (ds.take j) ++ List.replicate (n - j) 0)[j]? = some x := ⟨_, List.getElem?_eq_getElem (by rw [hlen]; omega)⟩
      obtain ⟨c1, g1, f1, -⟩ := HO.out.at1 hxx
      obtain ⟨c2, -, f2, s2⟩ := HO.out.at1 hyy
      have HO2 := hid (s2 x)
      have hzz : ∃ z, ((ord (ds.take j) ++ List.replicate (n - j) 0).set j x)[jj]? = some z := ⟨_, List.getElem?_eq_getElem (by rw [List.length_set, hlen]; omega)⟩
      obtain ⟨z, hzz⟩ := hzz
      obtain ⟨c3, g3, f3, s3⟩ := HO2.out.at1 hzz
      have HN := hid (s3 (j : Int))
      have HT : Hid (((ord (ds.take j) ++ List.replicate (n - j) 0).set j x).set jj (j : Int) = ord (ds.take (j + 1)) ++ List.replicate (n - (j + 1)) 0) := hid (by
        rw [take_one hx, ord_snoc]
        have e := so_in (ord (ds.take j)) d x (n - (j + 1)) (by rw [hll, hjd, show n - (j + 1) + 1 = n - j by omega]; exact hxx)
        rw [hll, hjd, show n - (j + 1) + 1 = n - j by omega] at e
        exact e)
      clear hcs hv2 hv3 hx hdd hll hjd hlen hxx hyy hzz s2 s3
      go_wp2_with fail
      go_roundg (gk - 1)
      case measure => omega
      case rel => exact ⟨j + 1, by omega, by simp, by rw [← HT.out]; exact HN.out, Ch.fresh (Ch.fresh HG.out (Nat.le_refl _) _ _) (Nat.le_refl _) _ _⟩
    · have jn : ¬ (j : Int) < (n : Int) := by omega
      obtain rfl : j = n := by omega
      go_wp2
      refine bodyPost_ret (v := .tuple #[.slice (some ⟨w.heap.size, 0, none⟩) j j, .int .i64 0]) (by simp [results, Try.results16, go_sem]) rfl ⟨_, _, rfl, ?_, HG.out⟩
      have := HO.out
      rwa [Nat.sub_self, List.replicate_zero, List.append_nil] at this
end Go.Proofs.Ytalmiphddgmfbab.Lt
