/-
  What Top and Numbers answer and leave. Condition: the heap is there, and has at most 4294967296 nodes.
-/
import Derived.Test.YtgkapopkjgljjaaThNums0
import Derived.Handy
import Derived.Deep.DeepCutAuto
import Derived.Deep.CutBlock
namespace Go.Proofs.Ytgkapopkjgljjaa.Hp
open Go.RowKit Wd
attribute [local go_sem ↓] Go.wp_at_zero Go.wp_at_succ

theorem Hh.lst {T : Nat → Prop} {w : World} {b : Nat} {xs : List W3} {nx : Int} (h : Hh T w b xs nx) : ∃ ao cap, w.cell? ⟨b, 0, none⟩ = some (.slice ao xs.length cap) ∧ b < w.heap.size ∧ Lst (· < w.heap.size) w (.slice ao xs.length cap) xs := by
  rcases h.st with ⟨rfl, h1, _⟩ | ⟨g, km, cap, M, clock, h1, _⟩
  · exact ⟨none, 0, (cell_of h1 0).trans rfl, lt_of_block h1, Lst.nil _ _⟩
  · exact ⟨_, cap, h1.cell.1, lt_of_block h1.hb, h1.own.lst.mono (fun q hq _ => hq)⟩
theorem top_none (T : Nat → Prop) (b : Nat) (nx : Int) (w : World) (h : Hh T w b [] nx) : Calls Try.prog 45 #[.pointer (some ⟨b, 0, none⟩)] w fun e w' => e = .returned (.tuple #[.int .u64 0, .int .i64 0, .int .i64 0, .int .i64 31]) ∧ w' = w := by
  have H := hid h
  clear h
  go_enter Try.func45, Try.ntmps45
  go_wp2_with fail
  refine (len_any T b [] nx _ H.out).mono ?_
  rintro e w1 ⟨rfl, rfl⟩
  go_wp2
  exact bodyPost_ret (v := .tuple #[.int .u64 0, .int .i64 0, .int .i64 0, .int .i64 31]) (by simp [results, Try.results45, go_sem]) rfl ⟨rfl, rfl⟩
set_option maxHeartbeats 2000000 in
theorem top_some (T : Nat → Prop) (b : Nat) (xs : List W3) (nx : Int) (x : W3) (w : World) (h : Hh T w b xs nx) (hx : xs[0]? = some x) : Calls Try.prog 45 #[.pointer (some ⟨b, 0, none⟩)] w fun e w' => e = .returned (.tuple #[.int .u64 x.w, .int .i64 x.n, .int .i64 x.v, .int .i64 0]) ∧ Ch NoB w w' := by
  have hl : 0 < xs.length := (List.getElem?_eq_some_iff.1 hx).1
  obtain ⟨ao, cap, c0, bl, hL⟩ := h.lst
  obtain ⟨g, o, rfl, _, gl, a0, a1, a2⟩ := hL.get hx
  rw [Nat.zero_mul, Nat.add_zero] at a0 a1 a2
  have H := hid h
  have hz : ((xs.length : Int) == 0) = false := beq_eq_false_iff_ne.2 (by omega)
  have hz2 : ¬ ((xs.length : Int) = 0) := by omega
  have hz3 : (0 : Int) < (xs.length : Int) := by omega
  clear h hx hL
  go_enter Try.func45, Try.ntmps45
  go_wp2_with fail
  refine (len_any T b xs nx _ H.out).mono ?_
  rintro e w1 ⟨rfl, rfl⟩
  go_wp2_with fail
  clear hz hz2 c0 bl a0 a1 a2 gl
  go_quiet (fail)
  go_wp2
  refine bodyPost_ret (v := .tuple #[.int .u64 x.w, .int .i64 x.n, .int .i64 x.v, .int .i64 0]) (by simp [results, Try.results45, go_sem]) rfl ?_
  exact ⟨rfl, ((Ch.refl _ _).alloc _).drewN _⟩
/-- a block of dues -/
def Db (w : World) (k n : Nat) : Prop := ∃ cs, w.heap[k]? = some (.cells cs 117 (0, 0)) ∧ cs.size = n * 2
theorem Db.at {w : World} {k n j : Nat} (h : Db w k n) (hj : j < n) : ∃ u0 u1, w.cell? ⟨k, j * 2, none⟩ = some u0 ∧ w.cell? ⟨k, j * 2 + 1, none⟩ = some u1 := by
  obtain ⟨cs, hb, hs⟩ := h
  exact ⟨cs[j * 2], cs[j * 2 + 1], (cell_of hb _).trans (Array.getElem?_eq_getElem (by omega)), (cell_of hb _).trans (Array.getElem?_eq_getElem (by omega))⟩
theorem Db.fz {w : World} {k n : Nat} (h : Db w k n) (o : Nat) : w.frozen? ⟨k, o, none⟩ = false := by
  obtain ⟨cs, hb, hs⟩ := h
  exact frozen_of hb o
theorem Db.lt {w : World} {k n : Nat} (h : Db w k n) : k < w.heap.size := by
  obtain ⟨cs, hb, hs⟩ := h
  exact lt_of_block hb
theorem Db.set {w : World} {k n j : Nat} {xs : List W3} {x : W3} (h : Db w k n) (hj : j < n) (hd : Ds w k (xs.take j)) (hx : xs[j]? = some x) : Db ((w.setCell ⟨k, j * 2, none⟩ (.int .u64 x.w)).setCell ⟨k, j * 2 + 1, none⟩ (.int .i64 x.n)) k n ∧ Ds ((w.setCell ⟨k, j * 2, none⟩ (.int .u64 x.w)).setCell ⟨k, j * 2 + 1, none⟩ (.int .i64 x.n)) k (xs.take (j + 1)) := by
  obtain ⟨cs, hb, hs⟩ := h
  have hb2 := setCell_block (setCell_block hb (j * 2) (.int .u64 x.w)) (j * 2 + 1) (.int .i64 x.n)
  refine ⟨⟨_, hb2, by simpa using hs⟩, fun i y hy => ?_⟩
  have hi : i < (xs.take (j + 1)).length := (List.getElem?_eq_some_iff.1 hy).1
  rw [List.length_take] at hi
  rw [List.getElem?_take_of_lt (by omega)] at hy
  rw [cell_of hb2, cell_of hb2]
  by_cases e : i = j
  · subst e
    rw [hx] at hy
    injection hy with hy
    subst hy
    constructor
    · rw [Array.getElem?_setIfInBounds_ne (by omega), Array.getElem?_setIfInBounds_self_of_lt (by omega)]
    · rw [Array.getElem?_setIfInBounds_self_of_lt (by simp; omega)]
  · obtain ⟨h1, h2⟩ := hd i y (by rw [List.getElem?_take_of_lt (by omega)]; exact hy)
    rw [cell_of hb] at h1 h2
    constructor
    · rw [Array.getElem?_setIfInBounds_ne (by omega), Array.getElem?_setIfInBounds_ne (by omega)]
      exact h1
    · rw [Array.getElem?_setIfInBounds_ne (by omega), Array.getElem?_setIfInBounds_ne (by omega)]
      exact h2
/-- the first j, then zeros -/
def fillI (ns : List Int) (j : Nat) : List Int := ns.take j ++ List.replicate (ns.length - j) 0
theorem fillI_len {ns : List Int} {j : Nat} (hj : j ≤ ns.length) : (fillI ns j).length = ns.length := by
  unfold fillI
  rw [List.length_append, List.length_take, List.length_replicate]
  omega
theorem fillI_set {ns : List Int} {j : Nat} {y : Int} (hy : ns[j]? = some y) : (fillI ns j).set j y = fillI ns (j + 1) := by
  have hj := (List.getElem?_eq_some_iff.1 hy).1
  unfold fillI
  have hl : (ns.take j).length = j := by rw [List.length_take]; omega
  obtain ⟨d, hd⟩ : ∃ d, ns.length - j = d + 1 := ⟨ns.length - j - 1, by omega⟩
  rw [List.set_append_right _ _ (by omega), hl, Nat.sub_self, hd, List.replicate_succ, List.set_cons_zero, show ns.length - (j + 1) = d by omega, List.take_add_one, hy, Option.toList_some, List.append_assoc]
  rfl
theorem fillI_end {ns : List Int} : fillI ns ns.length = ns := by simp [fillI]
theorem due_info : (Try.prog.info? 117).map (fun i => (i.zero, i.size, i.bytes)) = some (some (.agg #[.int .u64 0, .int .i64 0]), 2, 16) := by kernel_rfl
theorem info_parts2 {t : Nat} {z : Value} {B N : Nat} (h : (Try.prog.info? t).map (fun i => (i.zero, i.size, i.bytes)) = some (some z, N, B)) : ∃ i, Try.prog.info? t = some i ∧ i.zero = some z ∧ i.size = N ∧ i.bytes = B := by
  cases hi : Try.prog.info? t with
  | none => rw [hi] at h; cases h
  | some i =>
    rw [hi] at h
    simp only [Option.map_some, Option.some.injEq, Prod.mk.injEq] at h
    exact ⟨i, rfl, h.1, h.2.1, h.2.2⟩
set_option maxHeartbeats 4000000 in
theorem numbers_any (T : Nat → Prop) (b : Nat) (xs : List W3) (nx : Int) (w : World) (h : Hh T w b xs nx) (hmax : xs.length ≤ 4294967296) :
    Calls Try.prog 58 #[.pointer (some ⟨b, 0, none⟩)] w fun e w' => ∃ v zs, e = .returned v ∧ zs.Perm xs ∧ Srt zs ∧ Ow 3 w.heap.size w' v (iv (zs.map (·.n))) ∧ Ch NoB w w' := by
  obtain ⟨ao, cap, c0, bl, hL⟩ := h.lst
  obtain ⟨n, hn⟩ : ∃ n, n = xs.length := ⟨_, rfl⟩
  rw [← hn] at hmax c0 hL
  have HL := hid (show ∀ V, Ch NoB w V → Hh T V b xs nx from fun V g => h.still g)
  have HN := hid hn
  have HLs := hid hL
  have HC0 := hid c0
  have HNn := hid h.nn
  obtain ⟨i0, hi, hz0, hz1, hz2⟩ := info_parts2 due_info
  obtain ⟨i1, hi1, hy0, hy1, hy2⟩ := info_parts2 int_info
  obtain ⟨k, hk⟩ : ∃ k, k = w.heap.size := ⟨_, rfl⟩
  clear hn hL
  have HH := hid h
  clear h
  go_enter Try.func58, Try.ntmps58
  go_wp2_with fail
  refine (len_any T b xs nx _ HH.out).mono ?_
  rintro e w1 ⟨rfl, hw1⟩
  replace hw1 := hw1.symm
  subst hw1
  rw [← HN.out]
  clear c0
  go_wp2_with (first | (at_make; refine wpList_make_full _ rfl _ _ 128 rfl w.heap.size 117 i0 _ 2 Try.underlying128 hi hz0 hz1 _ _ _ _ n rfl rfl (by omega) (by omega) (by rw [hz2]; omega) (by unfold maxLen; omega) (by simp) ?_; intro w2 hown hgrow; have g2 := (Ch.refl NoB w).grown hgrow (fun k hk => by cases hk)))
  have hD : Db w2 k n := by
    rcases hown.2 with ⟨h1, _⟩ | ⟨g, cap', cur, h1, hb', hg, hc, hm, hs, ht⟩
    · cases h1
    · injection h1 with h1 h2 h3
      injection h1 with h1
      injection h1 with h1
      subst h1 h3
      rw [hk]
      exact ⟨cur, hg, hs⟩
  have HD2 := hid hD
  have HG2 := hid g2
  have HK := hid hk
  rw [← hk]
  clear hown hgrow g2 hD hk
  go_loopg [13] n (fun m i wr => ∃ j, j + m = n ∧ i = .int .i64 ((j : Nat) : Int) ∧ Db wr k n ∧ Ds wr k (xs.take j) ∧ Ch NoB w wr)
  case atStart => exact ⟨0, by omega, rfl, HD2.out, fun i y hy => by simp at hy, HG2.out⟩
  case round =>
    obtain ⟨j, hjk, rfl, hDb, hDs, hg⟩ := hrel
    obtain ⟨V, hV⟩ : ∃ W, W = wr := ⟨_, rfl⟩
    subst hV
    obtain ⟨K1, hK1⟩ : ∃ k, k = gk := ⟨_, rfl⟩
    have HG := hid hg
    have HDb := hid hDb
    have HDs := hid hDs
    by_cases hj : j < n
    · obtain ⟨z, hz⟩ : ∃ z, xs[j]? = some z := ⟨_, List.getElem?_eq_getElem (by rw [← HN.out]; exact hj)⟩
      obtain ⟨gb, o, rfl, hgw, _, b0, b1, b2⟩ := HLs.out.get hz
      have a0 := (hg.cell hgw (noB _)).trans b0
      have a1 := (hg.cell hgw (noB _)).trans b1
      have c0 := (hg.cell bl (noB _)).trans HC0.out
      have bl1 : b < V.heap.size := Nat.lt_of_lt_of_le bl hg.size
      obtain ⟨u0, u1, z0, z1⟩ := hDb.at hj
      have y0 := hDb.fz (j * 2)
      have y1 := hDb.fz (j * 2 + 1)
      have j0 : (0 : Int) ≤ (j : Int) := by omega
      have j1 : (j : Int) < (n : Int) := by omega
      have HZ := hid hz
      clear hz hg hDb hDs b0 b1 b2
      go_wp2
      go_roundg (K1 - 1)
      case measure => omega
      case rel =>
        obtain ⟨d1, d2⟩ := HDb.out.set hj HDs.out HZ.out
        exact ⟨j + 1, by omega, by simp, d1, d2, (HG.out.fresh (k := k) (by rw [HK.out]; exact Nat.le_refl _) _ _).fresh (k := k) (by rw [HK.out]; exact Nat.le_refl _) _ _⟩
    · have ej : n = j := by omega
      subst ej
      have hje : xs.take n = xs := List.take_of_length_le (by rw [← HN.out]; exact Nat.le_refl _)
      rw [hje] at HDs
      have HS := hid (sortDues k n xs V HDs.out HDb.out.fz HDb.out.lt HNn.out (by rw [← HN.out]; exact hmax))
      rw [← HN.out] at HS
      clear hg hDb hDs
      go_wp2_with fail
      refine HS.out.mono ?_
      rintro e w3 ⟨rfl, zs, hp, hsr, hds, g3⟩
      have HP3 := hid hp
      have HSR := hid hsr
      have HDs3 := hid hds
      have HG3 := hid (HG.out.trans g3 (fun q e => .inr (by have e1 : q = k := e; rw [e1, HK.out]; exact Nat.le_refl _)))
      have hk3 : k < w3.heap.size := Nat.lt_of_lt_of_le HDb.out.lt g3.size
      obtain ⟨kn, hkn⟩ : ∃ k, k = w3.heap.size := ⟨_, rfl⟩
      clear hp hsr hds g3
      go_wp2_with (first | (at_make; refine wpList_make_full _ rfl _ _ 113 rfl w3.heap.size 3 i1 _ 1 Try.underlying113 hi1 hy0 hy1 _ _ _ _ n rfl rfl (by omega) (by omega) (by rw [hy2]; omega) (by unfold maxLen; omega) (by simp) ?_; intro w4 hown hgrow; have g4 := (Ch.refl NoB w3).grown hgrow (fun k hk => by cases hk)))
      have hzl : zs.length = n := by rw [HP3.out.length_eq]; exact HN.out.symm
      have ho : Ow 3 w3.heap.size w4 (.slice (some ⟨w3.heap.size, 0, none⟩) n n) (iv (fillI (zs.map (·.n)) 0)) := by
        have h2 := toList_madeCells_one (.int .i64 0) n
        rw [Nat.mul_one] at hown
        have e1 : iv (fillI (zs.map (·.n)) 0) = List.replicate n (.int .i64 0) := by simp [iv, fillI, hzl]
        unfold Ow
        rw [e1, List.length_replicate, ← h2]
        exact hown
      rw [← hkn] at ho
      rw [← hkn]
      have HO := hid ho
      have HG4 := hid g4
      have HKn := hid hkn
      have hkk : ¬ (k = kn) := by omega
      clear hown hgrow g4 ho hkn
      go_loopg [35] n (fun m i wv => ∃ j, j + m = n ∧ i = .int .i64 ((j : Nat) : Int) ∧ Ow 3 kn wv (.slice (some ⟨kn, 0, none⟩) n n) (iv (fillI (zs.map (·.n)) j)) ∧ Ch (Only kn) w4 wv)
      case atStart => exact ⟨0, by omega, rfl, HO.out, Ch.refl _ _⟩
      case round =>
        obtain ⟨j, hjk2, rfl, hO, hg5⟩ := hrel
        obtain ⟨U, hU⟩ : ∃ W, W = wr := ⟨_, rfl⟩
        subst hU
        obtain ⟨K2, hK2⟩ : ∃ k, k = gk := ⟨_, rfl⟩
        have HO5 := hid hO
        have HG5 := hid hg5
        have DS5 := hid (show Ds U k zs from fun i y hy => by
          have := HDs3.out i y hy
          rw [hg5.cell (Nat.lt_of_lt_of_le hk3 HG4.out.size) hkk, hg5.cell (Nat.lt_of_lt_of_le hk3 HG4.out.size) hkk, HG4.out.cell hk3 (noB _), HG4.out.cell hk3 (noB _)]
          exact this)
        have hk5 : k < U.heap.size := Nat.lt_of_lt_of_le hk3 (Nat.le_trans HG4.out.size hg5.size)
        by_cases hj2 : j < n
        · obtain ⟨y, hy⟩ : ∃ y, zs[j]? = some y := ⟨_, List.getElem?_eq_getElem (by rw [hzl]; exact hj2)⟩
          obtain ⟨d0, d1⟩ := DS5.out j y hy
          have HY := hid (show (zs.map (·.n))[j]? = some y.n by rw [List.getElem?_map, hy]; rfl)
          obtain ⟨v0, hv0⟩ : ∃ v0, (fillI (zs.map (·.n)) j)[j]? = some v0 := ⟨_, List.getElem?_eq_getElem (by rw [fillI_len (by rw [List.length_map, hzl]; omega), List.length_map, hzl]; exact hj2)⟩
          obtain ⟨g6, e6, _, gl6, _, o0, of0, _⟩ := hO.get1 (iv_get hv0)
          injection e6 with e6
          injection e6 with e6
          subst e6
          have st6 := hid (hO.get1 (iv_get hv0))
          have j0 : (0 : Int) ≤ (j : Int) := by omega
          have j1 : (j : Int) < (n : Int) := by omega
          clear hO hg5 hy hv0
          go_wp2
          go_roundg (K2 - 1)
          case measure => omega
          case rel =>
            obtain ⟨g7, e7, _, _, _, _, _, st7⟩ := st6.out
            injection e7 with e7
            injection e7 with e7
            subst e7
            have st8 := st7 (.int .i64 y.n)
            rw [iv_set, fillI_set HY.out] at st8
            exact ⟨j + 1, by omega, by simp, st8.alloc _, (HG5.out.own _ _).alloc _⟩
        · have ej2 : n = j := by omega
          subst ej2
          have hfe : fillI (zs.map (·.n)) n = zs.map (·.n) := by
            have := @fillI_end (zs.map (·.n))
            rw [List.length_map, hzl] at this
            exact this
          rw [hfe] at HO5
          clear hO hg5
          go_wp2
          go_ret
          exact ⟨_, rfl, zs, HP3.out, HSR.out, HO5.out.lower (by rw [HKn.out]; exact HG3.out.size), (HG3.out.trans' HG4.out).trans HG5.out (fun q e => .inr (by have e1 : q = kn := e; rw [e1, HKn.out]; exact HG3.out.size))⟩
end Go.Proofs.Ytgkapopkjgljjaa.Hp
