/-
  What FifoSorts of the statements answers: true, at any list. Condition: the list is there, and shorter than 2^62.
-/
import Derived.Test.YtphohfafehjafaaFfUq
import Derived.Deep.DeepCutAuto
import Derived.Deep.RegionWith
namespace Go.Proofs.Ytphohfafehjafaa.Ff
open Go.RowKit
attribute [local go_sem ↓] Go.wp_at_zero Go.wp_at_succ

theorem eql_w3b (x z : W3) (w : World) : (binOp .eql 33 (.agg #[.int .i64 x.s, .int .i64 x.g, .int .u64 x.t]) (.agg #[.int .i64 z.s, .int .i64 z.g, .int .u64 z.t])).run Try.prog w = .ok (.bool (x.s == z.s && x.g == z.g && x.t == z.t)) w := by
  by_cases h1 : x.s = z.s
  · by_cases h2 : x.g = z.g
    · by_cases h3 : x.t = z.t
      · rw [h1, h2, h3]; go_simp
      · have e : (x.t == z.t) = false := by simpa using h3
        rw [h1, h2]; go_simp
    · have e : (x.g == z.g) = false := by simpa using h2
      rw [h1]; go_simp
  · have e : (x.s == z.s) = false := by simpa using h1
    go_simp

set_option maxHeartbeats 4000000 in
set_option maxRecDepth 20000 in
theorem sorts_law (lv : Value) (l : List W3) (w : World) (hx : Lst (fun _ => True) w lv l) (hl : l.length ≤ 4611686018427387903) :
    Calls Try.prog 5 #[lv] w fun e w' => e = .returned (.bool true) ∧ Ch NoB w w' := by
  obtain ⟨la, lc, rfl⟩ := hx.form
  obtain ⟨n, hn⟩ : ∃ n, n = l.length := ⟨_, rfl⟩
  rw [← hn] at hl hx ⊢
  have HX := hid hx
  have HN := hid hn
  clear hx hn
  go_enter Try.func5, Try.ntmps5
  go_wp2_with fail
  refine (new_any _).mono ?_
  rintro e w1 ⟨b, rfl, hb, q1, g1⟩
  have HQ1 := hid (Que.new q1)
  have HG1 := hid g1
  have hs1 := g1.size
  clear q1 g1
  go_wp2_with fail
  refine (lives_any _).mono ?_
  rintro e w2 ⟨rfl, g2⟩
  have HQ2 := hid (HQ1.out.ch g2 (fun _ _ => noB _))
  have HG2 := hid (HG1.out.trans' g2)
  have hs2 := g2.size
  clear g2
  go_wp2_with fail
  go_loopg [4, 5] n (fun m put i wr => ∃ j cnt vq, j + m = n ∧ i = .int .i64 ((j : Nat) : Int) ∧ put = .int .i64 ((cnt : Nat) : Int) ∧ cnt = (loadL [] (l.take j)).length ∧ cnt ≤ 4096 ∧ Que w1.heap.size wr b vq (loadL [] (l.take j)) ∧ Ch NoB w wr ∧ w1.heap.size ≤ wr.heap.size)
  case atStart => exact ⟨0, 0, _, by omega, rfl, rfl, by rw [List.take_zero]; rfl, by omega, by rw [List.take_zero]; exact HQ2.out, HG2.out, hs2⟩
  case round =>
    obtain ⟨j, cnt, vq, hjk, rfl, rfl, hcnt, hcl, hq, hg, hsz⟩ := hrel
    obtain ⟨A, hA⟩ : ∃ A, A = loadL [] (l.take j) := ⟨_, rfl⟩
    have hup := loadL_up (l.take j) [] Up.nil (by simp)
    rw [← hA] at hq hup hcnt
    have HQ := hid hq
    have HG := hid hg
    have HA := hid hA
    have HUP := hid hup
    have HC := hid hcnt
    clear hq hg hA hup hcnt
    by_cases hj : j < n
    · obtain ⟨z, hz⟩ : ∃ z, l[j]? = some z := ⟨_, List.getElem?_eq_getElem (by rw [← HN.out]; exact hj)⟩
      obtain ⟨gb, o, rfl, _, hgl, a0, a1, a2⟩ := (HX.out.ch HG.out (fun _ _ _ => noB _)).get hz
      have j0 : (0 : Int) ≤ (j : Int) := by omega
      have j1 : (j : Int) < (n : Int) := by omega
      have hls := loadL_step (l := l) hz
      rw [← HA.out] at hls
      have hpl := put_length A z
      have HLS := hid hls
      have HPL := hid hpl
      clear hls hz hpl
      go_wp2_with fail
      refine (put_any w1.heap.size b vq A z _ HQ.out HUP.out.1 hsz).mono ?_
      rintro e w3 ⟨rfl, l3⟩
      obtain ⟨ao3, c3, h3, g3, b3⟩ := l3.que
      have hs3 := g3.size
      have HQ3 := hid h3
      have HG3 := hid (HG.out.trans g3 (fun q e => .inr (by rcases e with e | e; omega; have := (HQ.out.2.1.blk e).1; omega)))
      have hlen3 := h3.2.2.2
      clear l3 h3 g3 b3
      by_cases hp : putE A z = 0
      · have hpl := HPL.out
        rw [if_pos hp, ← HC.out] at hpl
        rw [hpl] at hlen3
        have HPL2 := hid hpl
        rw [hp]
        clear hp hpl
        go_wp2
        go_roundg (gk - 1)
        case measure => omega
        case rel => exact ⟨j + 1, cnt + 1, _, by omega, by simp, by simp, by rw [HLS.out]; exact HPL2.out.symm, by omega, by rw [HLS.out]; exact HQ3.out, HG3.out, by omega⟩
      · have hpl := HPL.out
        rw [if_neg hp, ← HC.out] at hpl
        have HPL2 := hid hpl
        have hpb : (putE A z == 0) = false := by simp; exact hp
        clear hpl
        go_wp2
        go_roundg (gk - 1)
        case measure => omega
        case rel => exact ⟨j + 1, cnt, _, by omega, by simp, rfl, by rw [HLS.out]; exact HPL2.out.symm, by omega, by rw [HLS.out]; exact HQ3.out, HG3.out, by omega⟩
    · have htk : l.take j = l := List.take_of_length_le (by rw [← HN.out]; omega)
      have hA' := HA.out
      rw [htk] at hA'
      have HUQ := hid (show Uq A by rw [hA']; exact load_uq l [] Uq.nil)
      have HMEM := hid (show ∀ y ∈ A, y ∈ l from fun y hy => by rw [hA'] at hy; rcases load_mem l [] y hy with h | h; cases h; exact h)
      clear hA' htk
      go_wp2_with fail
      obtain ⟨LB, hLB⟩ : ∃ LB, LB = wr.heap.size := ⟨_, rfl⟩
      have HS0 : Hid (Que w1.heap.size (wr.alloc (.cells #[.int .i64 0, .int .i64 0, .int .u64 0] 33)) b vq A ∧ Three (wr.alloc (.cells #[.int .i64 0, .int .i64 0, .int .u64 0] 33)) LB W3.zero ∧ ¬ Blk vq LB ∧ Ch NoB w (wr.alloc (.cells #[.int .i64 0, .int .i64 0, .int .u64 0] 33))) :=
        hid ⟨HQ.out.alloc _, by rw [hLB]; exact Three.new wr W3.zero, fun e => by have := (HQ.out.2.1.blk e).2; omega, HG.out.alloc _⟩
      have hLB1 : w1.heap.size ≤ LB := by omega
      have hbb := HQ.out.2.2.1
      obtain ⟨W0, hW0⟩ : ∃ W0, W0 = wr.alloc (.cells #[.int .i64 0, .int .i64 0, .int .u64 0] 33) := ⟨_, rfl⟩
      rw [← hLB, ← hW0]
      rw [← hW0] at HS0
      have hW0s : LB < W0.heap.size := HS0.out.2.1.lt
      clear hW0 hLB
      clear HQ HG
      go_loopg [7] cnt (fun m i wv => ∃ j vq last, j + m = cnt ∧ i = .int .i64 ((j : Nat) : Int) ∧ Que w1.heap.size wv b vq (A.drop j) ∧ Three wv LB last ∧ ¬ Blk vq LB ∧ (0 < j → A[j - 1]? = some last) ∧ Ch NoB w wv ∧ w1.heap.size ≤ wv.heap.size)
      case atStart => exact ⟨0, _, W3.zero, by omega, rfl, by rw [List.drop_zero]; exact HS0.out.1, HS0.out.2.1, HS0.out.2.2.1, fun h => by omega, HS0.out.2.2.2, by omega⟩
      case round =>
        obtain ⟨i, vi, last, hik, rfl, hqi, htl, hnb, hlast, hgi, hszi⟩ := hrel
        have HQi := hid hqi
        have HTi := hid htl
        have HLi := hid hlast
        have HGi := hid hgi
        clear hqi htl hlast hgi
        obtain ⟨K1, hK1⟩ : ∃ K1, K1 = gk - 1 := ⟨_, rfl⟩
        by_cases hic : i < cnt
        · obtain ⟨y, hy⟩ : ∃ y, A[i]? = some y := ⟨_, List.getElem?_eq_getElem (by rw [← HC.out]; exact hic)⟩
          have hdr : A.drop i = y :: A.drop (i + 1) := by
            obtain ⟨h1, h2⟩ := List.getElem?_eq_some_iff.1 hy
            rw [List.drop_eq_getElem_cons h1, h2]
          obtain ⟨pp, hpp⟩ : ∃ pp, l[pp]? = some y := List.getElem?_of_mem (HMEM.out y (List.mem_of_getElem? hy))
          have hppn : pp < n := by rw [HN.out]; exact (List.getElem?_eq_some_iff.1 hpp).1
          have hhas : decide (0 ≤ atG y.s y.g (A.drop (i + 1))) = false := by
            have hu := uq_sub HUQ.out (List.drop_sublist i A)
            rw [hdr] at hu
            have := atG_none (s := y.s) (g := y.g) (xs := A.drop (i + 1)) (fun x hx e => (List.pairwise_cons.1 hu).1 x hx ⟨e.1.symm, e.2.symm⟩)
            rw [this]; decide
          have HY := hid hy
          have HDR := hid hdr
          have HPP := hid hpp
          have HHAS := hid hhas
          have i0 : (i : Int) < (cnt : Int) := by omega
          clear hy hdr hpp hhas
          go_wp2_with fail
          refine (take_some w1.heap.size b vi y (A.drop (i + 1)) _ (by have := HQi.out; rw [HDR.out] at this; exact this)).mono ?_
          rintro e w4 ⟨rfl, l4⟩
          obtain ⟨ao4, c4, h4, g4, b4⟩ := l4.que
          have hs4 := g4.size
          have hLBw : LB < wr.heap.size := HTi.out.lt
          have HQ4 := hid h4
          have HT4 := hid (HTi.out.ch g4 (fun e => by rcases e with e | e; omega; exact hnb e))
          have HG4 := hid (HGi.out.trans g4 (fun q e => .inr (by rcases e with e | e; omega; have := (HQi.out.2.1.blk e).1; omega)))
          have hnb4 : ¬ Blk (.slice ao4 (A.drop (i + 1)).length c4) LB := fun e => by rcases b4 LB e with h | h; exact hnb h; omega
          have hHas := has_any (w1.heap.size ≤ ·) b _ (A.drop (i + 1)) y.s y.g _ (h4.1.alloc (.cells #[.int .i64 y.s, .int .i64 y.g, .int .u64 y.t] 33)) (h4.2.1.lst.alloc _) (by have := h4.2.2.2; omega)
          rw [HHAS.out] at hHas
          have HHC := hid hHas
          have HTY := hid (Three.new w4 y)
          obtain ⟨t0, t1, t2⟩ := (HT4.out.alloc (.cells #[.int .i64 y.s, .int .i64 y.g, .int .u64 y.t] 33)).cells
          obtain ⟨y0, y1, y2⟩ := HTY.out.cells
          have LB4 : LB < w4.heap.size := by omega
          clear l4 h4 g4 b4 hHas
          by_cases hi0 : i = 0
          · have i1 : ¬ ((0 : Int) < (i : Int)) := by omega
            have HI0 := hid hi0
            clear hi0
            go_wp2_with fail
            refine HHC.out.mono ?_
            rintro e w5 ⟨rfl, g5⟩
            have HG5 := hid ((HG4.out.alloc (.cells #[.int .i64 y.s, .int .i64 y.g, .int .u64 y.t] 33)).trans' g5)
            have HQ5 := hid ((HQ4.out.alloc (.cells #[.int .i64 y.s, .int .i64 y.g, .int .u64 y.t] 33)).ch g5 (fun _ _ => noB _))
            have HT5 := hid ((HT4.out.alloc (.cells #[.int .i64 y.s, .int .i64 y.g, .int .u64 y.t] 33)).ch g5 (noB _))
            have HTY5 := hid (HTY.out.ch g5 (noB _))
            have hs5 := g5.size
            simp only [World.size_alloc] at hs5
            clear t0 t1 t2 y0 y1 y2 g5
            obtain ⟨t0, t1, t2⟩ := HT5.out.cells
            have f0 := HT5.out.frozen 0
            have f1 := HT5.out.frozen 1
            have f2 := HT5.out.frozen 2
            obtain ⟨y0, y1, y2⟩ := HTY5.out.cells
            have yl := HTY5.out.lt
            have tl := HT5.out.lt
            go_wp2_with fail
            go_loopg [10, 11] n (fun m f k wv2 => ∃ k' fb, k' + m = n ∧ k = .int .i64 ((k' : Nat) : Int) ∧ f = .bool fb ∧ (fb = true ∨ k' ≤ pp) ∧ ∃ dd, wv2 = w5.drewN dd)
            case atStart => exact ⟨0, false, by omega, rfl, rfl, .inr (Nat.zero_le _), 0, rfl⟩
            case round =>
              obtain ⟨k, fb, hkm, rfl, rfl, hfb, dd, rfl⟩ := hrel
              have HFB := hid hfb
              clear hfb
              by_cases hkn : k < n
              · obtain ⟨z, hz⟩ : ∃ z, l[k]? = some z := ⟨_, List.getElem?_eq_getElem (by rw [← HN.out]; exact hkn)⟩
                obtain ⟨gb, o, rfl, _, hgl, a0, a1, a2⟩ := (HX.out.ch HG5.out (fun _ _ _ => noB _)).get hz
                have k0 : (0 : Int) ≤ (k : Int) := by omega
                have k1 : (k : Int) < (n : Int) := by omega
                have hC := fun w' => eql_w3b z y w'
                obtain ⟨B, hB⟩ : ∃ B, B = (z.s == y.s && z.g == y.g && z.t == y.t) := ⟨_, rfl⟩
                rw [← hB] at hC
                have HB := hid hB
                have HZ := hid hz
                clear hz hB
                cases fb with
                | true =>
                  go_wp2_with fail
                  refine wp_region_any (by kernel_rfl) ?_
                  change wpAny _ _ _ _ _ _ _ (World.drew _)
                  refine take_on (i := 0) 72 (v := ?v1) rfl rfl (by kernel_rfl) (by kernel_rfl) (by kernel_rfl) (fun _ _ _ h => h) (by kernel_rfl) ?hy1 ?_
                  case hy1 => (intro w; go_simp; try (with_reducible rfl))
                  simp only [Act.put, List.setIfInBounds_toArray, List.set_cons_zero, List.set_cons_succ]
                  refine take_on (i := 1) 73 (v := ?v2) rfl rfl (by kernel_rfl) (by kernel_rfl) (by kernel_rfl) (fun _ _ _ h => h) (by kernel_rfl) ?hy2 ?_
                  case hy2 => (intro w; go_simp; try (with_reducible rfl))
                  simp only [Act.put, List.setIfInBounds_toArray, List.set_cons_zero, List.set_cons_succ]
                  refine skip_on (i := 2) 74 rfl rfl (by kernel_rfl) (by kernel_rfl) (by kernel_rfl) (fun _ _ _ h => h) (by kernel_rfl) ?_
                  simp only [Act.put, List.setIfInBounds_toArray, List.set_cons_zero, List.set_cons_succ]
                  refine skip_on (i := 3) 75 rfl rfl (by kernel_rfl) (by kernel_rfl) (by kernel_rfl) (fun _ _ _ h => h) (by kernel_rfl) ?_
                  simp only [Act.put, List.setIfInBounds_toArray, List.set_cons_zero, List.set_cons_succ]
                  refine skip_on (i := 4) 76 rfl rfl (by kernel_rfl) (by kernel_rfl) (by kernel_rfl) (fun _ _ _ h => h) (by kernel_rfl) ?_
                  simp only [Act.put, List.setIfInBounds_toArray, List.set_cons_zero, List.set_cons_succ]
                  refine skip_on (i := 5) 77 rfl rfl (by kernel_rfl) (by kernel_rfl) (by kernel_rfl) (fun _ _ _ h => h) (by kernel_rfl) ?_
                  simp only [Act.put, List.setIfInBounds_toArray, List.set_cons_zero, List.set_cons_succ]
                  refine skip_on (i := 6) 78 rfl rfl (by kernel_rfl) (by kernel_rfl) (by kernel_rfl) (fun _ _ _ h => h) (by kernel_rfl) ?_
                  simp only [Act.put, List.setIfInBounds_toArray, List.set_cons_zero, List.set_cons_succ]
                  refine skip_on (i := 7) 79 rfl rfl (by kernel_rfl) (by kernel_rfl) (by kernel_rfl) (fun _ _ _ h => h) (by kernel_rfl) ?_
                  simp only [Act.put, List.setIfInBounds_toArray, List.set_cons_zero, List.set_cons_succ]
                  refine take_on (i := 8) 80 (v := ?v9) rfl rfl (by kernel_rfl) (by kernel_rfl) (by kernel_rfl) (fun _ _ _ h => h) (by kernel_rfl) ?hy9 ?_
                  case hy9 => (intro w; go_simp; try (with_reducible rfl))
                  simp only [Act.put, List.setIfInBounds_toArray, List.set_cons_zero, List.set_cons_succ]
                  refine take_on (i := 9) 10 (v := ?v10) rfl rfl (by kernel_rfl) (by kernel_rfl) (by kernel_rfl) (fun _ _ _ h => h) (by kernel_rfl) ?hy10 ?_
                  case hy10 => (intro w; go_simp; try (with_reducible rfl))
                  simp only [Act.put, List.setIfInBounds_toArray, List.set_cons_zero, List.set_cons_succ]
                  refine wpAny_done (by kernel_rfl) ?_ _
                  go_wp2
                  go_roundg (gk - 1)
                  case measure => omega
                  case rel => exact ⟨k + 1, true, by omega, by simp, rfl, .inl rfl, _, rfl⟩
                | false =>
                  go_wp2_with fail
                  refine wp_region_any (by kernel_rfl) ?_
                  change wpAny _ _ _ _ _ _ _ (World.drew _)
                  refine held_here ?_
                  refine takeW_on (i := 0) 72 (v := ?v11) rfl rfl (by kernel_rfl) (by kernel_rfl) (by kernel_rfl) (fun _ _ _ h => h) (by kernel_rfl) ?hy11 ?_
                  case hy11 => (go_simp; try (with_reducible rfl))
                  simp only [Act.put, List.setIfInBounds_toArray, List.set_cons_zero, List.set_cons_succ]
                  refine takeW_on (i := 1) 73 (v := ?v12) rfl rfl (by kernel_rfl) (by kernel_rfl) (by kernel_rfl) (fun _ _ _ h => h) (by kernel_rfl) ?hy12 ?_
                  case hy12 => (go_simp; try (with_reducible rfl))
                  simp only [Act.put, List.setIfInBounds_toArray, List.set_cons_zero, List.set_cons_succ]
                  refine takeW_on (i := 2) 74 (v := ?v13) rfl rfl (by kernel_rfl) (by kernel_rfl) (by kernel_rfl) (fun _ _ _ h => h) (by kernel_rfl) ?hy13 ?_
                  case hy13 => (go_simp; try (with_reducible rfl))
                  simp only [Act.put, List.setIfInBounds_toArray, List.set_cons_zero, List.set_cons_succ]
                  refine takeW_on (i := 3) 75 (v := ?v14) rfl rfl (by kernel_rfl) (by kernel_rfl) (by kernel_rfl) (fun _ _ _ h => h) (by kernel_rfl) ?hy14 ?_
                  case hy14 => (go_simp; try (with_reducible rfl))
                  simp only [Act.put, List.setIfInBounds_toArray, List.set_cons_zero, List.set_cons_succ]
                  refine takeW_on (i := 4) 76 (v := ?v15) rfl rfl (by kernel_rfl) (by kernel_rfl) (by kernel_rfl) (fun _ _ _ h => h) (by kernel_rfl) ?hy15 ?_
                  case hy15 => (go_simp; try (with_reducible rfl))
                  simp only [Act.put, List.setIfInBounds_toArray, List.set_cons_zero, List.set_cons_succ]
                  refine takeW_on (i := 5) 77 (v := ?v16) rfl rfl (by kernel_rfl) (by kernel_rfl) (by kernel_rfl) (fun _ _ _ h => h) (by kernel_rfl) ?hy16 ?_
                  case hy16 => (go_simp; try (with_reducible rfl))
                  simp only [Act.put, List.setIfInBounds_toArray, List.set_cons_zero, List.set_cons_succ]
                  refine takeW_on (i := 6) 78 (v := ?v17) rfl rfl (by kernel_rfl) (by kernel_rfl) (by kernel_rfl) (fun _ _ _ h => h) (by kernel_rfl) ?hy17 ?_
                  case hy17 => (go_simp; try (with_reducible rfl))
                  simp only [Act.put, List.setIfInBounds_toArray, List.set_cons_zero, List.set_cons_succ]
                  refine takeW_on (i := 7) 79 (v := ?v18) rfl rfl (by kernel_rfl) (by kernel_rfl) (by kernel_rfl) (fun _ _ _ h => h) (by kernel_rfl) ?hy18 ?_
                  case hy18 => (go_simp; try (with_reducible rfl))
                  simp only [Act.put, List.setIfInBounds_toArray, List.set_cons_zero, List.set_cons_succ]
                  refine takeW_on (i := 8) 80 (v := ?v19) rfl rfl (by kernel_rfl) (by kernel_rfl) (by kernel_rfl) (fun _ _ _ h => h) (by kernel_rfl) ?hy19 ?_
                  case hy19 => (go_simp; try (with_reducible rfl))
                  simp only [Act.put, List.setIfInBounds_toArray, List.set_cons_zero, List.set_cons_succ]
                  refine takeW_on (i := 9) 10 (v := ?v20) rfl rfl (by kernel_rfl) (by kernel_rfl) (by kernel_rfl) (fun _ _ _ h => h) (by kernel_rfl) ?hy20 ?_
                  case hy20 => (go_simp; try (with_reducible rfl))
                  simp only [Act.put, List.setIfInBounds_toArray, List.set_cons_zero, List.set_cons_succ]
                  refine wpAnyH_done (by kernel_rfl) ?_ _
                  go_wp2
                  go_roundg (gk - 1)
                  case measure => omega
                  case rel =>
                    refine ⟨k + 1, B, by omega, by simp, rfl, ?_, _, rfl⟩
                    cases hBB : B with
                    | true => exact .inl rfl
                    | false =>
                      right
                      have hkp : k ≤ pp := HFB.out.elim (fun h => by cases h) id
                      have : k ≠ pp := fun e => by
                        have h1 := HZ.out
                        rw [e, HPP.out] at h1
                        injection h1 with h1
                        have h2 := HB.out
                        rw [h1, hBB] at h2
                        simp at h2
                      omega
              · have hfb : fb = true := HFB.out.elim id (fun h => by omega)
                subst hfb
                go_wp2
                go_roundg K1
                case measure => omega
                case rel =>
                  have C := Ch.own (Ch.own (Ch.own (Ch.refl (Only LB) (w5.drewN dd)) 0 (.int .i64 y.s)) 1 (.int .i64 y.g)) 2 (.int .u64 y.t)
                  refine ⟨i + 1, _, y, by omega, by simp, Que.ch (w := w5.drewN dd) HQ5.out C (fun q e e' => ?_), Three.put (w := w5.drewN dd) (x := y) HT5.out, hnb4, fun _ => HY.out, (HG5.out.drewN dd).trans C (fun q e => .inr ?_), ?_⟩
                  · have e1 : q = LB := e'
                    rcases e with e | e
                    · omega
                    · rw [e1] at e; exact hnb4 e
                  · have e1 : q = LB := e; omega
                  · have := C.size
                    have h2 : (w5.drewN dd).heap.size = w5.heap.size := rfl
                    omega
          · have i1 : (0 : Int) < (i : Int) := by omega
            have hlt : last.t < y.t := HUP.out.1 (i - 1) i last y (by omega) (HLi.out (by omega)) HY.out
            have hnle : ¬ (y.t ≤ last.t) := by omega
            clear hi0 hlt
            go_wp2_with fail
            refine HHC.out.mono ?_
            rintro e w5 ⟨rfl, g5⟩
            have HG5 := hid ((HG4.out.alloc (.cells #[.int .i64 y.s, .int .i64 y.g, .int .u64 y.t] 33)).trans' g5)
            have HQ5 := hid ((HQ4.out.alloc (.cells #[.int .i64 y.s, .int .i64 y.g, .int .u64 y.t] 33)).ch g5 (fun _ _ => noB _))
            have HT5 := hid ((HT4.out.alloc (.cells #[.int .i64 y.s, .int .i64 y.g, .int .u64 y.t] 33)).ch g5 (noB _))
            have HTY5 := hid (HTY.out.ch g5 (noB _))
            have hs5 := g5.size
            simp only [World.size_alloc] at hs5
            clear t0 t1 t2 y0 y1 y2 g5
            obtain ⟨t0, t1, t2⟩ := HT5.out.cells
            have f0 := HT5.out.frozen 0
            have f1 := HT5.out.frozen 1
            have f2 := HT5.out.frozen 2
            obtain ⟨y0, y1, y2⟩ := HTY5.out.cells
            have yl := HTY5.out.lt
            have tl := HT5.out.lt
            go_wp2_with fail
            go_loopg [10, 11] n (fun m f k wv2 => ∃ k' fb, k' + m = n ∧ k = .int .i64 ((k' : Nat) : Int) ∧ f = .bool fb ∧ (fb = true ∨ k' ≤ pp) ∧ ∃ dd, wv2 = w5.drewN dd)
            case atStart => exact ⟨0, false, by omega, rfl, rfl, .inr (Nat.zero_le _), 0, rfl⟩
            case round =>
              obtain ⟨k, fb, hkm, rfl, rfl, hfb, dd, rfl⟩ := hrel
              have HFB := hid hfb
              clear hfb
              by_cases hkn : k < n
              · obtain ⟨z, hz⟩ : ∃ z, l[k]? = some z := ⟨_, List.getElem?_eq_getElem (by rw [← HN.out]; exact hkn)⟩
                obtain ⟨gb, o, rfl, _, hgl, a0, a1, a2⟩ := (HX.out.ch HG5.out (fun _ _ _ => noB _)).get hz
                have k0 : (0 : Int) ≤ (k : Int) := by omega
                have k1 : (k : Int) < (n : Int) := by omega
                have hC := fun w' => eql_w3b z y w'
                obtain ⟨B, hB⟩ : ∃ B, B = (z.s == y.s && z.g == y.g && z.t == y.t) := ⟨_, rfl⟩
                rw [← hB] at hC
                have HB := hid hB
                have HZ := hid hz
                clear hz hB
                cases fb with
                | true =>
                  go_wp2_with fail
                  refine wp_region_any (by kernel_rfl) ?_
                  change wpAny _ _ _ _ _ _ _ (World.drew _)
                  refine take_on (i := 0) 72 (v := ?v21) rfl rfl (by kernel_rfl) (by kernel_rfl) (by kernel_rfl) (fun _ _ _ h => h) (by kernel_rfl) ?hy21 ?_
                  case hy21 => (intro w; go_simp; try (with_reducible rfl))
                  simp only [Act.put, List.setIfInBounds_toArray, List.set_cons_zero, List.set_cons_succ]
                  refine take_on (i := 1) 73 (v := ?v22) rfl rfl (by kernel_rfl) (by kernel_rfl) (by kernel_rfl) (fun _ _ _ h => h) (by kernel_rfl) ?hy22 ?_
                  case hy22 => (intro w; go_simp; try (with_reducible rfl))
                  simp only [Act.put, List.setIfInBounds_toArray, List.set_cons_zero, List.set_cons_succ]
                  refine skip_on (i := 2) 74 rfl rfl (by kernel_rfl) (by kernel_rfl) (by kernel_rfl) (fun _ _ _ h => h) (by kernel_rfl) ?_
                  simp only [Act.put, List.setIfInBounds_toArray, List.set_cons_zero, List.set_cons_succ]
                  refine skip_on (i := 3) 75 rfl rfl (by kernel_rfl) (by kernel_rfl) (by kernel_rfl) (fun _ _ _ h => h) (by kernel_rfl) ?_
                  simp only [Act.put, List.setIfInBounds_toArray, List.set_cons_zero, List.set_cons_succ]
                  refine skip_on (i := 4) 76 rfl rfl (by kernel_rfl) (by kernel_rfl) (by kernel_rfl) (fun _ _ _ h => h) (by kernel_rfl) ?_
                  simp only [Act.put, List.setIfInBounds_toArray, List.set_cons_zero, List.set_cons_succ]
                  refine skip_on (i := 5) 77 rfl rfl (by kernel_rfl) (by kernel_rfl) (by kernel_rfl) (fun _ _ _ h => h) (by kernel_rfl) ?_
                  simp only [Act.put, List.setIfInBounds_toArray, List.set_cons_zero, List.set_cons_succ]
                  refine skip_on (i := 6) 78 rfl rfl (by kernel_rfl) (by kernel_rfl) (by kernel_rfl) (fun _ _ _ h => h) (by kernel_rfl) ?_
                  simp only [Act.put, List.setIfInBounds_toArray, List.set_cons_zero, List.set_cons_succ]
                  refine skip_on (i := 7) 79 rfl rfl (by kernel_rfl) (by kernel_rfl) (by kernel_rfl) (fun _ _ _ h => h) (by kernel_rfl) ?_
                  simp only [Act.put, List.setIfInBounds_toArray, List.set_cons_zero, List.set_cons_succ]
                  refine take_on (i := 8) 80 (v := ?v29) rfl rfl (by kernel_rfl) (by kernel_rfl) (by kernel_rfl) (fun _ _ _ h => h) (by kernel_rfl) ?hy29 ?_
                  case hy29 => (intro w; go_simp; try (with_reducible rfl))
                  simp only [Act.put, List.setIfInBounds_toArray, List.set_cons_zero, List.set_cons_succ]
                  refine take_on (i := 9) 10 (v := ?v30) rfl rfl (by kernel_rfl) (by kernel_rfl) (by kernel_rfl) (fun _ _ _ h => h) (by kernel_rfl) ?hy30 ?_
                  case hy30 => (intro w; go_simp; try (with_reducible rfl))
                  simp only [Act.put, List.setIfInBounds_toArray, List.set_cons_zero, List.set_cons_succ]
                  refine wpAny_done (by kernel_rfl) ?_ _
                  go_wp2
                  go_roundg (gk - 1)
                  case measure => omega
                  case rel => exact ⟨k + 1, true, by omega, by simp, rfl, .inl rfl, _, rfl⟩
                | false =>
                  go_wp2_with fail
                  refine wp_region_any (by kernel_rfl) ?_
                  change wpAny _ _ _ _ _ _ _ (World.drew _)
                  refine held_here ?_
                  refine takeW_on (i := 0) 72 (v := ?v31) rfl rfl (by kernel_rfl) (by kernel_rfl) (by kernel_rfl) (fun _ _ _ h => h) (by kernel_rfl) ?hy31 ?_
                  case hy31 => (go_simp; try (with_reducible rfl))
                  simp only [Act.put, List.setIfInBounds_toArray, List.set_cons_zero, List.set_cons_succ]
                  refine takeW_on (i := 1) 73 (v := ?v32) rfl rfl (by kernel_rfl) (by kernel_rfl) (by kernel_rfl) (fun _ _ _ h => h) (by kernel_rfl) ?hy32 ?_
                  case hy32 => (go_simp; try (with_reducible rfl))
                  simp only [Act.put, List.setIfInBounds_toArray, List.set_cons_zero, List.set_cons_succ]
                  refine takeW_on (i := 2) 74 (v := ?v33) rfl rfl (by kernel_rfl) (by kernel_rfl) (by kernel_rfl) (fun _ _ _ h => h) (by kernel_rfl) ?hy33 ?_
                  case hy33 => (go_simp; try (with_reducible rfl))
                  simp only [Act.put, List.setIfInBounds_toArray, List.set_cons_zero, List.set_cons_succ]
                  refine takeW_on (i := 3) 75 (v := ?v34) rfl rfl (by kernel_rfl) (by kernel_rfl) (by kernel_rfl) (fun _ _ _ h => h) (by kernel_rfl) ?hy34 ?_
                  case hy34 => (go_simp; try (with_reducible rfl))
                  simp only [Act.put, List.setIfInBounds_toArray, List.set_cons_zero, List.set_cons_succ]
                  refine takeW_on (i := 4) 76 (v := ?v35) rfl rfl (by kernel_rfl) (by kernel_rfl) (by kernel_rfl) (fun _ _ _ h => h) (by kernel_rfl) ?hy35 ?_
                  case hy35 => (go_simp; try (with_reducible rfl))
                  simp only [Act.put, List.setIfInBounds_toArray, List.set_cons_zero, List.set_cons_succ]
                  refine takeW_on (i := 5) 77 (v := ?v36) rfl rfl (by kernel_rfl) (by kernel_rfl) (by kernel_rfl) (fun _ _ _ h => h) (by kernel_rfl) ?hy36 ?_
                  case hy36 => (go_simp; try (with_reducible rfl))
                  simp only [Act.put, List.setIfInBounds_toArray, List.set_cons_zero, List.set_cons_succ]
                  refine takeW_on (i := 6) 78 (v := ?v37) rfl rfl (by kernel_rfl) (by kernel_rfl) (by kernel_rfl) (fun _ _ _ h => h) (by kernel_rfl) ?hy37 ?_
                  case hy37 => (go_simp; try (with_reducible rfl))
                  simp only [Act.put, List.setIfInBounds_toArray, List.set_cons_zero, List.set_cons_succ]
                  refine takeW_on (i := 7) 79 (v := ?v38) rfl rfl (by kernel_rfl) (by kernel_rfl) (by kernel_rfl) (fun _ _ _ h => h) (by kernel_rfl) ?hy38 ?_
                  case hy38 => (go_simp; try (with_reducible rfl))
                  simp only [Act.put, List.setIfInBounds_toArray, List.set_cons_zero, List.set_cons_succ]
                  refine takeW_on (i := 8) 80 (v := ?v39) rfl rfl (by kernel_rfl) (by kernel_rfl) (by kernel_rfl) (fun _ _ _ h => h) (by kernel_rfl) ?hy39 ?_
                  case hy39 => (go_simp; try (with_reducible rfl))
                  simp only [Act.put, List.setIfInBounds_toArray, List.set_cons_zero, List.set_cons_succ]
                  refine takeW_on (i := 9) 10 (v := ?v40) rfl rfl (by kernel_rfl) (by kernel_rfl) (by kernel_rfl) (fun _ _ _ h => h) (by kernel_rfl) ?hy40 ?_
                  case hy40 => (go_simp; try (with_reducible rfl))
                  simp only [Act.put, List.setIfInBounds_toArray, List.set_cons_zero, List.set_cons_succ]
                  refine wpAnyH_done (by kernel_rfl) ?_ _
                  go_wp2
                  go_roundg (gk - 1)
                  case measure => omega
                  case rel =>
                    refine ⟨k + 1, B, by omega, by simp, rfl, ?_, _, rfl⟩
                    cases hBB : B with
                    | true => exact .inl rfl
                    | false =>
                      right
                      have hkp : k ≤ pp := HFB.out.elim (fun h => by cases h) id
                      have : k ≠ pp := fun e => by
                        have h1 := HZ.out
                        rw [e, HPP.out] at h1
                        injection h1 with h1
                        have h2 := HB.out
                        rw [h1, hBB] at h2
                        simp at h2
                      omega
              · have hfb : fb = true := HFB.out.elim id (fun h => by omega)
                subst hfb
                go_wp2
                go_roundg K1
                case measure => omega
                case rel =>
                  have C := Ch.own (Ch.own (Ch.own (Ch.refl (Only LB) (w5.drewN dd)) 0 (.int .i64 y.s)) 1 (.int .i64 y.g)) 2 (.int .u64 y.t)
                  refine ⟨i + 1, _, y, by omega, by simp, Que.ch (w := w5.drewN dd) HQ5.out C (fun q e e' => ?_), Three.put (w := w5.drewN dd) (x := y) HT5.out, hnb4, fun _ => HY.out, (HG5.out.drewN dd).trans C (fun q e => .inr ?_), ?_⟩
                  · have e1 : q = LB := e'
                    rcases e with e | e
                    · omega
                    · rw [e1] at e; exact hnb4 e
                  · have e1 : q = LB := e; omega
                  · have := C.size
                    have h2 : (w5.drewN dd).heap.size = w5.heap.size := rfl
                    omega
        · have hie : i = cnt := by omega
          have hnil : A.drop i = [] := List.drop_of_length_le (by rw [← HC.out]; omega)
          have HNIL := hid hnil
          clear hnil
          go_wp2_with fail
          refine (take_none w1.heap.size b vi _ (by have := HQi.out; rw [HNIL.out] at this; exact this)).mono ?_
          rintro e w4 ⟨rfl, g4⟩
          have HG4 := hid (HGi.out.trans' g4)
          clear g4
          go_wp2
          go_ret
          exact ⟨rfl, HG4.out.alloc _⟩
end Go.Proofs.Ytphohfafehjafaa.Ff
