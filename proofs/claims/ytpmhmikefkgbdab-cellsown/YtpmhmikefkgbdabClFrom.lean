/-
  What the program's From answers, of any log. Condition: it lies where it lies.
-/
import Derived.Test.YtpmhmikefkgbdabClReplay
import Derived.Test.YtpmhmikefkgbdabGnMap
namespace Go.Proofs.Ytpmhmikefkgbdab.Lt
open Go.RowKit Wd Go.MapKept
attribute [local go_sem ↓] Go.wp_at_zero Go.wp_at_succ

/-- the place of the last one ahead of i that wrote a cell, or -1 -/
def frm (l : List Ac) : Nat → Int → Int
  | 0, _ => -1
  | i + 1, c => match l[i]? with
    | some a => if a.w = true ∧ a.c = c then (i : Int) else frm l i c
    | none => frm l i c
theorem frm_succ {l : List Ac} {i : Nat} {a : Ac} (h : l[i]? = some a) (c : Int) : frm l (i + 1) c = if a.w = true ∧ a.c = c then (i : Int) else frm l i c := by
  rw [frm, h]
theorem frm_range (l : List Ac) : ∀ (i : Nat) (c : Int), -1 ≤ frm l i c ∧ frm l i c < (i : Int)
  | 0, c => by simp [frm]
  | i + 1, c => by
    have := frm_range l i c
    rw [frm]
    split
    · split
      · omega
      · omega
    · omega
/-- what From tells of the first n -/
def frs (l : List Ac) : Nat → List Int
  | 0 => []
  | n + 1 => frs l n ++ [match l[n]? with | some a => frm l n a.c | none => -1]
theorem frs_succ {l : List Ac} {n : Nat} {a : Ac} (h : l[n]? = some a) : frs l (n + 1) = frs l n ++ [frm l n a.c] := by rw [frs, h]
theorem frs_len (l : List Ac) : ∀ n, (frs l n).length = n
  | 0 => rfl
  | n + 1 => by rw [frs, List.length_append, frs_len l n]; rfl
theorem take_one' {α : Type} {xs : List α} {j : Nat} {a : α} (h : xs[j]? = some a) : xs.take (j + 1) = xs.take j ++ [a] := by
  rw [List.take_add_one, h]
  rfl
theorem take_set {xs : List Int} {j : Nat} (x : Int) (h : j < xs.length) : (xs.set j x).take (j + 1) = xs.take j ++ [x] := by
  rw [take_one' (List.getElem?_set_self h), List.take_set_of_le (Nat.le_refl _)]
/-- what the map knows -/
structure Mk (l : List Ac) (j : Nat) (M : List (Int × Int × Nat)) : Prop where
  nd : (M.map (·.1)).Nodup
  d : ∀ e, e ∈ M → e.2.1 = frm l j e.1 ∧ 0 ≤ e.2.1
  a : ∀ c, 0 ≤ frm l j c → ∃ e, e ∈ M ∧ e.1 = c
theorem Mk.nil (l : List Ac) : Mk l 0 [] := ⟨by simp, (fun _ h => by cases h), (fun c h => by simp [frm] at h)⟩
theorem Mk.stay {l : List Ac} {j : Nat} {M : List (Int × Int × Nat)} {a : Ac} (h : Mk l j M) (ha : l[j]? = some a) (hw : a.w = false) : Mk l (j + 1) M := by
  have e : ∀ c, frm l (j + 1) c = frm l j c := fun c => by rw [frm_succ ha, if_neg (by rw [hw]; simp)]
  exact ⟨h.nd, fun x hx => by rw [e]; exact h.d x hx, fun c hc => h.a c (by rw [← e]; exact hc)⟩
theorem Mk.add {l : List Ac} {j : Nat} {M : List (Int × Int × Nat)} {a : Ac} (h : Mk l j M) (ha : l[j]? = some a) (hw : a.w = true) (hn : ∀ e ∈ M, e.1 ≠ a.c) (k : Nat) : Mk l (j + 1) (M ++ [(a.c, (j : Int), k)]) := by
  refine ⟨?_, fun x hx => ?_, fun c hc => ?_⟩
  · rw [List.map_append, List.nodup_append]
    refine ⟨h.nd, by simp, fun x hx y hy => ?_⟩
    have e : y = a.c := by simpa using hy
    rw [e]
    obtain ⟨z, hz, rfl⟩ := List.mem_map.1 hx
    exact hn z hz
  · rw [frm_succ ha]
    rcases List.mem_append.1 hx with q | q
    · rw [if_neg (fun r => hn x q r.2.symm)]
      exact h.d x q
    · have e : x = (a.c, (j : Int), k) := by simpa using q
      rw [e, if_pos ⟨hw, rfl⟩]
      exact ⟨rfl, by simp⟩
  · rw [frm_succ ha] at hc
    by_cases q : a.w = true ∧ a.c = c
    · exact ⟨(a.c, (j : Int), k), by simp, q.2⟩
    · rw [if_neg q] at hc
      obtain ⟨e, he, h2⟩ := h.a c hc
      exact ⟨e, List.mem_append_left _ he, h2⟩
theorem Mk.set {l : List Ac} {j : Nat} {M : List (Int × Int × Nat)} {a : Ac} (h : Mk l j M) (ha : l[j]? = some a) (hw : a.w = true) {i : Nat} {v : Int} {t : Nat} (hi : M[i]? = some (a.c, v, t)) : Mk l (j + 1) (M.set i (a.c, (j : Int), t)) := by
  have hlt := (List.getElem?_eq_some_iff.1 hi).1
  refine ⟨?_, fun x hx => ?_, fun c hc => ?_⟩
  · rw [List.map_set]
    have e1 : (M.map (·.1)).set i a.c = M.map (·.1) := by
      apply List.ext_getElem?
      intro k
      rw [List.getElem?_set]
      split
      · rename_i q; subst q
        rw [List.getElem?_map, hi]
        simp [hlt]
      · rfl
    rw [e1]
    exact h.nd
  · rw [frm_succ ha]
    rcases set_mem hx with rfl | ⟨k, hk, h2⟩
    · rw [if_pos ⟨hw, rfl⟩]
      exact ⟨rfl, by simp⟩
    · obtain ⟨x1, x2, x3⟩ := x
      rw [if_neg (fun r => hk (one_key h.nd h2 hi r.2.symm))]
      exact h.d _ (List.mem_of_getElem? h2)
  · by_cases q : a.c = c
    · exact ⟨(a.c, (j : Int), t), List.mem_iff_getElem?.2 ⟨i, List.getElem?_set_self hlt⟩, q⟩
    · rw [frm_succ ha, if_neg (fun r => q r.2)] at hc
      obtain ⟨e, he, h2⟩ := h.a c hc
      obtain ⟨k, hk⟩ := List.mem_iff_getElem?.1 he
      refine ⟨e, List.mem_iff_getElem?.2 ⟨k, ?_⟩, h2⟩
      rw [List.getElem?_set_ne (fun r => ?_)]
      · exact hk
      · subst r
        rw [hi] at hk
        injection hk with hk
        rw [← hk] at h2
        exact q h2
theorem Mk.none {l : List Ac} {j : Nat} {M : List (Int × Int × Nat)} (h : Mk l j M) {c : Int} (hn : ∀ e ∈ M, e.1 ≠ c) : frm l j c = -1 := by
  have := frm_range l j c
  rcases (by omega : frm l j c = -1 ∨ 0 ≤ frm l j c) with q | q
  · exact q
  · obtain ⟨e, he, h2⟩ := h.a c q
    exact (hn e he h2).elim
theorem int_info : (Try.prog.info? 3).map (fun i => (i.zero, i.size, i.bytes)) = some (some (.int .i64 0), 1, 8) := by kernel_rfl
/-- what From leaves -/
def FrR (w : World) (l : List Ac) (M : Nat) (e : Ending) (w' : World) : Prop := ∃ ao cap, e = .returned (.slice ao M cap) ∧ Ow eI 1 3 w.heap.size w' (.slice ao M cap) (frs l M) ∧ Gr w w'
set_option maxHeartbeats 4000000 in
set_option maxRecDepth 20000 in
theorem from_any (Q : Nat → Prop) (w : World) (vl : Value) (l : List Ac) (M : Nat) (hM : M = l.length) (hl : Ls eA Q w vl l) (hln : l.length ≤ 4398046511104) : Calls Try.prog 18 #[vl] w (FrR w l M) := by
  obtain ⟨aol, capl, rfl⟩ := hl.form
  rw [← hM] at hl hln ⊢
  obtain ⟨i0, hi, hz0, hz1, hz2⟩ := info_parts int_info
  have HL := hid hl
  have HM := hid hM
  clear hl hM
  have hmm := @run_makeMap Try.prog
  go_enter Try.func18, Try.ntmps18
  go_wp2_with (first | (at_make; refine wpList_make_full _ rfl _ _ 51 rfl w.heap.size 3 i0 _ 1 Try.underlying51 hi hz0 hz1 _ _ _ _ M rfl rfl (by omega) (by omega) (by rw [hz2]; omega) (by unfold maxLen; omega) (by simp) ?_; intro w1 hown hgrow; have ho : Ow eI 1 3 w.heap.size w1 (.slice (some ⟨w.heap.size, 0, none⟩) M M) (List.replicate M 0) := (by have h2 := toList_madeCells_one (.int .i64 0) M; rw [Nat.mul_one] at hown; unfold Ow; rw [List.length_replicate, zeros_cells, ← h2]; exact hown); have HG1 := hid (show Gr w w1 from (Ch.refl NoB w).grown hgrow (fun k hk => by cases hk)); have HO1 := hid ho; have hb1 := (ho.blk (q := w.heap.size) rfl).2; clear ho hown hgrow))
  go_loopg [15] M (fun q i wr => ∃ (j : Nat) (xs : List Int) (Mm : List (Int × Int × Nat)) (clk : Nat), j + q = M ∧ i = .int .i64 (j : Int) ∧ xs.length = M ∧ xs.take j = frs l j ∧ Ow eI 1 3 w.heap.size wr (.slice (some ⟨w.heap.size, 0, none⟩) M M) xs ∧ MAt wr w1.heap.size Mm clk ∧ Mk l j Mm ∧ Gr w wr)
  case atStart => exact ⟨0, _, [], 0, by omega, rfl, List.length_replicate, rfl, HO1.out.alloc _, al_at _ rfl, Mk.nil l, Ch.alloc HG1.out _⟩
  case round =>
    obtain ⟨j, xs, Mm, clk, hjk, rfl, hxn, hxt, ho, hm, hk, hg⟩ := hrel
    have HXN := hid hxn
    have HXT := hid hxt
    have HO := hid ho
    have HMM := hid hm
    have HK := hid hk
    have HG := hid hg
    have hkl := hm.lt
    clear hxn hxt ho hm hk hg
    by_cases hj : j < M
    · obtain ⟨⟨ac, ak, ab, aa, aw⟩, ha⟩ : ∃ a, l[j]? = some a := ⟨_, List.getElem?_eq_getElem (by rw [← HM.out]; exact hj)⟩
      obtain ⟨g, oo, cap1, e1, -, hgl, -, d⟩ := (HL.out.gr HG.out).get eA_len ha
      injection e1 with e1 h1 h2
      subst e1
      have d0 := d 0 _ rfl
      have d1 := d 1 _ rfl
      have d2 := d 2 _ rfl
      have d3 := d 3 _ rfl
      have d4 := d 4 _ rfl
      simp only [Nat.add_zero] at d0 d1 d2 d3 d4
      have j0 : (0 : Int) ≤ (j : Int) := by omega
      have j1 : (j : Int) < (M : Int) := by omega
      have HAJ := hid ha
      have hxj : j < xs.length := by rw [HXN.out]; exact hj
      obtain ⟨gn, cap2, hv2, _, hgl2, _, hc2, hf2, hs2⟩ := HO.out.get eI_len (inC_get hxj)
      injection hv2 with y1 y2 y3
      injection y1 with y1
      injection y1 with y1
      subst y1
      have c2 := hc2 0 _ rfl
      have f2 := hf2 j
      have HS2 := hid (fun (x : Int) => hs2 0 (.int .i64 x) x (by omega) rfl)
      simp only [Nat.mul_one, Nat.add_zero] at c2 HS2
      clear d h1 h2 ha hc2 hf2 hs2 y2 y3
      obtain ⟨A5, hA5⟩ : ∃ A5 : Array Value, A5 = #[.int .i64 ac, .int .i64 ak, .int .i64 ab, .int .i64 aa, .bool aw] := ⟨_, rfl⟩
      have KS := hid (fun (x : Int) => (Ch.refl (Only w.heap.size) wr).own j (.int .i64 x))
      have KS2 := hid (fun (x : Int) => (KS.out (-1)).own j (.int .i64 x))
      have HM2 := hid ((HMM.out.ch (KS.out (-1)) (fun e => by have e1 : w1.heap.size = w.heap.size := e; omega)).ch (S := NoB) (Ch.alloc (Ch.refl _ _) (.cells A5 28)) (noB _))
      have HM3 := hid (fun (x : Int) => (HMM.out.ch (KS2.out x) (fun e => by have e1 : w1.heap.size = w.heap.size := e; omega)).ch (S := NoB) (Ch.alloc (Ch.refl _ _) (.cells A5 28)) (noB _))
      have HG2 := hid (show Gr w ((wr.setCell ⟨w.heap.size, j, none⟩ (.int .i64 (-1))).alloc (.cells A5 28)) from Ch.alloc (Ch.trans HG.out (KS.out (-1)) (fun q e => .inr (by have e1 : q = w.heap.size := e; omega))) _)
      have HG3 := hid (fun (x : Int) => show Gr w (((wr.setCell ⟨w.heap.size, j, none⟩ (.int .i64 (-1))).setCell ⟨w.heap.size, j, none⟩ (.int .i64 x)).alloc (.cells A5 28)) from Ch.alloc (Ch.trans HG.out (KS2.out x) (fun q e => .inr (by have e1 : q = w.heap.size := e; omega))) _)
      have HO2 := hid ((HS2.out (-1)).alloc (.cells A5 28))
      have HO3 := hid (fun (x : Int) => (show Ow eI 1 3 w.heap.size ((wr.setCell ⟨w.heap.size, j, none⟩ (.int .i64 (-1))).setCell ⟨w.heap.size, j, none⟩ (.int .i64 x)) (.slice (some ⟨w.heap.size, 0, none⟩) M M) ((xs.set j (-1)).set j x) from (by
        obtain ⟨gn, cap2, hv2, _, _, _, _, _, hs2⟩ := (HS2.out (-1)).get eI_len (inC_get (vs := xs.set j (-1)) (j := j) (by rw [List.length_set]; exact hxj))
        injection hv2 with y1 y2 y3
        injection y1 with y1
        injection y1 with y1
        subst y1
        have := hs2 0 (.int .i64 x) x (by omega) rfl
        simpa only [Nat.mul_one, Nat.add_zero] using this)).alloc (.cells A5 28))
      rw [hA5] at HM2 HG2 HO2 HM3 HG3 HO3
      clear hA5
      rcases look_M HM2.out ac with ⟨hlk, hno⟩ | ⟨i, v, t, hmi, hlk⟩
      · have HNO := hid hno
        have HFR := hid (show frm l j ac = -1 from HK.out.none hno)
        have HXE := hid (show (xs.set j (-1)).take (j + 1) = frs l (j + 1) from by rw [take_set _ hxj, HXT.out, frs_succ HAJ.out, HFR.out])
        clear hno
        cases aw with
        | false =>
          go_wp2
          go_roundg (gk - 1)
          case measure => omega
          case rel => exact ⟨j + 1, _, _, _, by omega, by simp, (List.length_set).trans HXN.out, HXE.out, HO2.out, HM2.out, HK.out.stay HAJ.out rfl, HG2.out⟩
        | true =>
          have hup := update_new HM2.out HNO.out (j : Int)
          go_wp2
          go_roundg (gk - 1)
          case measure => omega
          case rel => exact ⟨j + 1, _, _, _, by omega, by simp, (List.length_set).trans HXN.out, HXE.out, HO2.out.ch (putM_ch _ _ _ _) (fun q hq e => by have e1 : q = w1.heap.size := e; have e2 : some w.heap.size = some q := hq; injection e2 with e2; omega), putM_at HM2.out.lt _ _, HK.out.add HAJ.out rfl HNO.out _, Ch.trans HG2.out (putM_ch _ _ _ _) (fun q e => .inr (by have e1 : q = w1.heap.size := e; have := HG1.out.size; omega))⟩
      · have HMI := hid hmi
        have hvd := HK.out.d _ (List.mem_of_getElem? hmi)
        have HXE := hid (show ((xs.set j (-1)).set j v).take (j + 1) = frs l (j + 1) from by
          rw [take_set _ (by rw [List.length_set]; exact hxj), List.take_set_of_le (Nat.le_refl _), HXT.out, frs_succ HAJ.out]
          simp only at hvd
          rw [← hvd.1])
        clear hmi hvd
        cases aw with
        | false =>
          go_wp2
          go_roundg (gk - 1)
          case measure => omega
          case rel => exact ⟨j + 1, _, _, _, by omega, by simp, (by rw [List.length_set, List.length_set]; exact HXN.out), HXE.out, HO3.out v, HM3.out v, HK.out.stay HAJ.out rfl, HG3.out v⟩
        | true =>
          have hup := update_some (HM3.out v) HK.out.nd HMI.out (j : Int)
          go_wp2
          go_roundg (gk - 1)
          case measure => omega
          case rel => exact ⟨j + 1, _, _, _, by omega, by simp, (by rw [List.length_set, List.length_set]; exact HXN.out), HXE.out, (HO3.out v).ch (putM_ch _ _ _ _) (fun q hq e => by have e1 : q = w1.heap.size := e; have e2 : some w.heap.size = some q := hq; injection e2 with e2; omega), putM_at (HM3.out v).lt _ _, HK.out.set HAJ.out rfl HMI.out, Ch.trans (HG3.out v) (putM_ch _ _ _ _) (fun q e => .inr (by have e1 : q = w1.heap.size := e; have := HG1.out.size; omega))⟩
    · have jn : ¬ (j : Int) < (M : Int) := by omega
      have HE := hid (show xs = frs l M from by
        have := HXT.out
        have e : j = M := by omega
        rw [e, ← HXN.out, List.take_length] at this
        rw [HXN.out] at this
        exact this)
      go_wp2
      go_ret
      exact ⟨_, _, rfl, HE.out ▸ HO.out, HG.out⟩
end Go.Proofs.Ytpmhmikefkgbdab.Lt
