/-
  What the document's Draws answers at any list. Condition: the list is not too long.
-/
import Derived.Test.YtalmiphddgmfbaaChDrw
import Derived.Test.YtalmiphddgmfbaaGnRegion
namespace Go.Proofs.Ytalmiphddgmfbaa.Lt
open Go.RowKit Wd
attribute [local go_sem ↓] Go.wp_at_zero Go.wp_at_succ

theorem rdraws_many (ao : Option Addr) (n cap : Nat) (w : World) (h : 16 < n) : Calls Try.prog 14 #[.slice ao n cap] w fun e w' => e = .returned (.tuple #[.slice none 0 0, .int .i64 1]) ∧ w' = w := by
  have d1 : (16 : Int) < (n : Int) := by omega
  go_enter Try.func14, Try.ntmps14
  go_wp2
  exact bodyPost_ret (v := .tuple #[.slice none 0 0, .int .i64 1]) (by simp [results, Try.results14, go_sem]) rfl ⟨rfl, rfl⟩
open Classical in
theorem rdraws_not (P : Nat → Prop) (w : World) (ao : Option Addr) (n cap : Nat) (xs : List Int) (h : Ls eI P w (.slice ao n cap) xs) (hn : n ≤ 16) (hx : ¬ All xs) : Calls Try.prog 14 #[.slice ao n cap] w fun e w' => e = .returned (.tuple #[.slice none 0 0, .int .i64 121]) ∧ w' = w := by
  have d1 : ¬ (16 : Int) < (n : Int) := by omega
  have HE := hid (ris12_any P w ao n cap xs h (by omega))
  rw [decide_eq_false hx] at HE
  clear h hx
  go_enter Try.func14, Try.ntmps14
  go_wp2_with (go_at_call 36; refine HE.out.mono ?_; rintro e w1 ⟨rfl, rfl⟩)
  exact bodyPost_ret (v := .tuple #[.slice none 0 0, .int .i64 121]) (by simp [results, Try.results14, go_sem]) rfl ⟨rfl, rfl⟩
/-- where a number was found among the first ones -/
def fnd (L : List Int) (x : Int) (j : Nat) : Int := if x ∈ L.take j then ((L.idxOf x : Nat) : Int) else 0
theorem idx_nodup {L : List Int} (h : L.Nodup) {j : Nat} {x : Int} (hx : L[j]? = some x) : L.idxOf x = j := by
  have h4 : L.idxOf x < L.length := List.idxOf_lt_length_of_mem (List.mem_of_getElem? hx)
  exact (List.getElem?_inj h4 h).1 (by rw [hx, List.getElem?_eq_getElem h4, List.getElem_idxOf h4])
theorem fnd_yes {L : List Int} (h : L.Nodup) {j : Nat} {x : Int} (hx : L[j]? = some x) : fnd L x (j + 1) = (j : Int) := by
  unfold fnd
  rw [if_pos (by rw [take_one hx]; simp), idx_nodup h hx]
theorem fnd_no {L : List Int} {j : Nat} {x y : Int} (hx : L[j]? = some y) (hy : y ≠ x) : fnd L x (j + 1) = fnd L x j := by
  unfold fnd
  have : x ∈ L.take (j + 1) ↔ x ∈ L.take j := by
    rw [take_one hx, List.mem_append]
    simp
    exact fun e => (hy e.symm).elim
  simp only [this]
theorem fnd_end {L : List Int} {k : Nat} (h : L.length = k + 1) {x : Int} (hx : x ∈ L) : fnd L x (k + 1) = ((L.idxOf x : Nat) : Int) := by
  unfold fnd
  rw [List.take_of_length_le (by omega), if_pos hx]
theorem un_rest {L G : List Int} {k jj : Nat} {y : Int} (h : L.length = k + 1) (hj : jj < k + 1) : ∃ y', (L ++ G).set jj y = (L.set jj y).take k ++ (y' :: G) := by
  obtain ⟨z, hz⟩ : ∃ z, (L.set jj y)[k]? = some z := ⟨_, List.getElem?_eq_getElem (by rw [List.length_set]; omega)⟩
  refine ⟨z, ?_⟩
  rw [List.set_append_left _ _ (by omega)]
  have e : L.set jj y = (L.set jj y).take k ++ [z] := by
    have := take_one hz
    rw [List.take_of_length_le (by rw [List.length_set]; omega)] at this
    exact this
  conv => lhs; rw [e]
  simp
set_option maxRecDepth 20000 in
open Classical in
set_option maxHeartbeats 8000000 in
theorem rdraws_ok (P : Nat → Prop) (w : World) (ao : Option Addr) (n cap : Nat) (xs : List Int) (h : Ls eI P w (.slice ao n cap) xs) (hn : n ≤ 16) (hx : All xs) : Calls Try.prog 14 #[.slice ao n cap] w (DrR w n (drs xs)) := by
  have d1 : ¬ (16 : Int) < (n : Int) := by omega
  have HE := hid (ris12_any P w ao n cap xs h (by omega))
  rw [decide_eq_true hx] at HE
  have HL := hid h.len.1
  have HB := hid h
  have HA := hid hx
  obtain ⟨i0, hi, hz0, hz1, hz2⟩ := info_parts u64_info
  clear h hx
  go_enter Try.func14, Try.ntmps14
  go_wp2_with (first
    | (go_at_call 36; refine HE.out.mono ?_; rintro e w1 ⟨rfl, hw1⟩; obtain rfl := hw1.symm; clear hw1)
    | (at_builtin; refine wpList_append_ow eI_len rfl (.tmp 16) (.tmp 17) _ 3 8 _ Try.underlying23 int_info rfl (by omega) rfl w.heap.size _ [] rfl (Ow.nil _ _ _ _ _) P _ xs rfl HB.out (eI_one _) n (by have := HL.out; simpa using this) (by omega) (by unfold maxLen; omega) (Nat.le_refl _) xs rfl ?_; intro al cl w5 ow5 cw5 bl5; have O5 := hid ow5; have G5 := hid (show Gr w w5 from cw5.mono (fun q hq => by cases hq)); clear ow5 cw5 bl5)
    | (at_make; refine wpList_make_full _ rfl _ _ 22 rfl w.heap.size 34 i0 _ 1 Try.underlying22 hi hz0 hz1 _ _ _ _ n rfl rfl (by omega) (by omega) (by rw [hz2]; omega) (by unfold maxLen; omega) G5.out.size ?_; intro w6 hown hgrow; have ho : Ow eU 1 34 w.heap.size w6 (.slice (some ⟨w5.heap.size, 0, none⟩) n n) (List.replicate n 0) := (by have h2 := toList_madeCells_one (.int .u64 0) n; rw [Nat.mul_one] at hown; unfold Ow; rw [List.length_replicate, zerosU_cells, ← h2]; exact hown); have g6 : Gr w5 w6 := (Ch.refl NoB w5).grown hgrow (fun k hk => by cases hk); have MX := hid (show DwM w n xs al cl w5.heap.size w6 from ⟨O5.out.gr g6, ho, fun q hq e => by have := (O5.out.blk hq).2; omega, Gr.trans G5.out g6⟩); clear ho hown hgrow g6))
  generalize w5.heap.size = gd at MX ⊢
  clear O5 G5 HE hi hz0 hz1 hz2
  go_loopg [7] n (fun q v7 wr => ∃ (L G R : List Int) (v : Int), L.length = q ∧ R.length + q = n ∧ G.length + q = n ∧ v7 = .int .i64 v ∧ v = (q : Int) - 1 ∧ All L ∧ drs xs = drs L ++ R ∧ Ow eI 1 3 w.heap.size wr (.slice al n cl) (L ++ G) ∧ Ow eU 1 34 w.heap.size wr (.slice (some ⟨gd, 0, none⟩) n n) (List.replicate q 0 ++ R) ∧ Gr w wr)
  case atStart => exact ⟨xs, [], [], _, HL.out.symm, by simp, by simp, rfl, by simp, HA.out, by simp, by rw [List.append_nil]; exact MX.out.l, by rw [List.append_nil]; exact MX.out.d, MX.out.g⟩
  case round =>
    obtain ⟨L, G, R, v, hL, hR, hGl, rfl, hv, hA, hD, hO, hU, hG⟩ := hrel
    by_cases h0 : gk = 0
    · subst h0
      obtain rfl : v = -1 := by omega
      have HF := hid (show Ow eU 1 34 w.heap.size wr (.slice (some ⟨gd, 0, none⟩) n n) (drs xs) from by
        rw [hD, show drs L = [] from List.eq_nil_of_length_eq_zero (by rw [drs_len]; exact hL)]
        exact hU)
      have HG := hid hG
      clear hL hR hGl hv hA hD hO hU hG
      go_wp2
      exact bodyPost_ret (v := .tuple #[.slice (some ⟨gd, 0, none⟩) n n, .int .i64 0]) (by simp [results, Try.results14, go_sem]) rfl ⟨_, _, rfl, HF.out, HG.out⟩
    · obtain ⟨k, rfl⟩ : ∃ k, gk = k + 1 := ⟨gk - 1, by omega⟩
      obtain rfl : v = (k : Int) := by omega
      obtain ⟨gl, rfl, hgl⟩ := MX.out.l.some1 (by omega)
      have ne1 : gl ≠ gd := MX.out.n gl rfl
      have hkn : k + 1 ≤ n := by omega
      have hm := hA k (by omega)
      have HND := hid hA.nodup
      have HFE := hid (fnd_end hL hm)
      have hjj := List.idxOf_lt_length_of_mem hm
      rw [hL] at hjj
      have HST := hid (drs_step hL)
      have HUN := hid (show un L = (L.set (L.idxOf (k : Int)) (L.getD k 0)).take k from by unfold un; rw [hL, Nat.add_sub_cancel, show (((k + 1 : Nat) : Int) - 1) = (k : Int) by omega])
      have HUA := hid (un_all hA)
      have HD := hid hD
      have HLL := hid hL
      have HRR := hid hR
      have HGG := hid hGl
      have HO := hid hO
      have HU := hid (show Ow eU 1 34 w.heap.size wr (.slice (some ⟨gd, 0, none⟩) n n) (List.replicate k 0 ++ (fnd L (k : Int) 0 :: R)) from by
        have e : List.replicate (k + 1) (0 : Int) ++ R = List.replicate k 0 ++ (fnd L (k : Int) 0 :: R) := by
          rw [List.replicate_succ', List.append_assoc]
          rfl
        rw [e] at hU
        exact hU)
      have HG := hid hG
      generalize L.idxOf (k : Int) = jj at hjj HST HUN HFE
      have k0 : (0 : Int) ≤ (k : Int) := by omega
      have k2 : (k : Int) < (n : Int) := by omega
      clear hL hR hv hA hD hO hU hG hm hGl
      go_wp2_with fail
      go_loopg [8] (k + 1) (fun q v8 wq => ∃ (j : Nat), j + q = k + 1 ∧ v8 = .int .i64 (j : Int) ∧ Ow eI 1 3 w.heap.size wq (.slice (some ⟨gl, 0, none⟩) n cl) (L ++ G) ∧ Ow eU 1 34 w.heap.size wq (.slice (some ⟨gd, 0, none⟩) n n) (List.replicate k 0 ++ (fnd L (k : Int) j :: R)) ∧ Gr w wq)
      case atStart => exact ⟨0, by omega, rfl, HO.out, HU.out, HG.out⟩
      case round =>
        clear HO HU HG
        obtain ⟨j, hjk, rfl, hO, hU, hG⟩ := hrel
        have HG := hid hG
        have HO := hid hO
        have HU := hid hU
        by_cases hj : j < k + 1
        · obtain ⟨y, hy⟩ : ∃ y, L[j]? = some y := ⟨_, List.getElem?_eq_getElem (by have := HLL.out; omega)⟩
          obtain ⟨c1, g1, f1, -⟩ := hO.at1 (i := j) (x := y) (by rw [List.getElem?_append_left (by have := HLL.out; omega)]; exact hy)
          have j0 : (0 : Int) ≤ (j : Int) := by omega
          have j1 : (j : Int) < (n : Int) := by omega
          have j2 : (j : Int) ≤ (k : Int) := by omega
          by_cases e : y = (k : Int)
          · subst e
            obtain ⟨c2, g2, f2, s2⟩ := hU.at1U (i := k) (x := fnd L (k : Int) j) (by rw [List.getElem?_append_right (by simp)]; simp)
            have HU2 := hid (show Ow eU 1 34 w.heap.size _ (.slice (some ⟨gd, 0, none⟩) n n) (List.replicate k 0 ++ (fnd L (k : Int) (j + 1) :: R)) from by
              have := s2 (j : Int)
              rw [List.set_append_right _ _ (by simp), List.length_replicate, Nat.sub_self, List.set_cons_zero] at this
              rw [fnd_yes HND.out hy]
              exact this)
            have HO2 := hid (show Ow eI 1 3 w.heap.size (wr.setCell ⟨gd, k, none⟩ (.int .u64 (j : Int))) (.slice (some ⟨gl, 0, none⟩) n cl) (L ++ G) from hO.ch (Ch.own (Ch.refl (Only gd) wr) _ _) (fun q hq e => by have e1 : some gl = some q := hq; have e2 := Option.some.inj e1; have e3 : q = gd := e; omega))
            have HG2 := hid (show Gr w (wr.setCell ⟨gd, k, none⟩ (.int .u64 (j : Int))) from Ch.fresh hG (hU.blk (q := gd) rfl).1 _ _)
            clear hO hU hG hy s2 HG HO HU
            generalize fnd L (k : Int) j = x at c2
            go_wp2
            go_roundg (gk - 1)
            case measure => omega
            case rel => exact ⟨j + 1, by omega, by simp, HO2.out, HU2.out, HG2.out⟩
          · have HF := hid (fnd_no hy e)
            have e1 : (y == (k : Int)) = false := by simpa using e
            clear hO hU hG hy e
            go_wp2
            go_roundg (gk - 1)
            case measure => omega
            case rel => exact ⟨j + 1, by omega, by simp, HO.out, by rw [HF.out]; exact HU.out, HG.out⟩
        · obtain rfl : j = k + 1 := by omega
          have jn : ¬ (((k + 1 : Nat) : Int) ≤ (k : Int)) := by omega
          rw [HFE.out] at hU HU
          obtain ⟨y, hy⟩ : ∃ y, L[k]? = some y := ⟨_, List.getElem?_eq_getElem (by have := HLL.out; omega)⟩
          obtain ⟨z, hz⟩ : ∃ y, L[jj]? = some y := ⟨_, List.getElem?_eq_getElem (by have := HLL.out; omega)⟩
          have hgy : L.getD k 0 = y := by rw [List.getD_eq_getElem?_getD, hy]; rfl
          rw [hgy] at HUN
          obtain ⟨c1, g1, f1, -⟩ := hU.at1U (i := k) (x := (jj : Int)) (by rw [List.getElem?_append_right (by simp)]; simp)
          obtain ⟨c2, g2, f2, -⟩ := hO.at1 (i := k) (x := y) (by rw [List.getElem?_append_left (by have := HLL.out; omega)]; exact hy)
          obtain ⟨c3, -, f3, s3⟩ := hO.at1 (i := jj) (x := z) (by rw [List.getElem?_append_left (by have := HLL.out; omega)]; exact hz)
          obtain ⟨y', hun⟩ := un_rest (G := G) (y := y) HLL.out hjj
          have HO2 := hid (show Ow eI 1 3 w.heap.size (wr.setCell ⟨gl, jj, none⟩ (.int .i64 y)) (.slice (some ⟨gl, 0, none⟩) n cl) (un L ++ (y' :: G)) from by
            have := s3 y
            rw [hun] at this
            rw [HUN.out]
            exact this)
          have HU2 := hid (show Ow eU 1 34 w.heap.size (wr.setCell ⟨gl, jj, none⟩ (.int .i64 y)) (.slice (some ⟨gd, 0, none⟩) n n) (List.replicate k 0 ++ ((jj : Int) :: R)) from hU.ch (Ch.own (Ch.refl (Only gl) wr) _ _) (fun q hq e => by have e1 : some gd = some q := hq; have e2 := Option.some.inj e1; have e3 : q = gl := e; omega))
          have HG2 := hid (show Gr w (wr.setCell ⟨gl, jj, none⟩ (.int .i64 y)) from Ch.fresh hG (hO.blk (q := gl) rfl).1 _ _)
          have l0 : (0 : Int) ≤ (jj : Int) := by omega
          have l1 : (jj : Int) < (n : Int) := by omega
          clear hO hU hG hy hz hgy s3 hun HO HU HG HFE
          go_wp2_with fail
          go_region
          all_goals go_wp2
          all_goals go_roundg k
          all_goals first | omega | skip
          all_goals exact ⟨un L, y' :: G, (jj : Int) :: R, (k : Int) - 1, by rw [un_len, HLL.out]; omega, by rw [List.length_cons]; have := HRR.out; omega, by rw [List.length_cons]; have := HGG.out; omega, by simp, rfl, HUA.out, by rw [HD.out, HST.out]; simp, HO2.out, HU2.out, Ch.drew HG2.out⟩
end Go.Proofs.Ytalmiphddgmfbaa.Lt
