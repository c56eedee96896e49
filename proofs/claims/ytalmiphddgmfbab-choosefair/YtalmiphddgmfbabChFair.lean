/-
  What ChooseFair of the statements answers: true, at any two small numbers and any goroutine. Condition: a goroutine's numbers are ints.
-/
import Derived.Test.YtalmiphddgmfbabChAwake
import Derived.Test.YtalmiphddgmfbabChDrw
import Derived.Deep.Cut
namespace Go.Proofs.Ytalmiphddgmfbab.Lt
open Go.RowKit Wd
attribute [local go_sem ↓] Go.wp_at_zero Go.wp_at_succ

theorem pck_info : (Try.prog.info? 39).map (fun i => (i.zero, i.size, i.bytes)) = some (some (.agg #[.bool false, .int .i64 0, .int .i64 0]), 3, 24) := by kernel_rfl
theorem wrapI (x : Int) (h : -9223372036854775808 ≤ x ∧ x ≤ 9223372036854775807) : wrap64 x = x := by unfold wrap64; omega
theorem wrap_small (n : Nat) (h : n ≤ 1000) : wrap64 (n : Int) = (n : Int) := wrapI _ ⟨by omega, by omega⟩
/-- so many cases: each sends into a channel of its own -/
def fps (j : Nat) : List Pk := (List.range j).map (fun i => ⟨true, ((i + 1 : Nat) : Int), (i : Int)⟩)
def fcs (j : Nat) : List Cn := List.replicate j ⟨1, [], [], [], false⟩
theorem fps_snoc (j : Nat) : fps (j + 1) = fps j ++ [⟨true, ((j + 1 : Nat) : Int), (j : Int)⟩] := by simp [fps, List.range_succ]
theorem fps_len (j : Nat) : (fps j).length = j := by simp [fps]
theorem fcs_len (j : Nat) : (fcs j).length = j := by simp [fcs]
theorem fcs_snoc (j : Nat) : fcs (j + 1) = fcs j ++ [⟨1, [], [], [], false⟩] := by simp [fcs, List.replicate_succ']
theorem fps_get {j k : Nat} (h : k < j) : (fps j)[k]? = some ⟨true, (k : Int) + 1, (k : Int)⟩ := by simp [fps, h]
theorem fcs_get {j k : Nat} (h : k < j) : (fcs j)[k]? = some ⟨1, [], [], [], false⟩ := by simp [fcs, h]
theorem fcs_pls (j : Nat) (s g : Int) : pls (fcs j) s g = 0 := by
  induction j with
  | zero => rfl
  | succ j ih =>
    unfold pls at ih ⊢
    rw [fcs_snoc, List.map_append, List.sum_append, ih]
    rfl
/-- the one first, then the others below j -/
def fos (k j : Nat) : List Int := (k : Int) :: ((List.range j).filter (fun i => i != k)).map (fun i : Nat => (i : Int))
theorem fos_yes {k j : Nat} (h : j ≠ k) : fos k (j + 1) = fos k j ++ [(j : Int)] := by
  have e : (j != k) = true := by simpa using h
  unfold fos
  rw [List.range_succ, List.filter_append]
  simp [List.filter, e]
theorem fos_no (k : Nat) : fos k (k + 1) = fos k k := by
  unfold fos
  rw [List.range_succ, List.filter_append]
  simp [List.filter]
theorem fos_mem {k j : Nat} {x : Int} (hk : k < j) : x ∈ fos k j ↔ 0 ≤ x ∧ x < (j : Int) := by
  unfold fos
  simp only [List.mem_cons, List.mem_map, List.mem_filter, List.mem_range]
  constructor
  · rintro (h | ⟨i, ⟨h1, _⟩, h3⟩)
    · omega
    · omega
  · intro h
    by_cases e : x = (k : Int)
    · exact .inl e
    · exact .inr ⟨x.toNat, ⟨by omega, by simp; omega⟩, by omega⟩
theorem fos_len {k : Nat} : ∀ {j : Nat}, (fos k j).length = if k < j then j else j + 1
  | 0 => by simp [fos]
  | j + 1 => by
    have ih := @fos_len k j
    by_cases h : j = k
    · subst h
      rw [fos_no, ih, if_neg (by omega), if_pos (by omega)]
    · rw [fos_yes h, List.length_append, ih]
      by_cases h1 : k < j
      · rw [if_pos h1, if_pos (by omega)]; rfl
      · rw [if_neg h1, if_neg (by omega)]; rfl
theorem fos_all {k j : Nat} (h : k < j) : All (fos k j) := by
  intro n hn
  rw [fos_len, if_pos h] at hn
  exact (fos_mem h).2 (by omega)
theorem gz_f {j k : Nat} (h : k < j) : gzc (fcs j) ((k : Int) + 1) true = true := by
  unfold gzc
  rw [if_pos (by omega), show ((k : Int) + 1 - 1).toNat = k by omega, fcs_get h]
  rfl
theorem tz_f {j : Nat} : (fps j).all (fun p => tzc (fcs j) p.ch == 0) = true := by
  rw [List.all_eq_true]
  intro p hp
  unfold fps at hp
  obtain ⟨i, hi, rfl⟩ := List.mem_map.1 hp
  rw [List.mem_range] at hi
  have : tzc (fcs j) ((i + 1 : Nat) : Int) = 0 := by unfold tzc; rw [fcs_len, if_pos (by omega)]
  show (tzc (fcs j) ((i + 1 : Nat) : Int) == 0) = true
  rw [this]
  rfl
theorem fst_f {j k : Nat} (h : k < j) : fst1 (gzc (fcs j)) (fps j) (fos k j) = (k : Int) := by
  unfold fst1 fos
  rw [List.find?_cons]
  have e : ((k : Int)).toNat = k := by omega
  rw [e, fps_get h]
  simp [gz_f h]
theorem sml_dok {l : List Int} (h : l.length ≤ 16) (hA : All l) : Dok (drs l) := by
  intro d hd
  have key : ∀ (n : Nat) (l : List Int), l.length = n → All l → ∀ d ∈ drw n l, 0 ≤ d ∧ d < (n : Int) := by
    intro n
    induction n with
    | zero => intro l _ _ d hd; simp [drw] at hd
    | succ n ih =>
      intro l hl hA d hd
      rw [drw, List.mem_append] at hd
      rcases hd with hd | hd
      · have := ih (un l) (by rw [un_len]; omega) (un_all hA) d hd
        omega
      · simp only [List.mem_cons, List.not_mem_nil, or_false] at hd
        have hm := hA n (by omega)
        rw [show ((l.length : Int) - 1) = (n : Int) by omega] at hd
        have := List.idxOf_lt_length_of_mem hm
        omega
  have := key _ l rfl hA d hd
  omega
set_option maxRecDepth 20000 in
set_option maxHeartbeats 8000000 in
theorem fair_law (a f : Nat) (ha : a ≤ 255) (hf : f ≤ 255) (s g : Int) (hg : Gok s g) (w : World) : Calls Try.prog 4 #[.int .u8 (a : Int), .int .u8 (f : Int), .agg #[.int .i64 s, .int .i64 g]] w fun e w' => e = .returned (.bool true) ∧ Gr w w' := by
  obtain ⟨n, hn⟩ : ∃ n, n = a % 16 + 1 := ⟨_, rfl⟩
  obtain ⟨k, hk⟩ : ∃ k, k = f % n := ⟨_, rfl⟩
  have hkn : k < n := by rw [hk]; exact Nat.mod_lt _ (by omega)
  have hn16 : n ≤ 16 := by have := Nat.mod_lt a (show 0 < 16 by omega); omega
  have wa : wrap64 (a : Int) = (a : Int) := wrap_small a (by omega)
  have wf : wrap64 (f : Int) = (f : Int) := wrap_small f (by omega)
  have wn : wrap64 (n : Int) = (n : Int) := wrap_small n (by omega)
  have m3 : (a : Int) % 16 + 1 = (n : Int) := by rw [hn]; simp
  have m4 : (f : Int) % (n : Int) = (k : Int) := by rw [hk]; simp
  have n0 : ((n : Int) == 0) = false := by simpa using (show (n : Int) ≠ 0 by omega)
  have n00 : (n : Int) ≠ 0 := by omega
  have a0 : (0 : Int) ≤ (a : Int) := by omega
  have f0 : (0 : Int) ≤ (f : Int) := by omega
  have HG := hid hg
  obtain ⟨W0, hW0⟩ : ∃ W0, W0 = w.alloc (.cells #[.int .i64 s, .int .i64 g] 24) := ⟨_, rfl⟩
  have G0 := hid (show Gr w W0 from by rw [hW0]; exact Ch.alloc (Gr.refl w) _)
  have B0 := hid (show W0.heap[w.heap.size]? = some (.cells #[.int .i64 s, .int .i64 g] 24 (0, 0)) from by rw [hW0]; exact (MapKept.heap_alloc w _).1)
  have HNW := hid (new_any W0)
  have HK := hid hkn
  have HN := hid hn16
  rw [hW0] at HNW
  clear hk hn hg hkn hn16 ha hf
  go_enter Try.func4, Try.ntmps4
  go_wp2_with (first
    | (go_at_call 12; refine HNW.out.mono ?_; rintro e w1 ⟨b, t1, rfl, c1, g1, z1⟩; rw [← hW0] at g1 z1; have C1 := hid c1; have G1 := hid g1; have Z1 := hid z1; clear c1 g1 z1))
  have HW0 := hid hW0
  clear hW0
  go_loopg [9, 11] n (fun q v9 v11 wr => ∃ (j : Nat) (aa : Option Addr) (c : Nat) (t : Nat → Tg), j + q = n ∧ v11 = .int .i64 (j : Int) ∧ v9 = .slice aa j c ∧ Cs t wr b (fcs j) ∧ (∀ q, q < W0.heap.size → t q = .no) ∧ Ow eP 3 39 W0.heap.size wr (.slice aa j c) (fps j) ∧ (∀ q, Blk (.slice aa j c) q → t q = .no) ∧ Gr W0 wr)
  case atStart => exact ⟨0, none, 0, t1, by omega, rfl, rfl, C1.out, Z1.out, Ow.nil _ _ _ _ _, fun q hq => (by cases hq), G1.out⟩
  case round =>
    obtain ⟨j, aa, c, t, hjq, rfl, rfl, hC, hZ, hO, hB, hR⟩ := hrel
    have CJ := hid hC
    have ZJ := hid hZ
    have OJ := hid hO
    have BJ := hid hB
    have GJ := hid hR
    clear hC hZ hO hB hR
    by_cases hj : j < n
    · have j1 : (j : Int) < (n : Int) := by omega
      have HM := hid (make_yes CJ.out 1 ⟨by omega, by omega, by rw [fcs_len]; have := HN.out; omega⟩)
      unfold MmR at HM
      rw [← fcs_snoc, fcs_len] at HM
      have HJ16 := hid (show j + 1 ≤ 16 from by have := HN.out; omega)
      have HWJ := hid (show wrap64 ((j : Int) + 1) = ((j + 1 : Nat) : Int) from wrap_small (j + 1) (by have := HN.out; omega))
      go_wp2_with (first
        | (go_at_call 13; refine HM.out.mono ?_; rintro e w2 ⟨rfl, t2, c2, n2⟩; have C2 := hid c2; obtain ⟨g2, z2⟩ := Tn.low ZJ.out GJ.out n2; have G2 := hid g2; have Z2 := hid z2; have O2 := hid (OJ.out.ch n2.c (fun q hq hn => hn (BJ.out q hq))); have B2 := hid (fun q hq => n2.o q (OJ.out.blk hq).2 (BJ.out q hq)); have S2 := hid g2.size; clear c2 n2 g2 z2)
        | (at_builtin; refine wpList_append_ow eP_len rfl (.tmp 35) (.tmp 39) _ 39 24 _ Try.underlying25 pck_info rfl (by omega) rfl W0.heap.size _ (fps j) rfl (O2.out.alloc _) _ _ [Pk.mk true ((j + 1 : Nat) : Int) (j : Int)] rfl (Ls.single w2 (Pk.mk true ((j + 1 : Nat) : Int) (j : Int)) 39 #[.bool true, .int .i64 ((j + 1 : Nat) : Int), .int .i64 (j : Int)] rfl) (eP_one _) (j + 1) (by rw [fps_len]; rfl) (by have := HJ16.out; omega) (by unfold maxLen; have := HJ16.out; omega) (by simp; have := S2.out; omega) (fps (j + 1)) (fps_snoc j).symm ?_; intro ao5 cap5 w5 ow5 cw5 bl5; have O5 := hid ow5; have C5 := hid ((C2.out.gr (Ch.alloc (Gr.refl w2) _)).ch cw5 (fun q hq => B2.out q hq)); have B5 := hid (show ∀ q, Blk (.slice ao5 (j + 1) cap5) q → t2 q = .no from fun q hq => (bl5 q hq).elim (B2.out q) (fun h1 => C2.out.hi q (by simp at h1; omega))); have G5 := hid (show Gr W0 w5 from Ch.trans (Ch.alloc G2.out _) cw5 (fun q h => .inr (O2.out.blk h).1)); clear ow5 cw5 bl5))
      go_roundg (gk - 1)
      case measure => omega
      case rel => exact ⟨j + 1, ao5, cap5, t2, by omega, (by first | exact congrArg _ HWJ.out | simp), rfl, C5.out, Z2.out, O5.out, B5.out, G5.out⟩
    · have jn : ¬ (j : Int) < (n : Int) := by omega
      obtain rfl : j = n := by omega
      have E1 := hid (show Ow eI 1 3 wr.heap.size wr (.slice none 0 0) [] from Ow.nil _ _ _ _ _)
      go_wp2_with (first
        | (at_builtin; refine wpList_append_ow eI_len rfl (.tmp 45) (.tmp 47) _ 3 8 _ Try.underlying50 int_info rfl (by omega) rfl wr.heap.size _ [] rfl (E1.out.alloc _) _ _ [(k : Int)] rfl (Ls.single wr (k : Int) 3 #[.int .i64 (k : Int)] rfl) (eI_one _) 1 rfl (by omega) (by unfold maxLen; omega) (by simp) (fos k 0) rfl ?_; intro ao6 cap6 w6 ow6 cw6 bl6; have O6 := hid ow6; have G6 := hid (show Gr wr w6 from Ch.trans (Ch.alloc (Gr.refl wr) _) cw6 (fun q h => by cases h)); clear ow6 cw6 bl6))
      obtain ⟨WL, hWL⟩ : ∃ W, W = wr := ⟨_, rfl⟩
      rw [← hWL] at CJ OJ GJ O6 G6
      clear hWL
      go_loopg [10, 15] j (fun q v10 v15 wr => ∃ (i m : Nat) (a6 : Option Addr) (c6 : Nat), i + q = j ∧ v15 = .int .i64 (i : Int) ∧ v10 = .slice a6 m c6 ∧ Ow eI 1 3 WL.heap.size wr (.slice a6 m c6) (fos k i) ∧ Gr WL wr)
      case atStart => exact ⟨0, 1, _, _, by omega, rfl, rfl, O6.out, G6.out⟩
      case round =>
        obtain ⟨i, m, a6, c6, hiq, rfl, rfl, hO, hR⟩ := hrel
        have OI := hid hO
        have GI := hid hR
        have HML := hid hO.len.1
        clear hO hR O6 G6
        by_cases hi : i < j
        · have i1 : (i : Int) < (j : Int) := by omega
          have HM17 := hid (show m + 1 ≤ 18 from by have h1 := HML.out; rw [fos_len] at h1; have := HN.out; split at h1 <;> omega)
          have HWI := hid (show wrap64 ((i : Int) + 1) = ((i + 1 : Nat) : Int) from wrap_small (i + 1) (by have := HN.out; omega))
          by_cases e : i = k
          · subst e
            have HT := hid (fos_no i)
            go_wp2
            go_roundg (gk - 1)
            case measure => omega
            case rel => exact ⟨i + 1, m, a6, c6, by omega, (by first | exact congrArg _ HWI.out | simp), rfl, by rw [HT.out]; exact OI.out, GI.out⟩
          · have HT := hid (fos_yes e)
            have e1 : ((i : Int) == (k : Int)) = false := by simpa using (show (i : Int) ≠ (k : Int) by omega)
            have S6 := hid GI.out.size
            clear e
            go_wp2_with (at_builtin; refine wpList_append_ow eI_len rfl (.tmp 57) (.tmp 59) _ 3 8 _ Try.underlying50 int_info rfl (by omega) rfl WL.heap.size _ (fos k i) rfl (OI.out.alloc _) _ _ [(i : Int)] rfl (Ls.single wr (i : Int) 3 #[.int .i64 (i : Int)] rfl) (eI_one _) (m + 1) (by rw [HML.out]; rfl) (by have := HM17.out; omega) (by unfold maxLen; have := HM17.out; omega) (by simp; have := S6.out; omega) (fos k (i + 1)) HT.out.symm ?_; intro ao7 cap7 w7 ow7 cw7 bl7; have O7 := hid ow7; have G7 := hid (show Gr WL w7 from Ch.trans (Ch.alloc GI.out _) cw7 (fun q h => .inr (OI.out.blk h).1)); clear ow7 cw7 bl7)
            go_roundg (gk - 1)
            case measure => omega
            case rel => exact ⟨i + 1, m + 1, ao7, cap7, by omega, (by first | exact congrArg _ HWI.out | simp), rfl, O7.out, G7.out⟩
        · obtain rfl : i = j := by omega
          have inn : ¬ (i : Int) < (i : Int) := by omega
          have hm : m = i := by have h1 := HML.out; rw [fos_len, if_pos HK.out] at h1; exact h1
          subst hm
          have HDr := hid (draws_ok _ wr a6 m c6 (fos k m) OI.out.lst HN.out (fos_all HK.out))
          have CI := hid (CJ.out.gr GI.out)
          have PI := hid (OJ.out.gr GI.out)
          have BI := hid (gr_blk (gr_blk B0.out GJ.out) GI.out)
          go_upto_region 18 with (first
            | (go_at_call 14; refine HDr.out.mono ?_; rintro e w8 ⟨a8, c8, rfl, o8, g8⟩; have O8 := hid o8; have C8 := hid (CI.out.gr g8); have P8 := hid (PI.out.gr g8); have B8 := hid (gr_blk BI.out g8); have G8 := hid (Gr.trans (Gr.trans (Gr.trans G0.out GJ.out) GI.out) g8); have GW8 := hid (Gr.trans (Gr.trans GJ.out GI.out) g8); clear o8 g8))
          have hno : ∀ q, w8.heap.size ≤ q → t q = .no := C8.out.hi
          have hl16 : (fos k m).length ≤ 16 := by rw [fos_len, if_pos HK.out]; exact HN.out
          have hdl : (drs (fos k m)).take m = drs (fos k m) := List.take_of_length_le (by rw [drs_len, fos_len, if_pos HK.out]; exact Nat.le_refl _)
          have hO : ∀ W, Gr w8 W → Calls Try.prog 16 #[.int .i64 (m : Int), .slice a8 m c8] W (OrR W m (fos k m)) := fun W p => by
            have := order_ok _ W a8 m c8 (drs (fos k m)) m (O8.out.gr p).lst (sml_dok hl16 (fos_all HK.out)) HN.out (Nat.le_refl _)
            rw [hdl, ord_drs (fos_all HK.out)] at this
            exact this
          have hcl : (fcs m).length ≤ 1024 := by rw [fcs_len]; have := HN.out; omega
          have HS := hid (sel_goes (t := t) (w := w8) (b := b) (cs := (fcs m).set k ⟨1, [] ++ [(k : Int)], [], [], false⟩) (s := s) (g := g) (wa := false) (va := 0) (ok := true) (tr := 0) (ks := []) aa m c (fps m) true _ (fos k m) k true ((k : Int) + 1) (k : Int) (Blk (.slice aa m c)) P8.out.lstB (fun q hq => BJ.out q hq) (fps_get HK.out) hno hO
            (fun W p => by
              have := waits_any (C8.out.gr p) HG.out
              rw [fcs_pls] at this
              exact this)
            (fun W p => by
              have := chall_any _ _ W aa m c (fps m) _ _ (P8.out.gr p).lst (by have := HN.out; omega) (goa_any (C8.out.gr p) hcl)
              rw [tz_f] at this
              exact this)
            (fun W p oo co l => by
              have := first_any _ _ _ W aa m c (fps m) oo m co (fos k m) _ _ (P8.out.gr p).lst l (by have := HN.out; omega) (fun o ho => (fos_mem HK.out).1 ho) (goa_any (C8.out.gr p) hcl)
              rw [fst_f HK.out] at this
              exact this)
            (fun W p => carry_send (fun q hq => hno q (by have := p.size; omega)) (fun W' p' => (send_room (i := k) (c := ⟨1, [], [], [], false⟩) ((C8.out.gr p).gr p') HG.out (fcs_get HK.out) hcl (k : Int) rfl rfl (by decide) (by decide) (fcs_pls m s g)).mono (fun e w' h => SnR.mv h))))
          have Z8 := hid (show ∀ q, q < W0.heap.size → t q = .no from ZJ.out)
          clear hno hl16 hdl hO hcl
          have bx8 := B8.out
          go_wp2_with (first
            | (refine wpList_load_row rfl 24 (.tmp 5) rfl w.heap.size rfl _ _ _ _ bx8 Try.underlying24 rfl gid_size ?_)
            | (go_at_call 11; refine HS.out.mono ?_; rintro e w9 ⟨mo, mn, mc, rfl, -, t9, c9, n9, -⟩; obtain ⟨g9, z9⟩ := Tn.low Z8.out GW8.out n9; have G9 := hid (Gr.trans G0.out g9); clear c9 n9 g9 z9))
          go_ret
          exact ⟨rfl, Ch.alloc G9.out _⟩
theorem wf_u8 {n : Int} (h : (Lit.int .u8 n).wf = true) : 0 ≤ n ∧ n ≤ 255 := by
  simp only [Lit.wf, IntKind.min, IntKind.max, IntKind.signed, IntKind.bits, Bool.and_eq_true] at h
  simp at h
  omega
theorem fair_any (x y : Int) (hx : (Lit.int .u8 x).wf = true) (hy : (Lit.int .u8 y).wf = true) (s g : Int) (hg : Gok s g) (w : World) : Calls Try.prog 4 #[.int .u8 x, .int .u8 y, .agg #[.int .i64 s, .int .i64 g]] w fun e w' => e = .returned (.bool true) ∧ Gr w w' := by
  have h1 := wf_u8 hx
  have h2 := wf_u8 hy
  obtain ⟨a, rfl⟩ : ∃ a : Nat, x = (a : Int) := ⟨x.toNat, by omega⟩
  obtain ⟨f, rfl⟩ : ∃ a : Nat, y = (a : Int) := ⟨y.toNat, by omega⟩
  exact fair_law a f (by omega) (by omega) s g hg w
end Go.Proofs.Ytalmiphddgmfbab.Lt
