/-
  What the program's Draws answers at any list. Condition: the list is not too long.
-/
import Derived.Test.YtalmiphddgmfbabChIdx
import Derived.Test.YtalmiphddgmfbabChOrdR
import Derived.Test.YtalmiphddgmfbabGnHeld
namespace Go.Proofs.Ytalmiphddgmfbab.Lt
open Go.RowKit Wd
attribute [local go_sem ↓] Go.wp_at_zero Go.wp_at_succ

set_option maxHeartbeats 1000000 in
/-- slices.Clone -/
theorem clonei_any (P : Nat → Prop) (v : Value) (us : List Int) (w : World) (hx : Ls eI P w v us) (hl : us.length ≤ 17592186044416) :
    Calls Try.prog 33 #[v] w fun e w' => ∃ v', e = .returned v' ∧ Ow eI 1 3 w.heap.size w' v' us ∧ Gr w w' := by
  have hx' := hx
  obtain ⟨ao, cap, rfl, ⟨hcap, hnone⟩, hcase⟩ := hx'
  cases ao with
  | none =>
    have hys : us = [] := by
      rcases hcase with h0 | ⟨g, o, h1, _⟩
      · exact h0
      · cases h1
    subst hys
    have hc := hnone rfl
    subst hc
    have hN := fun w' => Lib.run_eql_slice_nil (P := Try.prog) w' 50 3 none 0 0 0 0 Try.underlying50
    go_enter Try.func33, Try.ntmps33
    go_wp2
    go_ret
    exact ⟨_, rfl, Ow.nil _ _ _ _ _, Gr.refl _⟩
  | some ad =>
    obtain ⟨n, hn⟩ : ∃ n, n = us.length := ⟨_, rfl⟩
    rw [← hn] at hx hl ⊢
    have HX := hid hx
    have HN := hid hn
    clear hx hcase hnone hcap hn
    have hN := fun w' => Lib.run_eql_slice_nil (P := Try.prog) w' 50 3 (some ad) n cap 0 0 Try.underlying50
    go_enter Try.func33, Try.ntmps33
    go_wp2_with (first | (at_builtin; refine wpList_append_ow eI_len rfl (.tmp 5) (.tmp 6) 50 3 8 (.int .i64 0) Try.underlying50 int_info rfl (by omega) rfl w.heap.size _ [] rfl (ow_empty _ w) P _ us rfl (HX.out.alloc _) (eI_one us) n (by simp [HN.out]) (by omega) (by unfold maxLen; omega) (by simp) us rfl ?_; intro ao2 cap2 w2 ow2 cw2 bl2; have HO2 := hid ow2; have HG2 := hid cw2; clear ow2 cw2 bl2))
    go_ret
    exact ⟨_, rfl, HO2.out, ((Ch.refl NoB w).alloc _).trans HG2.out (fun q e => .inr (by have : some w.heap.size = some q := e; injection this with this; omega))⟩
/-- make at a step of a region that draws -/
theorem step_make {ops : Array Oper} {o : Oper} {a : Act} {w : World} {Kk : Act → World → Prop} {Q : Exit → Act → World → Prop} {E : Prop} (hg : o.guard = none) (l c : Operand) (t : TypeId) (hop : o.op = Op.makeSlice t l c)
    (base : Nat) (e : TypeId) (i : TypeInfo) (z : Value) (size : Nat) (h1 : Try.prog.underlying t = some (.slice e)) (h2 : Try.prog.info? e = some i) (h3 : i.zero = some z) (h4 : i.size = size)
    (kl kc : IntKind) (L C : Int) (n : Nat) (hl : a.eval l = .int kl L) (hc : a.eval c = .int kc C) (hL : L = (n : Int)) (hC : C = (n : Int)) (b2 : i.bytes * n ≤ 281474976710656) (b3 : n ≤ maxLen) (b4 : base ≤ w.heap.size)
    (hK : ∀ w', w'.ownsRow base e size (.slice (some ⟨w.heap.size, 0, none⟩) n n) n (madeCells z.cells (n * size)).toList → w.grownBy w' none → Kk (a.put o.dst (.slice (some ⟨w.heap.size, 0, none⟩) n n)) w') :
    if Region.wanted o (yielded ops a.tmps) = true then Oper.wp Try.prog o a w Kk Q else E := by
  have hw : Region.wanted o (yielded ops a.tmps) = true := by simp [Region.wanted, hg]
  rw [if_pos hw]
  obtain ⟨w', hrun, r1, r2⟩ := run_make_full (P := Try.prog) w base t e i z size h1 h2 h3 h4 kl kc n b2 b3 b4
  subst hL
  subst hC
  unfold Oper.wp
  simp [execOp, hop, hl, hc, hrun, Result.andThen]
  exact hK w' r1 r2
/-- behind the two lists' making -/
structure DwM (w : World) (n : Nat) (xs : List Int) (al : Option Addr) (cl gd : Nat) (W : World) : Prop where
  l : Ow eI 1 3 w.heap.size W (.slice al n cl) xs
  d : Ow eU 1 77 w.heap.size W (.slice (some ⟨gd, 0, none⟩) n n) (List.replicate n 0)
  n : ∀ q, Blk (.slice al n cl) q → q ≠ gd
  g : Gr w W
def MidDw (w : World) (ao : Option Addr) (n cap : Nat) (xs : List Int) : Exit → Act → World → Prop := fun e a W => e = Exit.normal ∧ ∃ (al : Option Addr) (cl gd : Nat) (x1 x2 x3 x6 x7 x8 x9 x10 x11 x12 x13 x14 x15 x16 x17 x18 x19 x20 x21 x22 x23 x24 x25 x26 x27 x28 x29 x30 x31 x32 x33 x34 x35 x36 x37 x38 x39 x40 x41 x42 x43 x44 : Value), a = Act.mk #[.slice ao n cap, x1, x2, x3, .slice al n cl, .slice (some ⟨gd, 0, none⟩) n n, x6, x7, x8, x9, x10, x11, x12, x13, x14, x15, x16, x17, x18, x19, x20, x21, x22, x23, x24, x25, x26, x27, x28, x29, x30, x31, x32, x33, x34, x35, x36, x37, x38, x39, x40, x41, x42, x43, x44] [] ∧ DwM w n xs al cl gd W
/-- draws that are told -/
def DrR (w : World) (n : Nat) (l : List Int) (e : Ending) (w' : World) : Prop := ∃ ao cap, e = .returned (.tuple #[.slice ao n cap, .int .i64 0]) ∧ Ow eU 1 77 w.heap.size w' (.slice ao n cap) l ∧ Gr w w'
theorem draws_many (ao : Option Addr) (n cap : Nat) (w : World) (h : 16 < n) : Calls Try.prog 14 #[.slice ao n cap] w fun e w' => e = .returned (.tuple #[.slice none 0 0, .int .i64 1]) ∧ w' = w := by
  have d1 : (16 : Int) < (n : Int) := by omega
  go_enter Try.func14, Try.ntmps14
  go_wp2
  exact bodyPost_ret (v := .tuple #[.slice none 0 0, .int .i64 1]) (by simp [results, Try.results14, go_sem]) rfl ⟨rfl, rfl⟩
open Classical in
theorem draws_not (P : Nat → Prop) (w : World) (ao : Option Addr) (n cap : Nat) (xs : List Int) (h : Ls eI P w (.slice ao n cap) xs) (hn : n ≤ 16) (hx : ¬ All xs) : Calls Try.prog 14 #[.slice ao n cap] w fun e w' => e = .returned (.tuple #[.slice none 0 0, .int .i64 121]) ∧ w' = w := by
  have d1 : ¬ (16 : Int) < (n : Int) := by omega
  have HE := hid (each_any P w ao n cap xs h (by omega))
  rw [decide_eq_false hx] at HE
  clear h hx
  go_enter Try.func14, Try.ntmps14
  go_wp2_with (go_at_call 32; refine HE.out.mono ?_; rintro e w1 ⟨rfl, rfl⟩)
  exact bodyPost_ret (v := .tuple #[.slice none 0 0, .int .i64 121]) (by simp [results, Try.results14, go_sem]) rfl ⟨rfl, rfl⟩
theorem drs_step {L : List Int} {k : Nat} (h : L.length = k + 1) : drs L = drs (un L) ++ [((L.idxOf (k : Int) : Nat) : Int)] := by
  unfold drs
  rw [un_len, h, Nat.add_sub_cancel, drw]
  rw [show ((L.length : Int) - 1) = (k : Int) by omega]
set_option maxRecDepth 20000 in
open Classical in
set_option maxHeartbeats 8000000 in
theorem draws_ok (P : Nat → Prop) (w : World) (ao : Option Addr) (n cap : Nat) (xs : List Int) (h : Ls eI P w (.slice ao n cap) xs) (hn : n ≤ 16) (hx : All xs) : Calls Try.prog 14 #[.slice ao n cap] w (DrR w n (drs xs)) := by
  have d1 : ¬ (16 : Int) < (n : Int) := by omega
  have HE := hid (each_any P w ao n cap xs h (by omega))
  rw [decide_eq_true hx] at HE
  have HL := hid h.len.1
  have HCL := hid (fun (W : World) (p : Gr w W) => clonei_any P (.slice ao n cap) xs W (h.gr p) (by have := h.len.1; omega))
  have HA := hid hx
  obtain ⟨i0, hi, hz0, hz1, hz2⟩ := info_parts u64_info
  clear h hx
  go_enter Try.func14, Try.ntmps14
  go_wp2_with (go_at_call 32; refine HE.out.mono ?_; rintro e w1 ⟨rfl, hw1⟩; obtain rfl := hw1.symm; clear hw1)
  refine Code.wp_mono (Q := MidDw w ao n cap xs) ?_ ?_
  · clear HCL HE hi hz0 hz1 hz2
    intro e a W hM; unfold MidDw at hM; obtain ⟨rfl, al, cl, gd, x1, x2, x3, x6, x7, x8, x9, x10, x11, x12, x13, x14, x15, x16, x17, x18, x19, x20, x21, x22, x23, x24, x25, x26, x27, x28, x29, x30, x31, x32, x33, x34, x35, x36, x37, x38, x39, x40, x41, x42, x43, x44, rfl, hX⟩ := hM
    have MX := hid hX
    clear hX
    go_wp2_with fail
    go_loopg [4, 6] n (fun q v4 v6 wr => ∃ (L R : List Int) (a : Option Addr) (c : Nat) (v : Int), L.length = q ∧ R.length + q = n ∧ v4 = .slice a q c ∧ v6 = .int .i64 v ∧ v = (q : Int) - 1 ∧ All L ∧ drs xs = drs L ++ R ∧ Ow eI 1 3 w.heap.size wr (.slice a q c) L ∧ Ow eU 1 77 w.heap.size wr (.slice (some ⟨gd, 0, none⟩) n n) (List.replicate q 0 ++ R) ∧ (∀ b, Blk (.slice a q c) b → b ≠ gd) ∧ Gr w wr)
    case atStart => exact ⟨xs, [], al, cl, _, HL.out.symm, by simp, rfl, rfl, by simp, HA.out, by simp, MX.out.l, by rw [List.append_nil]; exact MX.out.d, MX.out.n, MX.out.g⟩
    case round =>
      obtain ⟨L, R, a, c, v, hL, hR, rfl, rfl, hv, hA, hD, hO, hU, hN, hG⟩ := hrel
      by_cases h0 : gk = 0
      · subst h0
        obtain rfl : v = -1 := by omega
        have HF := hid (show Ow eU 1 77 w.heap.size wr (.slice (some ⟨gd, 0, none⟩) n n) (drs xs) from by
          rw [hD, show drs L = [] from List.eq_nil_of_length_eq_zero (by rw [drs_len]; exact hL)]
          exact hU)
        have HG := hid hG
        clear hL hR hv hA hD hO hU hN hG
        go_wp2
        exact bodyPost_ret (v := .tuple #[.slice (some ⟨gd, 0, none⟩) n n, .int .i64 0]) (by simp [results, Try.results14, go_sem]) rfl ⟨_, _, rfl, HF.out, HG.out⟩
      · obtain ⟨k, rfl⟩ : ∃ k, gk = k + 1 := ⟨gk - 1, by omega⟩
        obtain rfl : v = (k : Int) := by omega
        have hkn : k + 1 ≤ n := by omega
        have HIX := hid (index_any _ wr a (k + 1) c L (k : Int) hO.lst (by omega))
        have hm := hA k (by omega)
        have ixe : ixZ L (k : Int) = ((L.idxOf (k : Int) : Nat) : Int) := by unfold ixZ; rw [if_pos hm]
        rw [ixe] at HIX
        have hjj := List.idxOf_lt_length_of_mem hm
        rw [hL] at hjj
        obtain ⟨gl, rfl, hgl⟩ := hO.some1 (by omega)
        have HST := hid (drs_step hL)
        have HUN := hid (show un L = (L.set (L.idxOf (k : Int)) (L.getD k 0)).take k from by unfold un; rw [hL, Nat.add_sub_cancel, show (((k + 1 : Nat) : Int) - 1) = (k : Int) by omega])
        have HUA := hid (un_all hA)
        generalize L.idxOf (k : Int) = jj at HIX hjj HST HUN
        obtain ⟨y, hy⟩ : ∃ y, L[k]? = some y := ⟨_, List.getElem?_eq_getElem (by omega)⟩
        obtain ⟨z, hz⟩ : ∃ y, L[jj]? = some y := ⟨_, List.getElem?_eq_getElem (by omega)⟩
        have hgy : L.getD k 0 = y := by rw [List.getD_eq_getElem?_getD, hy]; rfl
        rw [hgy] at HUN
        obtain ⟨c1, g1, f1, s1⟩ := hU.at1U (i := k) (x := 0) (by rw [List.getElem?_append_left (by simp)]; simp)
        have hU1 := s1 (jj : Int)
        have ne1 : gl ≠ gd := hN gl rfl
        have hO1 : Ow eI 1 3 w.heap.size (wr.setCell ⟨gd, k, none⟩ (.int .u64 (jj : Int))) (.slice (some ⟨gl, 0, none⟩) (k + 1) c) L := hO.ch (Ch.own (Ch.refl (Only gd) wr) _ _) (fun q hq e => hN q hq e)
        obtain ⟨c2, g2, f2, -⟩ := hO1.at1 hy
        obtain ⟨c3, -, f3, s3⟩ := hO1.at1 hz
        have HO2 := hid (s3 y)
        have HU2 := hid (show Ow eU 1 77 w.heap.size ((wr.setCell ⟨gd, k, none⟩ (.int .u64 (jj : Int))).setCell ⟨gl, jj, none⟩ (.int .i64 y)) (.slice (some ⟨gd, 0, none⟩) n n) (List.replicate k 0 ++ ((jj : Int) :: R)) from by
          have e : (List.replicate (k + 1) (0 : Int) ++ R).set k (jj : Int) = List.replicate k 0 ++ ((jj : Int) :: R) := by
            rw [List.replicate_succ', List.append_assoc, List.set_append_right _ _ (by simp)]
            simp
          rw [e] at hU1
          exact hU1.ch (Ch.own (Ch.refl (Only gl) _) _ _) (fun q hq e => by have e1 : some gd = some q := hq; have e2 := Option.some.inj e1; have e3 : q = gl := e; omega))
        have HG := hid (show Gr w ((wr.setCell ⟨gd, k, none⟩ (.int .u64 (jj : Int))).setCell ⟨gl, jj, none⟩ (.int .i64 y)) from Ch.fresh (Ch.fresh hG (hU.blk (q := gd) rfl).1 _ _) hgl _ _)
        have HC := hid hO.len.2
        have HN := hid hN
        have HD := hid hD
        have HLL := hid hL
        have HRR := hid hR
        have k0 : (0 : Int) ≤ (k : Int) := by omega
        have k1 : (k : Int) < ((k + 1 : Nat) : Int) := by omega
        have k2 : (k : Int) < (n : Int) := by omega
        have l0 : (0 : Int) ≤ (jj : Int) := by omega
        have l1 : (jj : Int) < ((k + 1 : Nat) : Int) := by omega
        have kc : (k : Int) ≤ (c : Int) := by have := HC.out; omega
        have kc2 : k ≤ c := by have := HC.out; omega
        clear hL hR hv hA hD hO hU hN hG ixe hgy hy hz s1 s3 hU1 hO1 hm hgl
        go_wp2_with (go_at_call 34; refine HIX.out.mono ?_; rintro e w1 ⟨rfl, hw1⟩; subst hw1)
        go_roundg k
        case measure => omega
        case rel => exact ⟨un L, (jj : Int) :: R, _, c, (k : Int) - 1, by rw [un_len, HLL.out]; omega, by rw [List.length_cons]; have := HRR.out; omega, rfl, by simp, rfl, HUA.out, by rw [HD.out, HST.out]; simp, by rw [HUN.out]; exact HO2.out.take eI_len (by omega), HU2.out, fun q hq => HN.out q hq, HG.out⟩
  · have hS0 : Gr w w.drew := Ch.drew (Gr.refl w)
    clear HE HA
    refine wp_region_held_drew (S := Gr w) (by kernel_rfl) (by exact hS0) (fun _ => ?_)
    generalize World.drew w = V0 at hS0 ⊢
    refine takeS_on (i := 0) 14 (v := ?v1) rfl rfl (by kernel_rfl) (by kernel_rfl) (by kernel_rfl) (fun _ _ _ h => nomatch h.1) (by kernel_rfl) ?hy1 (by exact hS0) ?_
    case hy1 => (intro w' hSw; go_simp; try (with_reducible rfl))
    simp only [Act.put, List.setIfInBounds_toArray, List.set_cons_zero, List.set_cons_succ]
    refine takeS_on (i := 2) 16 (v := ?v2) rfl rfl (by kernel_rfl) (by kernel_rfl) (by kernel_rfl) (fun _ _ _ h => nomatch h.1) (by kernel_rfl) ?hy2 (by exact hS0) ?_
    case hy2 => (intro w' hSw; go_simp; try (with_reducible rfl))
    simp only [Act.put, List.setIfInBounds_toArray, List.set_cons_zero, List.set_cons_succ]
    refine takeS_on (i := 3) 17 (v := ?v3) rfl rfl (by kernel_rfl) (by kernel_rfl) (by kernel_rfl) (fun _ _ _ h => nomatch h.1) (by kernel_rfl) ?hy3 (by exact hS0) ?_
    case hy3 => (intro w' hSw; go_simp; try (with_reducible rfl))
    simp only [Act.put, List.setIfInBounds_toArray, List.set_cons_zero, List.set_cons_succ]
    refine wpAnyH_ready (rs := [1, 4]) (by kernel_rfl) (by simp) (AllReadyH.cons rfl (fun K hK => ?_) (AllReadyH.cons rfl (fun K hK => ?_) AllReadyH.nil))
    · go_simp
      refine (HCL.out _ hS0).mono ?_
      rintro e w1 ⟨v1, rfl, o1, g1⟩
      obtain ⟨al, cl, rfl⟩ : ∃ a c, v1 = .slice a n c := by obtain ⟨a, c, e⟩ := o1.form; exact ⟨a, c, by rw [e, HL.out]⟩
      have hS1 : Gr w w1 := Gr.trans hS0 g1
      have OC := hid (o1.lower (base' := w.heap.size) hS0.size)
      clear o1 g1
      refine hK.out _ _ (by exact hS1) (fun _ => ?_)
      clear hK K
      refine takeS_on (i := 5) 4 (v := ?v4) rfl rfl (by kernel_rfl) (by kernel_rfl) (by kernel_rfl) (fun _ _ _ h => nomatch h.1) (by kernel_rfl) ?hy4 (by exact hS1) ?_
      case hy4 => (intro w' hSw; go_simp; try (with_reducible rfl))
      simp only [Act.put, List.setIfInBounds_toArray, List.set_cons_zero, List.set_cons_succ]
      refine wpAnyH_ready (rs := [4]) (by kernel_rfl) (by simp) (AllReadyH.cons rfl (fun K hK => ?_) AllReadyH.nil)
      refine step_make rfl _ _ 26 rfl w.heap.size 77 i0 _ 1 Try.underlying26 hi hz0 hz1 _ _ _ _ n rfl rfl (by omega) (by omega) (by rw [hz2]; omega) (by unfold maxLen; omega) hS1.size ?_
      intro w2 hown hgrow
      have ho : Ow eU 1 77 w.heap.size w2 (.slice (some ⟨w1.heap.size, 0, none⟩) n n) (List.replicate n 0) := (by have h2 := toList_madeCells_one (.int .u64 0) n; rw [Nat.mul_one] at hown; unfold Ow; rw [List.length_replicate, zerosU_cells, ← h2]; exact hown)
      have g1 : Gr w1 w2 := (Ch.refl NoB w1).grown hgrow (fun k hk => by cases hk)
      have hS2 : Gr w w2 := Gr.trans hS1 g1
      have OM := hid ho
      have NB := hid (show ∀ q, Blk (.slice al n cl) q → q ≠ w1.heap.size from fun q hq e => by have := (OC.out.blk hq).2; omega)
      have OC := hid (OC.out.gr g1)
      clear ho hown hgrow g1
      refine hK.out _ _ (by exact hS2) (fun _ => ?_)
      change wpAnyH _ _ _ _ _ _ _ (Act.put _ (some 18) _) _
      simp only [Act.put, List.setIfInBounds_toArray, List.set_cons_zero, List.set_cons_succ]
      clear hK K
      refine takeS_on (i := 6) 5 (v := ?v5) rfl rfl (by kernel_rfl) (by kernel_rfl) (by kernel_rfl) (fun _ _ _ h => nomatch h.1) (by kernel_rfl) ?hy5 (by exact hS2) ?_
      case hy5 => (intro w' hSw; go_simp; try (with_reducible rfl))
      simp only [Act.put, List.setIfInBounds_toArray, List.set_cons_zero, List.set_cons_succ]
      refine wpAnyH_done (by kernel_rfl) ?_ _
      unfold MidDw
      exact ⟨rfl, al, cl, w1.heap.size, _, _, _, _, _, _, _, _, _, _, _, _, _, _, _, _, _, _, _, _, _, _, _, _, _, _, _, _, _, _, _, _, _, _, _, _, _, _, _, _, _, _, rfl, ⟨OC.out, OM.out, NB.out, hS2⟩⟩
    · refine step_make rfl _ _ 26 rfl w.heap.size 77 i0 _ 1 Try.underlying26 hi hz0 hz1 _ _ _ _ n rfl rfl (by omega) (by omega) (by rw [hz2]; omega) (by unfold maxLen; omega) hS0.size ?_
      intro w1 hown hgrow
      have ho : Ow eU 1 77 w.heap.size w1 (.slice (some ⟨V0.heap.size, 0, none⟩) n n) (List.replicate n 0) := (by have h2 := toList_madeCells_one (.int .u64 0) n; rw [Nat.mul_one] at hown; unfold Ow; rw [List.length_replicate, zerosU_cells, ← h2]; exact hown)
      have g1 : Gr V0 w1 := (Ch.refl NoB V0).grown hgrow (fun k hk => by cases hk)
      have hS1 : Gr w w1 := Gr.trans hS0 g1
      have OM := hid ho
      clear ho hown hgrow g1
      refine hK.out _ _ (by exact hS1) (fun _ => ?_)
      change wpAnyH _ _ _ _ _ _ _ (Act.put _ (some 18) _) _
      simp only [Act.put, List.setIfInBounds_toArray, List.set_cons_zero, List.set_cons_succ]
      clear hK K
      refine wpAnyH_ready (rs := [1]) (by kernel_rfl) (by simp) (AllReadyH.cons rfl (fun K hK => ?_) AllReadyH.nil)
      go_simp
      refine (HCL.out _ hS1).mono ?_
      rintro e w2 ⟨v1, rfl, o1, g1⟩
      obtain ⟨al, cl, rfl⟩ : ∃ a c, v1 = .slice a n c := by obtain ⟨a, c, e⟩ := o1.form; exact ⟨a, c, by rw [e, HL.out]⟩
      have hS2 : Gr w w2 := Gr.trans hS1 g1
      have NB := hid (show ∀ q, Blk (.slice al n cl) q → q ≠ V0.heap.size from fun q hq e => by have h1 := (o1.blk hq).1; have h2 := (OM.out.blk (q := V0.heap.size) rfl).2; omega)
      have OM := hid (OM.out.gr g1)
      have OC := hid (o1.lower (base' := w.heap.size) hS1.size)
      clear o1 g1
      refine hK.out _ _ (by exact hS2) (fun _ => ?_)
      clear hK K
      refine takeS_on (i := 5) 4 (v := ?v6) rfl rfl (by kernel_rfl) (by kernel_rfl) (by kernel_rfl) (fun _ _ _ h => nomatch h.1) (by kernel_rfl) ?hy6 (by exact hS2) ?_
      case hy6 => (intro w' hSw; go_simp; try (with_reducible rfl))
      simp only [Act.put, List.setIfInBounds_toArray, List.set_cons_zero, List.set_cons_succ]
      refine takeS_on (i := 6) 5 (v := ?v7) rfl rfl (by kernel_rfl) (by kernel_rfl) (by kernel_rfl) (fun _ _ _ h => nomatch h.1) (by kernel_rfl) ?hy7 (by exact hS2) ?_
      case hy7 => (intro w' hSw; go_simp; try (with_reducible rfl))
      simp only [Act.put, List.setIfInBounds_toArray, List.set_cons_zero, List.set_cons_succ]
      refine wpAnyH_done (by kernel_rfl) ?_ _
      unfold MidDw
      exact ⟨rfl, al, cl, V0.heap.size, _, _, _, _, _, _, _, _, _, _, _, _, _, _, _, _, _, _, _, _, _, _, _, _, _, _, _, _, _, _, _, _, _, _, _, _, _, _, _, _, _, _, rfl, ⟨OC.out, OM.out, NB.out, hS2⟩⟩

end Go.Proofs.Ytalmiphddgmfbab.Lt
