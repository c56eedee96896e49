/-
  What the queueing kind leaves behind deliver. Condition: the part that does is there, and may be.
-/
import Derived.Test.YtnpbehcfbceclaaPoDlvS
namespace Go.Proofs.Ytnpbehcfbceclaa.Lt
open Go.RowKit Wd
attribute [local go_sem ↓] Go.wp_at_zero Go.wp_at_succ
set_option maxRecDepth 20000

theorem Kq.c2 {w : World} {k : Nat} {vo vi : Value} {cap lost : Nat} {xs : List Int} {ys : List Ag} (h : Kq w k vo vi ⟨true, cap, xs, ys, lost⟩) : w.cell? ⟨k, 2, none⟩ = some (.int .i64 (cap : Nat)) ∧ w.cell? ⟨k, 3, none⟩ = some (.int .i64 (lost : Nat)) := by
  have := h.bk
  unfold cellsP at this
  rw [if_pos rfl] at this
  exact ⟨cell_of this 2, cell_of this 3⟩
theorem Kq.setI {w1 : World} {k : Nat} {vo vi v : Value} {x : Pt} {ys : List Ag} (h : w1.heap[k]? = some (cellsP x vo vi)) (ho : Ow eI 1 2 0 w1 vo x.out) (hi : Ow eG 2 59 0 w1 v ys) : Kq (w1.setCell ⟨k, 1, none⟩ v) k vo v { x with inn := ys } := by
  have n1 : ¬ Blk v k := fun e => by
    obtain ⟨c, h'⟩ := hi.ty e
    unfold cellsP at h
    rw [h'] at h
    split at h <;> (injection h with h; injection h with _ t1; exact absurd t1 (by decide))
  have n2 : ¬ Blk vo k := fun e => by
    obtain ⟨c, h'⟩ := ho.ty e
    unfold cellsP at h
    rw [h'] at h
    split at h <;> (injection h with h; injection h with _ t1; exact absurd t1 (by decide))
  have hs : Ch (Only k) w1 (w1.setCell ⟨k, 1, none⟩ v) := (Ch.refl _ w1).own 1 v
  refine ⟨?_, ho.ch hs (fun g e e1 => n2 (by have e2 : g = k := e1; rw [← e2]; exact e)), hi.ch hs (fun g e e1 => n1 (by have e2 : g = k := e1; rw [← e2]; exact e))⟩
  unfold cellsP at h ⊢
  dsimp only
  split at h
  · rename_i q1
    rw [if_pos q1, setCell_block h 1 v]
    rfl
  · rename_i q1
    rw [if_neg q1, setCell_block h 1 v]
    rfl
theorem stepI {V w5 : World} {k T : Nat} {C : Array Value} {vo vj v5 : Value} {x : Pt} {ys : List Ag} (h : Kq V k vo vj x) (c : Ch (Blk vj) (V.alloc (.cells C T)) w5) (o : Ow eG 2 59 0 w5 v5 ys) :
    (w5.cell? ⟨k, 1, none⟩ = some vj ∧ w5.frozen? ⟨k, 1, none⟩ = false ∧ k < w5.heap.size) ∧ Kq (w5.setCell ⟨k, 1, none⟩ v5) k vo v5 { x with inn := ys } := by
  have b2 := ch_blk (al_blk h.bk _) c h.kp.si
  have i2 := (h.ho.alloc _).ch c (fun q e e' => h.kp.oi e e')
  refine ⟨?_, Kq.setI b2 i2 o⟩
  unfold cellsP at b2
  split at b2
  · exact ⟨cell_of b2 1, frozen_of b2 1, lt_of_block b2⟩
  · exact ⟨cell_of b2 1, frozen_of b2 1, lt_of_block b2⟩
theorem stepB {w V w5 : World} {k T : Nat} {C : Array Value} {vo vi vj v5 : Value} (HB : ∀ g, Bk k vo vj g → Bk k vo vi g ∨ w.heap.size ≤ g) (HC : Ch (Bk k vo vi) w V) (b5 : ∀ q, Blk v5 q → Blk vj q ∨ (V.alloc (.cells C T)).heap.size ≤ q) (c : Ch (Blk vj) (V.alloc (.cells C T)) w5) :
    (∀ q, Bk k vo v5 q → Bk k vo vi q ∨ w.heap.size ≤ q) ∧ Ch (Bk k vo vi) w (w5.setCell ⟨k, 1, none⟩ v5) := by
  refine ⟨?_, ((Ch.alloc HC _).trans c (fun q e => HB q (.inr (.inr e)))).setCell (p := ⟨k, 1, none⟩) (.inl (.inl rfl)) _⟩
  rintro q (e | e | e)
  · exact .inl (.inl e)
  · exact .inl (.inr (.inl e))
  · rcases b5 q e with e | e
    · exact HB q (.inr (.inr e))
    · simp at e
      exact .inr (by have := HC.size; omega)
/-- how many were lost, put in another's place -/
theorem KL.setQ {V : World} {k : Nat} {vo vi : Value} {cap lost : Nat} {xs : List Int} {ys : List Ag} (h : Kq V k vo vi ⟨true, cap, xs, ys, lost⟩) (l : Nat) : Kq (V.setCell ⟨k, 3, none⟩ (.int .i64 (l : Nat))) k vo vi ⟨true, cap, xs, ys, l⟩ := by
  have hs : Ch (Only k) V (V.setCell ⟨k, 3, none⟩ (.int .i64 (l : Nat))) := (Ch.refl _ V).own 3 _
  refine ⟨?_, h.ho.ch hs (fun g e e1 => h.kp.so (by have e2 : g = k := e1; rw [← e2]; exact e)), h.hi.ch hs (fun g e e1 => h.kp.si (by have e2 : g = k := e1; rw [← e2]; exact e))⟩
  have hb := h.bk
  unfold cellsP at hb ⊢
  rw [if_pos rfl] at hb ⊢
  rw [setCell_block hb 3 _]
  rfl
theorem KL.setL {V : World} {k : Nat} {vo vi : Value} {cap lost : Nat} {xs : List Int} {ys : List Ag} (h : Kq V k vo vi ⟨true, cap, xs, ys, lost⟩) (l : Nat) : KL V k vo vi (V.setCell ⟨k, 3, none⟩ (.int .i64 (l : Nat))) ⟨true, cap, xs, ys, l⟩ :=
  ⟨vo, vi, KL.setQ h l, fun _ e => .inl e, ((Ch.refl _ V).own (b := k) 3 _).mono (fun _ e => .inl (.inl e))⟩
/-- what the last region's own store leaves alone -/
structure Sq (k : Nat) (vo : Value) (W : World) : Prop where
  c0 : W.cell? ⟨k, 0, none⟩ = some vo
  bl : k < W.heap.size
  fz : W.frozen? ⟨k, 3, none⟩ = false
theorem Sq.st {k : Nat} {vo : Value} {W : World} (h : Sq k vo W) (l : Int) : Sq k vo (W.setCell ⟨k, 3, none⟩ (.int .i64 l)) := by
  obtain ⟨h1, h2, h3⟩ := h
  refine ⟨?_, by simpa [World.setCell] using h2, ?_⟩
  · rw [World.cell?_setCell_other W ⟨k, 3, none⟩ ⟨k, 0, none⟩ _ (fun e => by injection e with _ e; cases e)]
    exact h1
  · rw [World.frozen?_setCell]
    exact h3
theorem take_step {out : List Int} {j : Nat} {u : Int} (h : out[j]? = some u) (ys : List Ag) : (ys ++ (out.take j).map fresh) ++ [fresh u] = ys ++ (out.take (j + 1)).map fresh := by
  rw [List.take_add_one, h, List.map_append, List.append_assoc]
  rfl
set_option maxHeartbeats 4000000 in
theorem qdlv_any (w : World) (k : Nat) (vo vi : Value) (x : Pt) (h : Kq w k vo vi x) (hq : x.q = true) (hok : x.ok) : Calls Try.prog 52 #[.pointer (some ⟨k, 0, none⟩)] w fun e w' => e = .returned (.tuple #[]) ∧ KL w k vo vi w' (dlvP x) := by
  obtain ⟨q, cap, out, inn, lost⟩ := x
  dsimp only at hq
  subst hq
  have HG := hid (grow_any w k vo vi _ h hok)
  have hlo : out.length ≤ cap := hok.o
  have hli : inn.length ≤ cap := hok.i
  have hc2 : cap ≤ 1024 := hok.c2
  have hll : lost ≤ 2147483647 := hok.l
  obtain ⟨ao, co, rfl⟩ := h.ho.form
  obtain ⟨ai, ci, rfl⟩ := h.hi.form
  unfold dlvP
  rw [if_pos rfl]
  unfold comeN
  dsimp only at HG hlo hli hc2 hll ⊢
  clear h hok
  obtain ⟨ys, hys⟩ : ∃ ys, ys = inn.map older := ⟨_, rfl⟩
  have hyl : inn.length = ys.length := by rw [hys]; simp
  rw [← hys] at HG ⊢
  have HY := hid hyl
  obtain ⟨cm, hcm⟩ : ∃ cm, cm = min out.length (cap - inn.length) := ⟨_, rfl⟩
  rw [← hcm]
  have hc3 : cm ≤ out.length := by rw [hcm]; exact Nat.min_le_left _ _
  have hc4 : inn.length + cm ≤ cap := by have := Nat.min_le_right out.length (cap - inn.length); omega
  have HCM := hid (show (if (cap : Int) - (inn.length : Int) < (out.length : Int) then (cap : Int) - (inn.length : Int) else (out.length : Int)) = (cm : Int) by split <;> omega)
  have HN := hid (rfl : out.length = out.length)
  generalize hn : out.length = n at *
  generalize hm : inn.length = m at *
  have HNN := hid hn
  clear hys hcm hyl hn hm HN
  go_enter Try.func52, Try.ntmps52
  go_wp2_with (go_at_call 56; refine HG.out.mono ?_; rintro e w1 ⟨rfl, h1, g1⟩; obtain ⟨c0, c1, f0, l0⟩ := h1.c1; obtain ⟨c2, c3⟩ := h1.c2; have H1 := hid h1; have G1 := hid g1; clear h1 g1)
  go_big_quiet (fail)
  rw [HCM.out]
  have G2 := hid (G1.out.drewN nq)
  have H2 := hid (H1.out.gr (Ch.drewN (Gr.refl w1) nq))
  have c0 : (w1.drewN nq).cell? ⟨k, 0, none⟩ = some (.slice ao n co) := c0
  have l0 : k < (w1.drewN nq).heap.size := l0
  clear c1 f0 c2 c3
  generalize w1.drewN nq = W at G2 H2 c0 l0 ⊢
  have bn : (cm : Int) ≤ (n : Int) := by omega
  have bc : n ≤ co := H2.out.ho.len.2
  have HBC := hid bc
  have bc' : (n : Int) ≤ (co : Int) := by omega
  have bd : (cm : Int) ≤ (co : Int) := by omega
  go_wp2_with fail
  go_loopg [35] cm (fun k9 i wr => ∃ (j : Nat) (vj : Value), j + k9 = cm ∧ i = .int .i64 (j : Int) ∧ Kq wr k (.slice ao n co) vj ⟨true, cap, out, ys ++ (out.take j).map fresh, lost⟩ ∧ (∀ g, Bk k (.slice ao n co) vj g → Bk k (.slice ao n co) (.slice ai m ci) g ∨ w.heap.size ≤ g) ∧ Ch (Bk k (.slice ao n co) (.slice ai m ci)) w wr)
  case atStart => exact ⟨0, .slice ai m ci, by omega, rfl, by rw [List.take_zero, List.map_nil, List.append_nil]; exact H2.out, fun g e => .inl e, G2.out.mono (fun g e => .inl (.inr (.inr e)))⟩
  case round =>
    obtain ⟨j, vj, hjk, rfl, hkq, hbk, hch⟩ := hrel
    obtain ⟨V, hV⟩ : ∃ W, W = wr := ⟨_, rfl⟩
    subst hV
    obtain ⟨d0, d1, f1, l1⟩ := hkq.c1
    have HB := hid hbk
    have HC := hid hch
    have HK := hid hkq
    clear hbk hch
    by_cases hj : j < cm
    · have hjx : out[j]? = some (out[j]'(by rw [HNN.out]; omega)) := List.getElem?_eq_getElem _
      generalize out[j]'(by rw [HNN.out]; omega) = u at hjx
      have HJ := hid hjx
      obtain ⟨g, cp, e, _, hgl, _, hc, _⟩ := hkq.ho.get eI_len hjx
      injection e with e1 e2 e3
      subst e1 e3
      have g1 := hc 0 _ rfl
      rw [Nat.mul_one, Nat.add_zero] at g1
      obtain ⟨aj, cj, hvj⟩ := hkq.hi.form
      have hlj : (ys ++ (out.take j).map fresh).length = m + j := by rw [List.length_append, List.length_map, List.length_take, HNN.out, ← HY.out, Nat.min_eq_left (by omega)]
      have hv : vj = .slice aj (m + j) cj := by rw [hvj]; exact congrArg (fun z => Value.slice aj z cj) hlj
      clear hvj
      subst hv
      have HLJ := hid hlj
      have HK := hid hkq
      clear hkq hc e2 hjx hlj
      have hj' : (j : Int) < (cm : Int) := by omega
      go_wp2_with (first
        | (at_builtin; refine wpList_append_ow eG_len rfl (.tmp 44) (.tmp 47) 30 59 16 _ Try.underlying30 agd_info rfl (by omega) rfl 0 (.slice aj (m + j) cj) (ys ++ (out.take j).map fresh) rfl (HK.out.hi.alloc _) _ _ [fresh u] rfl (Ls.single V (fresh u) 59 _ rfl) (eG_one _) (m + j + 1) (by rw [HLJ.out]; rfl) (by omega) (by unfold maxLen; omega) (Nat.zero_le _) _ (take_step HJ.out ys) ?_
           intro a5 c5 w5 o5 k5 b5
           obtain ⟨⟨d2, f2, L2⟩, r1⟩ := stepI HK.out k5 o5
           have R1 := hid r1
           have R2 := hid (stepB HB.out HC.out b5 k5)
           clear o5 k5 b5 r1))
      go_roundg (gk - 1)
      case measure => omega
      case rel =>
        refine ⟨j + 1, _, by omega, ?_, R1.out, R2.out.1, R2.out.2⟩
        first | with_reducible rfl | simp
    · have e : j = cm := by omega
      have HJ := hid e
      have hj' : ¬ ((j : Int) < (cm : Int)) := by omega
      subst e
      have HZ := hid (show KL w k (.slice ao n co) (.slice ai m ci) V _ from ⟨_, _, HK.out, HB.out, HC.out⟩)
      obtain ⟨d2, d3⟩ := HK.out.c2
      have HM := hid (show IntKind.i64.wrap ((lost : Int) + (if IntKind.i64.wrap ((2147483647 : Int) - (lost : Int)) < IntKind.i64.wrap ((n : Int) - (j : Int)) then IntKind.i64.wrap ((2147483647 : Int) - (lost : Int)) else IntKind.i64.wrap ((n : Int) - (j : Int)))) = ((lost + min (n - j) (2147483647 - lost) : Nat) : Int) by
        rw [IntKind.wrap_i64, IntKind.wrap_i64, IntKind.wrap_i64]
        split <;> omega)
      have hS0 : Sq k (.slice ao n co) (World.drew V) := ⟨d0, l1, f1 3⟩
      have d3 : (World.drew V).cell? ⟨k, 3, none⟩ = some (.int .i64 (lost : Nat)) := d3
      have DQ := hid (HK.out.gr (Ch.drew (Gr.refl V)))
      have DG := hid (Ch.drew (Gr.refl V))
      have l2 : (lost : Int) ≤ 2147483647 := by omega
      have l3 : (j : Int) ≤ (n : Int) := by omega
      have l4 : (n : Int) ≤ 1024 := by omega
      clear hkq d0 d1 l1 f1 d2
      go_wp2_with fail
      refine wp_region_held_drew (S := Sq k (.slice ao n co)) (by kernel_rfl) (by exact hS0) (fun _ => ?_)
      generalize World.drew V = V0 at hS0 d3 DQ DG ⊢
      refine takeS_on (i := 0) 53 (v := ?hv1) rfl rfl (by kernel_rfl) (by kernel_rfl) (by kernel_rfl) (fun _ _ _ h => h) (by kernel_rfl) ?hh1 (by exact hS0) ?_
      case hh1 => (intro w' hSw; go_simp; try (with_reducible rfl))
      simp only [Act.put, List.setIfInBounds_toArray, List.set_cons_zero, List.set_cons_succ]
      refine takeS_on (i := 1) 54 (v := ?hv2) rfl rfl (by kernel_rfl) (by kernel_rfl) (by kernel_rfl) (fun _ _ _ h => h) (by kernel_rfl) ?hh2 (by exact hS0) ?_
      case hh2 => (intro w' hSw; go_simp; try (with_reducible rfl))
      simp only [Act.put, List.setIfInBounds_toArray, List.set_cons_zero, List.set_cons_succ]
      refine takeS_on (i := 2) 55 (v := ?hv3) rfl rfl (by kernel_rfl) (by kernel_rfl) (by kernel_rfl) (fun _ _ _ h => h) (by kernel_rfl) ?hh3 (by exact hS0) ?_
      case hh3 => (intro w' hSw; go_simp; try (with_reducible rfl))
      simp only [Act.put, List.setIfInBounds_toArray, List.set_cons_zero, List.set_cons_succ]
      refine takeS_on (i := 4) 57 (v := ?hv4) rfl rfl (by kernel_rfl) (by kernel_rfl) (by kernel_rfl) (fun _ _ _ h => h) (by kernel_rfl) ?hh4 (by exact hS0) ?_
      case hh4 => (intro w' hSw; go_simp; try (with_reducible rfl))
      simp only [Act.put, List.setIfInBounds_toArray, List.set_cons_zero, List.set_cons_succ]
      refine takeS_on (i := 5) 58 (v := ?hv5) rfl rfl (by kernel_rfl) (by kernel_rfl) (by kernel_rfl) (fun _ _ _ h => h) (by kernel_rfl) ?hh5 (by exact hS0) ?_
      case hh5 => (intro w' hSw; go_simp; try (with_reducible rfl))
      simp only [Act.put, List.setIfInBounds_toArray, List.set_cons_zero, List.set_cons_succ]
      refine takeS_on (i := 6) 59 (v := ?hv6) rfl rfl (by kernel_rfl) (by kernel_rfl) (by kernel_rfl) (fun _ _ _ h => h) (by kernel_rfl) ?hh6 (by exact hS0) ?_
      case hh6 => (intro w' hSw; go_simp; try (with_reducible rfl))
      simp only [Act.put, List.setIfInBounds_toArray, List.set_cons_zero, List.set_cons_succ]
      refine takeS_on (i := 7) 60 (v := ?hv7) rfl rfl (by kernel_rfl) (by kernel_rfl) (by kernel_rfl) (fun _ _ _ h => h) (by kernel_rfl) ?hh7 (by exact hS0) ?_
      case hh7 => (intro w' hSw; go_simp; try (with_reducible rfl))
      simp only [Act.put, List.setIfInBounds_toArray, List.set_cons_zero, List.set_cons_succ]
      refine takeS_on (i := 8) 61 (v := ?hv8) rfl rfl (by kernel_rfl) (by kernel_rfl) (by kernel_rfl) (fun _ _ _ h => h) (by kernel_rfl) ?hh8 (by exact hS0) ?_
      case hh8 => (intro w' hSw; have c0 := hSw.c0; go_simp; try (with_reducible rfl))
      simp only [Act.put, List.setIfInBounds_toArray, List.set_cons_zero, List.set_cons_succ]
      refine takeS_on (i := 9) 62 (v := ?hv9) rfl rfl (by kernel_rfl) (by kernel_rfl) (by kernel_rfl) (fun _ _ _ h => h) (by kernel_rfl) ?hh9 (by exact hS0) ?_
      case hh9 => (intro w' hSw; go_simp; try (with_reducible rfl))
      simp only [Act.put, List.setIfInBounds_toArray, List.set_cons_zero, List.set_cons_succ]
      refine takeS_on (i := 10) 63 (v := ?hv10) rfl rfl (by kernel_rfl) (by kernel_rfl) (by kernel_rfl) (fun _ _ _ h => h) (by kernel_rfl) ?hh10 (by exact hS0) ?_
      case hh10 => (intro w' hSw; go_simp; try (with_reducible rfl))
      simp only [Act.put, List.setIfInBounds_toArray, List.set_cons_zero, List.set_cons_succ]
      refine takeS_on (i := 11) 64 (v := ?hv11) rfl rfl (by kernel_rfl) (by kernel_rfl) (by kernel_rfl) (fun _ _ _ h => h) (by kernel_rfl) ?hh11 (by exact hS0) ?_
      case hh11 => (intro w' hSw; go_simp; try (with_reducible rfl))
      simp only [Act.put, List.setIfInBounds_toArray, List.set_cons_zero, List.set_cons_succ]
      refine takeS_on (i := 12) 65 (v := ?hv12) rfl rfl (by kernel_rfl) (by kernel_rfl) (by kernel_rfl) (fun _ _ _ h => h) (by kernel_rfl) ?hh12 (by exact hS0) ?_
      case hh12 => (intro w' hSw; go_simp; try (with_reducible rfl))
      simp only [Act.put, List.setIfInBounds_toArray, List.set_cons_zero, List.set_cons_succ]
      refine takeS_on (i := 13) 66 (v := ?hv13) rfl rfl (by kernel_rfl) (by kernel_rfl) (by kernel_rfl) (fun _ _ _ h => h) (by kernel_rfl) ?hh13 (by exact hS0) ?_
      case hh13 => (intro w' hSw; go_simp; try (with_reducible rfl))
      simp only [Act.put, List.setIfInBounds_toArray, List.set_cons_zero, List.set_cons_succ]
      refine takeS_on (i := 14) 67 (v := ?hv14) rfl rfl (by kernel_rfl) (by kernel_rfl) (by kernel_rfl) (fun _ _ _ h => h) (by kernel_rfl) ?hh14 (by exact hS0) ?_
      case hh14 => (intro w' hSw; go_simp; try (with_reducible rfl))
      simp only [Act.put, List.setIfInBounds_toArray, List.set_cons_zero, List.set_cons_succ]
      refine wpAnyH_ready (rs := [3, 15]) (by kernel_rfl) (by simp) (AllReadyH.cons rfl (fun K hK => ?_) (AllReadyH.cons rfl (fun K hK => ?_) AllReadyH.nil))
      · go_simp
        refine hK.out _ _ (by exact hS0) (fun _ => ?_)
        clear hK K
        refine wpAnyH_ready (rs := [15]) (by kernel_rfl) (by simp) (AllReadyH.cons rfl (fun K hK => ?_) AllReadyH.nil)
        go_simp
        refine hK.out _ _ (by exact hS0) (fun _ => ?_)
        clear hK K
        refine takeS_on (i := 16) 69 (v := ?hv15) rfl rfl (by kernel_rfl) (by kernel_rfl) (by kernel_rfl) (fun _ _ _ h => h) (by kernel_rfl) ?hh15 (by exact hS0) ?_
        case hh15 => (intro w' hSw; go_simp; try (with_reducible rfl))
        simp only [Act.put, List.setIfInBounds_toArray, List.set_cons_zero, List.set_cons_succ]
        refine takeS_on (i := 17) 70 (v := ?hv16) rfl rfl (by kernel_rfl) (by kernel_rfl) (by kernel_rfl) (fun _ _ _ h => h) (by kernel_rfl) ?hh16 (by exact hS0) ?_
        case hh16 => (intro w' hSw; go_simp; try (with_reducible rfl))
        simp only [Act.put, List.setIfInBounds_toArray, List.set_cons_zero, List.set_cons_succ]
        refine takeS_on (i := 18) 71 (v := ?hv17) rfl rfl (by kernel_rfl) (by kernel_rfl) (by kernel_rfl) (fun _ _ _ h => h) (by kernel_rfl) ?hh17 (by exact hS0) ?_
        case hh17 => (intro w' hSw; go_simp; try (with_reducible rfl))
        simp only [Act.put, List.setIfInBounds_toArray, List.set_cons_zero, List.set_cons_succ]
        refine takeS_on (i := 19) 72 (v := ?hv18) rfl rfl (by kernel_rfl) (by kernel_rfl) (by kernel_rfl) (fun _ _ _ h => h) (by kernel_rfl) ?hh18 (by exact hS0) ?_
        case hh18 => (intro w' hSw; go_simp; try (with_reducible rfl))
        simp only [Act.put, List.setIfInBounds_toArray, List.set_cons_zero, List.set_cons_succ]
        refine takeS_on (i := 20) 73 (v := ?hv19) rfl rfl (by kernel_rfl) (by kernel_rfl) (by kernel_rfl) (fun _ _ _ h => h) (by kernel_rfl) ?hh19 (by exact hS0) ?_
        case hh19 => (intro w' hSw; go_simp; try (with_reducible rfl))
        simp only [Act.put, List.setIfInBounds_toArray, List.set_cons_zero, List.set_cons_succ]
        refine wpAnyH_ready (rs := [21]) (by kernel_rfl) (by simp) (AllReadyH.cons rfl (fun K hK => ?_) AllReadyH.nil)
        have hS1 := hS0.st (((lost + min (n - j) (2147483647 - lost) : Nat) : Int))
        have fz := hS0.fz
        go_simp
        rw [HM.out]
        clear fz
        refine hK.out _ _ (by exact hS1) (fun _ => ?_)
        clear hK K
        refine wpAnyH_done (by kernel_rfl) ?_ _
        have q1 := KL.setQ DQ.out (lost + min (n - j) (2147483647 - lost))
        obtain ⟨c0, _, f0, l0⟩ := q1.c1
        have Z1 := hid ((HZ.out.trans (fun _ _ k8 => KL.same k8 DG.out)).trans (fun _ _ k8 => KL.setL k8 (lost + min (n - j) (2147483647 - lost))))
        clear q1 hS0 hS1 d3
        generalize V0.setCell ⟨k, 3, none⟩ (.int .i64 ((lost + min (n - j) (2147483647 - lost) : Nat) : Int)) = V1 at c0 f0 l0 Z1 ⊢
        go_wp2_with fail
        all_goals
          go_end0
          rw [← List.map_take]
          exact ⟨rfl, Z1.out.trans (fun _ _ k8 => KL.noO k8)⟩
      · go_simp
        refine hK.out _ _ (by exact hS0) (fun _ => ?_)
        clear hK K
        refine takeS_on (i := 16) 69 (v := ?hv20) rfl rfl (by kernel_rfl) (by kernel_rfl) (by kernel_rfl) (fun _ _ _ h => h) (by kernel_rfl) ?hh20 (by exact hS0) ?_
        case hh20 => (intro w' hSw; go_simp; try (with_reducible rfl))
        simp only [Act.put, List.setIfInBounds_toArray, List.set_cons_zero, List.set_cons_succ]
        refine takeS_on (i := 17) 70 (v := ?hv21) rfl rfl (by kernel_rfl) (by kernel_rfl) (by kernel_rfl) (fun _ _ _ h => h) (by kernel_rfl) ?hh21 (by exact hS0) ?_
        case hh21 => (intro w' hSw; go_simp; try (with_reducible rfl))
        simp only [Act.put, List.setIfInBounds_toArray, List.set_cons_zero, List.set_cons_succ]
        refine wpAnyH_ready (rs := [3]) (by kernel_rfl) (by simp) (AllReadyH.cons rfl (fun K hK => ?_) AllReadyH.nil)
        go_simp
        refine hK.out _ _ (by exact hS0) (fun _ => ?_)
        clear hK K
        refine takeS_on (i := 18) 71 (v := ?hv22) rfl rfl (by kernel_rfl) (by kernel_rfl) (by kernel_rfl) (fun _ _ _ h => h) (by kernel_rfl) ?hh22 (by exact hS0) ?_
        case hh22 => (intro w' hSw; go_simp; try (with_reducible rfl))
        simp only [Act.put, List.setIfInBounds_toArray, List.set_cons_zero, List.set_cons_succ]
        refine takeS_on (i := 19) 72 (v := ?hv23) rfl rfl (by kernel_rfl) (by kernel_rfl) (by kernel_rfl) (fun _ _ _ h => h) (by kernel_rfl) ?hh23 (by exact hS0) ?_
        case hh23 => (intro w' hSw; go_simp; try (with_reducible rfl))
        simp only [Act.put, List.setIfInBounds_toArray, List.set_cons_zero, List.set_cons_succ]
        refine takeS_on (i := 20) 73 (v := ?hv24) rfl rfl (by kernel_rfl) (by kernel_rfl) (by kernel_rfl) (fun _ _ _ h => h) (by kernel_rfl) ?hh24 (by exact hS0) ?_
        case hh24 => (intro w' hSw; go_simp; try (with_reducible rfl))
        simp only [Act.put, List.setIfInBounds_toArray, List.set_cons_zero, List.set_cons_succ]
        refine wpAnyH_ready (rs := [21]) (by kernel_rfl) (by simp) (AllReadyH.cons rfl (fun K hK => ?_) AllReadyH.nil)
        have hS1 := hS0.st (((lost + min (n - j) (2147483647 - lost) : Nat) : Int))
        have fz := hS0.fz
        go_simp
        rw [HM.out]
        clear fz
        refine hK.out _ _ (by exact hS1) (fun _ => ?_)
        clear hK K
        refine wpAnyH_done (by kernel_rfl) ?_ _
        have q1 := KL.setQ DQ.out (lost + min (n - j) (2147483647 - lost))
        obtain ⟨c0, _, f0, l0⟩ := q1.c1
        have Z1 := hid ((HZ.out.trans (fun _ _ k8 => KL.same k8 DG.out)).trans (fun _ _ k8 => KL.setL k8 (lost + min (n - j) (2147483647 - lost))))
        clear q1 hS0 hS1 d3
        generalize V0.setCell ⟨k, 3, none⟩ (.int .i64 ((lost + min (n - j) (2147483647 - lost) : Nat) : Int)) = V1 at c0 f0 l0 Z1 ⊢
        go_wp2_with fail
        all_goals
          go_end0
          rw [← List.map_take]
          exact ⟨rfl, Z1.out.trans (fun _ _ k8 => KL.noO k8)⟩
end Go.Proofs.Ytnpbehcfbceclaa.Lt
