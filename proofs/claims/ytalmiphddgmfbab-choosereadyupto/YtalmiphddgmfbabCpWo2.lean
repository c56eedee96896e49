/-
  What slices.DeleteFunc and the program's without of layer 11 answer and leave. Condition: a list is not too long.
-/
import Derived.Test.YtalmiphddgmfbabCpWo
import Derived.Deep.Cut
namespace Go.Proofs.Ytalmiphddgmfbab.Lt
open Go.RowKit Wd
attribute [local go_sem ↓] Go.wp_at_zero Go.wp_at_succ

theorem wo_none {ws : List Wt} {s g : Int} (h : ∀ y ∈ ws, isG s g y = false) : wo ws s g = ws := by
  unfold wo
  rw [List.filter_eq_self]
  intro x hx
  have := h x hx
  unfold isG at this
  simp [this]
theorem wo_one (ws : List Wt) (s g : Int) {j : Nat} {x : Wt} (h : ws[j]? = some x) : wo (ws.take (j + 1)) s g = wo (ws.take j) s g ++ (if isG s g x = true then [] else [x]) := by
  unfold wo
  rw [take_one h, List.filter_append]
  congr 1
  unfold isG
  by_cases e : (x.s == s && x.g == g) = true
  · rw [if_pos e]; simp [List.filter, e]
  · rw [if_neg e]; simp [List.filter, e]
/-- what is left of a list in its own memory -/
def LfR (base : Nat) (w : World) (ao : Option Addr) (n cap : Nat) (ws : List Wt) (e : Ending) (w' : World) : Prop := ∃ m, e = .returned (.slice ao m cap) ∧ Ow eW 4 95 base w' (.slice ao m cap) ws ∧ Ch (Blk (.slice ao n cap)) w w'
theorem one4 (a b c d : Int) : (#[.int .i64 a, .int .i64 b, .int .i64 c, .int .i64 d] : Array Value).all (·.oneCell') = true := by simp [Value.oneCell']
theorem ow_some {T base n cap : Nat} {ao : Option Addr} {w : World} {xs : List Wt} (h : Ow eW 4 T base w (.slice ao n cap) xs) (hp : 0 < n) : ∃ g, ao = some ⟨g, 0, none⟩ := by
  have e := h.len.1
  obtain ⟨x, hx⟩ : ∃ x, xs[0]? = some x := ⟨_, List.getElem?_eq_getElem (by omega)⟩
  obtain ⟨g', cap', e, -⟩ := h.get eW_len hx
  injection e with e1 e2 e3
  exact ⟨g', e1⟩
set_option maxRecDepth 20000 in
set_option maxHeartbeats 4000000 in
theorem deletef_any (base : Nat) (w : World) (ao : Option Addr) (n cap : Nat) (ws : List Wt) (s g : Int) (gb : Nat) (h : Ow eW 4 95 base w (.slice ao n cap) ws) (hn : n ≤ 4398046511104) (hb : w.heap[gb]? = some (.cells #[.int .i64 s, .int .i64 g] 24 (0, 0))) (hd : ¬ Blk (.slice ao n cap) gb) : Calls Try.prog 70 #[.slice ao n cap, cloV gb] w (LfR base w ao n cap (wo ws s g)) := by
  have HI := hid (indexf_any _ w ao n cap ws s g gb h.lst hn hb)
  have HL := hid h.len.1
  have HO := hid h
  have HB := hid hb
  rcases Classical.em (∀ y ∈ ws, isG s g y = false) with hno | hyes
  · rw [ixG_no hno] at HI
    have HW := hid (wo_none hno)
    clear h hb hno hd
    go_enter Try.func70, Try.ntmps70
    go_wp2_with (go_at_call 60; refine HI.out.mono ?_; rintro e w1 ⟨rfl, g1⟩; have G1 := hid g1; clear g1)
    go_ret
    exact ⟨n, rfl, by rw [HW.out]; exact HO.out.gr G1.out, G1.out.any⟩
  · have hf : ∃ k x, ws[k]? = some x ∧ isG s g x = true ∧ ∀ y ∈ ws.take k, isG s g y = false := by
      cases hq : ws.findIdx? (isG s g) with
      | none =>
        rw [List.findIdx?_eq_none_iff] at hq
        exact (hyes (fun y hy => hq y hy)).elim
      | some k =>
        rw [List.findIdx?_eq_some_iff_getElem] at hq
        obtain ⟨hk, h1, h2⟩ := hq
        refine ⟨k, ws[k], List.getElem?_eq_getElem hk, h1, fun y hy => ?_⟩
        obtain ⟨i, hi⟩ := List.mem_iff_getElem?.1 hy
        have hik : i < k := by
          have := (List.getElem?_eq_some_iff.1 hi).1
          rw [List.length_take] at this
          omega
        rw [List.getElem?_take_of_lt hik, List.getElem?_eq_getElem (by omega)] at hi
        injection hi with hi
        rw [← hi]
        have := h2 i hik
        simpa using this
    obtain ⟨k, xk, hk, hkm, hkn⟩ := hf
    have hkl : k < n := by have := (List.getElem?_eq_some_iff.1 hk).1; have := HL.out; omega
    rw [ixG_yes hkn hk hkm] at HI
    obtain ⟨gl, rfl⟩ := ow_some h (by omega)
    have ngl : gb ≠ gl := fun e => hd (by rw [e]; rfl)
    have HW0 := hid (show wo (ws.take (k + 1)) s g = ws.take k from by rw [wo_one ws s g hk, if_pos hkm, List.append_nil, wo_none hkn])
    have HL0 := hid (show ws = ws.take k ++ [xk] ++ ws.drop (k + 1) from by
      rw [← take_one hk, List.take_append_drop])
    have HK := hid hkl
    have k2 : ((k : Int) == -1) = false := by simp
    have HLK := hid (show (ws.take k).length = k from by rw [List.length_take]; have := HL.out; omega)
    clear h hb hd hyes hk hkm hkn
    go_enter Try.func70, Try.ntmps70
    go_wp2_with (go_at_call 60; refine HI.out.mono ?_; rintro e w1 ⟨rfl, g1⟩; have G1 := hid g1; clear g1)
    go_loopg [5, 6] (n - (k + 1)) (fun q v5 v6 wr => ∃ (j i : Nat) (G : List Wt), j + q = n ∧ v5 = .int .i64 (i : Int) ∧ v6 = .int .i64 (j : Int) ∧ i = (wo (ws.take j) s g).length ∧ G.length + i = j ∧ 0 < G.length ∧ Ow eW 4 95 base wr (.slice (some ⟨gl, 0, none⟩) n cap) (wo (ws.take j) s g ++ G ++ ws.drop j) ∧ wr.heap[gb]? = some (.cells #[.int .i64 s, .int .i64 g] 24 (0, 0)) ∧ Ch (Only gl) w wr)
    case atStart =>
      exact ⟨k + 1, k, [xk], by have := HK.out; omega, rfl, by first | rfl | simp, by rw [HW0.out, HLK.out], by simp; omega, by simp, by rw [HW0.out, ← HL0.out]; exact HO.out.gr G1.out, gr_blk HB.out G1.out, G1.out.any⟩
    case round =>
      obtain ⟨j, i, G, hjq, rfl, rfl, hi, hGl, hGp, hO, hbb, hC⟩ := hrel
      have HO1 := hid hO
      have HB1 := hid hbb
      have HC1 := hid hC
      have HI1 := hid hi
      have HGL := hid hGl
      have HGP := hid hGp
      clear hO hbb hC hi hGl hGp
      by_cases hj : j < n
      · obtain ⟨⟨x0, x1, x2, x3⟩, hx⟩ : ∃ x, ws[j]? = some x := ⟨_, List.getElem?_eq_getElem (by rw [← HL.out]; omega)⟩
        have hLx : (wo (ws.take j) s g ++ G ++ ws.drop j)[j]? = some ⟨x0, x1, x2, x3⟩ := by
          rw [List.getElem?_append_right (by rw [List.length_append, ← HI1.out]; have := HGL.out; omega), List.length_append, ← HI1.out, show j - (i + G.length) = 0 by have := HGL.out; omega, List.getElem?_drop, Nat.add_zero]
          exact hx
        obtain ⟨gg, cap', hv, _, hgl, _, hcs, _, _⟩ := HO1.out.get eW_len hLx
        injection hv with hv1 hv2 hv3
        injection hv1 with hv1
        injection hv1 with hv1 _ _
        subst hv1
        have c0 := hcs 0 _ rfl
        have c1 := hcs 1 _ rfl
        have c2 := hcs 2 _ rfl
        have c3 := hcs 3 _ rfl
        dsimp only [Nat.add_zero] at c0 c1 c2 c3
        have j0 : (0 : Int) ≤ (j : Int) := by omega
        have j1 : (j : Int) < (n : Int) := by omega
        have i0 : (0 : Int) ≤ (i : Int) := by omega
        have i1 : (i : Int) < (n : Int) := by have := HGL.out; omega
        have HIN := hid (show i < n from by have := HGL.out; omega)
        have HT := hid (wo_one ws s g hx)
        have hdr : ws.drop j = ⟨x0, x1, x2, x3⟩ :: ws.drop (j + 1) := by
          have hl := (List.getElem?_eq_some_iff.1 hx).1
          rw [List.drop_eq_getElem_cons hl, (List.getElem?_eq_some_iff.1 hx).2]
        have HDR := hid hdr
        have HCL := hid (clo_any s g x0 x1 x2 x3 gb (wr.alloc (.cells #[.int .i64 x0, .int .i64 x1, .int .i64 x2, .int .i64 x3] 95)) (al_blk HB1.out _))
        have GA := hid (show Gr wr (wr.alloc (.cells #[.int .i64 x0, .int .i64 x1, .int .i64 x2, .int .i64 x3] 95)) from Ch.alloc (Gr.refl wr) _)
        obtain ⟨z, hz⟩ : ∃ z, z = (x0 == s && x1 == g) := ⟨_, rfl⟩
        have HZ := hid hz
        rw [← hz] at HCL
        have B7 : (wr.alloc (.cells #[.int .i64 x0, .int .i64 x1, .int .i64 x2, .int .i64 x3] 95)).heap[wr.heap.size]? = some (.cells #[.int .i64 x0, .int .i64 x1, .int .i64 x2, .int .i64 x3] 95 (0, 0)) := (MapKept.heap_alloc wr _).1
        have H7 := hid B7
        clear hcs hv2 hv3 hx hgl hz hLx hdr
        cases z with
        | true =>
          have hT := HT.out
          rw [if_pos (show isG s g ⟨x0, x1, x2, x3⟩ = true from HZ.out.symm), List.append_nil] at hT
          have HT2 := hid hT
          clear hT
          go_wp2_with (first
            | (go_at_call 71; refine HCL.out.mono ?_; rintro e w5 ⟨rfl, g5⟩; have G5 := hid (Gr.trans GA.out g5); clear g5)
            | (refine wpList_load_row rfl 95 (.tmp 7) rfl wr.heap.size rfl _ _ _ _ B7 Try.underlying95 rfl wtr_size ?_))
          go_roundg (gk - 1)
          case measure => omega
          case rel => exact ⟨j + 1, i, G ++ [⟨x0, x1, x2, x3⟩], by omega, rfl, by first | rfl | simp, by rw [HT2.out]; exact HI1.out, by rw [List.length_append]; have := HGL.out; simp; omega, by simp, by
            have := HO1.out.gr G5.out
            rw [HDR.out] at this
            rw [HT2.out]
            simpa using this, gr_blk HB1.out G5.out, HC1.out.trans G5.out (fun _ q => q.elim)⟩
        | false =>
          have hT := HT.out
          rw [if_neg (show ¬ isG s g ⟨x0, x1, x2, x3⟩ = true from by rw [show isG s g ⟨x0, x1, x2, x3⟩ = false from HZ.out.symm]; simp)] at hT
          have HT2 := hid hT
          clear hT
          go_wp2_with (first
            | (refine wpList_load_row rfl 95 (.tmp 7) rfl wr.heap.size rfl _ _ _ _ B8 Try.underlying95 rfl wtr_size ?_)
            | (go_at_call 71; refine HCL.out.mono ?_; rintro e w5 ⟨rfl, g5⟩; have G5 := hid (Gr.trans GA.out g5); have B8 := gr_blk H7.out g5; obtain ⟨th, oo⟩ := (HO1.out.gr G5.out).set4 (i := i) HIN.out ⟨x0, x1, x2, x3⟩; have TH := hid th; have OO := hid oo; clear g5 th oo B7)
            | (refine wpList_load_row rfl 95 (.tmp 7) rfl wr.heap.size rfl _ _ _ _ B7 Try.underlying95 rfl wtr_size ?_)
            | (refine wpList_store_mid rfl 95 (.tmp 33) (.tmp 32) rfl gl (i * 4) #[.int .i64 x0, .int .i64 x1, .int .i64 x2, .int .i64 x3] rfl rfl TH.out wtr_size (one4 _ _ _ _) ?_; have K6 := hid (setCells_ch gl (eW ⟨x0, x1, x2, x3⟩) (i * 4) w5); have B6 := hid ((K6.out.block gb (lt_of_block (gr_blk HB1.out G5.out)) (fun e => ngl e)).trans (gr_blk HB1.out G5.out)); have OO6 := hid (show Ow eW 4 95 base (w5.setCells gl (i * 4) (eW ⟨x0, x1, x2, x3⟩)) _ _ from OO.out); change wpList _ _ _ _ _ (w5.setCells gl (i * 4) (eW ⟨x0, x1, x2, x3⟩)); generalize w5.setCells gl (i * 4) (eW ⟨x0, x1, x2, x3⟩) = w6 at K6 B6 OO6 ⊢; clear OO TH))
          go_roundg (gk - 1)
          case measure => omega
          case rel =>
            obtain ⟨g0, G1', rfl⟩ : ∃ a b, G = a :: b := by
              cases G with
              | nil => exact absurd HGP.out (by simp)
              | cons a b => exact ⟨a, b, rfl⟩
            refine ⟨j + 1, i + 1, G1' ++ [⟨x0, x1, x2, x3⟩], by omega, by first | rfl | simp, by first | rfl | simp, by rw [HT2.out, List.length_append, ← HI1.out]; rfl, by have := HGL.out; simp at this ⊢; omega, by simp, ?_, B6.out, (HC1.out.trans G5.out (fun _ q => q.elim)).trans' K6.out⟩
            have e : (wo (ws.take j) s g ++ g0 :: G1' ++ ws.drop j).set i ⟨x0, x1, x2, x3⟩ = wo (ws.take (j + 1)) s g ++ (G1' ++ [⟨x0, x1, x2, x3⟩]) ++ ws.drop (j + 1) := by
              rw [HT2.out, HDR.out, HI1.out, List.append_assoc, List.set_append_right _ _ (Nat.le_refl _), Nat.sub_self]
              simp
            rw [← e]
            exact OO6.out
      · have jn : ¬ (j : Int) < (n : Int) := by omega
        obtain rfl : j = n := by omega
        have hin : i < j := by have := HGL.out; have := HGP.out; omega
        have hT : ws.take j = ws := List.take_of_length_le (by rw [← HL.out]; omega)
        have hI2 := HI1.out
        have hO2 := HO1.out
        rw [hT] at hI2 hO2
        have HF := hid (fun (vs : List Value) (hv : vs.length = (j - i) * 4) => by
          have := hO2.cut4 (m := i) (vs := vs) (by omega) hv
          rw [List.append_assoc, List.take_append_of_le_length (by omega), List.take_of_length_le (by omega)] at this
          exact this)
        obtain ⟨t1, t2⟩ := there_of hO2 (m := i) (by omega)
        have hcl := fun ty c => run_clear4 wr ty gl (i * 4) (j - i) c (by omega) t1 t2
        obtain ⟨Z, hZ⟩ : ∃ Z, Z = (Builtin.zeroCells Wt.zero.cells (j - i)).toList := ⟨_, rfl⟩
        rw [← hZ] at hcl
        have HZL := hid (show Z.length = (j - i) * 4 from by rw [hZ, clear_len])
        have hcap := hO2.len.2
        have i0 : (0 : Int) ≤ (i : Int) := by omega
        have i1 : (i : Int) ≤ (j : Int) := by omega
        have i2 : (i : Int) ≤ (cap : Int) := by omega
        have i3 : i ≤ cap := by omega
        have i4 : i ≤ j := by omega
        have i5 : ¬ (j = i) := by omega
        have i6 : ¬ (cap = i) := by omega
        have i7 : (j : Int) ≤ (cap : Int) := by omega
        have KC := hid (setCells_ch gl Z (i * 4) wr)
        clear hI2 hO2 t1 t2 hZ hT hin
        go_wp2_with fail
        go_ret
        exact ⟨i, rfl, HF.out Z HZL.out, (HC1.out.trans' KC.out).mono (fun q e => .inl (by have e1 : q = gl := e; rw [e1]; rfl))⟩
theorem without_any (base : Nat) (w : World) (ao : Option Addr) (n cap : Nat) (ws : List Wt) (s g : Int) (h : Ow eW 4 95 base w (.slice ao n cap) ws) (hn : n ≤ 4398046511104) : Calls Try.prog 69 #[.slice ao n cap, .agg #[.int .i64 s, .int .i64 g]] w (LfR base w ao n cap (wo ws s g)) := by
  have HD := hid (deletef_any base _ ao n cap ws s g w.heap.size (h.alloc (.cells #[.int .i64 s, .int .i64 g] 24)) hn (MapKept.heap_alloc w _).1 (fun hq => by have := (h.blk hq).2; omega))
  have G0 := hid (show Gr w (w.alloc (.cells #[.int .i64 s, .int .i64 g] 24)) from Ch.alloc (Gr.refl w) _)
  clear h
  go_enter Try.func69, Try.ntmps69
  go_wp2_with (go_at_call 70; refine HD.out.mono ?_; rintro e w1 ⟨m, rfl, o1, c1⟩; have O1 := hid o1; have C1 := hid c1; clear o1 c1)
  go_ret
  exact ⟨m, rfl, O1.out, G0.out.any.trans' C1.out⟩
end Go.Proofs.Ytalmiphddgmfbab.Lt
