/-
  What the program's Load answers, and leaves. Conditions: the cells lie where New left them.
-/
import Derived.Test.YtpmhmikefkgbdabClProg
namespace Go.Proofs.Ytpmhmikefkgbdab.Lt
open Go.RowKit Wd
attribute [local go_sem ↓] Go.wp_at_zero Go.wp_at_succ

set_option maxHeartbeats 2000000 in
theorem access_load (base : Nat) (w : World) (b : Nat) (v : Value) (vs : List Int) (o : O4) (hk : o.k = 1) (h : CAt base w b v vs)
    (HC : ∀ W : World, Gr w W → Calls Try.prog 23 #[.int .i64 (inC vs o.c)] W fun r w' => r = .returned (.tuple #[.int .i64 (putOf o (inC vs o.c)).1, .bool (putOf o (inC vs o.c)).2]) ∧ w' = W) :
    Calls Try.prog 20 #[.pointer (some ⟨b, 0, none⟩), .int .i64 o.c, .int .i64 1, .func (.func 23) #[] #[]] w (AcR base w b v vs o) := by
  obtain ⟨ok, i, oo, ov⟩ := o
  have hk : ok = 1 := hk
  subst hk
  obtain ⟨ao, cap, hv⟩ := h.vo.form
  have c0 := cell_of h.bk 0
  have c1 := cell_of h.bk 1
  simp at c0 c1
  have hbl := lt_of_block h.bk
  have H := hid h
  have HCL := hid HC
  have HP := hid (fun (i : Int) (ao : Option Addr) (n cap : Nat) (W : World) => isplace_any i ao n cap W)
  clear HC h
  cases hp : isP i vs.length with
  | false =>
    have HR := hid (fun w' (g : Gr w w') => AcR.none (o := ⟨1, i, oo, ov⟩) H.out hp g)
    rw [hv] at c1
    clear hv
    go_enter Try.func20, Try.ntmps20
    go_wp2_with (go_at_call 30; refine (HP.out _ _ _ _ _).mono ?_; rw [hp]; rintro e w1 ⟨rfl, hw⟩; have hw := hw.symm; subst hw)
    exact bodyPost_ret (v := .tuple #[.agg #[.int .i64 0, .int .i64 0, .int .i64 0, .int .i64 0, .bool false], .int .i64 100]) (by simp [results, Try.results20, go_sem]) rfl (HR.out _ ((Gr.refl w).alloc _ _))
  | true =>
    obtain ⟨j, hj, hjl⟩ := isP_of hp
    subst hj
    cases hq : putOf ⟨1, (j : Int), oo, ov⟩ (inC vs (j : Int)) with
    | mk A W =>
    have HCA := hid (show ∀ W1 : World, Gr w W1 → Calls Try.prog 23 #[.int .i64 (inC vs (j : Int))] W1 fun r w' => r = .returned (.tuple #[.int .i64 A, .bool W]) ∧ w' = W1 from fun W1 g1 => by
      have := HCL.out W1 g1
      rw [hq] at this
      exact this)
    clear HCL
    obtain ⟨g, cap', hv', hgl, hc, hf, -, -⟩ := H.out.put hjl 0
    have hav : g ≠ b := fun q => H.out.av (by rw [hv', ← q]; rfl)
    have hi : (j : Int) < (vs.length : Int) := by omega
    rw [hv'] at c1
    have HV := hid hv'
    clear hv hv'
    cases W with
    | false =>
      have HR := hid (fun w' (gg : Gr w w') => AcR.read (o := ⟨1, (j : Int), oo, ov⟩) H.out hp hq gg)
      simp only at HR
      generalize inC vs (j : Int) = B at hc HCA HR
      have HQ := hid hq
      clear hq
      go_enter Try.func20, Try.ntmps20
      go_wp2_with (first | (go_at_call 30; refine (HP.out _ _ _ _ _).mono ?_; rw [hp]; rintro e w1 ⟨rfl, hw⟩; have hw := hw.symm; subst hw) | (go_at_call 23; refine (HCA.out _ ((Gr.refl w).alloc _ _)).mono ?_; rintro e w2 ⟨rfl, hw⟩; have hw := hw.symm; subst hw))
      exact bodyPost_ret (v := .tuple #[.agg #[.int .i64 (j : Int), .int .i64 1, .int .i64 B, .int .i64 A, .bool false], .int .i64 0]) (by simp [results, Try.results20, go_sem]) rfl (HR.out _ ((Gr.refl w).alloc _ _))
    | true =>
      obtain ⟨g', cap2, hv2, -, -, -, K1, K2⟩ := H.out.put hjl A
      have hv3 := HV.out.symm.trans hv2
      injection hv3 with e1 e2 e3
      injection e1 with e1
      injection e1 with e1
      subst e1
      have HR := hid (AcR.wrote (o := ⟨1, (j : Int), oo, ov⟩) rfl hp hq (K1.gr ((Gr.refl _).alloc (Z5 1 (j : Int) (inC vs (j : Int)) A true) 28)) (K2.alloc _))
      simp only [Z5] at HR
      generalize inC vs (j : Int) = B at hc HCA HR
      have HQ := hid hq
      clear hq K1 K2 hv2 e2 e3
      go_enter Try.func20, Try.ntmps20
      go_wp2_with (first | (go_at_call 30; refine (HP.out _ _ _ _ _).mono ?_; rw [hp]; rintro e w1 ⟨rfl, hw⟩; have hw := hw.symm; subst hw) | (go_at_call 23; refine (HCA.out _ ((Gr.refl w).alloc _ _)).mono ?_; rintro e w2 ⟨rfl, hw⟩; have hw := hw.symm; subst hw))
      exact bodyPost_ret (v := .tuple #[.agg #[.int .i64 (j : Int), .int .i64 1, .int .i64 B, .int .i64 A, .bool true], .int .i64 0]) (by simp [results, Try.results20, go_sem]) rfl HR.out

theorem put_load (o : O4) (B : Int) (w : World) (hk : o.k = 1) : Calls Try.prog 23 #[.int .i64 B] w fun r w' => r = .returned (.tuple #[.int .i64 (putOf o B).1, .bool (putOf o B).2]) ∧ w' = w := by
  obtain ⟨ok, oc, oo, ov⟩ := o
  have hk : ok = 1 := hk
  subst hk
  · have hq : putOf ⟨1, oc, oo, ov⟩ B = (B, false) := rfl
    rw [hq]
    go_enter Try.func23, Try.ntmps23
    go_wp2
    exact bodyPost_ret (v := .tuple #[.int .i64 B, .bool false]) (by simp [results, Try.results23, go_sem]) rfl ⟨rfl, rfl⟩

set_option maxHeartbeats 1000000 in
theorem load_any (base : Nat) (w : World) (b : Nat) (v : Value) (vs : List Int) (o : O4) (hk : o.k = 1) (h : CAt base w b v vs) :
    Calls Try.prog 10 #[.pointer (some ⟨b, 0, none⟩), .int .i64 o.c] w (AcR base w b v vs o) := by
  have HGr := hid (show Gr w (w.alloc (.cells (Z5 0 0 0 0 false) 28)) from ((Gr.refl w)).alloc _ _)
  have HA := hid (access_load base (w.alloc (.cells (Z5 0 0 0 0 false) 28)) b v vs o  hk (h.gr HGr.out) (fun W1 g1 => put_load o _  W1 hk ))
  have HG := hid (fun (e : Ending) (w1 : World) (q : AcR base (w.alloc (.cells (Z5 0 0 0 0 false) 28)) b v vs o e w1) => q)
  simp only [Z5] at HA HG HGr
  have H := hid h
  clear h
  obtain ⟨T, hT⟩ : ∃ T, T = told o vs := ⟨_, rfl⟩
  have HT := hid hT
  clear hT
  go_enter Try.func10, Try.ntmps10
  go_wp2_with fail
  refine HA.out.mono ?_
  rintro e w1 ⟨rfl, c1, g1⟩
  have hnb : ¬ Blk v w.heap.size := fun q => by have := (H.out.vo.blk q).2; omega
  have BT := hid (show w1.heap[w.heap.size]? = some (.cells #[.int .i64 0, .int .i64 0, .int .i64 0, .int .i64 0, .bool false] 28 (0, 0)) from (g1.block w.heap.size (by simp) hnb).trans (al_at _ (by simp)))
  have C1 := hid c1
  have G1 := hid ((HGr.out.any (S := Blk v)).trans g1 (fun x q => .inl q))
  have HE := hid (show (told o vs).val = .agg (Z5 (told o vs).k (told o vs).c (told o vs).b (told o vs).a (told o vs).w) from rfl)
  rw [HE.out]
  clear c1 g1 HE
  generalize hz : Z5 (told o vs).k (told o vs).c (told o vs).b (told o vs).a (told o vs).w = z
  have HZ := hid hz
  clear hz
  generalize hte : terr o vs = te
  have HTE := hid hte
  clear hte
  have hzs : z.size = 5 := by rw [← HZ.out]; rfl
  have hz1 : z.all (·.oneCell') = true := by rw [← HZ.out]; simp [Z5, Value.oneCell']
  have HS := hid hzs
  have H1 := hid hz1
  clear hzs hz1
  go_wp2_with (refine st_row rfl 28 (.tmp 4) (.tmp 9) rfl w.heap.size _ rfl rfl _ _ BT.out (by rw [HS.out]; exact acc_size) (by rw [HS.out]; rfl) H1.out ?_; intro w9 b9 k9; have R9 := hid b9; have K9 := hid k9; clear b9 k9)
  refine bodyPost_ret (results_cell_tmp2 rfl _ _ w.heap.size _ rfl (run_loadVar_row _ _ _ _ _ _ _ R9.out Try.underlying28 rfl (by rw [HS.out]; exact acc_size))) rfl ?_
  refine ⟨by rw [← HZ.out, ← HTE.out]; rfl, C1.out.ch K9.out ?_ ?_, G1.out.trans K9.out (fun x q => .inr (by rw [q]; omega))⟩
  · intro q
    have := lt_of_block H.out.bk
    have e : b = w.heap.size := q
    omega
  · intro g q e
    exact hnb (by have e : g = w.heap.size := e; rw [← e]; exact q)
end Go.Proofs.Ytpmhmikefkgbdab.Lt
