/-
  What the document's worked, divided and trapped of layer 9 answer. No conditions.
  What the document's Step answers at an operation of two numbers. Condition: words are words.
-/
import Derived.Test.YtcdlhfodeckleaaDoorSuRk
import Derived.Test.YtcdlhfodeckleaaDoorSuAs
namespace Go.Proofs.YtcdlhfodeckleaaDoor.Lt
open Go.RowKit Wd

theorem u64_63 (z : Int) : IntKind.u64.wrap (z % 64) = z % 64 := by rw [IntKind.wrap_u64]; omega
theorem rbit_any (b : Bool) (w : World) : Calls Tryd.prog 52 #[.bool b] w fun e w' => e = .returned (.int .i64 (if b = true then 1 else 0)) ∧ w' = w := by
  cases b with
  | true =>
    go_enter Tryd.func52, Tryd.ntmps52
    go_wp2
    go_ret
    exact ⟨rfl, rfl⟩
  | false =>
    go_enter Tryd.func52, Tryd.ntmps52
    go_wp2
    go_ret
    exact ⟨rfl, rfl⟩
/-- the operations of two numbers -/
abbrev Two (o : Int) : Prop := (5 ≤ o ∧ o ≤ 7) ∨ (10 ≤ o ∧ o ≤ 16)
theorem worked_5 (im x y z : Int) (w : World) : Calls Tryd.prog 39 #[.int .i64 5, .int .i64 y, .int .i64 z] w fun e w' => e = .returned (.tuple #[.int .i64 (rk 5 im x y z), .bool true]) ∧ Gr w w' := by
  have HR := hid (show ∀ w' u, u = (wrap64 (y + z)) → Gr w w' → (.returned (.tuple #[.int .i64 u, .bool true]) : Ending) = .returned (.tuple #[.int .i64 (rk 5 im x y z), .bool true]) ∧ Gr w w' from fun w' u hu g => ⟨by rw [hu]; simp [rk], g⟩)
  have hm := and63_i64 z
  have hw := u64_63 z
  have hs1 := fun (k : IntKind) (w : World) => shl_run y z k w
  have hs2 := fun (k : IntKind) (w : World) => shr_run y z k w
  go_enter Tryd.func39, Tryd.ntmps39
  go_wp2
  exact bodyPost_ret (v := .tuple #[.int .i64 (wrap64 (y + z)), .bool true]) (by simp [results, Tryd.results39, go_sem]) rfl (HR.out _ _ rfl (Gr.refl _))
theorem worked_6 (im x y z : Int) (w : World) : Calls Tryd.prog 39 #[.int .i64 6, .int .i64 y, .int .i64 z] w fun e w' => e = .returned (.tuple #[.int .i64 (rk 6 im x y z), .bool true]) ∧ Gr w w' := by
  have HR := hid (show ∀ w' u, u = (wrap64 (y - z)) → Gr w w' → (.returned (.tuple #[.int .i64 u, .bool true]) : Ending) = .returned (.tuple #[.int .i64 (rk 6 im x y z), .bool true]) ∧ Gr w w' from fun w' u hu g => ⟨by rw [hu]; simp [rk], g⟩)
  have hm := and63_i64 z
  have hw := u64_63 z
  have hs1 := fun (k : IntKind) (w : World) => shl_run y z k w
  have hs2 := fun (k : IntKind) (w : World) => shr_run y z k w
  go_enter Tryd.func39, Tryd.ntmps39
  go_wp2
  exact bodyPost_ret (v := .tuple #[.int .i64 (wrap64 (y - z)), .bool true]) (by simp [results, Tryd.results39, go_sem]) rfl (HR.out _ _ rfl (Gr.refl _))
theorem worked_7 (im x y z : Int) (w : World) : Calls Tryd.prog 39 #[.int .i64 7, .int .i64 y, .int .i64 z] w fun e w' => e = .returned (.tuple #[.int .i64 (rk 7 im x y z), .bool true]) ∧ Gr w w' := by
  have HR := hid (show ∀ w' u, u = (wrap64 (y * z)) → Gr w w' → (.returned (.tuple #[.int .i64 u, .bool true]) : Ending) = .returned (.tuple #[.int .i64 (rk 7 im x y z), .bool true]) ∧ Gr w w' from fun w' u hu g => ⟨by rw [hu]; simp [rk], g⟩)
  have hm := and63_i64 z
  have hw := u64_63 z
  have hs1 := fun (k : IntKind) (w : World) => shl_run y z k w
  have hs2 := fun (k : IntKind) (w : World) => shr_run y z k w
  go_enter Tryd.func39, Tryd.ntmps39
  go_wp2
  exact bodyPost_ret (v := .tuple #[.int .i64 (wrap64 (y * z)), .bool true]) (by simp [results, Tryd.results39, go_sem]) rfl (HR.out _ _ rfl (Gr.refl _))
theorem worked_10 (im x y z : Int) (w : World) : Calls Tryd.prog 39 #[.int .i64 10, .int .i64 y, .int .i64 z] w fun e w' => e = .returned (.tuple #[.int .i64 (rk 10 im x y z), .bool true]) ∧ Gr w w' := by
  have HR := hid (show ∀ w' u, u = (bits .and .i64 y z) → Gr w w' → (.returned (.tuple #[.int .i64 u, .bool true]) : Ending) = .returned (.tuple #[.int .i64 (rk 10 im x y z), .bool true]) ∧ Gr w w' from fun w' u hu g => ⟨by rw [hu]; simp [rk], g⟩)
  have hm := and63_i64 z
  have hw := u64_63 z
  have hs1 := fun (k : IntKind) (w : World) => shl_run y z k w
  have hs2 := fun (k : IntKind) (w : World) => shr_run y z k w
  go_enter Tryd.func39, Tryd.ntmps39
  go_wp2
  exact bodyPost_ret (v := .tuple #[.int .i64 (bits .and .i64 y z), .bool true]) (by simp [results, Tryd.results39, go_sem]) rfl (HR.out _ _ rfl (Gr.refl _))
theorem worked_11 (im x y z : Int) (w : World) : Calls Tryd.prog 39 #[.int .i64 11, .int .i64 y, .int .i64 z] w fun e w' => e = .returned (.tuple #[.int .i64 (rk 11 im x y z), .bool true]) ∧ Gr w w' := by
  have HR := hid (show ∀ w' u, u = (bits .or .i64 y z) → Gr w w' → (.returned (.tuple #[.int .i64 u, .bool true]) : Ending) = .returned (.tuple #[.int .i64 (rk 11 im x y z), .bool true]) ∧ Gr w w' from fun w' u hu g => ⟨by rw [hu]; simp [rk], g⟩)
  have hm := and63_i64 z
  have hw := u64_63 z
  have hs1 := fun (k : IntKind) (w : World) => shl_run y z k w
  have hs2 := fun (k : IntKind) (w : World) => shr_run y z k w
  go_enter Tryd.func39, Tryd.ntmps39
  go_wp2
  exact bodyPost_ret (v := .tuple #[.int .i64 (bits .or .i64 y z), .bool true]) (by simp [results, Tryd.results39, go_sem]) rfl (HR.out _ _ rfl (Gr.refl _))
theorem worked_12 (im x y z : Int) (w : World) : Calls Tryd.prog 39 #[.int .i64 12, .int .i64 y, .int .i64 z] w fun e w' => e = .returned (.tuple #[.int .i64 (rk 12 im x y z), .bool true]) ∧ Gr w w' := by
  have HR := hid (show ∀ w' u, u = (bits .xor .i64 y z) → Gr w w' → (.returned (.tuple #[.int .i64 u, .bool true]) : Ending) = .returned (.tuple #[.int .i64 (rk 12 im x y z), .bool true]) ∧ Gr w w' from fun w' u hu g => ⟨by rw [hu]; simp [rk], g⟩)
  have hm := and63_i64 z
  have hw := u64_63 z
  have hs1 := fun (k : IntKind) (w : World) => shl_run y z k w
  have hs2 := fun (k : IntKind) (w : World) => shr_run y z k w
  go_enter Tryd.func39, Tryd.ntmps39
  go_wp2
  exact bodyPost_ret (v := .tuple #[.int .i64 (bits .xor .i64 y z), .bool true]) (by simp [results, Tryd.results39, go_sem]) rfl (HR.out _ _ rfl (Gr.refl _))
theorem worked_13 (im x y z : Int) (w : World) : Calls Tryd.prog 39 #[.int .i64 13, .int .i64 y, .int .i64 z] w fun e w' => e = .returned (.tuple #[.int .i64 (rk 13 im x y z), .bool true]) ∧ Gr w w' := by
  have HR := hid (show ∀ w' u, u = (shlV y z) → Gr w w' → (.returned (.tuple #[.int .i64 u, .bool true]) : Ending) = .returned (.tuple #[.int .i64 (rk 13 im x y z), .bool true]) ∧ Gr w w' from fun w' u hu g => ⟨by rw [hu]; simp [rk], g⟩)
  have hm := and63_i64 z
  have hw := u64_63 z
  have hs1 := fun (k : IntKind) (w : World) => shl_run y z k w
  have hs2 := fun (k : IntKind) (w : World) => shr_run y z k w
  go_enter Tryd.func39, Tryd.ntmps39
  go_wp2
  exact bodyPost_ret (v := .tuple #[.int .i64 (shlV y z), .bool true]) (by simp [results, Tryd.results39, go_sem, shlV]) rfl (HR.out _ _ rfl (Gr.refl _))
theorem worked_14 (im x y z : Int) (w : World) : Calls Tryd.prog 39 #[.int .i64 14, .int .i64 y, .int .i64 z] w fun e w' => e = .returned (.tuple #[.int .i64 (rk 14 im x y z), .bool true]) ∧ Gr w w' := by
  have HR := hid (show ∀ w' u, u = (shrV y z) → Gr w w' → (.returned (.tuple #[.int .i64 u, .bool true]) : Ending) = .returned (.tuple #[.int .i64 (rk 14 im x y z), .bool true]) ∧ Gr w w' from fun w' u hu g => ⟨by rw [hu]; simp [rk], g⟩)
  have hm := and63_i64 z
  have hw := u64_63 z
  have hs1 := fun (k : IntKind) (w : World) => shl_run y z k w
  have hs2 := fun (k : IntKind) (w : World) => shr_run y z k w
  go_enter Tryd.func39, Tryd.ntmps39
  go_wp2
  exact bodyPost_ret (v := .tuple #[.int .i64 (shrV y z), .bool true]) (by simp [results, Tryd.results39, go_sem, shrV]) rfl (HR.out _ _ rfl (Gr.refl _))
theorem worked_15 (im x y z : Int) (w : World) : Calls Tryd.prog 39 #[.int .i64 15, .int .i64 y, .int .i64 z] w fun e w' => e = .returned (.tuple #[.int .i64 (rk 15 im x y z), .bool true]) ∧ Gr w w' := by
  have hm := and63_i64 z
  have hw := u64_63 z
  have HNB := hid (fun (b : Bool) (W : World) => rbit_any b W)
  by_cases hq : y < z
  · have HR := hid (show ∀ w' u, u = 1 → Gr w w' → (.returned (.tuple #[.int .i64 u, .bool true]) : Ending) = .returned (.tuple #[.int .i64 (rk 15 im x y z), .bool true]) ∧ Gr w w' from fun w' u hu g => ⟨by rw [hu]; simp [rk, hq], g⟩)
    have hd : decide (y < z) = true := decide_eq_true hq
    go_enter Tryd.func39, Tryd.ntmps39
    go_wp2_with (go_at_call 52; refine (HNB.out _ _).mono ?_; rintro e w1 ⟨rfl, hw⟩; have hw := hw.symm; subst hw)
    exact bodyPost_ret (v := .tuple #[.int .i64 1, .bool true]) (by simp [results, Tryd.results39, go_sem]) rfl (HR.out _ _ rfl (Gr.refl _))
  · have HR := hid (show ∀ w' u, u = 0 → Gr w w' → (.returned (.tuple #[.int .i64 u, .bool true]) : Ending) = .returned (.tuple #[.int .i64 (rk 15 im x y z), .bool true]) ∧ Gr w w' from fun w' u hu g => ⟨by rw [hu]; simp [rk, hq], g⟩)
    have hd : decide (y < z) = false := decide_eq_false hq
    go_enter Tryd.func39, Tryd.ntmps39
    go_wp2_with (go_at_call 52; refine (HNB.out _ _).mono ?_; rintro e w1 ⟨rfl, hw⟩; have hw := hw.symm; subst hw)
    exact bodyPost_ret (v := .tuple #[.int .i64 0, .bool true]) (by simp [results, Tryd.results39, go_sem]) rfl (HR.out _ _ rfl (Gr.refl _))
theorem worked_16 (im x y z : Int) (w : World) : Calls Tryd.prog 39 #[.int .i64 16, .int .i64 y, .int .i64 z] w fun e w' => e = .returned (.tuple #[.int .i64 (rk 16 im x y z), .bool true]) ∧ Gr w w' := by
  have hm := and63_i64 z
  have hw := u64_63 z
  have HNB := hid (fun (b : Bool) (W : World) => rbit_any b W)
  by_cases hq : y = z
  · have HR := hid (show ∀ w' u, u = 1 → Gr w w' → (.returned (.tuple #[.int .i64 u, .bool true]) : Ending) = .returned (.tuple #[.int .i64 (rk 16 im x y z), .bool true]) ∧ Gr w w' from fun w' u hu g => ⟨by rw [hu]; simp [rk, hq], g⟩)
    subst hq
    go_enter Tryd.func39, Tryd.ntmps39
    go_wp2_with (go_at_call 52; refine (HNB.out _ _).mono ?_; rintro e w1 ⟨rfl, hw⟩; have hw := hw.symm; subst hw)
    exact bodyPost_ret (v := .tuple #[.int .i64 1, .bool true]) (by simp [results, Tryd.results39, go_sem]) rfl (HR.out _ _ rfl (Gr.refl _))
  · have HR := hid (show ∀ w' u, u = 0 → Gr w w' → (.returned (.tuple #[.int .i64 u, .bool true]) : Ending) = .returned (.tuple #[.int .i64 (rk 16 im x y z), .bool true]) ∧ Gr w w' from fun w' u hu g => ⟨by rw [hu]; simp [rk, hq], g⟩)
    have hd : (y == z) = false := by simpa using hq
    go_enter Tryd.func39, Tryd.ntmps39
    go_wp2_with (go_at_call 52; refine (HNB.out _ _).mono ?_; rintro e w1 ⟨rfl, hw⟩; have hw := hw.symm; subst hw)
    exact bodyPost_ret (v := .tuple #[.int .i64 0, .bool true]) (by simp [results, Tryd.results39, go_sem]) rfl (HR.out _ _ rfl (Gr.refl _))
theorem worked_any (o im x y z : Int) (h : Two o) (w : World) : Calls Tryd.prog 39 #[.int .i64 o, .int .i64 y, .int .i64 z] w fun e w' => e = .returned (.tuple #[.int .i64 (rk o im x y z), .bool true]) ∧ Gr w w' := by
  rcases (by unfold Two at h; omega : o = 5 ∨ o = 6 ∨ o = 7 ∨ o = 10 ∨ o = 11 ∨ o = 12 ∨ o = 13 ∨ o = 14 ∨ o = 15 ∨ o = 16) with rfl | rfl | rfl | rfl | rfl | rfl | rfl | rfl | rfl | rfl
  · exact worked_5 im x y z w
  · exact worked_6 im x y z w
  · exact worked_7 im x y z w
  · exact worked_10 im x y z w
  · exact worked_11 im x y z w
  · exact worked_12 im x y z w
  · exact worked_13 im x y z w
  · exact worked_14 im x y z w
  · exact worked_15 im x y z w
  · exact worked_16 im x y z w
theorem worked_no (o y z : Int) (h : ¬ Two o) (w : World) : Calls Tryd.prog 39 #[.int .i64 o, .int .i64 y, .int .i64 z] w fun e w' => e = .returned (.tuple #[.int .i64 0, .bool false]) ∧ Gr w w' := by
  have e5 : (o == 5) = false := by unfold Two at h; simp; omega
  have e6 : (o == 6) = false := by unfold Two at h; simp; omega
  have e7 : (o == 7) = false := by unfold Two at h; simp; omega
  have e10 : (o == 10) = false := by unfold Two at h; simp; omega
  have e11 : (o == 11) = false := by unfold Two at h; simp; omega
  have e12 : (o == 12) = false := by unfold Two at h; simp; omega
  have e13 : (o == 13) = false := by unfold Two at h; simp; omega
  have e14 : (o == 14) = false := by unfold Two at h; simp; omega
  have e15 : (o == 15) = false := by unfold Two at h; simp; omega
  have e16 : (o == 16) = false := by unfold Two at h; simp; omega
  have hm := and63_i64 z
  have hw := u64_63 z
  clear h
  go_enter Tryd.func39, Tryd.ntmps39
  go_wp2
  exact bodyPost_ret (v := .tuple #[.int .i64 0, .bool false]) (by simp [results, Tryd.results39, go_sem]) rfl ⟨rfl, Gr.refl _⟩
theorem divided_any (im x y z : Int) (hz : z ≠ 0) (w : World) : Calls Tryd.prog 40 #[.int .i64 y, .int .i64 z] w fun e w' => e = .returned (.tuple #[.int .i64 (rk 8 im x y z), .int .i64 (rk 9 im x y z)]) ∧ Gr w w' := by
  have r8 : rk 8 im x y z = wrap64 (y.tdiv z) := by simp [rk]
  have r9 : rk 9 im x y z = y.tmod z := by simp [rk]
  rw [r8, r9]
  clear r8 r9
  have hzb : (z == 0) = false := by simpa using hz
  by_cases h1 : z = -1
  · subst h1
    have e1 : y.tdiv (-1) = 0 - y := by rw [Int.tdiv_neg, Int.tdiv_one]; omega
    have e2 : y.tmod (-1) = 0 := by rw [Int.tmod_neg, Int.tmod_one]
    rw [e1, e2]
    clear e1 e2
    go_enter Tryd.func40, Tryd.ntmps40
    go_wp2
    exact bodyPost_ret (v := .tuple #[.int .i64 (wrap64 (0 - y)), .int .i64 0]) (by simp [results, Tryd.results40, go_sem]) rfl ⟨rfl, Gr.refl _⟩
  · have h1b : (z == -1) = false := by simpa using h1
    go_enter Tryd.func40, Tryd.ntmps40
    go_wp2
    go_region
    all_goals go_wp2
    all_goals exact bodyPost_ret (v := .tuple #[.int .i64 (wrap64 (y.tdiv z)), .int .i64 (y.tmod z)]) (by simp [results, Tryd.results40, go_sem]) rfl ⟨rfl, by first | exact Gr.refl _ | exact Ch.drew (Gr.refl _)⟩
set_option maxHeartbeats 2000000 in
set_option maxRecDepth 20000 in
theorem trapped_any (P : Nat → Prop) (w : World) (pc : Int) (r : List Int) (hr : r.length = 16) (ao : Option Addr) (n cap : Nat) (ks : List Int) (hk : Ls eI P w (.slice ao n cap) ks) (hn : n ≤ 17592186044416) (t : Int) :
    Calls Tryd.prog 37 #[.agg (cC pc r (.slice ao n cap)), .int .i64 t] w (StR w pc r ks (wt 58 0 0 0 0 0 0 0 0 t 0)) := by
  have HSZ := hid (fun (pc : Int) (v : Value) => cC_size (pc := pc) (v := v) hr)
  have W0B := hid (show (((w.alloc (.cells (cC pc r (.slice ao n cap)) 30)).alloc (.cells #[.int .i64 0, .int .i64 0, .int .i64 0, .int .i64 0, .int .i64 0, .int .i64 0, .int .i64 0, .int .i64 0, .int .i64 0, .int .i64 0, .int .i64 0, .int .i64 0, .int .i64 0, .int .i64 0, .int .i64 0, .int .i64 0, .int .i64 0, .slice none 0 0] 30)).alloc (.cells #[.int .i64 0, .int .i64 0, .int .i64 0, .int .i64 0, .int .i64 0, .int .i64 0, .int .i64 0, .int .i64 0, .int .i64 0, .int .i64 0, .int .i64 0] 49)).heap[w.heap.size]? = some (.cells (cC pc r (.slice ao n cap)) 30 (0, 0)) from al_blk (al_blk (al_at9 _ rfl) _) _)
  have W1B := hid (show (((w.alloc (.cells (cC pc r (.slice ao n cap)) 30)).alloc (.cells #[.int .i64 0, .int .i64 0, .int .i64 0, .int .i64 0, .int .i64 0, .int .i64 0, .int .i64 0, .int .i64 0, .int .i64 0, .int .i64 0, .int .i64 0, .int .i64 0, .int .i64 0, .int .i64 0, .int .i64 0, .int .i64 0, .int .i64 0, .slice none 0 0] 30)).alloc (.cells #[.int .i64 0, .int .i64 0, .int .i64 0, .int .i64 0, .int .i64 0, .int .i64 0, .int .i64 0, .int .i64 0, .int .i64 0, .int .i64 0, .int .i64 0] 49)).heap[w.heap.size + 1]? = some (.cells #[.int .i64 0, .int .i64 0, .int .i64 0, .int .i64 0, .int .i64 0, .int .i64 0, .int .i64 0, .int .i64 0, .int .i64 0, .int .i64 0, .int .i64 0, .int .i64 0, .int .i64 0, .int .i64 0, .int .i64 0, .int .i64 0, .int .i64 0, .slice none 0 0] 30 (0, 0)) from al_blk (al_at9 _ (by simp)) _)
  have W2B := hid (show (((w.alloc (.cells (cC pc r (.slice ao n cap)) 30)).alloc (.cells #[.int .i64 0, .int .i64 0, .int .i64 0, .int .i64 0, .int .i64 0, .int .i64 0, .int .i64 0, .int .i64 0, .int .i64 0, .int .i64 0, .int .i64 0, .int .i64 0, .int .i64 0, .int .i64 0, .int .i64 0, .int .i64 0, .int .i64 0, .slice none 0 0] 30)).alloc (.cells #[.int .i64 0, .int .i64 0, .int .i64 0, .int .i64 0, .int .i64 0, .int .i64 0, .int .i64 0, .int .i64 0, .int .i64 0, .int .i64 0, .int .i64 0] 49)).heap[w.heap.size + 2]? = some (.cells #[.int .i64 0, .int .i64 0, .int .i64 0, .int .i64 0, .int .i64 0, .int .i64 0, .int .i64 0, .int .i64 0, .int .i64 0, .int .i64 0, .int .i64 0] 49 (0, 0)) from al_at9 _ (by simp))
  have K0 := hid (show Gr w (((w.alloc (.cells (cC pc r (.slice ao n cap)) 30)).alloc (.cells #[.int .i64 0, .int .i64 0, .int .i64 0, .int .i64 0, .int .i64 0, .int .i64 0, .int .i64 0, .int .i64 0, .int .i64 0, .int .i64 0, .int .i64 0, .int .i64 0, .int .i64 0, .int .i64 0, .int .i64 0, .int .i64 0, .int .i64 0, .slice none 0 0] 30)).alloc (.cells #[.int .i64 0, .int .i64 0, .int .i64 0, .int .i64 0, .int .i64 0, .int .i64 0, .int .i64 0, .int .i64 0, .int .i64 0, .int .i64 0, .int .i64 0] 49)) from Ch.alloc (Ch.alloc (Ch.alloc (Gr.refl w) _) _) _)
  have HC := hid (fun (W : World) (p : Gr w W) => rcalls9_any P W ao n cap ks (hk.gr p) hn)
  have hv := cC_v hr pc (.slice ao n cap)
  have HRR := hid hr
  clear hr hk
  go_enter Tryd.func37, Tryd.ntmps37
  go_upto_region 2 with (go_at_call 38; refine (HC.out _ K0.out).mono ?_; rintro e w1 ⟨v1, rfl, o1, g1⟩; obtain ⟨ao2, cap2, hv1⟩ := o1.form; generalize ks.length = n2 at hv1; subst hv1; have B0 := hid (gr_blk W0B.out g1); have B1 := hid (gr_blk W1B.out g1); have B2 := hid (gr_blk W2B.out g1); have O1 := hid (o1.lower (show w.heap.size + 3 ≤ _ from by simp)); have K1 := hid (Gr.trans K0.out g1); have y17 := (cell_of B0.out 17).trans (cC_v HRR.out _ _); have z17 := frozen_of B0.out 17; have l17 := lt_of_block B0.out; clear o1 g1)
  have hb8 : (w1.setCell ⟨w.heap.size, 17, none⟩ (.slice ao2 n2 cap2)).heap[w.heap.size]? = some (.cells (cC pc r (.slice ao2 n2 cap2)) 30 (0, 0)) := by rw [← cC_setv HRR.out pc (.slice ao n cap)]; exact setCell_block B0.out 17 _
  have hc8 : Ch (Only w.heap.size) w1 (w1.setCell ⟨w.heap.size, 17, none⟩ (.slice ao2 n2 cap2)) := (Ch.refl _ _).own 17 _
  have C1 := hid ((hc8.block _ (lt_of_block B1.out) (fun q => by have q1 : w.heap.size + 1 = w.heap.size := q; omega)).trans B1.out)
  have C2 := hid ((hc8.block _ (lt_of_block B2.out) (fun q => by have q1 : w.heap.size + 2 = w.heap.size := q; omega)).trans B2.out)
  have O2 := hid (O1.out.ch hc8 (fun q hq e => by have e1 : q = w.heap.size := e; have := (O1.out.blk hq).1; omega))
  have K2 := hid (Ch.trans K1.out hc8 (fun q e => .inr (by have e1 : q = w.heap.size := e; omega)))
  have C0 := hid hb8
  clear hb8 hc8 y17 z17 l17 hv
  generalize w1.setCell ⟨w.heap.size, 17, none⟩ (.slice ao2 n2 cap2) = W8 at C0 C1 C2 O2 K2 ⊢
  go_wp2_with (first
    | (refine wpList_load_row rfl 30 (.tmp 2) rfl w.heap.size rfl _ _ _ _ C0.out Tryd.underlying30 rfl (ctx_size' (HSZ.out _ _)) ?_)
    | (refine st_row rfl 30 (.tmp 4) (.tmp 10) rfl (w.heap.size + 1) _ rfl rfl _ _ C1.out (ctx_size' (HSZ.out _ _)) (HSZ.out _ _).symm cC_one ?_; intro w9 b9 k9; have R9 := hid b9; have K9 := hid k9; have T9 := hid ((k9.block _ (lt_of_block C2.out) (fun q => by have q1 : w.heap.size + 2 = w.heap.size + 1 := q; omega)).trans C2.out); clear b9 k9)
    | (refine st_row rfl 49 (.tmp 5) (.tmp 12) rfl (w.heap.size + 2) _ rfl rfl _ _ T9.out want_size rfl (wt_one 58 0 0 0 0 0 0 0 0 t 0) ?_; intro w10 b10 k10; have T10 := hid b10; have K10 := hid k10; have R10 := hid ((k10.block _ (lt_of_block R9.out) (fun q => by have q1 : w.heap.size + 1 = w.heap.size + 2 := q; omega)).trans R9.out); clear b10 k10))
  refine bodyPost_ret (results_cell_cell rfl _ _ (w.heap.size + 1) (w.heap.size + 2) _ _ rfl (run_loadVar_row _ _ _ _ _ _ _ R10.out Tryd.underlying30 rfl (ctx_size' (HSZ.out _ _))) rfl (run_loadVar_row _ _ _ _ _ _ _ T10.out Tryd.underlying49 rfl want_size)) rfl ?_
  exact ⟨_, _, _, rfl, ((O2.out.ch K9.out (fun q hq e => by have e1 : q = w.heap.size + 1 := e; have := (O2.out.blk hq).1; omega)).ch K10.out (fun q hq e => by have e1 : q = w.heap.size + 2 := e; have := (O2.out.blk hq).1; omega)).lower (by omega), Ch.trans (Ch.trans K2.out K9.out (fun q e => .inr (by have e1 : q = w.heap.size + 1 := e; omega))) K10.out (fun q e => .inr (by have e1 : q = w.heap.size + 2 := e; omega))⟩
end Go.Proofs.YtcdlhfodeckleaaDoor.Lt

namespace Go.Proofs.YtcdlhfodeckleaaDoor.Lt
open Go.RowKit Wd

theorem Vs.off {w w' : World} {b k : Nat} {P C E R T : Array Value} (h : Vs w b P C E R T) (g : Ch (Only k) w w') (hk : b + 5 ≤ k) : Vs w' b P C E R T :=
  ⟨(g.block _ (lt_of_block h.p) (fun q => by have q1 : b = k := q; omega)).trans h.p, (g.block _ (lt_of_block h.c) (fun q => by have q1 : b + 1 = k := q; omega)).trans h.c, (g.block _ (lt_of_block h.e) (fun q => by have q1 : b + 2 = k := q; omega)).trans h.e, (g.block _ (lt_of_block h.r) (fun q => by have q1 : b + 3 = k := q; omega)).trans h.r, (g.block _ (lt_of_block h.t) (fun q => by have q1 : b + 4 = k := q; omega)).trans h.t⟩
set_option maxHeartbeats 2000000 in
set_option maxRecDepth 20000 in
theorem rstep_two (P : Nat → Prop) (w : World) (aoc aof aot : Option Addr) (nc nf nt cac caf cat : Nat) (cs : List Int) (h : Ls eU P w (.slice aoc nc cac) cs) (hu : U32s cs) (hcl : nc ≤ 35184372088832) (pc : Int) (r : List Int) (hr : r.length = 16) (ao : Option Addr) (n cap : Nat) (ks : List Int) (hk : Ls eI P w (.slice ao n cap) ks) (hn : n ≤ 17592186044416) (ck sl gn : Int)
    (o1 im : Int) (a b c : Nat) (la : a < 16) (lb : b < 16) (lc : c < 16) (x y z : Int) (hx : r[a]? = some x) (hy : r[b]? = some y) (hz : r[c]? = some z) (hI : nI cs pc = (o1, (a : Int), (b : Int), (c : Int), im)) (hB : nB cs pc = true) (ho : Two o1) :
    Calls Tryd.prog 17 #[.agg #[.slice aoc nc cac, .slice aof nf caf, .slice aot nt cat], .agg (cC pc r (.slice ao n cap)), .agg #[.int .u64 ck, .int .i64 sl, .int .i64 gn]] w (StR w (pc + 1) (r.set a (rk o1 im x y z)) ks #[.int .i64 0, .int .i64 0, .int .i64 0, .int .i64 0, .int .i64 0, .int .i64 0, .int .i64 0, .int .i64 0, .int .i64 0, .int .i64 0, .int .i64 0]) := by
  have hlen := h.len.1
  have hpc : 0 ≤ pc ∧ pc < (nc : Int) := by
    unfold nB at hB
    split at hB
    · rename_i q; rw [hlen]; exact q
    · cases hB
  have HN := hid (fun (W : World) (p : Gr w W) => rnext9_any P W aoc aof aot nc nf nt cac caf cat cs (h.gr p) hu pc r hr ao n cap)
  rw [hI, hB] at HN
  unfold iV at HN
  simp only at HN
  have HC := hid (fun (W : World) (p : Gr w W) => rcalls9_any P W ao n cap ks (hk.gr p) hn)
  have V0 := hid (vs_new w #[.slice aoc nc cac, .slice aof nf caf, .slice aot nt cat] (cC pc r (.slice ao n cap)) #[.int .u64 ck, .int .i64 sl, .int .i64 gn] #[.int .i64 0, .int .i64 0, .int .i64 0, .int .i64 0, .int .i64 0, .int .i64 0, .int .i64 0, .int .i64 0, .int .i64 0, .int .i64 0, .int .i64 0, .int .i64 0, .int .i64 0, .int .i64 0, .int .i64 0, .int .i64 0, .int .i64 0, .slice none 0 0] #[.int .i64 0, .int .i64 0, .int .i64 0, .int .i64 0, .int .i64 0, .int .i64 0, .int .i64 0, .int .i64 0, .int .i64 0, .int .i64 0, .int .i64 0])
  have K0 := hid (show Gr w (((((w.alloc (.cells #[.slice aoc nc cac, .slice aof nf caf, .slice aot nt cat] 26)).alloc (.cells (cC pc r (.slice ao n cap)) 30)).alloc (.cells #[.int .u64 ck, .int .i64 sl, .int .i64 gn] 44)).alloc (.cells #[.int .i64 0, .int .i64 0, .int .i64 0, .int .i64 0, .int .i64 0, .int .i64 0, .int .i64 0, .int .i64 0, .int .i64 0, .int .i64 0, .int .i64 0, .int .i64 0, .int .i64 0, .int .i64 0, .int .i64 0, .int .i64 0, .int .i64 0, .slice none 0 0] 30)).alloc (.cells #[.int .i64 0, .int .i64 0, .int .i64 0, .int .i64 0, .int .i64 0, .int .i64 0, .int .i64 0, .int .i64 0, .int .i64 0, .int .i64 0, .int .i64 0] 49)) from Ch.alloc (Ch.alloc (Ch.alloc (Ch.alloc (Ch.alloc (Gr.refl w) _) _) _) _) _)
  have HSZ := hid (fun (pc : Int) (v : Value) => cC_size (pc := pc) (v := v) hr)
  have HX := hid hx
  have HY := hid hy
  have HZ := hid hz
  have a0 : (0 : Int) ≤ (a : Int) := by omega
  have a1 : (a : Int) < 16 := by omega
  have b0 : (0 : Int) ≤ (b : Int) := by omega
  have b1 : (b : Int) < 16 := by omega
  have c0 : (0 : Int) ≤ (c : Int) := by omega
  have c1 : (c : Int) < 16 := by omega
  have HKL := hid hk.len.1
  have HRR := hid hr
  have HTW := hid ho
  clear ho
  obtain ⟨q0, q1⟩ := hpc
  have q2 : pc ≤ 35184372088832 := by omega
  clear h hu hI hB hlen hr hx hy hz hk
  go_enter Tryd.func17, Tryd.ntmps17
  go_upto_region 4 with (first
    | (refine wpList_load_row rfl 30 (.tmp 4) rfl (w.heap.size + 1) rfl _ _ _ _ V0.out.c Tryd.underlying30 rfl (ctx_size' (HSZ.out _ _)) ?_)
    | (go_at_call 26; refine (HN.out _ K0.out).mono ?_; rintro e w1 ⟨rfl, g1⟩; have V1 := hid (V0.out.gr (Ch.alloc g1 (.cells #[.int .i64 o1, .int .i64 (a : Int), .int .i64 (b : Int), .int .i64 (c : Int), .int .i64 im] 46))); have G1 := hid (show Gr w (w1.alloc (.cells #[.int .i64 o1, .int .i64 (a : Int), .int .i64 (b : Int), .int .i64 (c : Int), .int .i64 im] 46)) from Ch.alloc (Gr.trans K0.out g1) _); have I1 := hid (MapKept.heap_alloc w1 (.cells #[.int .i64 o1, .int .i64 (a : Int), .int .i64 (b : Int), .int .i64 (c : Int), .int .i64 im] 46)).1; have S1 := hid (show w.heap.size + 5 ≤ w1.heap.size from Nat.lt_of_lt_of_le (lt_of_block V0.out.t) g1.size); have S1b := hid (show w1.heap.size < (w1.alloc (.cells #[.int .i64 o1, .int .i64 (a : Int), .int .i64 (b : Int), .int .i64 (c : Int), .int .i64 im] 46)).heap.size from (by simp)); clear g1))
  generalize w1.alloc (.cells #[.int .i64 o1, .int .i64 (a : Int), .int .i64 (b : Int), .int .i64 (c : Int), .int .i64 im] 46) = W1 at V1 G1 I1 S1b ⊢
  generalize w1.heap.size = tb at I1 S1 S1b ⊢
  have BD0 := hid (show (W1.alloc (.cells #[.int .i64 0, .int .i64 0, .int .i64 0, .int .i64 0, .int .i64 0, .int .i64 0, .int .i64 0, .int .i64 0, .int .i64 0, .int .i64 0, .int .i64 0, .int .i64 0, .int .i64 0, .int .i64 0, .int .i64 0, .int .i64 0, .int .i64 0, .slice none 0 0] 30)).heap[W1.heap.size]? = some (.cells #[.int .i64 0, .int .i64 0, .int .i64 0, .int .i64 0, .int .i64 0, .int .i64 0, .int .i64 0, .int .i64 0, .int .i64 0, .int .i64 0, .int .i64 0, .int .i64 0, .int .i64 0, .int .i64 0, .int .i64 0, .int .i64 0, .int .i64 0, .slice none 0 0] 30 (0, 0)) from (MapKept.heap_alloc W1 _).1)
  have GA := hid (show Gr W1 (W1.alloc (.cells #[.int .i64 0, .int .i64 0, .int .i64 0, .int .i64 0, .int .i64 0, .int .i64 0, .int .i64 0, .int .i64 0, .int .i64 0, .int .i64 0, .int .i64 0, .int .i64 0, .int .i64 0, .int .i64 0, .int .i64 0, .int .i64 0, .int .i64 0, .slice none 0 0] 30)) from Ch.alloc (Gr.refl _) _)
  go_upto_region 6 with (first
    | (refine wpList_load_row rfl 30 (.tmp 4) rfl (w.heap.size + 1) rfl _ _ _ _ V1.out.c Tryd.underlying30 rfl (ctx_size' (HSZ.out _ _)) ?_)
    | (refine st_row rfl 30 (.tmp 10) (.tmp 31) rfl W1.heap.size _ rfl rfl _ _ BD0.out (ctx_size' (HSZ.out _ _)) (HSZ.out _ _).symm cC_one ?_; intro w2 b2 k2; have D2 := hid b2; have G2 := hid (show Gr W1 w2 from Ch.trans GA.out k2 (fun q e => .inr (by have e1 : q = W1.heap.size := e; omega))); have V2 := hid (V1.out.gr G2.out); have I2 := hid (gr_blk I1.out G2.out); have y17 := (cell_of V2.out.c 17).trans (cC_v HRR.out _ _); have l17 := lt_of_block V2.out.c; clear b2 k2)
    | (go_at_call 38; refine (HC.out _ (Gr.trans G1.out G2.out)).mono ?_; rintro e w3 ⟨v3, rfl, o3, g3⟩; obtain ⟨ao2, cap2, hv3⟩ := o3.form; generalize hq3 : ks.length = n2 at hv3; subst hv3; have HN2 := hid hq3; have D3 := hid (gr_blk D2.out g3); have V3 := hid (V2.out.gr g3); have I3 := hid (gr_blk I2.out g3); have G3 := hid (Gr.trans (Gr.trans G1.out G2.out) g3); have O3 := hid o3; have S3 := hid (show W1.heap.size < w2.heap.size from lt_of_block D2.out); have d17 := (cell_of D3.out 17).trans (cC_v HRR.out _ _); have e17 := frozen_of D3.out 17; have m17 := lt_of_block D3.out; clear o3 g3 hq3))
  generalize W1.heap.size = td at D2 D3 S1b S3 d17 e17 m17 BD0 ⊢
  have hb4 : (w3.setCell ⟨td, 17, none⟩ (.slice ao2 n2 cap2)).heap[td]? = some (.cells (cC pc r (.slice ao2 n2 cap2)) 30 (0, 0)) := by rw [← cC_setv HRR.out pc (.slice ao n cap)]; exact setCell_block D3.out 17 _
  have hc4 : Ch (Only td) w3 (w3.setCell ⟨td, 17, none⟩ (.slice ao2 n2 cap2)) := (Ch.refl _ _).own 17 _
  have V4 := hid (V3.out.off hc4 (by have := S1.out; have := S1b.out; omega))
  have I4 := hid ((hc4.block _ (lt_of_block I3.out) (fun q => by have q1 : tb = td := q; have := S1b.out; omega)).trans I3.out)
  have O4 := hid (O3.out.ch hc4 (fun q hq e => by have e1 : q = td := e; have := (O3.out.blk hq).1; have := S3.out; omega))
  have G4 := hid (show Gr w (w3.setCell ⟨td, 17, none⟩ (.slice ao2 n2 cap2)) from Ch.trans G3.out hc4 (fun q e => .inr (by have e1 : q = td := e; have := S1.out; have := S1b.out; omega)))
  have D4 := hid hb4
  have H2 := hid (show ∀ q, Blk (.slice ao2 n2 cap2) q → td < q from fun q e => by have := (O3.out.blk e).1; have := S3.out; omega)
  have T5 := hid (show w.heap.size + 5 ≤ tb ∧ tb < td from ⟨S1.out, S1b.out⟩)
  have O5 := hid (O4.out.lower (show w.heap.size + 5 ≤ _ from by have := S1.out; have := S1b.out; have := S3.out; omega))
  clear hb4 hc4 y17 l17 d17 e17 m17 D2 D3 BD0 GA V2 V3 I2 I3 G2 G3 O3 S3 O4 S1 S1b
  generalize w3.setCell ⟨td, 17, none⟩ (.slice ao2 n2 cap2) = W4 at V4 I4 G4 D4 O5 ⊢
  have d0 := (cell_of D4.out 0).trans (cC_pc _ _ _)
  have e0 := frozen_of D4.out 0
  have m0 := lt_of_block D4.out
  go_upto_region 7 with fail
  have hb6 : (W4.setCell ⟨td, 0, none⟩ (.int .i64 (pc + 1))).heap[td]? = some (.cells (cC (pc + 1) r (.slice ao2 n2 cap2)) 30 (0, 0)) := by rw [← cC_setpc pc]; exact setCell_block D4.out 0 _
  have hc6 : Ch (Only td) W4 (W4.setCell ⟨td, 0, none⟩ (.int .i64 (pc + 1))) := (Ch.refl _ _).own 0 _
  have V6 := hid (V4.out.off hc6 (by have := T5.out; omega))
  have I6 := hid ((hc6.block _ (lt_of_block I4.out) (fun q => by have q1 : tb = td := q; have := T5.out; omega)).trans I4.out)
  have O6 := hid (O5.out.ch hc6 (fun q hq e => by have e1 : q = td := e; have := H2.out q hq; omega))
  have G6 := hid (show Gr w (W4.setCell ⟨td, 0, none⟩ (.int .i64 (pc + 1))) from Ch.trans G4.out hc6 (fun q e => .inr (by have e1 : q = td := e; have := T5.out; omega)))
  have D6 := hid hb6
  clear hb6 hc6 d0 e0 m0
  generalize W4.setCell ⟨td, 0, none⟩ (.int .i64 (pc + 1)) = W6 at V6 I6 G6 D6 O6 ⊢
  have i0 := (cell_of I6.out 0).trans (rfl : _ = some (Value.int .i64 o1))
  have i1 := (cell_of I6.out 1).trans (rfl : _ = some (Value.int .i64 (a : Int)))
  have i2 := (cell_of I6.out 2).trans (rfl : _ = some (Value.int .i64 (b : Int)))
  have i3 := (cell_of I6.out 3).trans (rfl : _ = some (Value.int .i64 (c : Int)))
  have i4 := (cell_of I6.out 4).trans (rfl : _ = some (Value.int .i64 im))
  have il := lt_of_block I6.out
  have x1 := (cell_of V6.out.c (1 + a)).trans (cC_get HX.out)
  have x2 := (cell_of V6.out.c (1 + b)).trans (cC_get HY.out)
  have x3 := (cell_of V6.out.c (1 + c)).trans (cC_get HZ.out)
  have xl := lt_of_block V6.out.c
  go_quiet (fail)
  clear x1 x2 x3 xl i0 i1 i2 i3 i4 il
  have V7 := hid (show Vs (W6.drewN nq) w.heap.size #[.slice aoc nc cac, .slice aof nf caf, .slice aot nt cat] (cC pc r (.slice ao n cap)) #[.int .u64 ck, .int .i64 sl, .int .i64 gn] #[.int .i64 0, .int .i64 0, .int .i64 0, .int .i64 0, .int .i64 0, .int .i64 0, .int .i64 0, .int .i64 0, .int .i64 0, .int .i64 0, .int .i64 0, .int .i64 0, .int .i64 0, .int .i64 0, .int .i64 0, .int .i64 0, .int .i64 0, .slice none 0 0] #[.int .i64 0, .int .i64 0, .int .i64 0, .int .i64 0, .int .i64 0, .int .i64 0, .int .i64 0, .int .i64 0, .int .i64 0, .int .i64 0, .int .i64 0] from ⟨V6.out.p, V6.out.c, V6.out.e, V6.out.r, V6.out.t⟩)
  have I7 := hid (show (W6.drewN nq).heap[tb]? = some (.cells #[.int .i64 o1, .int .i64 (a : Int), .int .i64 (b : Int), .int .i64 (c : Int), .int .i64 im] 46 (0, 0)) from I6.out)
  have D7 := hid (show (W6.drewN nq).heap[td]? = some (.cells (cC (pc + 1) r (.slice ao2 n2 cap2)) 30 (0, 0)) from D6.out)
  have O7 := hid (show Ow eI 1 3 (w.heap.size + 5) (W6.drewN nq) (.slice ao2 n2 cap2) ks from O6.out)
  have G7 := hid (show Gr w (W6.drewN nq) from Ch.drewN G6.out nq)
  clear V6 I6 D6 O6 G6
  generalize W6.drewN nq = W7 at V7 I7 D7 O7 G7 ⊢
  have i0 := (cell_of I7.out 0).trans (rfl : _ = some (Value.int .i64 o1))
  have il := lt_of_block I7.out
  have HWK := hid (fun (W : World) => worked_any o1 im x y z HTW.out W)
  go_upto_region 10 with (go_at_call 39; refine (HWK.out _).mono ?_; rintro e w8 ⟨rfl, g8⟩; have V8 := hid (V7.out.gr g8); have I8 := hid (gr_blk I7.out g8); have D8 := hid (gr_blk D7.out g8); have O8 := hid (O7.out.gr g8); have G8 := hid (Gr.trans G7.out g8); have j0 := (cell_of I8.out 0).trans (rfl : _ = some (Value.int .i64 o1)); have jl := lt_of_block I8.out; clear g8 i0 il)
  have HRL := HRR
  clear j0 jl
  have j0 := (cell_of I8.out 0).trans (rfl : _ = some (Value.int .i64 o1))
  have j1 := (cell_of I8.out 1).trans (rfl : _ = some (Value.int .i64 (a : Int)))
  have j4 := (cell_of I8.out 4).trans (rfl : _ = some (Value.int .i64 im))
  have jl := lt_of_block I8.out
  obtain ⟨u9, hu9⟩ : ∃ u, (cC (pc + 1) r (.slice ao2 n2 cap2))[1 + a]? = some (.int .i64 u) := ⟨_, cC_get HX.out⟩
  have y9 := (cell_of D8.out (1 + a)).trans hu9
  have z9 := frozen_of D8.out (1 + a)
  have l9 := lt_of_block D8.out
  clear hu9
  go_upto_region 11 with fail
  clear j0 j1 j4 jl y9 z9 l9
  have hb9 : (w8.setCell ⟨td, 1 + a, none⟩ (.int .i64 (rk o1 im x y z))).heap[td]? = some (.cells (cC (pc + 1) (r.set a (rk o1 im x y z)) (.slice ao2 n2 cap2)) 30 (0, 0)) := by rw [← cC_set (by rw [HRL.out]; exact la)]; exact setCell_block D8.out (1 + a) (.int .i64 (rk o1 im x y z))
  have hc9 : Ch (Only td) w8 (w8.setCell ⟨td, 1 + a, none⟩ (.int .i64 (rk o1 im x y z))) := (Ch.refl _ _).own (1 + a) _
  have V9 := hid (V8.out.off hc9 (by have := T5.out; omega))
  have I9 := hid ((hc9.block _ (lt_of_block I8.out) (fun q => by have q1 : tb = td := q; have := T5.out; omega)).trans I8.out)
  have O9 := hid (O8.out.ch hc9 (fun q hq e => by have e1 : q = td := e; have := H2.out q hq; omega))
  have G9 := hid (show Gr w (w8.setCell ⟨td, 1 + a, none⟩ (.int .i64 (rk o1 im x y z))) from Ch.trans G8.out hc9 (fun q e => .inr (by have e1 : q = td := e; have := T5.out; omega)))
  have D9 := hid hb9
  clear hb9 hc9
  generalize w8.setCell ⟨td, 1 + a, none⟩ (.int .i64 (rk o1 im x y z)) = W9 at V9 I9 O9 G9 D9 ⊢
  have HSZ := hid (fun (pc : Int) (v : Value) => cC_size (pc := pc) (v := v) (show (r.set a (rk o1 im x y z)).length = 16 from (List.length_set).trans HRR.out))
  go_wp2_with (first
    | (refine wpList_load_row rfl 30 (.tmp 10) rfl td rfl _ _ _ _ D9.out Tryd.underlying30 rfl (ctx_size' (HSZ.out _ _)) ?_)
    | (refine st_row rfl 30 (.tmp 6) (.tmp 69) rfl (w.heap.size + 3) _ rfl rfl _ _ V9.out.r (ctx_size' (HSZ.out _ _)) (HSZ.out _ _).symm cC_one ?_; intro w9 b9 k9; have R9 := hid b9; have K9 := hid k9; have T9 := hid ((k9.block _ (lt_of_block V9.out.t) (fun q => by have q1 : w.heap.size + 4 = w.heap.size + 3 := q; omega)).trans V9.out.t); clear b9 k9)
    | (refine st_row rfl 49 (.tmp 7) (.tmp 70) rfl (w.heap.size + 4) _ rfl rfl _ _ T9.out want_size rfl one11 ?_; intro w10 b10 k10; have T10 := hid b10; have K10 := hid k10; have R10 := hid ((k10.block _ (lt_of_block R9.out) (fun q => by have q1 : w.heap.size + 3 = w.heap.size + 4 := q; omega)).trans R9.out); clear b10 k10))
  refine bodyPost_ret (results_cell_cell rfl _ _ (w.heap.size + 3) (w.heap.size + 4) _ _ rfl (run_loadVar_row _ _ _ _ _ _ _ R10.out Tryd.underlying30 rfl (ctx_size' (HSZ.out _ _))) rfl (run_loadVar_row _ _ _ _ _ _ _ T10.out Tryd.underlying49 rfl want_size)) rfl ?_
  exact ⟨_, _, _, rfl, ((O9.out.ch K9.out (fun q hq e => by have e1 : q = w.heap.size + 3 := e; have := (O9.out.blk hq).1; omega)).ch K10.out (fun q hq e => by have e1 : q = w.heap.size + 4 := e; have := (O9.out.blk hq).1; omega)).lower (by omega), Ch.trans (Ch.trans G9.out K9.out (fun q e => .inr (by have e1 : q = w.heap.size + 3 := e; omega))) K10.out (fun q e => .inr (by have e1 : q = w.heap.size + 4 := e; omega))⟩
end Go.Proofs.YtcdlhfodeckleaaDoor.Lt
