/-
  How windows are compared by their beginnings, to the world. No conditions.
-/
import Derived.Test.YtbghagpjkkmhpaaTbNum
import Derived.Test.YtbghagpjkkmhpaaTbShelf
import Derived.Test.YtbghagpjkkmhpaaTbApt
import Derived.Handy
namespace Go.Proofs.Ytbghagpjkkmhpaa.Lt
open Go.RowKit Wd Go.Shelf Go.Lib Go.Sort
attribute [local go_sem ↓] Go.wp_at_zero Go.wp_at_succ

def cmpI (x y : Int) : Int := if x < y then -1 else if y < x then 1 else 0
theorem isNaNU_any (x : Int) (w : World) : Calls Try.prog 62 #[.int .u64 x] w fun e w' => e = .returned (.bool false) ∧ w' = w := by
  have h : (x != x) = false := by simp
  go_enter Try.func62, Try.ntmps62
  go_wp2
  go_ret
  exact ⟨rfl, rfl⟩
theorem compareU_any (x y : Int) (w : World) : Calls Try.prog 56 #[.int .u64 x, .int .u64 y] w fun e w' => e = .returned (.int .i64 (cmpI x y)) ∧ w' = w := by
  have h : (x < y ∧ cmpI x y = -1) ∨ (¬ x < y ∧ y < x ∧ cmpI x y = 1) ∨ (¬ x < y ∧ ¬ y < x ∧ cmpI x y = 0) := by
    unfold cmpI
    by_cases h1 : x < y
    · exact .inl ⟨h1, if_pos h1⟩
    · by_cases h2 : y < x
      · exact .inr (.inl ⟨h1, h2, by rw [if_neg h1, if_pos h2]⟩)
      · exact .inr (.inr ⟨h1, h2, by rw [if_neg h1, if_neg h2]⟩)
  rcases h with ⟨h1, h3⟩ | ⟨h1, h2, h3⟩ | ⟨h1, h2, h3⟩
  all_goals
    rw [h3]
    clear h3
    go_enter Try.func56, Try.ntmps56
    go_wp2_with fail
    refine (isNaNU_any x _).mono ?_
    rintro e w1 ⟨rfl, rfl⟩
    go_wp2_with fail
    refine (isNaNU_any y _).mono ?_
    rintro e w1 ⟨rfl, rfl⟩
    go_wp2
    go_ret
    exact ⟨rfl, rfl⟩
def cmpW (x y : Int × Int) : Int := cmpI x.1 y.1
theorem comp_exact (x y : Int × Int) (w : World) : Calls Try.prog 55 #[.agg #[.int .u64 x.1, .int .u64 x.2], .agg #[.int .u64 y.1, .int .u64 y.2]] w fun e w' => e = .returned (.int .i64 (cmpW x y)) ∧ ∃ q os', w' = grow (w.drewN q) os' := by
  go_enter Try.func55, Try.ntmps55
  go_wp2_with fail
  refine (compareU_any x.1 y.1 _).mono ?_
  rintro e w1 ⟨rfl, hw⟩
  have HW := hide hw
  clear hw
  go_wp2
  go_ret
  exact ⟨rfl, 0, #[.cells #[.int .u64 x.1, .int .u64 x.2] 52, .cells #[.int .u64 y.1, .int .u64 y.2] 52], by rw [HW.out, alloc_eq_grow, alloc_eq_grow, grow_grow]; rfl⟩
theorem ltW (x y : Int × Int) : ltOf cmpW x y = decide (x.1 < y.1) := by
  unfold ltOf cmpW cmpI
  by_cases h1 : x.1 < y.1
  · rw [if_pos h1]; simp [h1]
  · rw [if_neg h1]
    by_cases h2 : y.1 < x.1
    · rw [if_pos h2]; simp [h1]
    · rw [if_neg h2]; simp [h1]
theorem swoW : SWO (ltOf cmpW) where
  irrefl x := by rw [ltW]; exact decide_eq_false (by omega)
  trans x y z h1 h2 := by
    rw [ltW] at *
    have h1 := of_decide_eq_true h1
    have h2 := of_decide_eq_true h2
    exact decide_eq_true (by omega)
  ntrans x y z h1 h2 := by
    rw [ltW] at *
    have h1 := of_decide_eq_false h1
    have h2 := of_decide_eq_false h2
    exact decide_eq_false (by omega)
theorem cmpLays (blk off size : Nat) (w : World) : CmpLays Try.prog 55 #[] eW 2 cmpW blk off size w := fun _ _ _ _ x y => comp_exact x y _
/-- the sort turns one block -/
theorem sort_ch {w : World} {blk off m : Nat} {dk : Array (Int × Int)} {os : Array Obj} : Ch (Only blk) w (sortWorldK eW 2 w blk off m dk os) := by
  refine ⟨rfl, rfl, rfl, size_sortWorldK_c eW 2 w blk off m dk os, fun q hq hn => ?_⟩
  have hne : blk ≠ q := fun e => hn e.symm
  show (((Sort.ahead w m).heap.modify blk _) ++ os)[q]? = _
  rw [Array.getElem?_append_left (by simpa using hq), Array.getElem?_modify, if_neg hne]
  rfl
theorem getW {ys : Array (Int × Int)} {i : Nat} {y : Int × Int} (h : ys.toList[i]? = some y) : ys[i]! = y := by
  rw [Array.getElem?_toList] at h
  rw [getElem!_pos ys i (Array.getElem?_eq_some_iff.1 h).1]
  exact (Array.getElem?_eq_some_iff.1 h).2
theorem holds_of {w : World} {k : Nat} {ys : List (Int × Int)} (h : Dw w k ys) (hf : ∀ o, w.frozen? ⟨k, o, none⟩ = false) : HoldsK eW 2 w k 0 ys.toArray := by
  intro j hj
  rw [size_flatK] at hj
  rw [get_flatK _ _ _ _ hj]
  have hj' : j / 2 < ys.length := by simp at hj; omega
  obtain ⟨y, hy⟩ : ∃ y, ys[j / 2]? = some y := ⟨_, List.getElem?_eq_getElem hj'⟩
  rw [getW (ys := ys.toArray) (i := j / 2) hy]
  refine ⟨?_, hf _⟩
  obtain ⟨h1, h2⟩ := h _ y hy
  rcases Nat.mod_two_eq_zero_or_one j with e | e
  · rw [e, show 0 + j = j / 2 * 2 by omega]
    exact h1
  · rw [e, show 0 + j = j / 2 * 2 + 1 by omega]
    exact h2
theorem of_holds {w : World} {k : Nat} {d : Array (Int × Int)} (h : HoldsK eW 2 w k 0 d) : Dw w k d.toList := by
  intro i y hy
  have hi : i < d.size := by have := (List.getElem?_eq_some_iff.1 hy).1; simpa using this
  have e := getW hy
  constructor
  · have h1 := (h (i * 2) (by rw [size_flatK]; omega)).1
    rw [get_flatK _ _ _ _ (by omega), show i * 2 / 2 = i by omega, show i * 2 % 2 = 0 by omega, e, show 0 + i * 2 = i * 2 by omega] at h1
    exact h1
  · have h1 := (h (i * 2 + 1) (by rw [size_flatK]; omega)).1
    rw [get_flatK _ _ _ _ (by omega), show (i * 2 + 1) / 2 = i by omega, show (i * 2 + 1) % 2 = 1 by omega, e, show 0 + (i * 2 + 1) = i * 2 + 1 by omega] at h1
    exact h1
theorem srt_of {d : Array (Int × Int)} {n : Nat} (hn : d.size = n) (hs : SortedIn (ltOf cmpW) 0 n d) : d.toList.Pairwise (fun a b => a.1 ≤ b.1) := by
  refine List.pairwise_iff_getElem.2 (fun i j hi hj hij => ?_)
  have h1 := hs i j (Nat.zero_le _) hij (by rw [← hn]; simpa using hj)
  rw [ltW, getW (List.getElem?_eq_getElem hj), getW (List.getElem?_eq_getElem hi)] at h1
  have := of_decide_eq_false h1
  omega
set_option maxRecDepth 100000 in
theorem sortWins (k cap : Nat) (ys : List (Int × Int)) (w : World) (hH : Dw w k ys) (hf : ∀ o, w.frozen? ⟨k, o, none⟩ = false) (hk : k < w.heap.size) (hl : ys.length ≤ 4294967296) :
    Calls Try.prog 54 #[.slice (some ⟨k, 0, none⟩) ys.length cap, .func (.func 55) #[] #[]] w fun e w' => e = .returned (.tuple #[]) ∧ ∃ zs, zs.Perm ys ∧ zs.Pairwise (fun a b => a.1 ≤ b.1) ∧ Dw w' k zs ∧ Ch (Only k) w w' := by
  have eg : ∀ args w, (callFunc 55 args).run Try.prog w = .ok (.enter 55 args) w := enters_of Try.func55 (by kernel_rfl) rfl
  have hHK := holds_of hH hf
  have hcon := AnyQ.slices_SortFunc Try.sortWin 2 Try.isAgg52 Try.sizeOf52 eW (fun _ => rfl) (fun x v hv => by simp [eW] at hv; rcases hv with rfl | rfl <;> rfl) cmpW swoW 55 #[] k 0 cap ys.toArray w eg (cmpLays k 0 _ w) hHK hk (by simp; omega)
  refine Calls.mono (show Calls Try.prog 54 #[.slice (some ⟨k, 0, none⟩) ys.length cap, .func (.func 55) #[] #[]] w _ from hcon) ?_
  rintro e w' ⟨rfl, d', n, os, hp, hs, rfl⟩
  have hp1 : d'.toList.Perm ys := by
    have h1 := hp.2.2
    have h2 := hp.1
    simp only [List.size_toArray] at h1 h2
    rw [← h2] at h1
    simp only [Array.extract_size] at h1
    rw [h2] at h1
    simpa using h1
  refine ⟨rfl, d'.toList, hp1, srt_of (by have := hp1.length_eq; simpa using this) (by simpa using hs), of_holds (holdsK_sortWorldK_c eW 2 w k 0 ys.toArray d' n os hHK hk hp.1), sort_ch⟩
theorem ins0 (p : Option Addr) (cap : Nat) (fv : Value) (w : World) : Calls Try.prog 75 #[.slice p 0 cap, .int .i64 0, .int .i64 0, fv] w fun e w' => e = .returned (.tuple #[]) ∧ w' = w := by
  go_enter Try.func75, Try.ntmps75
  go_wp2_with fail
  go_rounds 1
  go_end0
  exact ⟨rfl, rfl⟩
theorem pdq0 (p : Option Addr) (cap : Nat) (lim : Int) (fv : Value) (w : World) : Calls Try.prog 61 #[.slice p 0 cap, .int .i64 0, .int .i64 0, .int .i64 lim, fv] w fun e w' => e = .returned (.tuple #[]) ∧ w' = w := by
  go_enter Try.func61, Try.ntmps61
  go_wp2_with fail
  refine wp_loop_rounds 1 ?_
  rw [rounds_succ]
  go_wp2_with fail
  refine (ins0 p cap fv _).mono ?_
  rintro e w1 ⟨rfl, rfl⟩
  go_wp2
  (try simp only [Exit.inBlock, Exit.then])
  refine bodyPost_ret (results_none rfl _ _ _) rfl ?_
  exact ⟨rfl, rfl⟩
theorem sortNone (p : Option Addr) (cap : Nat) (w : World) : Calls Try.prog 54 #[.slice p 0 cap, .func (.func 55) #[] #[]] w fun e w' => e = .returned (.tuple #[]) ∧ w' = w := by
  have hl : ∀ W, Calls Try.prog 60 #[.int .u64 0] W fun e w' => e = .returned (.int .i64 (Lib.bitLen 0 : Nat)) ∧ w' = W := fun W =>
    Any.bits_Len (SlLaysF0.n15.bits (P := Try.prog) (ρ := Try.sortWin_ren) { Try.sortWin with }) 0 W (by omega) (by omega)
  go_enter Try.func54, Try.ntmps54
  go_wp2_with fail
  refine (hl _).mono ?_
  rintro e w1 ⟨rfl, rfl⟩
  go_wp2_with fail
  refine (pdq0 p cap _ _ _).mono ?_
  rintro e w2 ⟨rfl, rfl⟩
  go_wp2
  go_end0
  exact ⟨rfl, rfl⟩
theorem sorts_w : SortsW := ⟨fun k cap ys w hH hf hk hl => sortWins k cap ys w hH hf hk hl, fun p cap w => sortNone p cap w⟩
end Go.Proofs.Ytbghagpjkkmhpaa.Lt
