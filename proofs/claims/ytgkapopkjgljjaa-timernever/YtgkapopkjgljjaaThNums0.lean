/-
  What compare answers, to the world; what slices.SortFunc leaves of a list of dues. Condition: the list is there, and shorter than 4611686018427387904.
-/
import Derived.Test.YtgkapopkjgljjaaThShelf
import Derived.Test.YtgkapopkjgljjaaThLs
import Derived.Handy
namespace Go.Proofs.Ytgkapopkjgljjaa.Hp
open Go.RowKit Wd Go.Shelf Go.Lib Go.Sort
attribute [local go_sem ↓] Go.wp_at_zero Go.wp_at_succ

set_option maxHeartbeats 2000000 in
theorem comp_exact (x y : W3) (w : World) : Calls Try.prog 68 #[.agg #[.int .u64 x.w, .int .i64 x.n], .agg #[.int .u64 y.w, .int .i64 y.n]] w fun e w' => e = .returned (.int .i64 (cmpD x y)) ∧ ∃ q os', w' = grow (w.drewN q) os' := by
  go_enter Try.func68, Try.ntmps68
  go_wp2_with fail
  obtain ⟨W1, hW1⟩ : ∃ W, W = (w.alloc (.cells #[.int .u64 x.w, .int .i64 x.n] 117)).alloc (.cells #[.int .u64 y.w, .int .i64 y.n] 117) := ⟨_, rfl⟩
  obtain ⟨ka, hka⟩ : ∃ k, k = w.heap.size := ⟨_, rfl⟩
  obtain ⟨kb, hkb⟩ : ∃ k, k = w.heap.size + 1 := ⟨_, rfl⟩
  have hS0 : (W1.cell? ⟨ka, 0, none⟩ = some (.int .u64 x.w) ∧ W1.cell? ⟨ka, 1, none⟩ = some (.int .i64 x.n) ∧ W1.cell? ⟨kb, 0, none⟩ = some (.int .u64 y.w) ∧ W1.cell? ⟨kb, 1, none⟩ = some (.int .i64 y.n)) := by rw [hW1, hka, hkb]; simp
  have ka1 : ka < W1.heap.size := by rw [hW1, hka]; simp; omega
  have kb1 : kb < W1.heap.size := by rw [hW1, hkb]; simp
  rw [← hW1, ← hkb, ← hka]
  have HW1 := hid hW1
  clear hW1 hka hkb
  refine wp_region_held_drew (S := fun w' => w'.cell? ⟨ka, 0, none⟩ = some (.int .u64 x.w) ∧ w'.cell? ⟨ka, 1, none⟩ = some (.int .i64 x.n) ∧ w'.cell? ⟨kb, 0, none⟩ = some (.int .u64 y.w) ∧ w'.cell? ⟨kb, 1, none⟩ = some (.int .i64 y.n)) (by kernel_rfl) (by exact hS0) (fun _ => ?_)
  refine takeS_on (i := 0) 5 (v := ?v1) rfl rfl (by kernel_rfl) (by kernel_rfl) (by kernel_rfl) (fun _ _ _ h => h) (by kernel_rfl) ?hy1 (by exact hS0) ?_
  case hy1 => (intro w' hSw; go_simp; try (with_reducible rfl))
  simp only [Act.put, List.setIfInBounds_toArray, List.set_cons_zero, List.set_cons_succ]
  refine takeS_on (i := 1) 6 (v := ?v2) rfl rfl (by kernel_rfl) (by kernel_rfl) (by kernel_rfl) (fun _ _ _ h => h) (by kernel_rfl) ?hy2 (by exact hS0) ?_
  case hy2 => (intro w' hSw; go_simp; try (with_reducible rfl))
  simp only [Act.put, List.setIfInBounds_toArray, List.set_cons_zero, List.set_cons_succ]
  refine takeS_on (i := 2) 7 (v := ?v3) rfl rfl (by kernel_rfl) (by kernel_rfl) (by kernel_rfl) (fun _ _ _ h => h) (by kernel_rfl) ?hy3 (by exact hS0) ?_
  case hy3 => (intro w' hSw; go_simp; try (with_reducible rfl))
  simp only [Act.put, List.setIfInBounds_toArray, List.set_cons_zero, List.set_cons_succ]
  refine takeS_on (i := 3) 8 (v := ?v4) rfl rfl (by kernel_rfl) (by kernel_rfl) (by kernel_rfl) (fun _ _ _ h => h) (by kernel_rfl) ?hy4 (by exact hS0) ?_
  case hy4 => (intro w' hSw; go_simp; try (with_reducible rfl))
  simp only [Act.put, List.setIfInBounds_toArray, List.set_cons_zero, List.set_cons_succ]
  refine takeS_on (i := 5) 10 (v := ?v5) rfl rfl (by kernel_rfl) (by kernel_rfl) (by kernel_rfl) (fun _ _ _ h => h) (by kernel_rfl) ?hy5 (by exact hS0) ?_
  case hy5 => (intro w' hSw; go_simp; try (with_reducible rfl))
  simp only [Act.put, List.setIfInBounds_toArray, List.set_cons_zero, List.set_cons_succ]
  refine takeS_on (i := 6) 11 (v := ?v6) rfl rfl (by kernel_rfl) (by kernel_rfl) (by kernel_rfl) (fun _ _ _ h => h) (by kernel_rfl) ?hy6 (by exact hS0) ?_
  case hy6 => (intro w' hSw; go_simp; try (with_reducible rfl))
  simp only [Act.put, List.setIfInBounds_toArray, List.set_cons_zero, List.set_cons_succ]
  refine takeS_on (i := 7) 12 (v := ?v7) rfl rfl (by kernel_rfl) (by kernel_rfl) (by kernel_rfl) (fun _ _ _ h => h) (by kernel_rfl) ?hy7 (by exact hS0) ?_
  case hy7 => (intro w' hSw; go_simp; try (with_reducible rfl))
  simp only [Act.put, List.setIfInBounds_toArray, List.set_cons_zero, List.set_cons_succ]
  refine takeS_on (i := 8) 13 (v := ?v8) rfl rfl (by kernel_rfl) (by kernel_rfl) (by kernel_rfl) (fun _ _ _ h => h) (by kernel_rfl) ?hy8 (by exact hS0) ?_
  case hy8 => (intro w' hSw; go_simp; try (with_reducible rfl))
  simp only [Act.put, List.setIfInBounds_toArray, List.set_cons_zero, List.set_cons_succ]
  refine wpAnyH_ready (rs := [4]) (by kernel_rfl) (by simp) (AllReadyH.cons rfl (fun K hK => ?_) AllReadyH.nil)
  go_simp
  refine (compareU_any x.w y.w _).mono ?_
  rintro e v4 ⟨rfl, rfl⟩
  refine hK.out _ _ (by exact hS0) (fun _ => ?_)
  clear hK K
  refine wpAnyH_ready (rs := [9]) (by kernel_rfl) (by simp) (AllReadyH.cons rfl (fun K hK => ?_) AllReadyH.nil)
  go_simp
  refine (compareI_any x.n y.n _).mono ?_
  rintro e v9 ⟨rfl, rfl⟩
  refine hK.out _ _ (by exact hS0) (fun _ => ?_)
  clear hK K
  refine wpAnyH_ready (rs := [10]) (by kernel_rfl) (by simp) (AllReadyH.cons rfl (fun K hK => ?_) AllReadyH.nil)
  go_simp
  have hS1 : ((W1.alloc (.cells #[.int .i64 (cmpI x.w y.w), .int .i64 (cmpI x.n y.n)] 3)).cell? ⟨ka, 0, none⟩ = some (.int .u64 x.w) ∧ (W1.alloc (.cells #[.int .i64 (cmpI x.w y.w), .int .i64 (cmpI x.n y.n)] 3)).cell? ⟨ka, 1, none⟩ = some (.int .i64 x.n) ∧ (W1.alloc (.cells #[.int .i64 (cmpI x.w y.w), .int .i64 (cmpI x.n y.n)] 3)).cell? ⟨kb, 0, none⟩ = some (.int .u64 y.w) ∧ (W1.alloc (.cells #[.int .i64 (cmpI x.w y.w), .int .i64 (cmpI x.n y.n)] 3)).cell? ⟨kb, 1, none⟩ = some (.int .i64 y.n)) := ⟨(((Ch.refl NoB W1).alloc _).cell ka1 (noB _)).trans hS0.1, (((Ch.refl NoB W1).alloc _).cell ka1 (noB _)).trans hS0.2.1, (((Ch.refl NoB W1).alloc _).cell kb1 (noB _)).trans hS0.2.2.1, (((Ch.refl NoB W1).alloc _).cell kb1 (noB _)).trans hS0.2.2.2⟩
  refine hK.out _ _ (by exact hS1) (fun _ => ?_)
  clear hK K
  refine wpAnyH_ready (rs := [11]) (by kernel_rfl) (by simp) (AllReadyH.cons rfl (fun K hK => ?_) AllReadyH.nil)
  go_simp
  refine (or_any W1.heap.size (cmpI x.w y.w) (cmpI x.n y.n) _ (by simp) (by simp)).mono ?_
  rintro e v11 ⟨rfl, rfl⟩
  refine hK.out _ _ (by exact hS1) (fun _ => ?_)
  clear hK K
  refine takeS_on (i := 12) 4 (v := ?v9) rfl rfl (by kernel_rfl) (by kernel_rfl) (by kernel_rfl) (fun _ _ _ h => h) (by kernel_rfl) ?hy9 (by exact hS1) ?_
  case hy9 => (intro w' hSw; go_simp; try (with_reducible rfl))
  simp only [Act.put, List.setIfInBounds_toArray, List.set_cons_zero, List.set_cons_succ]
  refine wpAnyH_done (by kernel_rfl) ?_ _
  go_wp2
  go_ret
  exact ⟨rfl, 1, #[.cells #[.int .u64 x.w, .int .i64 x.n] 117, .cells #[.int .u64 y.w, .int .i64 y.n] 117, .cells #[.int .i64 (cmpI x.w y.w), .int .i64 (cmpI x.n y.n)] 3], by rw [HW1.out, alloc_eq_grow, alloc_eq_grow, alloc_eq_grow, grow_grow, grow_grow]; rfl⟩

/-- sorted by (when, number), none twice -/
def Srt (zs : List W3) : Prop := zs.Pairwise (fun x y => lt x y = true)
/-- a due's two cells -/
def encD (x : W3) : List Value := [.int .u64 x.w, .int .i64 x.n]
theorem ltD (x y : W3) : ltOf cmpD x y = lt x y := cmpD_lt x y
theorem swoD : SWO (ltOf cmpD) where
  irrefl x := by rw [ltD]; exact lt_irr x
  trans x y z h1 h2 := by
    rw [ltD] at *
    have h1 := of_decide_eq_true h1
    have h2 := of_decide_eq_true h2
    exact decide_eq_true (by omega)
  ntrans x y z h1 h2 := by
    rw [ltD] at *
    have h1 := of_decide_eq_false h1
    have h2 := of_decide_eq_false h2
    exact decide_eq_false (by omega)
/-- the cells of dues -/
def Ds (w : World) (k : Nat) (ys : List W3) : Prop := ∀ (i : Nat) (y : W3), ys[i]? = some y → w.cell? ⟨k, i * 2, none⟩ = some (.int .u64 y.w) ∧ w.cell? ⟨k, i * 2 + 1, none⟩ = some (.int .i64 y.n)
section
variable [Inhabited W3]
theorem cmpLays (blk off size : Nat) (w : World) : CmpLays Try.prog 68 #[] encD 2 cmpD blk off size w := fun _ _ _ _ x y => comp_exact x y _
/-- the sort turns one block -/
theorem sort_ch {w : World} {blk off m : Nat} {dk : Array W3} {os : Array Obj} : Ch (Only blk) w (sortWorldK encD 2 w blk off m dk os) := by
  refine ⟨rfl, rfl, rfl, size_sortWorldK_c encD 2 w blk off m dk os, fun q hq hn => ?_⟩
  have hne : blk ≠ q := fun e => hn e.symm
  show (((Sort.ahead w m).heap.modify blk _) ++ os)[q]? = _
  rw [Array.getElem?_append_left (by simpa using hq), Array.getElem?_modify, if_neg hne]
  rfl
theorem getA {ys : Array W3} {i : Nat} {y : W3} (h : ys.toList[i]? = some y) : ys[i]! = y := by
  rw [Array.getElem?_toList] at h
  rw [getElem!_pos ys i (Array.getElem?_eq_some_iff.1 h).1]
  exact (Array.getElem?_eq_some_iff.1 h).2
theorem holds_of {w : World} {k : Nat} {ys : List W3} (h : Ds w k ys) (hf : ∀ o, w.frozen? ⟨k, o, none⟩ = false) : HoldsK encD 2 w k 0 ys.toArray := by
  intro j hj
  rw [size_flatK] at hj
  rw [get_flatK _ _ _ _ hj]
  have hj' : j / 2 < ys.length := by simp at hj; omega
  obtain ⟨y, hy⟩ : ∃ y, ys[j / 2]? = some y := ⟨_, List.getElem?_eq_getElem hj'⟩
  rw [getA (ys := ys.toArray) (i := j / 2) hy]
  refine ⟨?_, hf _⟩
  obtain ⟨h1, h2⟩ := h _ y hy
  rcases Nat.mod_two_eq_zero_or_one j with e | e
  · rw [e, show 0 + j = j / 2 * 2 by omega]
    exact h1
  · rw [e, show 0 + j = j / 2 * 2 + 1 by omega]
    exact h2
theorem of_holds {w : World} {k : Nat} {d : Array W3} (h : HoldsK encD 2 w k 0 d) : Ds w k d.toList := by
  intro i y hy
  have hi : i < d.size := by have := (List.getElem?_eq_some_iff.1 hy).1; simpa using this
  have e := getA hy
  constructor
  · have h1 := (h (i * 2) (by rw [size_flatK]; omega)).1
    rw [get_flatK _ _ _ _ (by omega), show i * 2 / 2 = i by omega, show i * 2 % 2 = 0 by omega, e, show 0 + i * 2 = i * 2 by omega] at h1
    exact h1
  · have h1 := (h (i * 2 + 1) (by rw [size_flatK]; omega)).1
    rw [get_flatK _ _ _ _ (by omega), show (i * 2 + 1) / 2 = i by omega, show (i * 2 + 1) % 2 = 1 by omega, e, show 0 + (i * 2 + 1) = i * 2 + 1 by omega] at h1
    exact h1
theorem srt_of {d : Array W3} {xs : List W3} (hp : d.toList.Perm xs) (hn : Nn xs) (hs : SortedIn (ltOf cmpD) 0 xs.length d) : Srt d.toList := by
  refine List.pairwise_iff_getElem.2 (fun i j hi hj hij => ?_)
  have hl := hp.length_eq
  have h1 := hs i j (Nat.zero_le _) hij (by rw [← hl]; exact hj)
  rw [ltD, getA (List.getElem?_eq_getElem hj), getA (List.getElem?_eq_getElem hi)] at h1
  refine lt_total h1 (fun e => ?_)
  have := (hn.perm hp).inj (List.getElem?_eq_getElem hj) (List.getElem?_eq_getElem hi) e
  omega
end
theorem srt_uniq : ∀ {a b : List W3}, a.Perm b → Srt a → Srt b → a = b
  | [], b, p, _, _ => (List.nil_perm.1 p).symm
  | x :: a, [], p, _, _ => by have := p.length_eq; simp at this
  | x :: a, y :: b, p, ha, hb => by
    have ha' := List.pairwise_cons.1 ha
    have hb' := List.pairwise_cons.1 hb
    have e : x = y := Classical.byContradiction fun e => by
      have h1 : x ∈ y :: b := p.mem_iff.1 List.mem_cons_self
      have h2 : y ∈ x :: a := p.mem_iff.2 List.mem_cons_self
      have h3 := (List.mem_cons.1 h1).resolve_left e
      have h4 := (List.mem_cons.1 h2).resolve_left (fun h => e h.symm)
      have h5 := lt_asymm (ha'.1 y h4)
      rw [hb'.1 x h3] at h5
      cases h5
    subst e
    rw [srt_uniq ((List.perm_cons x).1 p) ha'.2 hb'.2]
set_option maxRecDepth 100000 in
theorem sortDues (k cap : Nat) (ys : List W3) (w : World) (hH : Ds w k ys) (hf : ∀ o, w.frozen? ⟨k, o, none⟩ = false) (hk : k < w.heap.size) (hn : Nn ys) (hl : ys.length ≤ 4294967296) :
    Calls Try.prog 67 #[.slice (some ⟨k, 0, none⟩) ys.length cap, .func (.func 68) #[] #[]] w fun e w' => e = .returned (.tuple #[]) ∧ ∃ zs, zs.Perm ys ∧ Srt zs ∧ Ds w' k zs ∧ Ch (Only k) w w' := by
  have inh : Inhabited W3 := ⟨W3.zero⟩
  have eg : ∀ args w, (callFunc 68 args).run Try.prog w = .ok (.enter 68 args) w := enters_of Try.func68 (by kernel_rfl) rfl
  have hHK := holds_of hH hf
  have hcon := AnyQ.slices_SortFunc Try.sortDue 2 Try.isAgg117 Try.sizeOf117 encD (fun _ => rfl) (fun x v hv => by simp [encD] at hv; rcases hv with rfl | rfl <;> rfl) cmpD swoD 68 #[] k 0 cap ys.toArray w eg (cmpLays k 0 _ w) hHK hk (by simp; omega)
  refine Calls.mono (show Calls Try.prog 67 #[.slice (some ⟨k, 0, none⟩) ys.length cap, .func (.func 68) #[] #[]] w _ from hcon) ?_
  rintro e w' ⟨rfl, d', n, os, hp, hs, rfl⟩
  have hp1 : d'.toList.Perm ys := by
    have h1 := hp.2.2
    have h2 := hp.1
    simp only [List.size_toArray] at h1 h2
    rw [← h2] at h1
    simp only [Array.extract_size] at h1
    rw [h2] at h1
    simpa using h1
  refine ⟨rfl, d'.toList, hp1, srt_of hp1 hn (by simpa using hs), of_holds (holdsK_sortWorldK_c encD 2 w k 0 ys.toArray d' n os hHK hk hp.1), sort_ch⟩
end Go.Proofs.Ytgkapopkjgljjaa.Hp
