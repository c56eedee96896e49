/-
  What swap leaves: two nodes have changed their places, in the list and in the map. Condition: the heap is there, the places are in it.
-/
import Derived.Test.YtgkapopkjgljjaaThAhead
import Derived.Handy
import Derived.Deep.DeepCutAuto
import Derived.Deep.CutBlock
namespace Go.Proofs.Ytgkapopkjgljjaa.Hp
open Go.RowKit Wd
attribute [local go_sem ↓] Go.wp_at_zero Go.wp_at_succ

theorem rowOf_set : ∀ (xs : List W3) (k : Nat) (z : W3), rowOf (xs.set k z) = (((rowOf xs).set (k * 3) (.int .u64 z.w)).set (k * 3 + 1) (.int .i64 z.n)).set (k * 3 + 2) (.int .i64 z.v)
  | [], k, z => by simp [rowOf]
  | x :: r, 0, z => by simp [rowOf]
  | x :: r, k + 1, z => by
    have e : (k + 1) * 3 = k * 3 + 1 + 1 + 1 := by omega
    rw [e]
    simp only [List.set_cons_succ, rowOf, rowOf_set r k z]
theorem Own.set3 {base g n cap i : Nat} {w : World} {xs : List W3} (h : Own base w (.slice (some ⟨g, 0, none⟩) n cap) xs) (z : W3) :
    Own base (((w.setCell ⟨g, i * 3, none⟩ (.int .u64 z.w)).setCell ⟨g, i * 3 + 1, none⟩ (.int .i64 z.n)).setCell ⟨g, i * 3 + 2, none⟩ (.int .i64 z.v)) (.slice (some ⟨g, 0, none⟩) n cap) (xs.set i z) := by
  rcases h.2 with ⟨h1, h0⟩ | ⟨g', cap', cur, h1, hb, hg, hc, hm, hs, ht⟩
  · cases h1
  · injection h1 with a1 a2 a3
    injection a1 with a1
    injection a1 with a1
    subst a1 a3
    subst a2
    refine ⟨rowOf_length _, .inr ⟨g, cap, ((cur.setIfInBounds (i * 3) (.int .u64 z.w)).setIfInBounds (i * 3 + 1) (.int .i64 z.n)).setIfInBounds (i * 3 + 2) (.int .i64 z.v), by rw [List.length_set], hb, setCell_block (setCell_block (setCell_block hg _ _) _ _) _ _, by rw [List.length_set]; exact hc, hm, by simpa using hs, ?_⟩⟩
    rw [List.length_set, Array.toList_setIfInBounds, Array.toList_setIfInBounds, Array.toList_setIfInBounds, List.take_set, List.take_set, List.take_set, ht, rowOf_set]
theorem Own.fz {base g n cap : Nat} {w : World} {xs : List W3} (h : Own base w (.slice (some ⟨g, 0, none⟩) n cap) xs) (o : Nat) : w.frozen? ⟨g, o, none⟩ = false := (own_cells h).2.2.2.1 o

/-- two nodes laid down, in either order -/
def Lay (w : World) (x y : W3) (pa pb : Value) (wc : World) : Prop := ∃ ka kb, pa = .pointer (some ⟨ka, 0, none⟩) ∧ pb = .pointer (some ⟨kb, 0, none⟩) ∧ Three wc ka x ∧ Three wc kb y ∧ w.heap.size ≤ ka ∧ w.heap.size ≤ kb ∧ Ch NoB w wc
theorem Lay.one (w : World) (x y : W3) : Lay w x y (.pointer (some ⟨w.heap.size, 0, none⟩)) (.pointer (some ⟨w.heap.size + 1, 0, none⟩)) (((w.alloc (.cells #[.int .u64 x.w, .int .i64 x.n, .int .i64 x.v] 119)).alloc (.cells #[.int .u64 y.w, .int .i64 y.n, .int .i64 y.v] 119)).drew) := by
  have T := Three.new (w.alloc (.cells #[.int .u64 x.w, .int .i64 x.n, .int .i64 x.v] 119)) y
  simp only [World.size_alloc] at T
  exact ⟨_, _, rfl, rfl, (Three.new w x).alloc _, T, Nat.le_refl _, by omega, (((Ch.refl _ _).alloc _).alloc _).drew⟩
theorem Lay.two (w : World) (x y : W3) : Lay w x y (.pointer (some ⟨w.heap.size + 1, 0, none⟩)) (.pointer (some ⟨w.heap.size, 0, none⟩)) (((w.alloc (.cells #[.int .u64 y.w, .int .i64 y.n, .int .i64 y.v] 119)).alloc (.cells #[.int .u64 x.w, .int .i64 x.n, .int .i64 x.v] 119)).drew) := by
  have T := Three.new (w.alloc (.cells #[.int .u64 y.w, .int .i64 y.n, .int .i64 y.v] 119)) x
  simp only [World.size_alloc] at T
  exact ⟨_, _, rfl, rfl, T, (Three.new w y).alloc _, by omega, Nat.le_refl _, (((Ch.refl _ _).alloc _).alloc _).drew⟩

/-- behind the first store the other number is still there -/
theorem entry_left {M : List (Int × Int × Nat)} {xs : List W3} {i : Nat} {x : W3} {jb : Nat} {a v : Int} {tb : Nat} (hp : Pl M xs) (hi : xs[i]? = some x) (hj : M[jb]? = some (a, v, tb)) (u : Int) : ∃ (ja : Nat) (w : Int) (ta : Nat), (M.set jb (a, u, tb))[ja]? = some (x.n, w, ta) := by
  obtain ⟨ja, ta, hja⟩ := hp.find hi
  have hl : jb < M.length := (List.getElem?_eq_some_iff.1 hj).1
  by_cases e : jb = ja
  · subst e
    rw [hj] at hja
    injection hja with hja
    injection hja with h1 h2
    exact ⟨jb, u, tb, by rw [List.getElem?_set_self hl, h1]⟩
  · exact ⟨ja, (i : Int), ta, by rw [List.getElem?_set_ne e]; exact hja⟩

/-- what is left of a heap whose list has turned -/
def Turned (w : World) (b g km cap : Nat) (xs' : List W3) (clock : Nat) (nx : Int) (e : Ending) (w' : World) : Prop := e = .returned (.tuple #[]) ∧ ∃ M', HC w' b g km cap xs' M' clock nx ∧ Ch (Tri b g km) w w'

set_option maxRecDepth 20000 in
set_option maxHeartbeats 4000000 in
theorem swap_any (b g km cap i j : Nat) (xs : List W3) (M : List (Int × Int × Nat)) (clock : Nat) (nx : Int) (x y : W3) (w : World) (h : HC w b g km cap xs M clock nx) (hi : xs[i]? = some x) (hj : xs[j]? = some y) :
    Calls Try.prog 71 #[.pointer (some ⟨b, 0, none⟩), .int .i64 (i : Int), .int .i64 (j : Int)] w fun e w' => Turned w b g km cap (swp xs i j x y) clock nx e w' := by
  have il : i < xs.length := (List.getElem?_eq_some_iff.1 hi).1
  have jl : j < xs.length := (List.getElem?_eq_some_iff.1 hj).1
  have bl := lt_of_block h.hb
  have gl := h.gl
  have kl := h.m.lt
  obtain ⟨n, hn⟩ : ∃ n, n = xs.length := ⟨_, rfl⟩
  have hS0 : (w.cell? ⟨b, 0, none⟩ = some (.slice (some ⟨g, 0, none⟩) n cap) ∧ (w.cell? ⟨g, i * 3, none⟩ = some (.int .u64 x.w) ∧ w.cell? ⟨g, i * 3 + 1, none⟩ = some (.int .i64 x.n) ∧ w.cell? ⟨g, i * 3 + 2, none⟩ = some (.int .i64 x.v)) ∧ (w.cell? ⟨g, j * 3, none⟩ = some (.int .u64 y.w) ∧ w.cell? ⟨g, j * 3 + 1, none⟩ = some (.int .i64 y.n) ∧ w.cell? ⟨g, j * 3 + 2, none⟩ = some (.int .i64 y.v))) := ⟨by rw [hn]; exact h.cell.1, h.own.get hi, h.own.get hj⟩
  have hSA : ∀ w', Ch NoB w w' → (w'.cell? ⟨b, 0, none⟩ = some (.slice (some ⟨g, 0, none⟩) n cap) ∧ (w'.cell? ⟨g, i * 3, none⟩ = some (.int .u64 x.w) ∧ w'.cell? ⟨g, i * 3 + 1, none⟩ = some (.int .i64 x.n) ∧ w'.cell? ⟨g, i * 3 + 2, none⟩ = some (.int .i64 x.v)) ∧ (w'.cell? ⟨g, j * 3, none⟩ = some (.int .u64 y.w) ∧ w'.cell? ⟨g, j * 3 + 1, none⟩ = some (.int .i64 y.n) ∧ w'.cell? ⟨g, j * 3 + 2, none⟩ = some (.int .i64 y.v))) := fun w' k => ⟨(k.cell bl (noB _)).trans hS0.1, ⟨(k.cell gl (noB _)).trans hS0.2.1.1, (k.cell gl (noB _)).trans hS0.2.1.2.1, (k.cell gl (noB _)).trans hS0.2.1.2.2⟩, (k.cell gl (noB _)).trans hS0.2.2.1, (k.cell gl (noB _)).trans hS0.2.2.2.1, (k.cell gl (noB _)).trans hS0.2.2.2.2⟩
  rw [← hn] at il jl
  have i0 : (0 : Int) ≤ (i : Int) := by omega
  have i1 : (i : Int) < (n : Int) := by omega
  have j0 : (0 : Int) ≤ (j : Int) := by omega
  have j1 : (j : Int) < (n : Int) := by omega
  have H := hid h
  have HI := hid hi
  have HJ := hid hj
  have HN := hid hn
  have HSA := hid hSA
  clear h hi hj hn hSA
  go_enter Try.func71, Try.ntmps71
  go_upto_region 0 with fail
  go_cut [6, 7] (fun pa pb wc => Lay w x y pa pb wc)
  case first =>
    refine wp_region_held_drew (S := fun w' => w'.cell? ⟨b, 0, none⟩ = some (.slice (some ⟨g, 0, none⟩) n cap) ∧ (w'.cell? ⟨g, i * 3, none⟩ = some (.int .u64 x.w) ∧ w'.cell? ⟨g, i * 3 + 1, none⟩ = some (.int .i64 x.n) ∧ w'.cell? ⟨g, i * 3 + 2, none⟩ = some (.int .i64 x.v)) ∧ (w'.cell? ⟨g, j * 3, none⟩ = some (.int .u64 y.w) ∧ w'.cell? ⟨g, j * 3 + 1, none⟩ = some (.int .i64 y.n) ∧ w'.cell? ⟨g, j * 3 + 2, none⟩ = some (.int .i64 y.v))) (by kernel_rfl) (by exact hS0) (fun _ => ?_)
    refine takeS_on (i := 0) 8 (v := ?v28) rfl rfl (by kernel_rfl) (by kernel_rfl) (by kernel_rfl) (fun _ _ _ h => h) (by kernel_rfl) ?hy28 (by exact hS0) ?_
    case hy28 => (intro w' hSw; go_simp; try (with_reducible rfl))
    simp only [Act.put, List.setIfInBounds_toArray, List.set_cons_zero, List.set_cons_succ]
    refine takeS_on (i := 1) 9 (v := ?v29) rfl rfl (by kernel_rfl) (by kernel_rfl) (by kernel_rfl) (fun _ _ _ h => h) (by kernel_rfl) ?hy29 (by exact hS0) ?_
    case hy29 => (intro w' hSw; go_simp; try (with_reducible rfl))
    simp only [Act.put, List.setIfInBounds_toArray, List.set_cons_zero, List.set_cons_succ]
    refine takeS_on (i := 2) 10 (v := ?v30) rfl rfl (by kernel_rfl) (by kernel_rfl) (by kernel_rfl) (fun _ _ _ h => h) (by kernel_rfl) ?hy30 (by exact hS0) ?_
    case hy30 => (intro w' hSw; go_simp; try (with_reducible rfl))
    simp only [Act.put, List.setIfInBounds_toArray, List.set_cons_zero, List.set_cons_succ]
    refine takeS_on (i := 3) 11 (v := ?v31) rfl rfl (by kernel_rfl) (by kernel_rfl) (by kernel_rfl) (fun _ _ _ h => h) (by kernel_rfl) ?hy31 (by exact hS0) ?_
    case hy31 => (intro w' hSw; go_simp; try (with_reducible rfl))
    simp only [Act.put, List.setIfInBounds_toArray, List.set_cons_zero, List.set_cons_succ]
    refine takeS_on (i := 4) 12 (v := ?v32) rfl rfl (by kernel_rfl) (by kernel_rfl) (by kernel_rfl) (fun _ _ _ h => h) (by kernel_rfl) ?hy32 (by exact hS0) ?_
    case hy32 => (intro w' hSw; go_simp; try (with_reducible rfl))
    simp only [Act.put, List.setIfInBounds_toArray, List.set_cons_zero, List.set_cons_succ]
    refine takeS_on (i := 5) 13 (v := ?v33) rfl rfl (by kernel_rfl) (by kernel_rfl) (by kernel_rfl) (fun _ _ _ h => h) (by kernel_rfl) ?hy33 (by exact hS0) ?_
    case hy33 => (intro w' hSw; go_simp; try (with_reducible rfl))
    simp only [Act.put, List.setIfInBounds_toArray, List.set_cons_zero, List.set_cons_succ]
    refine takeS_on (i := 6) 14 (v := ?v34) rfl rfl (by kernel_rfl) (by kernel_rfl) (by kernel_rfl) (fun _ _ _ h => h) (by kernel_rfl) ?hy34 (by exact hS0) ?_
    case hy34 => (intro w' hSw; go_simp; try (with_reducible rfl))
    simp only [Act.put, List.setIfInBounds_toArray, List.set_cons_zero, List.set_cons_succ]
    refine takeS_on (i := 7) 15 (v := ?v35) rfl rfl (by kernel_rfl) (by kernel_rfl) (by kernel_rfl) (fun _ _ _ h => h) (by kernel_rfl) ?hy35 (by exact hS0) ?_
    case hy35 => (intro w' hSw; go_simp; try (with_reducible rfl))
    simp only [Act.put, List.setIfInBounds_toArray, List.set_cons_zero, List.set_cons_succ]
    refine takeS_on (i := 8) 16 (v := ?v36) rfl rfl (by kernel_rfl) (by kernel_rfl) (by kernel_rfl) (fun _ _ _ h => h) (by kernel_rfl) ?hy36 (by exact hS0) ?_
    case hy36 => (intro w' hSw; go_simp; try (with_reducible rfl))
    simp only [Act.put, List.setIfInBounds_toArray, List.set_cons_zero, List.set_cons_succ]
    refine takeS_on (i := 9) 17 (v := ?v37) rfl rfl (by kernel_rfl) (by kernel_rfl) (by kernel_rfl) (fun _ _ _ h => h) (by kernel_rfl) ?hy37 (by exact hS0) ?_
    case hy37 => (intro w' hSw; go_simp; try (with_reducible rfl))
    simp only [Act.put, List.setIfInBounds_toArray, List.set_cons_zero, List.set_cons_succ]
    refine takeS_on (i := 10) 18 (v := ?v38) rfl rfl (by kernel_rfl) (by kernel_rfl) (by kernel_rfl) (fun _ _ _ h => h) (by kernel_rfl) ?hy38 (by exact hS0) ?_
    case hy38 => (intro w' hSw; go_simp; try (with_reducible rfl))
    simp only [Act.put, List.setIfInBounds_toArray, List.set_cons_zero, List.set_cons_succ]
    refine takeS_on (i := 11) 19 (v := ?v39) rfl rfl (by kernel_rfl) (by kernel_rfl) (by kernel_rfl) (fun _ _ _ h => h) (by kernel_rfl) ?hy39 (by exact hS0) ?_
    case hy39 => (intro w' hSw; go_simp; try (with_reducible rfl))
    simp only [Act.put, List.setIfInBounds_toArray, List.set_cons_zero, List.set_cons_succ]
    refine takeS_on (i := 12) 20 (v := ?v40) rfl rfl (by kernel_rfl) (by kernel_rfl) (by kernel_rfl) (fun _ _ _ h => h) (by kernel_rfl) ?hy40 (by exact hS0) ?_
    case hy40 => (intro w' hSw; go_simp; try (with_reducible rfl))
    simp only [Act.put, List.setIfInBounds_toArray, List.set_cons_zero, List.set_cons_succ]
    refine takeS_on (i := 13) 21 (v := ?v41) rfl rfl (by kernel_rfl) (by kernel_rfl) (by kernel_rfl) (fun _ _ _ h => h) (by kernel_rfl) ?hy41 (by exact hS0) ?_
    case hy41 => (intro w' hSw; go_simp; try (with_reducible rfl))
    simp only [Act.put, List.setIfInBounds_toArray, List.set_cons_zero, List.set_cons_succ]
    refine wpAnyH_ready (rs := [14, 15]) (by kernel_rfl) (by simp) (AllReadyH.cons rfl (fun K hK => ?_) (AllReadyH.cons rfl (fun K hK => ?_) AllReadyH.nil))
    · go_simp
      refine hK.out _ _ (by exact HSA.out _ (by repeat (first | exact Ch.refl _ _ | apply Ch.drew | apply Ch.alloc))) (fun _ => ?_)
      clear hK K
      refine wpAnyH_ready (rs := [15]) (by kernel_rfl) (by simp) (AllReadyH.cons rfl (fun K hK => ?_) AllReadyH.nil)
      go_simp
      refine hK.out _ _ (by exact HSA.out _ (by repeat (first | exact Ch.refl _ _ | apply Ch.drew | apply Ch.alloc))) (fun _ => ?_)
      clear hK K
      refine wpAnyH_ready (rs := [16]) (by kernel_rfl) (by simp) (AllReadyH.cons rfl (fun K hK => ?_) AllReadyH.nil)
      go_simp
      refine hK.out _ _ (by exact HSA.out _ (by repeat (first | exact Ch.refl _ _ | apply Ch.drew | apply Ch.alloc))) (fun _ => ?_)
      clear hK K
      refine wpAnyH_ready (rs := [17]) (by kernel_rfl) (by simp) (AllReadyH.cons rfl (fun K hK => ?_) AllReadyH.nil)
      go_simp
      refine hK.out _ _ (by exact HSA.out _ (by repeat (first | exact Ch.refl _ _ | apply Ch.drew | apply Ch.alloc))) (fun _ => ?_)
      clear hK K
      refine wpAnyH_done (by kernel_rfl) ?_ _
      go_wp2_with fail
      go_meet
      first | exact Lay.one w x y | exact Lay.two w x y
    · go_simp
      refine hK.out _ _ (by exact HSA.out _ (by repeat (first | exact Ch.refl _ _ | apply Ch.drew | apply Ch.alloc))) (fun _ => ?_)
      clear hK K
      refine wpAnyH_ready (rs := [14]) (by kernel_rfl) (by simp) (AllReadyH.cons rfl (fun K hK => ?_) AllReadyH.nil)
      go_simp
      refine hK.out _ _ (by exact HSA.out _ (by repeat (first | exact Ch.refl _ _ | apply Ch.drew | apply Ch.alloc))) (fun _ => ?_)
      clear hK K
      refine wpAnyH_ready (rs := [16]) (by kernel_rfl) (by simp) (AllReadyH.cons rfl (fun K hK => ?_) AllReadyH.nil)
      go_simp
      refine hK.out _ _ (by exact HSA.out _ (by repeat (first | exact Ch.refl _ _ | apply Ch.drew | apply Ch.alloc))) (fun _ => ?_)
      clear hK K
      refine wpAnyH_ready (rs := [17]) (by kernel_rfl) (by simp) (AllReadyH.cons rfl (fun K hK => ?_) AllReadyH.nil)
      go_simp
      refine hK.out _ _ (by exact HSA.out _ (by repeat (first | exact Ch.refl _ _ | apply Ch.drew | apply Ch.alloc))) (fun _ => ?_)
      clear hK K
      refine wpAnyH_done (by kernel_rfl) ?_ _
      go_wp2_with fail
      go_meet
      first | exact Lay.one w x y | exact Lay.two w x y
  case rest =>
    obtain ⟨ka, kb, rfl, rfl, ta', tb', la, lb, gc⟩ := hcut
    obtain ⟨V, hV⟩ : ∃ V, V = wc.drew := ⟨_, rfl⟩
    have gV : Ch NoB w V := by rw [hV]; exact gc.drew
    have TA : Three V ka x := by rw [hV]; exact ta'
    have TB : Three V kb y := by rw [hV]; exact tb'
    have OV := H.out.own.ch gV (fun _ _ => noB _)
    have bV := (gV.cell bl (noB _)).trans hS0.1
    have hSV : (V.cell? ⟨b, 0, none⟩ = some (.slice (some ⟨g, 0, none⟩) n cap) ∧ (V.cell? ⟨ka, 0, none⟩ = some (.int .u64 x.w) ∧ V.cell? ⟨ka, 1, none⟩ = some (.int .i64 x.n) ∧ V.cell? ⟨ka, 2, none⟩ = some (.int .i64 x.v)) ∧ (V.cell? ⟨kb, 0, none⟩ = some (.int .u64 y.w) ∧ V.cell? ⟨kb, 1, none⟩ = some (.int .i64 y.n) ∧ V.cell? ⟨kb, 2, none⟩ = some (.int .i64 y.v))) := ⟨bV, TA.cells, TB.cells⟩
    have hSW : (wc.cell? ⟨b, 0, none⟩ = some (.slice (some ⟨g, 0, none⟩) n cap) ∧ (wc.cell? ⟨ka, 0, none⟩ = some (.int .u64 x.w) ∧ wc.cell? ⟨ka, 1, none⟩ = some (.int .i64 x.n) ∧ wc.cell? ⟨ka, 2, none⟩ = some (.int .i64 x.v)) ∧ (wc.cell? ⟨kb, 0, none⟩ = some (.int .u64 y.w) ∧ wc.cell? ⟨kb, 1, none⟩ = some (.int .i64 y.n) ∧ wc.cell? ⟨kb, 2, none⟩ = some (.int .i64 y.v))) := by rw [hV] at hSV; exact hSV
    rw [← HN.out] at OV
    obtain ⟨p0, p1, p2⟩ := OV.get HI.out
    have pf0 := OV.fz (i * 3)
    have pf1 := OV.fz (i * 3 + 1)
    have pf2 := OV.fz (i * 3 + 2)
    have sV := gV.size
    have blV : b < V.heap.size := by omega
    have glV : g < V.heap.size := by omega
    have laV := TA.lt
    have lbV := TB.lt
    have nbg : ¬ Only g b := fun e => H.out.d1 e
    have nag : ¬ Only g ka := fun e => by have e1 : ka = g := e; omega
    have nbbg : ¬ Only g kb := fun e => by have e1 : kb = g := e; omega
    have HO := hid OV
    have HGV := hid gV
    have HTA := hid TA
    have HTB := hid TB
    clear ta' tb' gc gV TA TB OV hS0 bV
    go_wp2_with fail
    refine wp_region_held_drew (S := fun w' => w'.cell? ⟨b, 0, none⟩ = some (.slice (some ⟨g, 0, none⟩) n cap) ∧ (w'.cell? ⟨ka, 0, none⟩ = some (.int .u64 x.w) ∧ w'.cell? ⟨ka, 1, none⟩ = some (.int .i64 x.n) ∧ w'.cell? ⟨ka, 2, none⟩ = some (.int .i64 x.v)) ∧ (w'.cell? ⟨kb, 0, none⟩ = some (.int .u64 y.w) ∧ w'.cell? ⟨kb, 1, none⟩ = some (.int .i64 y.n) ∧ w'.cell? ⟨kb, 2, none⟩ = some (.int .i64 y.v))) (by kernel_rfl) (by exact hSW) (fun _ => ?_)
    rw [← hV]
    clear hV
    refine takeS_on (i := 0) 22 (v := ?v42) rfl rfl (by kernel_rfl) (by kernel_rfl) (by kernel_rfl) (fun _ _ _ h => h) (by kernel_rfl) ?hy42 (by exact hSV) ?_
    case hy42 => (intro w' hSw; go_simp; try (with_reducible rfl))
    simp only [Act.put, List.setIfInBounds_toArray, List.set_cons_zero, List.set_cons_succ]
    refine takeS_on (i := 1) 23 (v := ?v43) rfl rfl (by kernel_rfl) (by kernel_rfl) (by kernel_rfl) (fun _ _ _ h => h) (by kernel_rfl) ?hy43 (by exact hSV) ?_
    case hy43 => (intro w' hSw; go_simp; try (with_reducible rfl))
    simp only [Act.put, List.setIfInBounds_toArray, List.set_cons_zero, List.set_cons_succ]
    refine takeS_on (i := 2) 24 (v := ?v44) rfl rfl (by kernel_rfl) (by kernel_rfl) (by kernel_rfl) (fun _ _ _ h => h) (by kernel_rfl) ?hy44 (by exact hSV) ?_
    case hy44 => (intro w' hSw; go_simp; try (with_reducible rfl))
    simp only [Act.put, List.setIfInBounds_toArray, List.set_cons_zero, List.set_cons_succ]
    refine takeS_on (i := 3) 25 (v := ?v45) rfl rfl (by kernel_rfl) (by kernel_rfl) (by kernel_rfl) (fun _ _ _ h => h) (by kernel_rfl) ?hy45 (by exact hSV) ?_
    case hy45 => (intro w' hSw; go_simp; try (with_reducible rfl))
    simp only [Act.put, List.setIfInBounds_toArray, List.set_cons_zero, List.set_cons_succ]
    refine takeS_on (i := 4) 26 (v := ?v46) rfl rfl (by kernel_rfl) (by kernel_rfl) (by kernel_rfl) (fun _ _ _ h => h) (by kernel_rfl) ?hy46 (by exact hSV) ?_
    case hy46 => (intro w' hSw; go_simp; try (with_reducible rfl))
    simp only [Act.put, List.setIfInBounds_toArray, List.set_cons_zero, List.set_cons_succ]
    refine takeS_on (i := 5) 27 (v := ?v47) rfl rfl (by kernel_rfl) (by kernel_rfl) (by kernel_rfl) (fun _ _ _ h => h) (by kernel_rfl) ?hy47 (by exact hSV) ?_
    case hy47 => (intro w' hSw; go_simp; try (with_reducible rfl))
    simp only [Act.put, List.setIfInBounds_toArray, List.set_cons_zero, List.set_cons_succ]
    refine takeS_on (i := 6) 28 (v := ?v48) rfl rfl (by kernel_rfl) (by kernel_rfl) (by kernel_rfl) (fun _ _ _ h => h) (by kernel_rfl) ?hy48 (by exact hSV) ?_
    case hy48 => (intro w' hSw; go_simp; try (with_reducible rfl))
    simp only [Act.put, List.setIfInBounds_toArray, List.set_cons_zero, List.set_cons_succ]
    refine takeS_on (i := 7) 29 (v := ?v49) rfl rfl (by kernel_rfl) (by kernel_rfl) (by kernel_rfl) (fun _ _ _ h => h) (by kernel_rfl) ?hy49 (by exact hSV) ?_
    case hy49 => (intro w' hSw; go_simp; try (with_reducible rfl))
    simp only [Act.put, List.setIfInBounds_toArray, List.set_cons_zero, List.set_cons_succ]
    refine takeS_on (i := 8) 30 (v := ?v50) rfl rfl (by kernel_rfl) (by kernel_rfl) (by kernel_rfl) (fun _ _ _ h => h) (by kernel_rfl) ?hy50 (by exact hSV) ?_
    case hy50 => (intro w' hSw; go_simp; try (with_reducible rfl))
    simp only [Act.put, List.setIfInBounds_toArray, List.set_cons_zero, List.set_cons_succ]
    refine takeS_on (i := 9) 31 (v := ?v51) rfl rfl (by kernel_rfl) (by kernel_rfl) (by kernel_rfl) (fun _ _ _ h => h) (by kernel_rfl) ?hy51 (by exact hSV) ?_
    case hy51 => (intro w' hSw; go_simp; try (with_reducible rfl))
    simp only [Act.put, List.setIfInBounds_toArray, List.set_cons_zero, List.set_cons_succ]
    refine takeS_on (i := 10) 32 (v := ?v52) rfl rfl (by kernel_rfl) (by kernel_rfl) (by kernel_rfl) (fun _ _ _ h => h) (by kernel_rfl) ?hy52 (by exact hSV) ?_
    case hy52 => (intro w' hSw; go_simp; try (with_reducible rfl))
    simp only [Act.put, List.setIfInBounds_toArray, List.set_cons_zero, List.set_cons_succ]
    refine takeS_on (i := 11) 33 (v := ?v53) rfl rfl (by kernel_rfl) (by kernel_rfl) (by kernel_rfl) (fun _ _ _ h => h) (by kernel_rfl) ?hy53 (by exact hSV) ?_
    case hy53 => (intro w' hSw; go_simp; try (with_reducible rfl))
    simp only [Act.put, List.setIfInBounds_toArray, List.set_cons_zero, List.set_cons_succ]
    refine takeS_on (i := 12) 34 (v := ?v54) rfl rfl (by kernel_rfl) (by kernel_rfl) (by kernel_rfl) (fun _ _ _ h => h) (by kernel_rfl) ?hy54 (by exact hSV) ?_
    case hy54 => (intro w' hSw; go_simp; try (with_reducible rfl))
    simp only [Act.put, List.setIfInBounds_toArray, List.set_cons_zero, List.set_cons_succ]
    refine wpAnyH_ready (rs := [13]) (by kernel_rfl) (by simp) (AllReadyH.cons rfl (fun K hK => ?_) AllReadyH.nil)
    go_simp
    obtain ⟨W1, hW1⟩ : ∃ W, W = (((V.setCell ⟨g, i * 3, none⟩ (.int .u64 y.w)).setCell ⟨g, i * 3 + 1, none⟩ (.int .i64 y.n)).setCell ⟨g, i * 3 + 2, none⟩ (.int .i64 y.v)) := ⟨_, rfl⟩
    rw [← hW1]
    have C1 : Ch (Only g) V W1 := by rw [hW1]; exact (((Ch.refl (Only g) V).own _ _).own _ _).own _ _
    have O1 : Own 0 W1 (.slice (some ⟨g, 0, none⟩) n cap) (xs.set i y) := by rw [hW1]; exact HO.out.set3 y
    have hj1 : (xs.set i y)[j]? = some y := by by_cases e : i = j; (subst e; rw [List.getElem?_set_self (by rw [← HN.out]; exact il)]); (rw [List.getElem?_set_ne e]; exact HJ.out)
    obtain ⟨q0, q1, q2⟩ := O1.get hj1
    have qf0 := O1.fz (j * 3)
    have qf1 := O1.fz (j * 3 + 1)
    have qf2 := O1.fz (j * 3 + 2)
    have hSb : (W1.cell? ⟨b, 0, none⟩ = some (.slice (some ⟨g, 0, none⟩) n cap) ∧ (W1.cell? ⟨ka, 0, none⟩ = some (.int .u64 x.w) ∧ W1.cell? ⟨ka, 1, none⟩ = some (.int .i64 x.n) ∧ W1.cell? ⟨ka, 2, none⟩ = some (.int .i64 x.v)) ∧ (W1.cell? ⟨kb, 0, none⟩ = some (.int .u64 y.w) ∧ W1.cell? ⟨kb, 1, none⟩ = some (.int .i64 y.n) ∧ W1.cell? ⟨kb, 2, none⟩ = some (.int .i64 y.v))) := ⟨(C1.cell blV nbg).trans hSV.1, ⟨(C1.cell laV nag).trans hSV.2.1.1, (C1.cell laV nag).trans hSV.2.1.2.1, (C1.cell laV nag).trans hSV.2.1.2.2⟩, (C1.cell lbV nbbg).trans hSV.2.2.1, (C1.cell lbV nbbg).trans hSV.2.2.2.1, (C1.cell lbV nbbg).trans hSV.2.2.2.2⟩
    have HO1 := hid O1
    have HC1 := hid C1
    clear hW1 O1 C1 hj1 p0 p1 p2 pf0 pf1 pf2
    refine hK.out _ _ (by exact hSb) (fun _ => ?_)
    clear hK K
    refine takeS_on (i := 14) 35 (v := ?v55) rfl rfl (by kernel_rfl) (by kernel_rfl) (by kernel_rfl) (fun _ _ _ h => h) (by kernel_rfl) ?hy55 (by exact hSb) ?_
    case hy55 => (intro w' hSw; go_simp; try (with_reducible rfl))
    simp only [Act.put, List.setIfInBounds_toArray, List.set_cons_zero, List.set_cons_succ]
    refine wpAnyH_ready (rs := [15]) (by kernel_rfl) (by simp) (AllReadyH.cons rfl (fun K hK => ?_) AllReadyH.nil)
    go_simp
    obtain ⟨W2, hW2⟩ : ∃ W, W = (((W1.setCell ⟨g, j * 3, none⟩ (.int .u64 x.w)).setCell ⟨g, j * 3 + 1, none⟩ (.int .i64 x.n)).setCell ⟨g, j * 3 + 2, none⟩ (.int .i64 x.v)) := ⟨_, rfl⟩
    rw [← hW2]
    have C2 : Ch (Only g) W1 W2 := by rw [hW2]; exact (((Ch.refl (Only g) W1).own _ _).own _ _).own _ _
    have O2 : Own 0 W2 (.slice (some ⟨g, 0, none⟩) n cap) (swp xs i j x y) := by rw [hW2]; exact HO1.out.set3 x
    have s1W := HC1.out.size
    have hSc : (W2.cell? ⟨b, 0, none⟩ = some (.slice (some ⟨g, 0, none⟩) n cap) ∧ (W2.cell? ⟨ka, 0, none⟩ = some (.int .u64 x.w) ∧ W2.cell? ⟨ka, 1, none⟩ = some (.int .i64 x.n) ∧ W2.cell? ⟨ka, 2, none⟩ = some (.int .i64 x.v)) ∧ (W2.cell? ⟨kb, 0, none⟩ = some (.int .u64 y.w) ∧ W2.cell? ⟨kb, 1, none⟩ = some (.int .i64 y.n) ∧ W2.cell? ⟨kb, 2, none⟩ = some (.int .i64 y.v))) := ⟨(C2.cell (by omega) nbg).trans hSb.1, ⟨(C2.cell (by omega) nag).trans hSb.2.1.1, (C2.cell (by omega) nag).trans hSb.2.1.2.1, (C2.cell (by omega) nag).trans hSb.2.1.2.2⟩, (C2.cell (by omega) nbbg).trans hSb.2.2.1, (C2.cell (by omega) nbbg).trans hSb.2.2.2.1, (C2.cell (by omega) nbbg).trans hSb.2.2.2.2⟩
    have HO2 := hid O2
    have HC2 := hid (HC1.out.trans' C2)
    clear hW2 O2 C2 q0 q1 q2 qf0 qf1 qf2 s1W
    refine hK.out _ _ (by exact hSc) (fun _ => ?_)
    clear hK K
    refine wpAnyH_done (by kernel_rfl) ?_ _
    obtain ⟨V2, hV2⟩ : ∃ V, V = W2.drew := ⟨_, rfl⟩
    have C2 : Ch (Only g) V V2 := by rw [hV2]; exact HC2.out.drew
    have O2 : Own 0 V2 (.slice (some ⟨g, 0, none⟩) n cap) (swp xs i j x y) := by rw [hV2]; exact HO2.out
    have M2 : MAt V2 km M clock := (H.out.m.ch HGV.out (noB _)).ch C2 (fun e => H.out.d3 e.symm)
    have B2 := (C2.block b blV nbg).trans ((HGV.out.block b bl (noB _)).trans H.out.hb)
    have s2 := C2.size
    have bl2 : b < V2.heap.size := by omega
    have la2 : ka < V2.heap.size := by omega
    have lb2 : kb < V2.heap.size := by omega
    have kl2 : km < V2.heap.size := M2.lt
    have nbk : ¬ Only km b := fun e => H.out.d2 e
    have nak : ¬ Only km ka := fun e => by have e1 : ka = km := e; omega
    have nbbk : ¬ Only km kb := fun e => by have e1 : kb = km := e; omega
    have hSd : (V2.cell? ⟨b, 1, none⟩ = some (.map (some km)) ∧ V2.cell? ⟨ka, 1, none⟩ = some (.int .i64 x.n) ∧ V2.cell? ⟨kb, 1, none⟩ = some (.int .i64 y.n)) := ⟨(cell_of B2 1).trans rfl, (C2.cell laV nag).trans HTA.out.cells.2.1, (C2.cell lbV nbbg).trans HTB.out.cells.2.1⟩
    have hSd0 : (W2.cell? ⟨b, 1, none⟩ = some (.map (some km)) ∧ W2.cell? ⟨ka, 1, none⟩ = some (.int .i64 x.n) ∧ W2.cell? ⟨kb, 1, none⟩ = some (.int .i64 y.n)) := by rw [hV2] at hSd; exact hSd
    obtain ⟨jb, tb, hjb⟩ := H.out.pl.find HJ.out
    have he1 := entry_some M2 H.out.ok hjb
    have hs1 := store_some M2 H.out.ok hjb (i : Int)
    rw [show goInt tb = .int .i64 (tb : Int) from rfl] at he1 hs1
    have HJB := hid hjb
    have HO3 := hid O2
    have HB2 := hid B2
    have HCV := hid C2
    clear O2 B2 C2 M2 hjb hSc
    go_wp2_with fail
    refine wp_region_held_drew (S := fun w' => w'.cell? ⟨b, 1, none⟩ = some (.map (some km)) ∧ w'.cell? ⟨ka, 1, none⟩ = some (.int .i64 x.n) ∧ w'.cell? ⟨kb, 1, none⟩ = some (.int .i64 y.n)) (by kernel_rfl) (by exact hSd0) (fun _ => ?_)
    rw [← hV2]
    clear hV2
    refine takeS_on (i := 0) 36 (v := ?v56) rfl rfl (by kernel_rfl) (by kernel_rfl) (by kernel_rfl) (fun _ _ _ h => h) (by kernel_rfl) ?hy56 (by exact hSd) ?_
    case hy56 => (intro w' hSw; go_simp; try (with_reducible rfl))
    simp only [Act.put, List.setIfInBounds_toArray, List.set_cons_zero, List.set_cons_succ]
    refine takeS_on (i := 1) 37 (v := ?v57) rfl rfl (by kernel_rfl) (by kernel_rfl) (by kernel_rfl) (fun _ _ _ h => h) (by kernel_rfl) ?hy57 (by exact hSd) ?_
    case hy57 => (intro w' hSw; go_simp; try (with_reducible rfl))
    simp only [Act.put, List.setIfInBounds_toArray, List.set_cons_zero, List.set_cons_succ]
    refine takeS_on (i := 2) 38 (v := ?v58) rfl rfl (by kernel_rfl) (by kernel_rfl) (by kernel_rfl) (fun _ _ _ h => h) (by kernel_rfl) ?hy58 (by exact hSd) ?_
    case hy58 => (intro w' hSw; go_simp; try (with_reducible rfl))
    simp only [Act.put, List.setIfInBounds_toArray, List.set_cons_zero, List.set_cons_succ]
    refine takeS_on (i := 3) 39 (v := ?v59) rfl rfl (by kernel_rfl) (by kernel_rfl) (by kernel_rfl) (fun _ _ _ h => h) (by kernel_rfl) ?hy59 (by exact hSd) ?_
    case hy59 => (intro w' hSw; go_simp; try (with_reducible rfl))
    simp only [Act.put, List.setIfInBounds_toArray, List.set_cons_zero, List.set_cons_succ]
    refine takeS_on (i := 4) 40 (v := ?v60) rfl rfl (by kernel_rfl) (by kernel_rfl) (by kernel_rfl) (fun _ _ _ h => h) (by kernel_rfl) ?hy60 (by exact hSd) ?_
    case hy60 => (intro w' hSw; go_simp; try (with_reducible rfl))
    simp only [Act.put, List.setIfInBounds_toArray, List.set_cons_zero, List.set_cons_succ]
    refine takeS_on (i := 5) 41 (v := ?v61) rfl rfl (by kernel_rfl) (by kernel_rfl) (by kernel_rfl) (fun _ _ _ h => h) (by kernel_rfl) ?hy61 (by exact hSd) ?_
    case hy61 => (intro w' hSw; go_simp; try (with_reducible rfl))
    simp only [Act.put, List.setIfInBounds_toArray, List.set_cons_zero, List.set_cons_succ]
    refine takeS_on (i := 6) 42 (v := ?v62) rfl rfl (by kernel_rfl) (by kernel_rfl) (by kernel_rfl) (fun _ _ _ h => h) (by kernel_rfl) ?hy62 (by exact hSd) ?_
    case hy62 => (intro w' hSw; go_simp; try (with_reducible rfl))
    simp only [Act.put, List.setIfInBounds_toArray, List.set_cons_zero, List.set_cons_succ]
    refine takeS_on (i := 7) 43 (v := ?v63) rfl rfl (by kernel_rfl) (by kernel_rfl) (by kernel_rfl) (fun _ _ _ h => h) (by kernel_rfl) ?hy63 (by exact hSd) ?_
    case hy63 => (intro w' hSw; go_simp; try (with_reducible rfl))
    simp only [Act.put, List.setIfInBounds_toArray, List.set_cons_zero, List.set_cons_succ]
    refine takeS_on (i := 8) 44 (v := ?v64) rfl rfl (by kernel_rfl) (by kernel_rfl) (by kernel_rfl) (fun _ _ _ h => h) (by kernel_rfl) ?hy64 (by exact hSd) ?_
    case hy64 => (intro w' hSw; go_simp; try (with_reducible rfl))
    simp only [Act.put, List.setIfInBounds_toArray, List.set_cons_zero, List.set_cons_succ]
    refine takeS_on (i := 9) 45 (v := ?v65) rfl rfl (by kernel_rfl) (by kernel_rfl) (by kernel_rfl) (fun _ _ _ h => h) (by kernel_rfl) ?hy65 (by exact hSd) ?_
    case hy65 => (intro w' hSw; go_simp; try (with_reducible rfl))
    simp only [Act.put, List.setIfInBounds_toArray, List.set_cons_zero, List.set_cons_succ]
    refine takeS_on (i := 10) 46 (v := ?v66) rfl rfl (by kernel_rfl) (by kernel_rfl) (by kernel_rfl) (fun _ _ _ h => h) (by kernel_rfl) ?hy66 (by exact hSd) ?_
    case hy66 => (intro w' hSw; go_simp; try (with_reducible rfl))
    simp only [Act.put, List.setIfInBounds_toArray, List.set_cons_zero, List.set_cons_succ]
    refine takeS_on (i := 11) 47 (v := ?v67) rfl rfl (by kernel_rfl) (by kernel_rfl) (by kernel_rfl) (fun _ _ _ h => h) (by kernel_rfl) ?hy67 (by exact hSd) ?_
    case hy67 => (intro w' hSw; go_simp; try (with_reducible rfl))
    simp only [Act.put, List.setIfInBounds_toArray, List.set_cons_zero, List.set_cons_succ]
    refine takeS_on (i := 12) 48 (v := ?v68) rfl rfl (by kernel_rfl) (by kernel_rfl) (by kernel_rfl) (fun _ _ _ h => h) (by kernel_rfl) ?hy68 (by exact hSd) ?_
    case hy68 => (intro w' hSw; go_simp; try (with_reducible rfl))
    simp only [Act.put, List.setIfInBounds_toArray, List.set_cons_zero, List.set_cons_succ]
    refine takeS_on (i := 13) 49 (v := ?v69) rfl rfl (by kernel_rfl) (by kernel_rfl) (by kernel_rfl) (fun _ _ _ h => h) (by kernel_rfl) ?hy69 (by exact hSd) ?_
    case hy69 => (intro w' hSw; go_simp; try (with_reducible rfl))
    simp only [Act.put, List.setIfInBounds_toArray, List.set_cons_zero, List.set_cons_succ]
    refine takeS_on (i := 14) 50 (v := ?v70) rfl rfl (by kernel_rfl) (by kernel_rfl) (by kernel_rfl) (fun _ _ _ h => h) (by kernel_rfl) ?hy70 (by exact hSd) ?_
    case hy70 => (intro w' hSw; go_simp; try (with_reducible rfl))
    simp only [Act.put, List.setIfInBounds_toArray, List.set_cons_zero, List.set_cons_succ]
    refine takeS_on (i := 15) 51 (v := ?v71) rfl rfl (by kernel_rfl) (by kernel_rfl) (by kernel_rfl) (fun _ _ _ h => h) (by kernel_rfl) ?hy71 (by exact hSd) ?_
    case hy71 => (intro w' hSw; go_simp; try (with_reducible rfl))
    simp only [Act.put, List.setIfInBounds_toArray, List.set_cons_zero, List.set_cons_succ]
    refine wpAnyH_ready (rs := [16]) (by kernel_rfl) (by simp) (AllReadyH.cons rfl (fun K hK => ?_) AllReadyH.nil)
    go_simp
    refine hK.out _ _ (by exact hSd) (fun _ => ?_)
    clear hK K
    refine takeS_on (i := 17) 53 (v := ?v72) rfl rfl (by kernel_rfl) (by kernel_rfl) (by kernel_rfl) (fun _ _ _ h => h) (by kernel_rfl) ?hy72 (by exact hSd) ?_
    case hy72 => (intro w' hSw; go_simp; try (with_reducible rfl))
    simp only [Act.put, List.setIfInBounds_toArray, List.set_cons_zero, List.set_cons_succ]
    refine wpAnyH_ready (rs := [18]) (by kernel_rfl) (by simp) (AllReadyH.cons rfl (fun K hK => ?_) AllReadyH.nil)
    go_simp
    obtain ⟨W3, hW3⟩ : ∃ W, W = putM V2 km (M.set jb (y.n, (i : Int), tb)) clock := ⟨_, rfl⟩
    rw [← hW3]
    have M3 : MAt W3 km (M.set jb (y.n, (i : Int), tb)) clock := by rw [hW3]; exact putM_at kl2 _ _
    have C3 : Ch (Only km) V2 W3 := by rw [hW3]; exact putM_ch _ _ _ _
    have K3 := H.out.ok.set HJB.out (i : Int)
    obtain ⟨ja, u, ta, hja⟩ := entry_left H.out.pl HI.out HJB.out (i : Int)
    have he2 := entry_some M3 K3 hja
    have hs2 := store_some M3 K3 hja (j : Int)
    rw [show goInt ta = .int .i64 (ta : Int) from rfl] at he2 hs2
    have hSe : (W3.cell? ⟨b, 1, none⟩ = some (.map (some km)) ∧ W3.cell? ⟨ka, 1, none⟩ = some (.int .i64 x.n) ∧ W3.cell? ⟨kb, 1, none⟩ = some (.int .i64 y.n)) := ⟨(C3.cell bl2 nbk).trans hSd.1, (C3.cell la2 nak).trans hSd.2.1, (C3.cell lb2 nbbk).trans hSd.2.2⟩
    have HM3 := hid M3
    have HC3 := hid C3
    have HK3 := hid K3
    have HJA := hid hja
    clear hW3 M3 C3 K3 hja he1 hs1
    refine hK.out _ _ (by exact hSe) (fun _ => ?_)
    clear hK K
    refine wpAnyH_ready (rs := [19]) (by kernel_rfl) (by simp) (AllReadyH.cons rfl (fun K hK => ?_) AllReadyH.nil)
    go_simp
    refine hK.out _ _ (by exact hSe) (fun _ => ?_)
    clear hK K
    refine takeS_on (i := 20) 55 (v := ?v73) rfl rfl (by kernel_rfl) (by kernel_rfl) (by kernel_rfl) (fun _ _ _ h => h) (by kernel_rfl) ?hy73 (by exact hSe) ?_
    case hy73 => (intro w' hSw; go_simp; try (with_reducible rfl))
    simp only [Act.put, List.setIfInBounds_toArray, List.set_cons_zero, List.set_cons_succ]
    refine wpAnyH_ready (rs := [21]) (by kernel_rfl) (by simp) (AllReadyH.cons rfl (fun K hK => ?_) AllReadyH.nil)
    go_simp
    obtain ⟨W4, hW4⟩ : ∃ W, W = putM W3 km ((M.set jb (y.n, (i : Int), tb)).set ja (x.n, (j : Int), ta)) clock := ⟨_, rfl⟩
    rw [← hW4]
    have M4 : MAt W4 km ((M.set jb (y.n, (i : Int), tb)).set ja (x.n, (j : Int), ta)) clock := by rw [hW4]; exact putM_at HM3.out.lt _ _
    have C4 : Ch (Only km) W3 W4 := by rw [hW4]; exact putM_ch _ _ _ _
    have s3W := HC3.out.size
    have hSf : (W4.cell? ⟨b, 1, none⟩ = some (.map (some km)) ∧ W4.cell? ⟨ka, 1, none⟩ = some (.int .i64 x.n) ∧ W4.cell? ⟨kb, 1, none⟩ = some (.int .i64 y.n)) := ⟨(C4.cell (by omega) nbk).trans hSe.1, (C4.cell (by omega) nak).trans hSe.2.1, (C4.cell (by omega) nbbk).trans hSe.2.2⟩
    have HM4 := hid M4
    have HC4 := hid (HC3.out.trans' C4)
    clear hW4 M4 C4 he2 hs2 s3W
    refine hK.out _ _ (by exact hSf) (fun _ => ?_)
    clear hK K
    refine wpAnyH_done (by kernel_rfl) ?_ _
    go_wp2
    go_end0
    refine ⟨rfl, (M.set jb (y.n, (i : Int), tb)).set ja (x.n, (j : Int), ta), ?_, ?_⟩
    · have B4 := (HC4.out.block b bl2 nbk).trans HB2.out
      have O4 := HO3.out.ch HC4.out (fun q e e2 => by
        have e1 : some g = some q := e
        injection e1 with e1
        have e3 : q = km := e2
        exact H.out.d3 (e1.trans e3))
      refine { hb := by rw [swp_len]; exact B4, own := by rw [swp_len, ← HN.out]; exact O4, m := HM4.out, ok := HK3.out.set HJA.out (j : Int), pl := H.out.pl.swap H.out.nn HI.out HJ.out (H.out.ok.mem_set HJB.out (i : Int)) (HK3.out.mem_set HJA.out (j : Int)), nn := H.out.nn.perm (swp_perm HI.out HJ.out), d1 := H.out.d1, d2 := H.out.d2, d3 := H.out.d3 }
    · exact ((HGV.out.any (S := Tri b g km)).trans HCV.out (fun q e => .inl (.inr (.inl e)))).trans HC4.out (fun q e => .inl (.inr (.inr e)))
end Go.Proofs.Ytgkapopkjgljjaa.Hp
