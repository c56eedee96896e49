/-
  PolicyGrows, walked: more edges take no path away. Conditions: the lists have no more than 1048576 elements.
-/
import Derived.Test.YtcoaefojamhloaaPyLives
import Derived.Test.YtcoaefojamhloaaPyFact
import Derived.Test.YtcoaefojamhloaaPyAbv
namespace Go.Proofs.Ytcoaefojamhloaa.Lt
open Go.RowKit Wd
attribute [local go_sem ↓] Go.wp_at_zero Go.wp_at_succ
set_option maxRecDepth 20000

/-- what Above tells rises -/
theorem abP_rise (p : St) (j : Nat) : (abP p j).Pairwise (· < ·) := by
  unfold abP
  rw [List.pairwise_map]
  refine List.Pairwise.imp (fun h => by omega) (List.Pairwise.filter p List.pairwise_lt_range)
theorem abP_mem {p : St} {j : Nat} {v : Int} : v ∈ abP p j ↔ ∃ d : Nat, d < j ∧ p d = true ∧ v = (d : Int) := by
  unfold abP
  rw [List.mem_map]
  constructor
  · rintro ⟨d, hd, rfl⟩
    rw [List.mem_filter, List.mem_range] at hd
    exact ⟨d, hd.1, hd.2, rfl⟩
  · rintro ⟨d, h1, h2, rfl⟩
    exact ⟨d, by rw [List.mem_filter, List.mem_range]; exact ⟨h1, h2⟩, rfl⟩
/-- each of a rising list stands in another one, from a place on -/
def Fnd (xs ys : List Int) (i k : Nat) : Prop := ∀ i' v, i ≤ i' → xs[i']? = some v → ∃ k', k ≤ k' ∧ ys[k']? = some v
theorem Fnd.start {xs ys : List Int} (h : ∀ v ∈ xs, v ∈ ys) : Fnd xs ys 0 0 := fun i' v _ hv => by
  obtain ⟨k, hk⟩ := List.mem_iff_getElem?.1 (h v (List.mem_of_getElem? hv))
  exact ⟨k, Nat.zero_le _, hk⟩
theorem rise_at {ys : List Int} (h : ys.Pairwise (· < ·)) {i j : Nat} {a b : Int} (hij : i < j) (ha : ys[i]? = some a) (hb : ys[j]? = some b) : a < b := by
  obtain ⟨hi, rfl⟩ := List.getElem?_eq_some_iff.1 ha
  obtain ⟨hj, rfl⟩ := List.getElem?_eq_some_iff.1 hb
  exact List.pairwise_iff_getElem.1 h i j hi hj hij
/-- another number stands there: the place is behind -/
theorem Fnd.skip {xs ys : List Int} {i k : Nat} {u v : Int} (hx : xs.Pairwise (· < ·)) (hy : ys.Pairwise (· < ·)) (h : Fnd xs ys i k) (hv : xs[i]? = some v) (hu : ys[k]? = some u) (hne : u ≠ v) : Fnd xs ys i (k + 1) := by
  intro i' v' hi hv'
  obtain ⟨k', hk, hkv⟩ := h i' v' hi hv'
  by_cases e : k' = k
  · subst e
    exfalso
    obtain ⟨k2, hk2, hkv2⟩ := h i v (Nat.le_refl _) hv
    rw [hkv] at hu
    injection hu with hu
    subst hu
    by_cases e2 : k2 = k'
    · subst e2
      rw [hkv] at hkv2
      injection hkv2 with q
      exact hne q
    · have l1 := rise_at hy (show k' < k2 by omega) hkv hkv2
      by_cases e3 : i' = i
      · subst e3
        rw [hv] at hv'
        injection hv' with q
        exact hne q.symm
      · have l2 := rise_at hx (show i < i' by omega) hv hv'
        omega
  · exact ⟨k', by omega, hkv⟩
theorem Fnd.next {xs ys : List Int} {i k : Nat} (h : Fnd xs ys i k) : Fnd xs ys (i + 1) k := fun i' v hi hv => h i' v (by omega) hv
theorem Fnd.lt {xs ys : List Int} {i k : Nat} {v : Int} (h : Fnd xs ys i k) (hv : xs[i]? = some v) : k < ys.length := by
  obtain ⟨k', h1, h2⟩ := h i v (Nat.le_refl _) hv
  have := (List.getElem?_eq_some_iff.1 h2).1
  omega
theorem abvI_more {n x : Int} {l k : List Eg} (h1 : wrgP n l [x] = 0) (h2 : wrgP n (l ++ k) [x] = 0) : (∀ v ∈ abvI n l x, v ∈ abvI n (l ++ k) x) ∧ 0 < (abvI n l x).length := by
  obtain ⟨n1, n2, ok, hd⟩ := wrgP_ok h2
  have hx := hd x (by simp)
  obtain ⟨N, rfl⟩ : ∃ N : Nat, n = (N : Int) := ⟨n.toNat, by omega⟩
  obtain ⟨X, rfl⟩ : ∃ X : Nat, x = (X : Int) := ⟨x.toNat, by omega⟩
  unfold abvI
  rw [if_pos h1, if_pos h2]
  simp only [Int.toNat_natCast]
  refine ⟨fun v hv => ?_, ?_⟩
  · obtain ⟨d, e1, e2, e3⟩ := abP_mem.1 hv
    exact abP_mem.2 ⟨d, e1, pthR_more ok e1 e2, e3⟩
  · have : (X : Int) ∈ abP (fun d => pthR N l d X) N := abP_mem.2 ⟨X, by omega, pth_refl (by omega), rfl⟩
    exact List.length_pos_of_mem this
theorem abvI_rise (n x : Int) (l : List Eg) : (abvI n l x).Pairwise (· < ·) := by
  unfold abvI
  split
  · exact abP_rise _ _
  · exact List.Pairwise.nil
set_option maxHeartbeats 16000000 in
theorem grows_walk (w : World) (n : Int) (a : Option Addr) (m c : Nat) (l : List Eg) (h : Le w (.slice a m c) l) (hm2 : m ≤ 1048576) (_hn : -9223372036854775808 ≤ n ∧ n ≤ 9223372036854775807) (a2 : Option Addr) (m2 c2 : Nat) (l2 : List Eg) (h2 : Le w (.slice a2 m2 c2) l2) (hm3 : m2 ≤ 1048576) (x : Int) (_hx : -9223372036854775808 ≤ x ∧ x ≤ 9223372036854775807) :
    Calls Try.prog 8 #[.agg #[.int .i64 n, .slice a m c], .slice a2 m2 c2, .int .i64 x] w fun e w' => e = .returned (.bool true) ∧ Gr w w' := by
  have hm : m ≤ 8796093022208 := by omega
  obtain ⟨A, hA⟩ : ∃ A, A = w.alloc (.cells #[.int .i64 n, .slice a m c] 24) := ⟨_, rfl⟩
  have HB := hide (show ∀ W, Gr A W → W.cell? ⟨w.heap.size, 0, none⟩ = some (.int .i64 n) ∧ W.cell? ⟨w.heap.size, 1, none⟩ = some (.slice a m c) ∧ w.heap.size < W.heap.size ∧ Gr w W from fun W g => box2 (by rw [hA] at g; exact g))
  have CE := hide (fun W (g : Gr w W) => edges_any W AnyB a m c l (h.gr g) hm)
  have CF := hide (fun W (P : Nat → Prop) ao cap k (kl : List Eg) (hk : k ≤ 8796093022208) (q : Ls eE P W (.slice ao k cap) kl) => edges_any W P ao k cap kl q hk)
  have CA := hide (fun W ao cap k (kl : List Eg) (hk : k ≤ 8796093022208) (q : Le W (.slice ao k cap) kl) => above_any W n ao k cap kl q hk x)
  have HL2 := hide h2
  have HM2 := hide (show m2 = l2.length from h2.len.1)
  have HM := hide (show m = l.length from h.len.1)
  unfold NumR at CA
  have HA1 := hide (fun W (g : Gr w W) => (h.gr g : Le W (.slice a m c) l))
  clear h h2 _hn _hx
  go_enter Try.func8, Try.ntmps8
  go_wp2_with fail
  rw [← hA]
  clear hA
  obtain ⟨b0, b1, bl, gw⟩ := HB.out _ (Gr.refl _)
  go_wp2_with fail
  refine (CE.out _ gw).mono ?_
  rintro e w1 ⟨ao, cap, rfl, ow, g1⟩
  have O1 := hide ow
  have G1 := hide g1
  clear g1 ow b0 b1 bl gw
  go_wp2_with fail
  go_loopg [7, 8] m2 (fun k lv i wr => ∃ (j : Nat) (ax : Option Addr) (cx : Nat), j + k = m2 ∧ i = .int .i64 (j : Int) ∧ lv = .slice ax (m + j) cx ∧ Ow eE 2 42 A.heap.size wr (.slice ax (m + j) cx) (l ++ l2.take j) ∧ Gr A wr)
  case atStart => exact ⟨0, ao, cap, by omega, rfl, rfl, by rw [List.take_zero, List.append_nil]; exact O1.out, G1.out⟩
  case round =>
    obtain ⟨j, ax, cx, hjk, rfl, rfl, ho, hg⟩ := hrel
    have HO := hide ho
    have G := hide hg
    by_cases hj : j < m2
    · have hj' : (j : Int) < (m2 : Int) := by omega
      have hj0 : (0 : Int) ≤ (j : Int) := by omega
      have hjm : (j : Int) < 1048576 := by omega
      have hjl : j < l2.length := by rw [← HM2.out]; exact hj
      have hjx : l2[j]? = some l2[j] := List.getElem?_eq_getElem hjl
      have HT := hide (show (l ++ l2.take j) ++ [l2[j]] = l ++ l2.take (j + 1) by rw [List.take_add_one, hjx, List.append_assoc]; rfl)
      have HLN := hide (show (l ++ l2.take j).length = m + j by rw [List.length_append, List.length_take, ← HM.out]; omega)
      obtain ⟨g, o, rfl, gl, gc, x0, x1⟩ := eg_at (HL2.out.gr (HB.out _ G.out).2.2.2) hjx
      generalize l2[j] = y at *
      have HS := hide G.out.size
      clear hjx hg hjl ho
      go_wp2_with (at_builtin; refine wpList_append_ow eE_len rfl (.tmp 24) (.tmp 29) _ 42 16 _ Try.underlying22 edge_info rfl (by omega) rfl A.heap.size _ (l ++ l2.take j) rfl (HO.out.alloc _) _ _ [y] rfl (Ls.single _ y 42 #[.int .i64 y.f, .int .i64 y.t] rfl) (eE_one _) (m + (j + 1)) (by rw [HLN.out]; rfl) (by omega) (by unfold maxLen; omega) (by simp; have := HS.out; omega) (l ++ l2.take (j + 1)) HT.out ?_; intro ao5 cap5 w5 ow5 cw5 bl5; have O5 := hide ow5; have C5 := hide (show Gr A w5 from Ch.trans (Ch.alloc G.out _) cw5 (fun q e => .inr (HO.out.blk e).1)); clear ow5 cw5 bl5)
      go_roundg (m2 - (j + 1))
      case measure => omega
      case rel =>
        refine ⟨j + 1, ao5, cap5, by omega, ?_, rfl, O5.out, C5.out⟩
        first | with_reducible rfl | simp
    · have hj' : ¬ ((j : Int) < (m2 : Int)) := by omega
      have hje : j = m2 := by omega
      subst hje
      have HE : Hid (l2.take j = l2) := hide (List.take_of_length_le (by rw [← HM2.out]; omega))
      have O9 := hide (show Ow eE 2 42 A.heap.size wr (.slice ax (m + j) cx) (l ++ l2) by have := HO.out; rw [HE.out] at this; exact this)
      clear ho hg HO HE
      go_wp2_with fail
      have hS0 := Ch.drew G.out
      have O9 := hide (O9.out.drew)
      refine wp_region_held_drew (S := Gr A) (by kernel_rfl) (by exact hS0) (fun _ => ?_)
      generalize World.drew _ = V0 at hS0 O9 ⊢
      refine takeS_on (i := 0) 32 (v := ?hv51) rfl rfl (by kernel_rfl) (by kernel_rfl) (by kernel_rfl) (fun _ _ _ h => h) (by kernel_rfl) ?hh51 (by exact hS0) ?_
      case hh51 => (intro w' hSw; go_simp; try (with_reducible rfl))
      simp only [Act.put, List.setIfInBounds_toArray, List.set_cons_zero, List.set_cons_succ]
      refine takeS_on (i := 1) 33 (v := ?hv52) rfl rfl (by kernel_rfl) (by kernel_rfl) (by kernel_rfl) (fun _ _ _ h => h) (by kernel_rfl) ?hh52 (by exact hS0) ?_
      case hh52 => (intro w' hSw; obtain ⟨b0, b1, bl, -⟩ := HB.out _ hSw; go_simp; try (with_reducible rfl))
      simp only [Act.put, List.setIfInBounds_toArray, List.set_cons_zero, List.set_cons_succ]
      refine takeS_on (i := 2) 34 (v := ?hv53) rfl rfl (by kernel_rfl) (by kernel_rfl) (by kernel_rfl) (fun _ _ _ h => h) (by kernel_rfl) ?hh53 (by exact hS0) ?_
      case hh53 => (intro w' hSw; go_simp; try (with_reducible rfl))
      simp only [Act.put, List.setIfInBounds_toArray, List.set_cons_zero, List.set_cons_succ]
      refine takeS_on (i := 3) 35 (v := ?hv54) rfl rfl (by kernel_rfl) (by kernel_rfl) (by kernel_rfl) (fun _ _ _ h => h) (by kernel_rfl) ?hh54 (by exact hS0) ?_
      case hh54 => (intro w' hSw; obtain ⟨b0, b1, bl, -⟩ := HB.out _ hSw; go_simp; try (with_reducible rfl))
      simp only [Act.put, List.setIfInBounds_toArray, List.set_cons_zero, List.set_cons_succ]
      refine takeS_on (i := 5) 37 (v := ?hv55) rfl rfl (by kernel_rfl) (by kernel_rfl) (by kernel_rfl) (fun _ _ _ h => h) (by kernel_rfl) ?hh55 (by exact hS0) ?_
      case hh55 => (intro w' hSw; go_simp; try (with_reducible rfl))
      simp only [Act.put, List.setIfInBounds_toArray, List.set_cons_zero, List.set_cons_succ]
      refine wpAnyH_ready (rs := [4]) (by kernel_rfl) (by simp) (AllReadyH.cons rfl (fun K hK => ?_) AllReadyH.nil)
      go_simp
      refine (CF.out _ AnyB _ _ _ _ hm (HA1.out _ (HB.out _ hS0).2.2.2)).mono ?_
      rintro e wa ⟨ao, cap, rfl, ow, ga⟩
      have LA := hide (ow.lst.mono (fun _ _ _ => AnyB.it _) : Le wa (.slice ao m cap) l)
      have hS1 := Gr.trans hS0 ga
      have ga2 := hide ga; clear ga ow
      refine hK.out _ _ (by exact hS1) (fun _ => ?_)
      clear hK K
      refine wpAnyH_ready (rs := [6]) (by kernel_rfl) (by simp) (AllReadyH.cons rfl (fun K hK => ?_) AllReadyH.nil)
      go_simp
      refine (CA.out _ ao cap m l hm LA.out).mono ?_
      rintro e wb ⟨a3, c3, rfl, l3, gb⟩
      have L3 := hide l3
      have O8 := hide ((O9.out.gr ga2.out).gr gb)
      clear l3
      have hS2 := Gr.trans hS1 gb
      clear gb LA
      refine hK.out _ _ (by exact hS2) (fun _ => ?_)
      clear hK K
      refine takeS_on (i := 7) 31 (v := ?hv56) rfl rfl (by kernel_rfl) (by kernel_rfl) (by kernel_rfl) (fun _ _ _ h => h) (by kernel_rfl) ?hh56 (by exact hS2) ?_
      case hh56 => (intro w' hSw; go_simp; try (with_reducible rfl))
      simp only [Act.put, List.setIfInBounds_toArray, List.set_cons_zero, List.set_cons_succ]
      refine takeS_on (i := 8) 39 (v := ?hv57) rfl rfl (by kernel_rfl) (by kernel_rfl) (by kernel_rfl) (fun _ _ _ h => h) (by kernel_rfl) ?hh57 (by exact hS2) ?_
      case hh57 => (intro w' hSw; go_simp; try (with_reducible rfl))
      simp only [Act.put, List.setIfInBounds_toArray, List.set_cons_zero, List.set_cons_succ]
      refine takeS_on (i := 9) 40 (v := ?hv58) rfl rfl (by kernel_rfl) (by kernel_rfl) (by kernel_rfl) (fun _ _ _ h => h) (by kernel_rfl) ?hh58 (by exact hS2) ?_
      case hh58 => (intro w' hSw; go_simp; try (with_reducible rfl))
      simp only [Act.put, List.setIfInBounds_toArray, List.set_cons_zero, List.set_cons_succ]
      refine takeS_on (i := 10) 9 (v := ?hv59) rfl rfl (by kernel_rfl) (by kernel_rfl) (by kernel_rfl) (fun _ _ _ h => h) (by kernel_rfl) ?hh59 (by exact hS2) ?_
      case hh59 => (intro w' hSw; go_simp; try (with_reducible rfl))
      simp only [Act.put, List.setIfInBounds_toArray, List.set_cons_zero, List.set_cons_succ]
      refine takeS_on (i := 11) 10 (v := ?hv60) rfl rfl (by kernel_rfl) (by kernel_rfl) (by kernel_rfl) (fun _ _ _ h => h) (by kernel_rfl) ?hh60 (by exact hS2) ?_
      case hh60 => (intro w' hSw; go_simp; try (with_reducible rfl))
      simp only [Act.put, List.setIfInBounds_toArray, List.set_cons_zero, List.set_cons_succ]
      refine wpAnyH_done (by kernel_rfl) ?_ _
      have G2 := hide hS2
      clear hS0 hS1 hS2
      go_wp2_with fail
      have hS0 := Ch.drew G2.out
      have O8 := hide (O8.out.drew)
      have L3 := hide (L3.out.drew)
      refine wp_region_held_drew (S := Gr A) (by kernel_rfl) (by exact hS0) (fun _ => ?_)
      generalize World.drew _ = V0 at hS0 O8 L3 ⊢
      refine takeS_on (i := 0) 42 (v := ?hv61) rfl rfl (by kernel_rfl) (by kernel_rfl) (by kernel_rfl) (fun _ _ _ h => h) (by kernel_rfl) ?hh61 (by exact hS0) ?_
      case hh61 => (intro w' hSw; go_simp; try (with_reducible rfl))
      simp only [Act.put, List.setIfInBounds_toArray, List.set_cons_zero, List.set_cons_succ]
      refine takeS_on (i := 1) 43 (v := ?hv62) rfl rfl (by kernel_rfl) (by kernel_rfl) (by kernel_rfl) (fun _ _ _ h => h) (by kernel_rfl) ?hh62 (by exact hS0) ?_
      case hh62 => (intro w' hSw; obtain ⟨b0, b1, bl, -⟩ := HB.out _ hSw; go_simp; try (with_reducible rfl))
      simp only [Act.put, List.setIfInBounds_toArray, List.set_cons_zero, List.set_cons_succ]
      refine takeS_on (i := 2) 44 (v := ?hv63) rfl rfl (by kernel_rfl) (by kernel_rfl) (by kernel_rfl) (fun _ _ _ h => h) (by kernel_rfl) ?hh63 (by exact hS0) ?_
      case hh63 => (intro w' hSw; go_simp; try (with_reducible rfl))
      simp only [Act.put, List.setIfInBounds_toArray, List.set_cons_zero, List.set_cons_succ]
      refine takeS_on (i := 4) 46 (v := ?hv64) rfl rfl (by kernel_rfl) (by kernel_rfl) (by kernel_rfl) (fun _ _ _ h => h) (by kernel_rfl) ?hh64 (by exact hS0) ?_
      case hh64 => (intro w' hSw; go_simp; try (with_reducible rfl))
      simp only [Act.put, List.setIfInBounds_toArray, List.set_cons_zero, List.set_cons_succ]
      refine wpAnyH_ready (rs := [3]) (by kernel_rfl) (by simp) (AllReadyH.cons rfl (fun K hK => ?_) AllReadyH.nil)
      go_simp
      refine (CF.out _ _ _ _ _ _ (by omega) O8.out.lst).mono ?_
      rintro e wa ⟨ao, cap, rfl, ow, ga⟩
      have LA := hide (ow.lst.mono (fun _ _ _ => AnyB.it _) : Le wa (.slice ao (m + j) cap) (l ++ l2))
      have hS1 := Gr.trans hS0 ga
      have ga2 := hide ga; clear ga ow
      refine hK.out _ _ (by exact hS1) (fun _ => ?_)
      clear hK K
      refine wpAnyH_ready (rs := [5]) (by kernel_rfl) (by simp) (AllReadyH.cons rfl (fun K hK => ?_) AllReadyH.nil)
      go_simp
      refine (CA.out _ ao cap (m + j) (l ++ l2) (by omega) LA.out).mono ?_
      rintro e wb ⟨a4, c4, rfl, l4, gb⟩
      have L4 := hide l4
      have L3b := hide ((L3.out.gr ga2.out).gr gb)
      clear l4
      have hS2 := Gr.trans hS1 gb
      clear gb LA
      refine hK.out _ _ (by exact hS2) (fun _ => ?_)
      clear hK K
      refine takeS_on (i := 6) 41 (v := ?hv65) rfl rfl (by kernel_rfl) (by kernel_rfl) (by kernel_rfl) (fun _ _ _ h => h) (by kernel_rfl) ?hh65 (by exact hS2) ?_
      case hh65 => (intro w' hSw; go_simp; try (with_reducible rfl))
      simp only [Act.put, List.setIfInBounds_toArray, List.set_cons_zero, List.set_cons_succ]
      refine takeS_on (i := 7) 48 (v := ?hv66) rfl rfl (by kernel_rfl) (by kernel_rfl) (by kernel_rfl) (fun _ _ _ h => h) (by kernel_rfl) ?hh66 (by exact hS2) ?_
      case hh66 => (intro w' hSw; go_simp; try (with_reducible rfl))
      simp only [Act.put, List.setIfInBounds_toArray, List.set_cons_zero, List.set_cons_succ]
      refine takeS_on (i := 8) 49 (v := ?hv67) rfl rfl (by kernel_rfl) (by kernel_rfl) (by kernel_rfl) (fun _ _ _ h => h) (by kernel_rfl) ?hh67 (by exact hS2) ?_
      case hh67 => (intro w' hSw; go_simp; try (with_reducible rfl))
      simp only [Act.put, List.setIfInBounds_toArray, List.set_cons_zero, List.set_cons_succ]
      refine takeS_on (i := 9) 11 (v := ?hv68) rfl rfl (by kernel_rfl) (by kernel_rfl) (by kernel_rfl) (fun _ _ _ h => h) (by kernel_rfl) ?hh68 (by exact hS2) ?_
      case hh68 => (intro w' hSw; go_simp; try (with_reducible rfl))
      simp only [Act.put, List.setIfInBounds_toArray, List.set_cons_zero, List.set_cons_succ]
      refine takeS_on (i := 10) 12 (v := ?hv69) rfl rfl (by kernel_rfl) (by kernel_rfl) (by kernel_rfl) (fun _ _ _ h => h) (by kernel_rfl) ?hh69 (by exact hS2) ?_
      case hh69 => (intro w' hSw; go_simp; try (with_reducible rfl))
      simp only [Act.put, List.setIfInBounds_toArray, List.set_cons_zero, List.set_cons_succ]
      refine wpAnyH_done (by kernel_rfl) ?_ _
      have G4 := hide (HB.out _ hS2).2.2.2
      clear hS0 hS1 hS2
      have HW := hide (wrg_more n x l l2)
      have HAB := hide (fun e1 e2 => abvI_more (n := n) (x := x) (l := l) (k := l2) e1 e2)
      have HP1 := hide (abvI_rise n x l)
      have HP2 := hide (abvI_rise n x (l ++ l2))
      have HLN1 := hide (abvI_len n l x)
      have HLN2 := hide (abvI_len n (l ++ l2) x)
      generalize abvI n l x = xs at *
      generalize abvI n (l ++ l2) x = ys at *
      generalize wrgP n l [x] = E1 at *
      generalize wrgP n (l ++ l2) [x] = E2 at *
      by_cases h1 : E1 = 0
      · by_cases h2 : E2 = 0
        · obtain ⟨hab, hps⟩ := HAB.out h1 h2
          subst h1 h2
          have HF := hide (Fnd.start hab)
          have hp2 : (0 : Int) < (xs.length : Int) := by omega
          clear hab HW HAB
          go_wp2_with fail
          go_loopg [13, 14] xs.length (fun z kv iv wr => ∃ (i k : Nat), i + z = xs.length ∧ iv = .int .i64 (i : Int) ∧ kv = .int .i64 (k : Int) ∧ Fnd xs ys i k ∧ k ≤ 16 ∧ Gr wb wr)
          case atStart => exact ⟨0, 0, by omega, rfl, rfl, HF.out, by omega, Gr.refl _⟩
          case round =>
            obtain ⟨i, k, hiz, rfl, rfl, hf, hk16, hg⟩ := hrel
            have HF1 := hide hf
            have Gb := hide hg
            have GW := hide (Gr.trans G4.out hg)
            clear hf
            by_cases hi : i < xs.length
            · have hi' : (i : Int) < (xs.length : Int) := by omega
              have hi0 : (0 : Int) ≤ (i : Int) := by omega
              have hi16 : (i : Int) < 16 := by have := HLN1.out; omega
              have hix : xs[i]? = some xs[i] := List.getElem?_eq_getElem hi
              have HIX := hide hix
              obtain ⟨gx, ox, rfl, gxl, gxc, x0⟩ := in_at (L3b.out.gr hg) hix
              generalize xs[i] = v at *
              clear hix hg x0 gxl
              go_wp2_with fail
              go_loopg [13] (ys.length - k) (fun z kv wr => ∃ (q : Nat), q + z = ys.length ∧ kv = .int .i64 (q : Int) ∧ Fnd xs ys i q ∧ Gr wb wr)
              case atStart => exact ⟨k, by have := Fnd.lt HF1.out HIX.out; omega, rfl, HF1.out, Gb.out⟩
              case round =>
                obtain ⟨q, hqz, rfl, hf, hg⟩ := hrel
                have HFq := hide hf
                have Gq := hide hg
                have GWq := hide (Gr.trans G4.out hg)
                have hq : q < ys.length := Fnd.lt hf HIX.out
                have hq' : (q : Int) < (ys.length : Int) := by omega
                have hq0 : (0 : Int) ≤ (q : Int) := by omega
                have hq16 : (q : Int) < 16 := by have := HLN2.out; omega
                have hqy : ys[q]? = some ys[q] := List.getElem?_eq_getElem hq
                have HQY := hide hqy
                obtain ⟨gy, oy, ea, gyl, gyc, y0⟩ := in_at (L4.out.gr hg) hqy
                obtain ⟨gx2, ox2, eb, gxl, -, x0⟩ := in_at (L3b.out.gr hg) HIX.out
                injection eb with eb
                injection eb with eb1 eb2
                subst eb1 eb2
                subst ea
                generalize ys[q] = u at *
                clear hf hg hqy
                by_cases huv : u = v
                · subst huv
                  have hne : ¬ ((q : Int) = (ys.length : Int)) := by omega
                  have hne2 : ¬ (q = ys.length) := by omega
                  have HNX := hide HFq.out.next
                  go_wp2_with (go_big_quiet (fail))
                  go_roundg (xs.length - (i + 1))
                  case measure => omega
                  case rel =>
                    refine ⟨i + 1, q, by omega, ?_, rfl, HNX.out, by omega, Ch.drewN Gq.out _⟩
                    first | with_reducible rfl | simp
                · have hne : (u != v) = true := by simpa using huv
                  have HNX := hide (Fnd.skip HP1.out HP2.out HFq.out HIX.out HQY.out huv)
                  clear huv
                  go_wp2_with (go_big_quiet (fail))
                  go_roundg (ys.length - (q + 1))
                  case measure => omega
                  case rel =>
                    refine ⟨q + 1, by omega, ?_, HNX.out, Ch.drewN Gq.out _⟩
                    first | with_reducible rfl | simp
            · have hi' : ¬ ((i : Int) < (xs.length : Int)) := by omega
              clear hg
              go_wp2_with fail
              refine (lives_any _).mono ?_
              rintro e w7 ⟨rfl, g7⟩
              have G7 := hide (Gr.trans GW.out g7)
              clear g7
              go_wp2
              go_ret
              exact ⟨rfl, G7.out⟩
        · subst h1
          have hne : (E2 != 0) = true := by simpa using h2
          have h170 : E2 = 170 := HW.out.resolve_left (fun q => h2 q.symm)
          subst h170
          clear h2 hne
          go_wp2_with fail
          refine (lives_any _).mono ?_
          rintro e w7 ⟨rfl, g7⟩
          have G7 := hide (Gr.trans G4.out g7)
          clear g7
          go_wp2
          go_ret
          exact ⟨rfl, G7.out⟩
      · have hne : (E1 != 0) = true := by simpa using h1
        rcases HW.out with e | e
        · subst e
          clear HW HAB
          go_wp2_with fail
          refine (lives_any _).mono ?_
          rintro e w7 ⟨rfl, g7⟩
          have G7 := hide (Gr.trans G4.out g7)
          clear g7
          go_wp2
          go_ret
          exact ⟨rfl, G7.out⟩
        · subst e
          clear HW HAB
          by_cases h3 : E1 = 170
          · subst h3
            go_wp2_with fail
            refine (lives_any _).mono ?_
            rintro e w7 ⟨rfl, g7⟩
            have G7 := hide (Gr.trans G4.out g7)
            clear g7
            go_wp2
            go_ret
            exact ⟨rfl, G7.out⟩
          · have hne3 : (E1 == 170) = false := by simpa using h3
            go_wp2_with fail
            refine (lives_any _).mono ?_
            rintro e w7 ⟨rfl, g7⟩
            have G7 := hide (Gr.trans G4.out g7)
            clear g7
            go_wp2
            go_ret
            exact ⟨rfl, G7.out⟩
end Go.Proofs.Ytcoaefojamhloaa.Lt
