/-
  HeapApart's walk: two heaps, and one of strings, do not disturb one another. Condition: the scripts are there, and at most 1048576 long each.
-/
import Derived.Test.YtkaeccmhfbjcmaaHpStr
import Derived.Handy
namespace Go.Proofs.Ytkaeccmhfbjcmaa.Hp
open Go.RowKit
attribute [local go_sem ↓] Go.wp_at_zero Go.wp_at_succ

theorem Lst.both {P Q : Nat → Prop} {w : World} {v : Value} {ys : List W3} (h1 : Lst P w v ys) (h2 : Lst Q w v ys) : Lst (fun q => P q ∧ Q q) w v ys := by
  obtain ⟨a1, c1, e1, k1, h1⟩ := h1
  obtain ⟨a2, c2, e2, _, h2⟩ := h2
  rw [e1] at e2
  injection e2 with e3
  subst e3
  refine ⟨a1, c1, e1, k1, ?_⟩
  rcases h1 with h1 | ⟨g, o, h3, h4, h5, h6⟩
  · exact .inl h1
  · rcases h2 with h2 | ⟨g', o', h7, h8, _⟩
    · exact .inl h2
    · rw [h3] at h7
      injection h7 with h7
      injection h7 with h9
      subst h9
      exact .inr ⟨g, o, h3, ⟨h4, h8⟩, h5, h6⟩
theorem SH.tight {S : Nat → Prop} {w : World} {b : Nat} (h : SH S w b) : ∃ g, SH (fun q => q = b ∨ q = g) w b ∧ g < w.heap.size ∧ S g := by
  obtain ⟨⟨g, cap, mp, h1, h2, h3, h4⟩, h7⟩ := h
  exact ⟨g, ⟨⟨g, cap, mp, h1, .inr rfl, h3, h4⟩, .inl rfl⟩, h3, h2⟩
/-- two heaps beside the document's, and one of strings -/
structure Ap (wr : World) (b1 b2 br k8 k9 : Nat) (T1 T2 S : Nat → Prop) (v1 v2 : Value) (xs1 ys1 xs2 ys2 : List W3) (nx1 nx2 : Int) : Prop where
  t8 : Tv wr k8 v1 nx1
  t9 : Tv wr k9 v2 nx2
  B1 : Bo T1 wr b1 v1 xs1 ys1 nx1
  B2 : Bo T2 wr b2 v2 xs2 ys2 nx2
  L1 : Lst (fun q => ¬ T2 q) wr v1 ys1
  L2 : Lst (fun q => ¬ T1 q) wr v2 ys2
  sh : SH S wr br
  st : ∀ q, S q → q < wr.heap.size
  d : ∀ q, T1 q → ¬ T2 q
  e1 : ∀ q, S q → ¬ T1 q
  e2 : ∀ q, S q → ¬ T2 q
  n8 : ¬ T1 k8 ∧ ¬ T2 k8 ∧ ¬ S k8
  n9 : ¬ T1 k9 ∧ ¬ T2 k9 ∧ ¬ S k9
  k : k8 ≠ k9
theorem Ap.swap {wr : World} {b1 b2 br k8 k9 : Nat} {T1 T2 S : Nat → Prop} {v1 v2 : Value} {xs1 ys1 xs2 ys2 : List W3} {nx1 nx2 : Int} (h : Ap wr b1 b2 br k8 k9 T1 T2 S v1 v2 xs1 ys1 xs2 ys2 nx1 nx2) : Ap wr b2 b1 br k9 k8 T2 T1 S v2 v1 xs2 ys2 xs1 ys1 nx2 nx1 :=
  { t8 := h.t9, t9 := h.t8, B1 := h.B2, B2 := h.B1, L1 := h.L2, L2 := h.L1, sh := h.sh, st := h.st, d := fun q a b => h.d q b a, e1 := h.e2, e2 := h.e1, n8 := ⟨h.n9.2.1, h.n9.1, h.n9.2.2⟩, n9 := ⟨h.n8.2.1, h.n8.1, h.n8.2.2⟩, k := fun e => h.k e.symm }
theorem Ap.still {w' : World} {wr : World} {b1 b2 br k8 k9 : Nat} {T1 T2 S : Nat → Prop} {v1 v2 : Value} {xs1 ys1 xs2 ys2 : List W3} {nx1 nx2 : Int} (h : Ap wr b1 b2 br k8 k9 T1 T2 S v1 v2 xs1 ys1 xs2 ys2 nx1 nx2) (g : Ch NoB wr w') : Ap w' b1 b2 br k8 k9 T1 T2 S v1 v2 xs1 ys1 xs2 ys2 nx1 nx2 :=
  { h with t8 := h.t8.ch g (noB _), t9 := h.t9.ch g (noB _), B1 := h.B1.still g, B2 := h.B2.still g, L1 := h.L1.ch g (fun _ _ _ => noB _), L2 := h.L2.ch g (fun _ _ _ => noB _), sh := h.sh.ch g (fun _ _ => noB _), st := fun q a => Nat.lt_of_lt_of_le (h.st q a) g.size }
theorem Ap.act {w3 : World} {wr : World} {b1 b2 br k8 k9 : Nat} {T1 T2 S : Nat → Prop} {v1 v2 : Value} {xs1 ys1 xs2 ys2 : List W3} {nx1 nx2 : Int} {T3 : Nat → Prop} {v3 : Value} {xs3 ys3 : List W3} {nx3 : Int} (h : Ap wr b1 b2 br k8 k9 T1 T2 S v1 v2 xs1 ys1 xs2 ys2 nx1 nx2) (hb : Bo T3 w3 b1 v3 xs3 ys3 nx3) (g : Ch T1 wr w3) (t3 : ∀ q, T3 q → T1 q ∨ wr.heap.size ≤ q) (hv : (v3 = v1 ∧ ys3 = ys1) ∨ Lst (wr.heap.size ≤ ·) w3 v3 ys3) :
    Ap ((w3.setCell ⟨k8, 0, none⟩ v3).setCell ⟨k8, 1, none⟩ (.int .i64 nx3)) b1 b2 br k8 k9 T3 T2 S v3 v2 xs3 ys3 xs2 ys2 nx3 nx2 := by
  have K8 := h.t8.ch g h.n8.1
  have K9 := h.t9.ch g h.n9.1
  have C : Ch (Only k8) w3 ((w3.setCell ⟨k8, 0, none⟩ v3).setCell ⟨k8, 1, none⟩ (.int .i64 nx3)) := ((Ch.refl (Only k8) w3).own 0 _).own 1 _
  have l8 := h.t8.lt
  have l9 := h.t9.lt
  have m8 : ¬ T3 k8 := fun e => (t3 k8 e).elim h.n8.1 (fun a => by omega)
  have m9 : ¬ T3 k9 := fun e => (t3 k9 e).elim h.n9.1 (fun a => by omega)
  have f2 : ∀ q, T2 q → q < wr.heap.size := h.B2.h.tl
  have d3 : ∀ q, T3 q → ¬ T2 q := fun q a b => (t3 q a).elim (fun c => h.d q c b) (fun c => by have := f2 q b; omega)
  have V2 := ((h.B2.l.both h.L2).mono (Q := fun q => (¬ T2 q ∧ ¬ T1 q) ∧ ¬ T3 q) (fun q hq a => ⟨a, fun e => (t3 q e).elim a.2 (fun c => by omega)⟩)).ch g (fun q _ a => a.1.2)
  have V2' := (V2.not_tv K8).ch C (fun q _ a e => a.2 e)
  have V1 : Lst (fun q => ¬ T2 q) w3 v3 ys3 := by
    rcases hv with ⟨rfl, rfl⟩ | hv
    · exact ((h.L1.both h.B1.l).ch g (fun q _ a => a.2)).mono (fun _ _ a => a.1)
    · exact hv.mono (fun q _ (a : wr.heap.size ≤ q) b => by have := f2 q b; omega)
  exact {
    t8 := setCell_block (setCell_block K8 0 _) 1 _
    t9 := K9.ch C (fun e => h.k (by have e1 : k9 = k8 := e; exact e1.symm))
    B1 := hb.put K8 m8 C
    B2 := ⟨(h.B2.h.ch g (fun q a b => h.d q b a)).ch C (fun q a e => by have e1 : q = k8 := e; rw [e1] at a; exact h.n8.2.1 a), h.B2.p, V2'.mono (fun _ _ a => a.1.1.1)⟩
    L1 := ((V1.not_tv K8).ch C (fun q _ a e => a.2 e)).mono (fun _ _ a => a.1)
    L2 := V2'.mono (fun _ _ a => a.1.2)
    sh := (h.sh.ch g h.e1).ch C (fun q a e => by have e1 : q = k8 := e; rw [e1] at a; exact h.n8.2.2 a)
    st := fun q a => Nat.lt_of_lt_of_le (h.st q a) (Nat.le_trans g.size C.size)
    d := d3
    e1 := fun q a b => (t3 q b).elim (h.e1 q a) (fun c => by have := h.st q a; omega)
    e2 := h.e2
    n8 := ⟨m8, h.n8.2.1, h.n8.2.2⟩
    n9 := ⟨m9, h.n9.2.1, h.n9.2.2⟩
    k := h.k }
set_option maxHeartbeats 8000000 in
theorem apart_law (vs1 vs2 : Value) (l1 l2 : List (Int × Int × Int)) (w : World) (hA1 : ActS w vs1 l1) (hA2 : ActS w vs2 l2) (hl1 : l1.length ≤ 1048576) (hl2 : l2.length ≤ 1048576) : Calls Try.prog 5 #[vs1, vs2] w fun e w' => e = .returned (.bool true) ∧ Ch NoB w w' := by
  obtain ⟨ao1, cap1, rfl⟩ : ∃ ao cap, vs1 = .slice ao l1.length cap := by
    obtain ⟨ao, cap, e, _⟩ := hA1
    exact ⟨ao, cap, e⟩
  obtain ⟨ao2, cap2, rfl⟩ : ∃ ao cap, vs2 = .slice ao l2.length cap := by
    obtain ⟨ao, cap, e, _⟩ := hA2
    exact ⟨ao, cap, e⟩
  obtain ⟨n1, hn1⟩ : ∃ n, n = l1.length := ⟨_, rfl⟩
  obtain ⟨n2, hn2⟩ : ∃ n, n = l2.length := ⟨_, rfl⟩
  rw [← hn1] at hA1 ⊢
  rw [← hn2] at hA2 ⊢
  have HS1 := hid hA1
  have HS2 := hid hA2
  have HN1 := hid hn1
  have HN2 := hid hn2
  have hm1 : n1 ≤ 1048576 := by omega
  have hm2 : n2 ≤ 1048576 := by omega
  obtain ⟨N, hN⟩ : ∃ N, n1 ≤ N ∧ n2 ≤ N ∧ N ≤ 1048576 ∧ (N = n1 ∨ N = n2) := by
    rcases Nat.le_total n1 n2 with h | h
    · exact ⟨n2, h, Nat.le_refl _, hm2, .inr rfl⟩
    · exact ⟨n1, Nat.le_refl _, h, hm1, .inl rfl⟩
  have HNN := hid hN
  clear hA1 hA2 hn1 hn2 hl1 hl2 hN
  go_enter Try.func5, Try.ntmps5
  go_wp2_with fail
  refine (new_any _).mono ?_
  rintro e w1 ⟨b1, rfl, hb1, h1, g1⟩
  have H1 := hid h1
  have HG1 := hid g1
  clear h1 g1
  go_wp2_with fail
  refine (new_any _).mono ?_
  rintro e w2 ⟨b2, rfl, hb2, h2, g2⟩
  have H2 := hid h2
  have H12 := hid (H1.out.still g2)
  have HG2 := hid (HG1.out.trans' g2)
  have hb12 : b1 < b2 := by have := H1.out.tl b1 rfl; omega
  have hw12 : w.heap.size ≤ b2 := by omega
  clear h2 g2
  go_wp2_with fail
  refine (newS_any _).mono ?_
  rintro e w3 ⟨br, rfl, hbr, h3, g3⟩
  have hb2r : b2 < br := by have := H2.out.tl b2 rfl; omega
  have HG3 := hid (HG2.out.trans' g3)
  have H13 := hid (H12.out.still g3)
  have H23 := hid (H2.out.still g3)
  have HF3 := hid h3
  clear h3 g3
  go_wp2_with fail
  refine (lives_any _).mono ?_
  rintro e w4 ⟨rfl, g4⟩
  have HF4 := hid (show FreshS w4 br from (g4.block br (lt_of_block HF3.out) (noB _)).trans HF3.out)
  have H14 := hid (H13.out.still g4)
  have H24 := hid (H23.out.still g4)
  have HG4 := hid (HG3.out.trans' g4)
  clear g4
  go_wp2_with fail
  refine (pushS_one br w4 HF4.out).mono ?_
  rintro e w5 ⟨rfl, hs5, g5⟩
  obtain ⟨g, hsg, hgl, hgs⟩ := hs5.tight
  have HSH := hid hsg
  have HGL := hid hgl
  have HGS := hid (show br ≤ g by have := lt_of_block HF4.out; rcases hgs with a | a <;> omega)
  have H15 := hid (H14.out.ch g5 (fun q a e => by have a1 : q = b1 := a; have e1 : q = br := e; omega))
  have H25 := hid (H24.out.ch g5 (fun q a e => by have a1 : q = b2 := a; have e1 : q = br := e; omega))
  have HG5 := hid (HG4.out.trans g5 (fun q e => .inr (by have e1 : q = br := e; omega)))
  have HBR := hid (show br < w5.heap.size from Nat.lt_of_lt_of_le (lt_of_block HF4.out) g5.size)
  clear hs5 g5 hsg hgl hgs
  go_wp2_with fail
  obtain ⟨W6, hW6⟩ : ∃ W, W = (w5.alloc (.cells #[.slice none 0 0, .int .i64 0] 28)).alloc (.cells #[.slice none 0 0, .int .i64 0] 28) := ⟨_, rfl⟩
  obtain ⟨k8, hk8⟩ : ∃ k, k = w5.heap.size := ⟨_, rfl⟩
  obtain ⟨k9, hk9⟩ : ∃ k, k = w5.heap.size + 1 := ⟨_, rfl⟩
  have g6 : Ch NoB w5 W6 := by rw [hW6]; exact ((Ch.refl NoB w5).alloc _).alloc _
  have T8 : Tv W6 k8 (.slice none 0 0) 0 := by rw [hW6, hk8]; exact (Tv.new w5 _ _).alloc _
  have T9 : Tv W6 k9 (.slice none 0 0) 0 := by
    have z := Tv.new (w5.alloc (.cells #[.slice none 0 0, .int .i64 0] 28)) (.slice none 0 0) 0
    rw [World.size_alloc] at z
    rw [hW6, hk9]
    exact z
  obtain ⟨S, hS⟩ : ∃ S : Nat → Prop, S = fun q => q = br ∨ q = g := ⟨_, rfl⟩
  have HAP0 := hid (show Ap W6 b1 b2 br k8 k9 (Only b1) (Only b2) S (.slice none 0 0) (.slice none 0 0) [] [] [] [] 0 0 from by
    have q1 := HGL.out
    have q2 := HGS.out
    have q3 := HBR.out
    refine ⟨T8, T9, Bo.start (H15.out.still g6), Bo.start (H25.out.still g6), Lst.nil _ _, Lst.nil _ _, ?_, ?_, ?_, ?_, ?_, ⟨?_, ?_, ?_⟩, ⟨?_, ?_, ?_⟩, by omega⟩
    · rw [hS]; exact HSH.out.ch g6 (fun _ _ => noB _)
    · intro q a; rw [hS] at a; have := g6.size; rcases a with a | a <;> omega
    · intro q a c; have a1 : q = b1 := a; have c1 : q = b2 := c; omega
    · intro q a c; rw [hS] at a; have c1 : q = b1 := c; rcases a with a | a <;> omega
    · intro q a c; rw [hS] at a; have c1 : q = b2 := c; rcases a with a | a <;> omega
    · intro c; have c1 : k8 = b1 := c; omega
    · intro c; have c1 : k8 = b2 := c; omega
    · intro a; rw [hS] at a; rcases a with a | a <;> omega
    · intro c; have c1 : k9 = b1 := c; omega
    · intro c; have c1 : k9 = b2 := c; omega
    · intro a; rw [hS] at a; rcases a with a | a <;> omega)
  have HG6 := hid (HG5.out.trans' g6)
  have hk8w : w.heap.size ≤ k8 := by rw [hk8]; exact HG5.out.size
  have hk9w : w.heap.size ≤ k9 := by omega
  rw [← hW6]
  try rw [← hk9]
  rw [← hk8]
  clear hW6 hk8 hk9 g6 T8 T9 hS
  go_loopg [10, 11] N (fun m ok i wr => ∃ (j : Nat) (T1 T2 : Nat → Prop) (v1 v2 : Value) (xs1 ys1 xs2 ys2 : List W3) (nx1 nx2 : Int), j + m = N ∧ i = .int .i64 ((j : Nat) : Int) ∧ ok = .bool true ∧ Ap wr b1 b2 br k8 k9 T1 T2 S v1 v2 xs1 ys1 xs2 ys2 nx1 nx2 ∧ (∀ q, T1 q → w.heap.size ≤ q) ∧ (∀ q, T2 q → w.heap.size ≤ q) ∧ Ch NoB w wr ∧ ys1.length ≤ j ∧ ys2.length ≤ j ∧ 0 ≤ nx1 ∧ nx1 ≤ (j : Int) ∧ 0 ≤ nx2 ∧ nx2 ≤ (j : Int))
  case atStart => exact ⟨0, Only b1, Only b2, _, _, _, _, _, _, _, _, by omega, rfl, rfl, HAP0.out, fun q e => by have e1 : q = b1 := e; omega, fun q e => by have e1 : q = b2 := e; omega, HG6.out, by simp, by simp, by omega, by omega, by omega, by omega⟩
  case round =>
    obtain ⟨j, T1, T2, v1, v2, xs1, ys1, xs2, ys2, nx1, nx2, hjk, rfl, rfl, hap, ht1, ht2, hg, hy1, hy2, p1, r1, p2, r2⟩ := hrel
    obtain ⟨V, hV⟩ : ∃ W, W = wr := ⟨_, rfl⟩
    subst hV
    obtain ⟨K1, hK1⟩ : ∃ k, k = gk := ⟨_, rfl⟩
    have HAP := hid hap
    have HT1 := hid ht1
    have HT2 := hid ht2
    have HG := hid hg
    have hnm := HNN.out
    have hj9 : j ≤ 1048576 := by omega
    clear hap ht1 ht2 hg hnm
    by_cases hj1 : j < n1
    · have hjN : j < N := by have := HNN.out; omega
      have i1 : (j : Int) < (n1 : Int) := by omega
      obtain ⟨x, hx⟩ : ∃ x, l1[j]? = some x := ⟨_, List.getElem?_eq_getElem (by rw [← HN1.out]; omega)⟩
      obtain ⟨gs, os, hao, hgs, c0, c1, c2⟩ := HS1.out.get hx
      subst hao
      obtain ⟨av, cv, hav⟩ := HAP.out.B1.l.form
      subst hav
      obtain ⟨nv, hnv⟩ : ∃ n, n = ys1.length := ⟨_, rfl⟩
      rw [← hnv] at HAP
      have j0 : (0 : Int) ≤ (j : Int) := by omega
      have j1 : (j : Int) < (n1 : Int) := by omega
      obtain ⟨V2, hV2⟩ : ∃ W, W = V.drew := ⟨_, rfl⟩
      have HGV := hid (show Ch NoB V V2 by rw [hV2]; exact (Ch.refl _ _).drew)
      have HA2 := hid ((HAP.out.still HGV.out))
      obtain ⟨k0, k1⟩ := HA2.out.t8.cells
      have lk0 := HA2.out.t8.lt
      have ngk : ¬ (gs = k8) := by omega
      have ntg : ¬ T1 gs := fun e => by have := HT1.out gs e; omega
      have hSW : V.cell? ⟨gs, os + j * 3, none⟩ = some (.int .i64 x.1) ∧ V.cell? ⟨gs, os + j * 3 + 1, none⟩ = some (.int .u64 x.2.1) ∧ V.cell? ⟨gs, os + j * 3 + 2, none⟩ = some (.int .i64 x.2.2) := ⟨(HG.out.cell hgs (noB _)).trans c0, (HG.out.cell hgs (noB _)).trans c1, (HG.out.cell hgs (noB _)).trans c2⟩
      have hSV : V2.cell? ⟨gs, os + j * 3, none⟩ = some (.int .i64 x.1) ∧ V2.cell? ⟨gs, os + j * 3 + 1, none⟩ = some (.int .u64 x.2.1) ∧ V2.cell? ⟨gs, os + j * 3 + 2, none⟩ = some (.int .i64 x.2.2) := by rw [hV2]; exact hSW
      have lgs : gs < V2.heap.size := by rw [hV2]; exact Nat.lt_of_lt_of_le hgs HG.out.size
      clear hx c0 c1 c2 hnv
      go_wp2_with fail
      refine wp_region_held_drew (S := fun w' => w'.cell? ⟨gs, os + j * 3, none⟩ = some (.int .i64 x.1) ∧ w'.cell? ⟨gs, os + j * 3 + 1, none⟩ = some (.int .u64 x.2.1) ∧ w'.cell? ⟨gs, os + j * 3 + 2, none⟩ = some (.int .i64 x.2.2)) (by kernel_rfl) (by exact hSW) (fun _ => ?_)
      rw [← hV2]
      clear hV2
      refine takeS_on (i := 0) 57 (v := ?v89) rfl rfl (by kernel_rfl) (by kernel_rfl) (by kernel_rfl) (fun _ _ _ h => h) (by kernel_rfl) ?hy89 (by exact hSV) ?_
      case hy89 => (intro w' hSw; go_simp; try (with_reducible rfl))
      simp only [Act.put, List.setIfInBounds_toArray, List.set_cons_zero, List.set_cons_succ]
      refine takeS_on (i := 2) 59 (v := ?v90) rfl rfl (by kernel_rfl) (by kernel_rfl) (by kernel_rfl) (fun _ _ _ h => h) (by kernel_rfl) ?hy90 (by exact hSV) ?_
      case hy90 => (intro w' hSw; go_simp; try (with_reducible rfl))
      simp only [Act.put, List.setIfInBounds_toArray, List.set_cons_zero, List.set_cons_succ]
      refine takeS_on (i := 3) 60 (v := ?v91) rfl rfl (by kernel_rfl) (by kernel_rfl) (by kernel_rfl) (fun _ _ _ h => h) (by kernel_rfl) ?hy91 (by exact hSV) ?_
      case hy91 => (intro w' hSw; go_simp; try (with_reducible rfl))
      simp only [Act.put, List.setIfInBounds_toArray, List.set_cons_zero, List.set_cons_succ]
      refine takeS_on (i := 4) 61 (v := ?v92) rfl rfl (by kernel_rfl) (by kernel_rfl) (by kernel_rfl) (fun _ _ _ h => h) (by kernel_rfl) ?hy92 (by exact hSV) ?_
      case hy92 => (intro w' hSw; go_simp; try (with_reducible rfl))
      simp only [Act.put, List.setIfInBounds_toArray, List.set_cons_zero, List.set_cons_succ]
      refine takeS_on (i := 5) 62 (v := ?v93) rfl rfl (by kernel_rfl) (by kernel_rfl) (by kernel_rfl) (fun _ _ _ h => h) (by kernel_rfl) ?hy93 (by exact hSV) ?_
      case hy93 => (intro w' hSw; go_simp; try (with_reducible rfl))
      simp only [Act.put, List.setIfInBounds_toArray, List.set_cons_zero, List.set_cons_succ]
      refine wpAnyH_ready (rs := [1]) (by kernel_rfl) (by simp) (AllReadyH.cons rfl (fun K hK => ?_) AllReadyH.nil)
      go_simp
      refine hK.out _ _ (by exact hSV) (fun _ => ?_)
      clear hK K
      refine wpAnyH_ready (rs := [6]) (by kernel_rfl) (by simp) (AllReadyH.cons rfl (fun K hK => ?_) AllReadyH.nil)
      go_simp
      clear k0 k1 lk0
      refine (does_any T1 b1 _ xs1 ys1 nx1 x.1 x.2.1 x.2.2 V2 HA2.out.B1 (by omega) p1 (by omega)).mono ?_
      rintro e w3a ⟨T3a, v3a, xs3a, ys3a, nx3a, rfl, hb3, g3, t3, hl3, hn3a, hm3, hv3⟩
      obtain ⟨a3a, q3a, e3⟩ := hb3.l.form
      subst e3
      obtain ⟨n3a, hn3l⟩ : ∃ n, n = ys3a.length := ⟨_, rfl⟩
      rw [← hn3l] at hb3 hv3 ⊢
      have K3 := HA2.out.t8.ch g3 HA2.out.n8.1
      obtain ⟨z0, z1⟩ := K3.cells
      obtain ⟨y0, y1⟩ := K3.fz
      have l3 := K3.lt
      have hS3 : w3a.cell? ⟨gs, os + j * 3, none⟩ = some (.int .i64 x.1) ∧ w3a.cell? ⟨gs, os + j * 3 + 1, none⟩ = some (.int .u64 x.2.1) ∧ w3a.cell? ⟨gs, os + j * 3 + 2, none⟩ = some (.int .i64 x.2.2) := ⟨(g3.cell lgs ntg).trans hSV.1, (g3.cell lgs ntg).trans hSV.2.1, (g3.cell lgs ntg).trans hSV.2.2⟩
      have lgs3 := Nat.lt_of_lt_of_le lgs g3.size
      have C5 := hid (((Ch.refl (Only k8) w3a).own 0 (.slice a3a n3a q3a)).own 1 (.int .i64 nx3a))
      have hS5 : ((w3a.setCell ⟨k8, 0, none⟩ (.slice a3a n3a q3a)).setCell ⟨k8, 1, none⟩ (.int .i64 nx3a)).cell? ⟨gs, os + j * 3, none⟩ = some (.int .i64 x.1) ∧ ((w3a.setCell ⟨k8, 0, none⟩ (.slice a3a n3a q3a)).setCell ⟨k8, 1, none⟩ (.int .i64 nx3a)).cell? ⟨gs, os + j * 3 + 1, none⟩ = some (.int .u64 x.2.1) ∧ ((w3a.setCell ⟨k8, 0, none⟩ (.slice a3a n3a q3a)).setCell ⟨k8, 1, none⟩ (.int .i64 nx3a)).cell? ⟨gs, os + j * 3 + 2, none⟩ = some (.int .i64 x.2.2) := ⟨(C5.out.cell lgs3 (fun e => ngk e)).trans hS3.1, (C5.out.cell lgs3 (fun e => ngk e)).trans hS3.2.1, (C5.out.cell lgs3 (fun e => ngk e)).trans hS3.2.2⟩
      have HAPa := hid ((HA2.out.act hb3 g3 t3 hv3))
      have HGa := hid (((HG.out.trans' HGV.out).trans g3 (fun q e => .inr (HT1.out q e))).trans C5.out (fun q e => .inr (by have e1 : q = k8 := e; omega)))
      have HT3a := hid (show ∀ q, T3a q → w.heap.size ≤ q from fun q e => (t3 q e).elim (HT1.out q) (fun a => by have := HG.out.size; have := HGV.out.size; omega))
      have hl3a : ys3a.length ≤ j + 1 := by omega
      have hm3a : nx3a ≤ (j : Int) + 1 := by omega
      clear hb3 g3 t3 hl3 hm3 hn3l K3 hv3
      refine hK.out _ _ (by exact hS3) (fun _ => ?_)
      clear hK K
      refine takeS_on (i := 7) 56 (v := ?v94) rfl rfl (by kernel_rfl) (by kernel_rfl) (by kernel_rfl) (fun _ _ _ h => h) (by kernel_rfl) ?hy94 (by exact hS3) ?_
      case hy94 => (intro w' hSw; go_simp; try (with_reducible rfl))
      simp only [Act.put, List.setIfInBounds_toArray, List.set_cons_zero, List.set_cons_succ]
      refine takeS_on (i := 8) 64 (v := ?v95) rfl rfl (by kernel_rfl) (by kernel_rfl) (by kernel_rfl) (fun _ _ _ h => h) (by kernel_rfl) ?hy95 (by exact hS3) ?_
      case hy95 => (intro w' hSw; go_simp; try (with_reducible rfl))
      simp only [Act.put, List.setIfInBounds_toArray, List.set_cons_zero, List.set_cons_succ]
      refine takeS_on (i := 9) 65 (v := ?v96) rfl rfl (by kernel_rfl) (by kernel_rfl) (by kernel_rfl) (fun _ _ _ h => h) (by kernel_rfl) ?hy96 (by exact hS3) ?_
      case hy96 => (intro w' hSw; go_simp; try (with_reducible rfl))
      simp only [Act.put, List.setIfInBounds_toArray, List.set_cons_zero, List.set_cons_succ]
      refine wpAnyH_ready (rs := [10]) (by kernel_rfl) (by simp) (AllReadyH.cons rfl (fun K hK => ?_) AllReadyH.nil)
      go_simp
      refine hK.out _ _ (by exact hS5) (fun _ => ?_)
      clear hK K
      refine takeS_on (i := 11) 10 (v := ?v97) rfl rfl (by kernel_rfl) (by kernel_rfl) (by kernel_rfl) (fun _ _ _ h => h) (by kernel_rfl) ?hy97 (by exact hS5) ?_
      case hy97 => (intro w' hSw; go_simp; try (with_reducible rfl))
      simp only [Act.put, List.setIfInBounds_toArray, List.set_cons_zero, List.set_cons_succ]
      refine wpAnyH_done (by kernel_rfl) ?_ _
      clear hSW hSV hS3 hS5 z0 z1 y0 y1 l3 lgs lgs3 ntg ngk j0 j1
      obtain ⟨U, hU⟩ : ∃ W, W = (w3a.setCell ⟨k8, 0, none⟩ (.slice a3a n3a q3a)).setCell ⟨k8, 1, none⟩ (.int .i64 nx3a) := ⟨_, rfl⟩
      rw [← hU] at HAPa HGa
      rw [← hU]
      clear hU C5
      by_cases hj2 : j < n2
      · have i2 : (j : Int) < (n2 : Int) := by omega
        obtain ⟨x, hx⟩ : ∃ x, l2[j]? = some x := ⟨_, List.getElem?_eq_getElem (by rw [← HN2.out]; omega)⟩
        obtain ⟨gs, os, hao, hgs, c0, c1, c2⟩ := HS2.out.get hx
        subst hao
        obtain ⟨av, cv, hav⟩ := HAPa.out.B2.l.form
        subst hav
        obtain ⟨nv, hnv⟩ : ∃ n, n = ys2.length := ⟨_, rfl⟩
        rw [← hnv] at HAPa
        have j0 : (0 : Int) ≤ (j : Int) := by omega
        have j1 : (j : Int) < (n2 : Int) := by omega
        obtain ⟨V2, hV2⟩ : ∃ W, W = U.drew := ⟨_, rfl⟩
        have HGV := hid (show Ch NoB U V2 by rw [hV2]; exact (Ch.refl _ _).drew)
        have HA2 := hid ((HAPa.out.still HGV.out).swap)
        obtain ⟨k0, k1⟩ := HA2.out.t8.cells
        have lk0 := HA2.out.t8.lt
        have ngk : ¬ (gs = k9) := by omega
        have ntg : ¬ T2 gs := fun e => by have := HT2.out gs e; omega
        have hSW : U.cell? ⟨gs, os + j * 3, none⟩ = some (.int .i64 x.1) ∧ U.cell? ⟨gs, os + j * 3 + 1, none⟩ = some (.int .u64 x.2.1) ∧ U.cell? ⟨gs, os + j * 3 + 2, none⟩ = some (.int .i64 x.2.2) := ⟨(HGa.out.cell hgs (noB _)).trans c0, (HGa.out.cell hgs (noB _)).trans c1, (HGa.out.cell hgs (noB _)).trans c2⟩
        have hSV : V2.cell? ⟨gs, os + j * 3, none⟩ = some (.int .i64 x.1) ∧ V2.cell? ⟨gs, os + j * 3 + 1, none⟩ = some (.int .u64 x.2.1) ∧ V2.cell? ⟨gs, os + j * 3 + 2, none⟩ = some (.int .i64 x.2.2) := by rw [hV2]; exact hSW
        have lgs : gs < V2.heap.size := by rw [hV2]; exact Nat.lt_of_lt_of_le hgs HGa.out.size
        clear hx c0 c1 c2 hnv
        go_wp2_with fail
        refine wp_region_held_drew (S := fun w' => w'.cell? ⟨gs, os + j * 3, none⟩ = some (.int .i64 x.1) ∧ w'.cell? ⟨gs, os + j * 3 + 1, none⟩ = some (.int .u64 x.2.1) ∧ w'.cell? ⟨gs, os + j * 3 + 2, none⟩ = some (.int .i64 x.2.2)) (by kernel_rfl) (by exact hSW) (fun _ => ?_)
        rw [← hV2]
        clear hV2
        refine takeS_on (i := 0) 73 (v := ?v98) rfl rfl (by kernel_rfl) (by kernel_rfl) (by kernel_rfl) (fun _ _ _ h => h) (by kernel_rfl) ?hy98 (by exact hSV) ?_
        case hy98 => (intro w' hSw; go_simp; try (with_reducible rfl))
        simp only [Act.put, List.setIfInBounds_toArray, List.set_cons_zero, List.set_cons_succ]
        refine takeS_on (i := 2) 75 (v := ?v99) rfl rfl (by kernel_rfl) (by kernel_rfl) (by kernel_rfl) (fun _ _ _ h => h) (by kernel_rfl) ?hy99 (by exact hSV) ?_
        case hy99 => (intro w' hSw; go_simp; try (with_reducible rfl))
        simp only [Act.put, List.setIfInBounds_toArray, List.set_cons_zero, List.set_cons_succ]
        refine takeS_on (i := 3) 76 (v := ?v100) rfl rfl (by kernel_rfl) (by kernel_rfl) (by kernel_rfl) (fun _ _ _ h => h) (by kernel_rfl) ?hy100 (by exact hSV) ?_
        case hy100 => (intro w' hSw; go_simp; try (with_reducible rfl))
        simp only [Act.put, List.setIfInBounds_toArray, List.set_cons_zero, List.set_cons_succ]
        refine takeS_on (i := 4) 77 (v := ?v101) rfl rfl (by kernel_rfl) (by kernel_rfl) (by kernel_rfl) (fun _ _ _ h => h) (by kernel_rfl) ?hy101 (by exact hSV) ?_
        case hy101 => (intro w' hSw; go_simp; try (with_reducible rfl))
        simp only [Act.put, List.setIfInBounds_toArray, List.set_cons_zero, List.set_cons_succ]
        refine takeS_on (i := 5) 78 (v := ?v102) rfl rfl (by kernel_rfl) (by kernel_rfl) (by kernel_rfl) (fun _ _ _ h => h) (by kernel_rfl) ?hy102 (by exact hSV) ?_
        case hy102 => (intro w' hSw; go_simp; try (with_reducible rfl))
        simp only [Act.put, List.setIfInBounds_toArray, List.set_cons_zero, List.set_cons_succ]
        refine wpAnyH_ready (rs := [1]) (by kernel_rfl) (by simp) (AllReadyH.cons rfl (fun K hK => ?_) AllReadyH.nil)
        go_simp
        refine hK.out _ _ (by exact hSV) (fun _ => ?_)
        clear hK K
        refine wpAnyH_ready (rs := [6]) (by kernel_rfl) (by simp) (AllReadyH.cons rfl (fun K hK => ?_) AllReadyH.nil)
        go_simp
        clear k0 k1 lk0
        refine (does_any T2 b2 _ xs2 ys2 nx2 x.1 x.2.1 x.2.2 V2 HA2.out.B1 (by omega) p2 (by omega)).mono ?_
        rintro e w3b ⟨T3b, v3b, xs3b, ys3b, nx3b, rfl, hb3, g3, t3, hl3, hn3b, hm3, hv3⟩
        obtain ⟨a3b, q3b, e3⟩ := hb3.l.form
        subst e3
        obtain ⟨n3b, hn3l⟩ : ∃ n, n = ys3b.length := ⟨_, rfl⟩
        rw [← hn3l] at hb3 hv3 ⊢
        have K3 := HA2.out.t8.ch g3 HA2.out.n8.1
        obtain ⟨z0, z1⟩ := K3.cells
        obtain ⟨y0, y1⟩ := K3.fz
        have l3 := K3.lt
        have hS3 : w3b.cell? ⟨gs, os + j * 3, none⟩ = some (.int .i64 x.1) ∧ w3b.cell? ⟨gs, os + j * 3 + 1, none⟩ = some (.int .u64 x.2.1) ∧ w3b.cell? ⟨gs, os + j * 3 + 2, none⟩ = some (.int .i64 x.2.2) := ⟨(g3.cell lgs ntg).trans hSV.1, (g3.cell lgs ntg).trans hSV.2.1, (g3.cell lgs ntg).trans hSV.2.2⟩
        have lgs3 := Nat.lt_of_lt_of_le lgs g3.size
        have C5 := hid (((Ch.refl (Only k9) w3b).own 0 (.slice a3b n3b q3b)).own 1 (.int .i64 nx3b))
        have hS5 : ((w3b.setCell ⟨k9, 0, none⟩ (.slice a3b n3b q3b)).setCell ⟨k9, 1, none⟩ (.int .i64 nx3b)).cell? ⟨gs, os + j * 3, none⟩ = some (.int .i64 x.1) ∧ ((w3b.setCell ⟨k9, 0, none⟩ (.slice a3b n3b q3b)).setCell ⟨k9, 1, none⟩ (.int .i64 nx3b)).cell? ⟨gs, os + j * 3 + 1, none⟩ = some (.int .u64 x.2.1) ∧ ((w3b.setCell ⟨k9, 0, none⟩ (.slice a3b n3b q3b)).setCell ⟨k9, 1, none⟩ (.int .i64 nx3b)).cell? ⟨gs, os + j * 3 + 2, none⟩ = some (.int .i64 x.2.2) := ⟨(C5.out.cell lgs3 (fun e => ngk e)).trans hS3.1, (C5.out.cell lgs3 (fun e => ngk e)).trans hS3.2.1, (C5.out.cell lgs3 (fun e => ngk e)).trans hS3.2.2⟩
        have HAPb := hid ((HA2.out.act hb3 g3 t3 hv3).swap)
        have HGb := hid (((HGa.out.trans' HGV.out).trans g3 (fun q e => .inr (HT2.out q e))).trans C5.out (fun q e => .inr (by have e1 : q = k9 := e; omega)))
        have HT3b := hid (show ∀ q, T3b q → w.heap.size ≤ q from fun q e => (t3 q e).elim (HT2.out q) (fun a => by have := HGa.out.size; have := HGV.out.size; omega))
        have hl3b : ys3b.length ≤ j + 1 := by omega
        have hm3b : nx3b ≤ (j : Int) + 1 := by omega
        clear hb3 g3 t3 hl3 hm3 hn3l K3 hv3
        refine hK.out _ _ (by exact hS3) (fun _ => ?_)
        clear hK K
        refine takeS_on (i := 7) 72 (v := ?v103) rfl rfl (by kernel_rfl) (by kernel_rfl) (by kernel_rfl) (fun _ _ _ h => h) (by kernel_rfl) ?hy103 (by exact hS3) ?_
        case hy103 => (intro w' hSw; go_simp; try (with_reducible rfl))
        simp only [Act.put, List.setIfInBounds_toArray, List.set_cons_zero, List.set_cons_succ]
        refine takeS_on (i := 8) 80 (v := ?v104) rfl rfl (by kernel_rfl) (by kernel_rfl) (by kernel_rfl) (fun _ _ _ h => h) (by kernel_rfl) ?hy104 (by exact hS3) ?_
        case hy104 => (intro w' hSw; go_simp; try (with_reducible rfl))
        simp only [Act.put, List.setIfInBounds_toArray, List.set_cons_zero, List.set_cons_succ]
        refine takeS_on (i := 9) 81 (v := ?v105) rfl rfl (by kernel_rfl) (by kernel_rfl) (by kernel_rfl) (fun _ _ _ h => h) (by kernel_rfl) ?hy105 (by exact hS3) ?_
        case hy105 => (intro w' hSw; go_simp; try (with_reducible rfl))
        simp only [Act.put, List.setIfInBounds_toArray, List.set_cons_zero, List.set_cons_succ]
        refine wpAnyH_ready (rs := [10]) (by kernel_rfl) (by simp) (AllReadyH.cons rfl (fun K hK => ?_) AllReadyH.nil)
        go_simp
        refine hK.out _ _ (by exact hS5) (fun _ => ?_)
        clear hK K
        refine takeS_on (i := 11) 10 (v := ?v106) rfl rfl (by kernel_rfl) (by kernel_rfl) (by kernel_rfl) (fun _ _ _ h => h) (by kernel_rfl) ?hy106 (by exact hS5) ?_
        case hy106 => (intro w' hSw; go_simp; try (with_reducible rfl))
        simp only [Act.put, List.setIfInBounds_toArray, List.set_cons_zero, List.set_cons_succ]
        refine wpAnyH_done (by kernel_rfl) ?_ _
        clear hSW hSV hS3 hS5 z0 z1 y0 y1 l3 lgs lgs3 ntg ngk j0 j1
        go_wp2
        go_roundg (K1 - 1)
        case measure => omega
        case rel => exact ⟨j + 1, T3a, T3b, _, _, xs3a, ys3a, xs3b, ys3b, nx3a, nx3b, by omega, by simp, rfl, HAPb.out, HT3a.out, HT3b.out, HGb.out, hl3a, hl3b, hn3a, by omega, hn3b, by omega⟩
      · have i2 : ¬ ((j : Int) < (n2 : Int)) := by omega
        go_wp2
        go_roundg (K1 - 1)
        case measure => omega
        case rel => exact ⟨j + 1, T3a, T2, _, _, xs3a, ys3a, xs2, ys2, nx3a, nx2, by omega, by simp, rfl, HAPa.out, HT3a.out, HT2.out, HGa.out, hl3a, by omega, hn3a, by omega, p2, by omega⟩
    · have i1 : ¬ ((j : Int) < (n1 : Int)) := by omega
      by_cases hj2 : j < n2
      · have hjN : j < N := by have := HNN.out; omega
        have i2 : (j : Int) < (n2 : Int) := by omega
        obtain ⟨x, hx⟩ : ∃ x, l2[j]? = some x := ⟨_, List.getElem?_eq_getElem (by rw [← HN2.out]; omega)⟩
        obtain ⟨gs, os, hao, hgs, c0, c1, c2⟩ := HS2.out.get hx
        subst hao
        obtain ⟨av, cv, hav⟩ := HAP.out.B2.l.form
        subst hav
        obtain ⟨nv, hnv⟩ : ∃ n, n = ys2.length := ⟨_, rfl⟩
        rw [← hnv] at HAP
        have j0 : (0 : Int) ≤ (j : Int) := by omega
        have j1 : (j : Int) < (n2 : Int) := by omega
        obtain ⟨V2, hV2⟩ : ∃ W, W = V.drew := ⟨_, rfl⟩
        have HGV := hid (show Ch NoB V V2 by rw [hV2]; exact (Ch.refl _ _).drew)
        have HA2 := hid ((HAP.out.still HGV.out).swap)
        obtain ⟨k0, k1⟩ := HA2.out.t8.cells
        have lk0 := HA2.out.t8.lt
        have ngk : ¬ (gs = k9) := by omega
        have ntg : ¬ T2 gs := fun e => by have := HT2.out gs e; omega
        have hSW : V.cell? ⟨gs, os + j * 3, none⟩ = some (.int .i64 x.1) ∧ V.cell? ⟨gs, os + j * 3 + 1, none⟩ = some (.int .u64 x.2.1) ∧ V.cell? ⟨gs, os + j * 3 + 2, none⟩ = some (.int .i64 x.2.2) := ⟨(HG.out.cell hgs (noB _)).trans c0, (HG.out.cell hgs (noB _)).trans c1, (HG.out.cell hgs (noB _)).trans c2⟩
        have hSV : V2.cell? ⟨gs, os + j * 3, none⟩ = some (.int .i64 x.1) ∧ V2.cell? ⟨gs, os + j * 3 + 1, none⟩ = some (.int .u64 x.2.1) ∧ V2.cell? ⟨gs, os + j * 3 + 2, none⟩ = some (.int .i64 x.2.2) := by rw [hV2]; exact hSW
        have lgs : gs < V2.heap.size := by rw [hV2]; exact Nat.lt_of_lt_of_le hgs HG.out.size
        clear hx c0 c1 c2 hnv
        go_wp2_with fail
        refine wp_region_held_drew (S := fun w' => w'.cell? ⟨gs, os + j * 3, none⟩ = some (.int .i64 x.1) ∧ w'.cell? ⟨gs, os + j * 3 + 1, none⟩ = some (.int .u64 x.2.1) ∧ w'.cell? ⟨gs, os + j * 3 + 2, none⟩ = some (.int .i64 x.2.2)) (by kernel_rfl) (by exact hSW) (fun _ => ?_)
        rw [← hV2]
        clear hV2
        refine takeS_on (i := 0) 73 (v := ?v107) rfl rfl (by kernel_rfl) (by kernel_rfl) (by kernel_rfl) (fun _ _ _ h => h) (by kernel_rfl) ?hy107 (by exact hSV) ?_
        case hy107 => (intro w' hSw; go_simp; try (with_reducible rfl))
        simp only [Act.put, List.setIfInBounds_toArray, List.set_cons_zero, List.set_cons_succ]
        refine takeS_on (i := 2) 75 (v := ?v108) rfl rfl (by kernel_rfl) (by kernel_rfl) (by kernel_rfl) (fun _ _ _ h => h) (by kernel_rfl) ?hy108 (by exact hSV) ?_
        case hy108 => (intro w' hSw; go_simp; try (with_reducible rfl))
        simp only [Act.put, List.setIfInBounds_toArray, List.set_cons_zero, List.set_cons_succ]
        refine takeS_on (i := 3) 76 (v := ?v109) rfl rfl (by kernel_rfl) (by kernel_rfl) (by kernel_rfl) (fun _ _ _ h => h) (by kernel_rfl) ?hy109 (by exact hSV) ?_
        case hy109 => (intro w' hSw; go_simp; try (with_reducible rfl))
        simp only [Act.put, List.setIfInBounds_toArray, List.set_cons_zero, List.set_cons_succ]
        refine takeS_on (i := 4) 77 (v := ?v110) rfl rfl (by kernel_rfl) (by kernel_rfl) (by kernel_rfl) (fun _ _ _ h => h) (by kernel_rfl) ?hy110 (by exact hSV) ?_
        case hy110 => (intro w' hSw; go_simp; try (with_reducible rfl))
        simp only [Act.put, List.setIfInBounds_toArray, List.set_cons_zero, List.set_cons_succ]
        refine takeS_on (i := 5) 78 (v := ?v111) rfl rfl (by kernel_rfl) (by kernel_rfl) (by kernel_rfl) (fun _ _ _ h => h) (by kernel_rfl) ?hy111 (by exact hSV) ?_
        case hy111 => (intro w' hSw; go_simp; try (with_reducible rfl))
        simp only [Act.put, List.setIfInBounds_toArray, List.set_cons_zero, List.set_cons_succ]
        refine wpAnyH_ready (rs := [1]) (by kernel_rfl) (by simp) (AllReadyH.cons rfl (fun K hK => ?_) AllReadyH.nil)
        go_simp
        refine hK.out _ _ (by exact hSV) (fun _ => ?_)
        clear hK K
        refine wpAnyH_ready (rs := [6]) (by kernel_rfl) (by simp) (AllReadyH.cons rfl (fun K hK => ?_) AllReadyH.nil)
        go_simp
        clear k0 k1 lk0
        refine (does_any T2 b2 _ xs2 ys2 nx2 x.1 x.2.1 x.2.2 V2 HA2.out.B1 (by omega) p2 (by omega)).mono ?_
        rintro e w3b ⟨T3b, v3b, xs3b, ys3b, nx3b, rfl, hb3, g3, t3, hl3, hn3b, hm3, hv3⟩
        obtain ⟨a3b, q3b, e3⟩ := hb3.l.form
        subst e3
        obtain ⟨n3b, hn3l⟩ : ∃ n, n = ys3b.length := ⟨_, rfl⟩
        rw [← hn3l] at hb3 hv3 ⊢
        have K3 := HA2.out.t8.ch g3 HA2.out.n8.1
        obtain ⟨z0, z1⟩ := K3.cells
        obtain ⟨y0, y1⟩ := K3.fz
        have l3 := K3.lt
        have hS3 : w3b.cell? ⟨gs, os + j * 3, none⟩ = some (.int .i64 x.1) ∧ w3b.cell? ⟨gs, os + j * 3 + 1, none⟩ = some (.int .u64 x.2.1) ∧ w3b.cell? ⟨gs, os + j * 3 + 2, none⟩ = some (.int .i64 x.2.2) := ⟨(g3.cell lgs ntg).trans hSV.1, (g3.cell lgs ntg).trans hSV.2.1, (g3.cell lgs ntg).trans hSV.2.2⟩
        have lgs3 := Nat.lt_of_lt_of_le lgs g3.size
        have C5 := hid (((Ch.refl (Only k9) w3b).own 0 (.slice a3b n3b q3b)).own 1 (.int .i64 nx3b))
        have hS5 : ((w3b.setCell ⟨k9, 0, none⟩ (.slice a3b n3b q3b)).setCell ⟨k9, 1, none⟩ (.int .i64 nx3b)).cell? ⟨gs, os + j * 3, none⟩ = some (.int .i64 x.1) ∧ ((w3b.setCell ⟨k9, 0, none⟩ (.slice a3b n3b q3b)).setCell ⟨k9, 1, none⟩ (.int .i64 nx3b)).cell? ⟨gs, os + j * 3 + 1, none⟩ = some (.int .u64 x.2.1) ∧ ((w3b.setCell ⟨k9, 0, none⟩ (.slice a3b n3b q3b)).setCell ⟨k9, 1, none⟩ (.int .i64 nx3b)).cell? ⟨gs, os + j * 3 + 2, none⟩ = some (.int .i64 x.2.2) := ⟨(C5.out.cell lgs3 (fun e => ngk e)).trans hS3.1, (C5.out.cell lgs3 (fun e => ngk e)).trans hS3.2.1, (C5.out.cell lgs3 (fun e => ngk e)).trans hS3.2.2⟩
        have HAPb := hid ((HA2.out.act hb3 g3 t3 hv3).swap)
        have HGb := hid (((HG.out.trans' HGV.out).trans g3 (fun q e => .inr (HT2.out q e))).trans C5.out (fun q e => .inr (by have e1 : q = k9 := e; omega)))
        have HT3b := hid (show ∀ q, T3b q → w.heap.size ≤ q from fun q e => (t3 q e).elim (HT2.out q) (fun a => by have := HG.out.size; have := HGV.out.size; omega))
        have hl3b : ys3b.length ≤ j + 1 := by omega
        have hm3b : nx3b ≤ (j : Int) + 1 := by omega
        clear hb3 g3 t3 hl3 hm3 hn3l K3 hv3
        refine hK.out _ _ (by exact hS3) (fun _ => ?_)
        clear hK K
        refine takeS_on (i := 7) 72 (v := ?v112) rfl rfl (by kernel_rfl) (by kernel_rfl) (by kernel_rfl) (fun _ _ _ h => h) (by kernel_rfl) ?hy112 (by exact hS3) ?_
        case hy112 => (intro w' hSw; go_simp; try (with_reducible rfl))
        simp only [Act.put, List.setIfInBounds_toArray, List.set_cons_zero, List.set_cons_succ]
        refine takeS_on (i := 8) 80 (v := ?v113) rfl rfl (by kernel_rfl) (by kernel_rfl) (by kernel_rfl) (fun _ _ _ h => h) (by kernel_rfl) ?hy113 (by exact hS3) ?_
        case hy113 => (intro w' hSw; go_simp; try (with_reducible rfl))
        simp only [Act.put, List.setIfInBounds_toArray, List.set_cons_zero, List.set_cons_succ]
        refine takeS_on (i := 9) 81 (v := ?v114) rfl rfl (by kernel_rfl) (by kernel_rfl) (by kernel_rfl) (fun _ _ _ h => h) (by kernel_rfl) ?hy114 (by exact hS3) ?_
        case hy114 => (intro w' hSw; go_simp; try (with_reducible rfl))
        simp only [Act.put, List.setIfInBounds_toArray, List.set_cons_zero, List.set_cons_succ]
        refine wpAnyH_ready (rs := [10]) (by kernel_rfl) (by simp) (AllReadyH.cons rfl (fun K hK => ?_) AllReadyH.nil)
        go_simp
        refine hK.out _ _ (by exact hS5) (fun _ => ?_)
        clear hK K
        refine takeS_on (i := 11) 10 (v := ?v115) rfl rfl (by kernel_rfl) (by kernel_rfl) (by kernel_rfl) (fun _ _ _ h => h) (by kernel_rfl) ?hy115 (by exact hS5) ?_
        case hy115 => (intro w' hSw; go_simp; try (with_reducible rfl))
        simp only [Act.put, List.setIfInBounds_toArray, List.set_cons_zero, List.set_cons_succ]
        refine wpAnyH_done (by kernel_rfl) ?_ _
        clear hSW hSV hS3 hS5 z0 z1 y0 y1 l3 lgs lgs3 ntg ngk j0 j1
        go_wp2
        go_roundg (K1 - 1)
        case measure => omega
        case rel => exact ⟨j + 1, T1, T3b, _, _, xs1, ys1, xs3b, ys3b, nx1, nx3b, by omega, by simp, rfl, HAPb.out, HT1.out, HT3b.out, HGb.out, by omega, hl3b, p1, by omega, hn3b, by omega⟩
      · have i2 : ¬ ((j : Int) < (n2 : Int)) := by omega
        go_wp2_with fail
        refine (topS_any S br V HAP.out.sh).mono ?_
        rintro e w7 ⟨rfl, g7⟩
        have HG7 := hid g7
        have HA7 := hid (HAP.out.still g7)
        obtain ⟨c0, c1⟩ := HA7.out.t8.cells
        have lk := HA7.out.t8.lt
        clear g7
        go_wp2_with fail
        refine (told_any T1 b1 v1 xs1 ys1 nx1 1 w7 HA7.out.B1 (by omega)).mono ?_
        rintro e w8 ⟨rfl, g8⟩
        have HG8 := hid g8
        have HA8 := hid (HA7.out.still g8)
        clear c0 c1 lk g8
        obtain ⟨c0, c1⟩ := HA8.out.t9.cells
        have lk := HA8.out.t9.lt
        go_wp2_with fail
        refine (told_any T2 b2 v2 xs2 ys2 nx2 1 w8 HA8.out.B2 (by omega)).mono ?_
        rintro e w9 ⟨rfl, g9⟩
        have HG9 := hid g9
        have HA9 := hid (HA8.out.still g9)
        clear c0 c1 lk g9
        go_wp2_with fail
        refine (lenS_any S br w9 HA9.out.sh).mono ?_
        rintro e w10 ⟨rfl, hw10⟩
        have HW10 := hid hw10
        clear hw10
        go_wp2
        go_ret
        rw [HW10.out]
        exact ⟨rfl, ((HG.out.trans' HG7.out).trans' HG8.out).trans' HG9.out⟩
end Go.Proofs.Ytkaeccmhfbjcmaa.Hp
