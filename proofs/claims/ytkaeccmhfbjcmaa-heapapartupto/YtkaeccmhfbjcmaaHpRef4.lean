/-
  What Numbers of the document's answer tells; what same answers. Condition: the list is there, and at most 4294967296 long.
-/
import Derived.Test.YtkaeccmhfbjcmaaHpRef3
import Derived.Test.YtkaeccmhfbjcmaaHpNums
import Derived.Handy
namespace Go.Proofs.Ytkaeccmhfbjcmaa.Hp
open Go.RowKit
attribute [local go_sem ↓] Go.wp_at_zero Go.wp_at_succ

/-- a whole list is appended to one that the call owns -/
theorem wpList_append_ow {w : World} {ops : Array Oper} {rest : List Oper} {o : Oper} {a : Act} {Q : Exit → Act → World → Prop} (hgd : o.guard = none) (s x : Operand) (t e B : Nat) (z : Value) (ht : Try.prog.underlying t = some (.slice e))
    (hinf : (Try.prog.info? e).map (fun i => (i.zero, i.size, i.bytes)) = some (some z, 1, B)) (hzc : z.cells.size = 1)
    (ho : o.op = .call { callee := .builtin .append, args := #[s, x], argTypes := #[t, t] })
    (base : Nat) (v : Value) (xs : List Value) (hs : a.eval s = v) (hown : Ow e base w v xs) (P : Nat → Prop) (sv : Value) (ys : List Value) (hx : a.eval x = sv) (hl : Ls P w sv ys) (hone : ∀ u ∈ ys, u.oneCell' = true)
    (k : Nat) (hk : k = xs.length + ys.length) (hb : k * B ≤ 140737488355328) (hk63 : k ≤ maxLen) (hbase : base ≤ w.heap.size) (zs : List Value) (hz : xs ++ ys = zs)
    (h : ∀ ao cap w', Ow e base w' (.slice ao k cap) zs → Ch (Blk v) w w' → (∀ q, Blk (.slice ao k cap) q → Blk v q ∨ w.heap.size ≤ q) → wpList Try.prog ops Q rest (a.put o.dst (.slice ao k cap)) w') : wpList Try.prog ops Q (o :: rest) a w := by
  subst hz
  obtain ⟨i0, hi, hz0, hz1, hz2⟩ := info_parts1 hinf
  have hl' := hl
  obtain ⟨ao, cap, rfl, ⟨hcap, hnone⟩, hcase⟩ := hl'
  cases ao with
  | none =>
    have hys : ys = [] := by
      rcases hcase with h0 | ⟨g, o, h1, _⟩
      · exact h0
      · cases h1
    subst hys
    have hc := hnone rfl
    subst hc
    refine wpList_append_own_none hgd s x _ ho base e i0 1 ht hi v xs.length _ hs hown hx ?_
    obtain ⟨ao', cap', rfl⟩ := hown.form
    have hkn : k = xs.length := by simpa using hk
    subst hkn
    rw [List.append_nil] at h
    exact h ao' cap' w hown (Ch.refl _ _) (fun _ q => .inl q)
  | some ad =>
    subst hk
    refine wpList_append_own_at w hgd s x _ ho base e i0 _ 1 B ht hi hz0 hz1 hz2 hzc (by omega) v xs.length _ hs hown ad ys.length cap ys hx (by omega) hl.news hone hk63 hb hbase ?_
    intro v' w' h2 h3 _ h5
    obtain ⟨ao', cap', rfl⟩ := own_form1 h2
    refine h ao' cap' w' ?_ ((Ch.refl _ _).grown h3 (fun k hk => .inl hk)) ?_
    · show World.ownsRow _ _ _ _ _ _ _
      rw [List.length_append]
      exact h2
    · intro q hq
      rcases h5 with h5 | h5
      · exact .inl (h5.symm.trans hq)
      · right
        have : some q = some w.heap.size := hq.symm.trans h5
        injection this with this
        omega

theorem ls_one (w : World) (u : Value) (t : Nat) : Ls (· = w.heap.size) (w.alloc (.cells #[u] t)) (.slice (some ⟨w.heap.size, 0, none⟩) 1 1) [u] := by
  refine ⟨_, 1, rfl, ⟨by simp, fun h => by cases h⟩, .inr ⟨w.heap.size, 0, rfl, rfl, by simp, ?_⟩⟩
  intro i y hy
  cases i with
  | zero =>
    simp only [List.getElem?_cons_zero, Option.some.injEq] at hy
    subst hy
    exact (cell_of (MapKept.heap_alloc w _).1 0).trans rfl
  | succ i => simp at hy

theorem ls_one1 (w : World) (u : Value) (t k : Nat) (hk : k = w.heap.size) : Ls (· = k) (w.alloc (.cells #[u] t)) (.slice (some ⟨k, 0, none⟩) 1 1) [u] := by
  subst hk
  exact ls_one w u t
set_option maxHeartbeats 1000000 in
theorem same_eq (P Q : Nat → Prop) (va vb : Value) (xs : List Int) (w : World) (ha : Ls P w va (iv xs)) (hb : Ls Q w vb (iv xs)) (hmax : xs.length ≤ 4294967296) :
    Calls Try.prog 21 #[va, vb] w fun e w' => e = .returned (.bool true) ∧ ∃ m, w' = w.drewN m := by
  obtain ⟨aa, ac, rfl⟩ := ha.form
  obtain ⟨ba, bc, rfl⟩ := hb.form
  obtain ⟨n, hn⟩ : ∃ n, n = (iv xs).length := ⟨_, rfl⟩
  rw [← hn] at ha hb ⊢
  have hnl : n = xs.length := by rw [hn, iv_length]
  rw [← hnl] at hmax
  have HA := hid ha
  have HB := hid hb
  have HN := hid hnl
  clear ha hb hn hnl
  go_enter Try.func21, Try.ntmps21
  go_wp2_with fail
  go_loopg [5] n (fun k i wr => ∃ j : Nat, j + k = n ∧ i = .int .i64 ((j : Nat) : Int) ∧ ∃ m, wr = w.drewN m)
  case atStart => exact ⟨0, by omega, rfl, 0, rfl⟩
  case round =>
    obtain ⟨j, hjk, rfl, m, rfl⟩ := hrel
    by_cases hj : j < n
    · obtain ⟨z, hz⟩ : ∃ z, xs[j]? = some z := ⟨_, List.getElem?_eq_getElem (by rw [← HN.out]; exact hj)⟩
      obtain ⟨g, o, rfl, -, -, -, d0⟩ := HA.out.get1 (iv_get hz)
      obtain ⟨g', o', rfl, -, -, -, d1⟩ := HB.out.get1 (iv_get hz)
      have j0 : (0 : Int) ≤ (j : Int) := by omega
      have j1 : (j : Int) < (n : Int) := by omega
      clear hz
      go_wp2
      go_quiet (fail)
      go_wp2
      go_roundg (gk - 1)
      case measure => omega
      case rel => exact ⟨j + 1, by omega, by simp, _, rfl⟩
    · go_wp2
      go_ret
      exact ⟨rfl, _, rfl⟩


theorem min_at : ∀ {ys : List W3}, ys ≠ [] → ∃ x ∈ ys, ∀ y ∈ ys, lt y x = false
  | [], h => absurd rfl h
  | [y], _ => ⟨y, List.mem_cons_self, fun z hz => by rw [List.mem_singleton.1 hz]; exact lt_irr _⟩
  | y :: y' :: ys, _ => by
    obtain ⟨x, hx, hm⟩ := min_at (ys := y' :: ys) (by simp)
    cases h : lt y x with
    | true =>
      refine ⟨y, List.mem_cons_self, fun z hz => ?_⟩
      rcases List.mem_cons.1 hz with rfl | hz
      · exact lt_irr _
      · exact lt_of h (hm z hz)
    | false =>
      refine ⟨x, List.mem_cons_of_mem _ hx, fun z hz => ?_⟩
      rcases List.mem_cons.1 hz with rfl | hz
      · exact h
      · exact hm z hz
theorem mi_at {ys : List W3} (h : ys ≠ []) : ∃ p x, Mi ys p x := by
  obtain ⟨x, hx, hm⟩ := min_at h
  obtain ⟨p, hp⟩ := List.mem_iff_getElem?.1 hx
  exact ⟨p, x, hp, fun i y hy => hm y (List.mem_of_getElem? hy)⟩
/-- what Numbers has told, and what is left -/
structure Nu (xs done ys : List W3) : Prop where
  p : (done ++ ys).Perm xs
  s : Srt done
  b : ∀ d ∈ done, ∀ y ∈ ys, lt d y = true
  n : Nn ys
theorem Nu.start {xs : List W3} (h : Nn xs) : Nu xs [] xs := ⟨List.Perm.refl _, List.Pairwise.nil, fun d hd => by simp at hd, h⟩
theorem Nu.next {xs done ys : List W3} {p : Nat} {x : W3} (h : Nu xs done ys) (hm : Mi ys p x) : Nu xs (done ++ [x]) (ys.eraseIdx p) := by
  have hp := perm_idx hm.a
  have hn : Nn (x :: ys.eraseIdx p) := h.n.perm hp.symm
  have hn' := hn
  unfold Nn at hn
  rw [List.map_cons, List.nodup_cons] at hn
  have hx : ∀ y ∈ ys.eraseIdx p, lt x y = true := fun y hy => by
    obtain ⟨i, hi⟩ := List.mem_iff_getElem?.1 (hp.mem_iff.2 (List.mem_cons_of_mem _ hy))
    exact lt_total (hm.m i y hi) (fun e => hn.1 (List.mem_map.2 ⟨y, hy, e⟩))
  refine ⟨?_, ?_, fun d hd y hy => ?_, hn.2⟩
  · rw [List.append_assoc]
    exact (List.Perm.append_left done hp.symm).trans h.p
  · refine List.pairwise_append.2 ⟨h.s, List.pairwise_singleton _ _, fun d hd y hy => ?_⟩
    rw [List.mem_singleton.1 hy]
    exact h.b d hd x (List.mem_of_getElem? hm.a)
  · rcases List.mem_append.1 hd with hd | hd
    · exact h.b d hd y (hp.mem_iff.2 (List.mem_cons_of_mem _ hy))
    · rw [List.mem_singleton.1 hd]
      exact hx y hy
set_option maxHeartbeats 4000000 in
theorem rnumbers_any (P : Nat → Prop) (v : Value) (xs : List W3) (nx : Int) (w : World) (hx : Lst P w v xs) (hl : xs.length ≤ 4294967296) (hn : Nn xs) :
    Calls Try.prog 20 #[.agg #[v, .int .i64 nx]] w fun e w' => ∃ v' zs, e = .returned v' ∧ zs.Perm xs ∧ Srt zs ∧ Ow 3 w.heap.size w' v' (iv (zs.map (·.n))) ∧ Ch NoB w w' := by
  obtain ⟨ao, cap, rfl⟩ := hx.form
  obtain ⟨n, hnn⟩ : ∃ n, n = xs.length := ⟨_, rfl⟩
  rw [← hnn] at hl hx ⊢
  obtain ⟨W0, hW0⟩ : ∃ W, W = (w.alloc (.cells #[.slice ao n cap, .int .i64 nx] 28)).alloc (.cells #[] 3) := ⟨_, rfl⟩
  have g0 : Ch NoB w W0 := by rw [hW0]; exact ((Ch.refl NoB w).alloc _).alloc _
  have f0 : Tv W0 w.heap.size (.slice ao n cap) nx := by rw [hW0]; exact (Tv.new w _ _).alloc _
  have o0 : Ow 3 w.heap.size W0 (.slice (some ⟨w.heap.size + 1, 0, none⟩) 0 0) (iv []) := by
    have z := (MapKept.heap_alloc (w.alloc (.cells #[.slice ao n cap, .int .i64 nx] 28)) (.cells #[] 3)).1
    rw [World.size_alloc] at z
    rw [hW0]
    exact ⟨rfl, .inr ⟨w.heap.size + 1, 0, #[], rfl, by omega, z, Nat.le_refl _, Nat.zero_le _, rfl, rfl⟩⟩
  obtain ⟨ks, hks⟩ : ∃ k, k = w.heap.size := ⟨_, rfl⟩
  have HX := hid ((hx.mono (Q := fun q => q < w.heap.size) (fun q hq _ => hq)).ch g0 (fun _ _ _ => noB _))
  have HN := hid hnn
  have HNn := hid hn
  have HG0 := hid g0
  have HKS := hid hks
  have HF0 := hid (show Tv W0 ks (.slice ao n cap) nx by rw [hks]; exact f0)
  have HO0 := hid o0
  clear hx hnn g0 f0 hn o0
  go_enter Try.func20, Try.ntmps20
  go_wp2_with fail
  rw [← hW0]
  rw [← hks] at HO0 ⊢
  clear hW0 hks
  go_loopg [3] n (fun m o wr => ∃ (done ys : List W3) (vs : Value) (ao' : Option Addr) (l c' : Nat), ys.length = m ∧ l + m = n ∧ o = .slice ao' l c' ∧ Nu xs done ys ∧ Tv wr ks vs nx ∧ Lst (fun q => q ≠ ks ∧ ¬ Blk (.slice ao' l c') q) wr vs ys ∧ Ow 3 ks wr (.slice ao' l c') (iv (done.map (·.n))) ∧ ¬ Blk (.slice ao' l c') ks ∧ Ch NoB w wr)
  case atStart =>
    refine ⟨[], xs, _, _, _, _, HN.out.symm, by omega, rfl, Nu.start HNn.out, HF0.out, HX.out.mono (fun q _ hq => ?_), HO0.out, fun e => ?_, HG0.out⟩
    · have := HKS.out
      refine ⟨by omega, fun e => ?_⟩
      have e1 : some (ks + 1) = some q := e
      injection e1 with e1
      omega
    · have e1 : some (ks + 1) = some ks := e
      injection e1 with e1
      omega
  case round =>
    obtain ⟨done, ys, vs, ao', l, c', hyl, hlm, rfl, hNu, hTv, hLs, hOw, hnb, hg⟩ := hrel
    obtain ⟨V, hV⟩ : ∃ W, W = wr := ⟨_, rfl⟩
    subst hV
    obtain ⟨K1, hK1⟩ : ∃ k, k = gk := ⟨_, rfl⟩
    obtain ⟨av, cv, rfl⟩ := hLs.form
    obtain ⟨ny, hny⟩ : ∃ n, n = ys.length := ⟨_, rfl⟩
    rw [← hny] at hyl hLs hTv
    have HNY := hid hny
    have HYL := hid hyl
    have hyn : ny ≤ n := by omega
    clear hyl
    have HNu := hid hNu
    have HTv := hid hTv
    have HLs := hid hLs
    have HOw := hid hOw
    have HNB := hid hnb
    have HG := hid hg
    obtain ⟨c0, c1⟩ := hTv.cells
    have l1 := hTv.lt
    clear hNu hTv hLs hOw hnb hg hny
    by_cases hj : 0 < ny
    · obtain ⟨p, x, hm⟩ := mi_at (ys := ys) (fun e => by have := HNY.out; rw [e] at this; simp at this; omega)
      have HM := hid hm
      clear hm
      have j0 : (0 : Int) < (ny : Int) := by omega
      go_wp2_with fail
      obtain ⟨W1, hW1⟩ : ∃ W, W = V.alloc (.cells #[.int .u64 0, .int .i64 0, .int .i64 0] 44) := ⟨_, rfl⟩
      obtain ⟨kx, hkx⟩ : ∃ k, k = V.heap.size := ⟨_, rfl⟩
      have HT1 := hid (show Th W1 kx W3.zero by rw [hW1, hkx]; exact Th.new V W3.zero)
      have HS1 := hid (show W1.heap.size = kx + 1 by rw [hW1, hkx]; simp)
      have HG1 := hid (show Ch NoB V W1 by rw [hW1]; exact (Ch.refl _ _).alloc _)
      have HKX := hid hkx
      have hkk : ¬ (ks = kx) := by omega
      have hkk2 : ¬ (kx = ks) := by omega
      rw [← hW1, ← hkx]
      clear hW1 hkx
      refine (rpop_at _ _ ys nx p x W1 (HLs.out.ch HG1.out (fun _ _ _ => noB _)) (by rw [← HNY.out]; omega) HNu.out.n HM.out).mono ?_
      rintro e w5 ⟨v5, rfl, l5, g5⟩
      obtain ⟨a5, q5, rfl⟩ := l5.form
      obtain ⟨n5, hn5⟩ : ∃ n, n = (ys.eraseIdx p).length := ⟨_, rfl⟩
      rw [← hn5] at l5 ⊢
      have T5 := (HTv.out.ch HG1.out (noB _)).ch g5 (noB _)
      have X5 := HT1.out.ch g5 (noB _)
      clear c0 c1 l1
      obtain ⟨c0, c1⟩ := T5.cells
      obtain ⟨y0, y1⟩ := T5.fz
      obtain ⟨d0, d1, d2⟩ := X5.cells
      obtain ⟨y2, y3, y4⟩ := X5.fz
      have l1 := T5.lt
      have l2 := X5.lt
      have HN5 := hid hn5
      have HL5 := hid l5
      have CA := hid (((Ch.refl (Only ks) w5).own 0 (.slice a5 n5 q5)).own 1 (.int .i64 nx))
      have CB := hid ((((Ch.refl (Only kx) ((w5.setCell ⟨ks, 0, none⟩ (.slice a5 n5 q5)).setCell ⟨ks, 1, none⟩ (.int .i64 nx))).own 0 (.int .u64 x.w)).own 1 (.int .i64 x.n)).own 2 (.int .i64 x.v))
      have HTA := hid (show Tv ((w5.setCell ⟨ks, 0, none⟩ (.slice a5 n5 q5)).setCell ⟨ks, 1, none⟩ (.int .i64 nx)) ks (.slice a5 n5 q5) nx from setCell_block (setCell_block T5 0 _) 1 _)
      have HG5 := hid g5
      have hOB : ∀ q, Blk (.slice ao' l c') q → ks ≤ q ∧ q < kx := fun q e => by
        have := HOw.out.blk e
        have := HKX.out
        omega
      have HOB := hid hOB
      have HO6 := hid ((((HOw.out.ch HG1.out (fun _ _ => noB _)).ch g5 (fun _ _ => noB _)).ch CA.out (fun q e a => by have a1 : q = ks := a; rw [a1] at e; exact HNB.out e)).ch CB.out (fun q e a => by have a1 : q = kx := a; have := HOB.out q e; omega))
      have HC6 := hid (CA.out.size)
      have HL6 := hid (((l5.ch CA.out (fun q _ hq a => by have a1 : q = ks := a; have : W1.heap.size ≤ q := hq; have := HS1.out; have := HTv.out.lt; have := HKX.out; omega)).ch CB.out (fun q _ hq a => by have a1 : q = kx := a; have : W1.heap.size ≤ q := hq; have := HS1.out; omega)))
      have HT6 := hid (HTA.out.ch CB.out (fun a => hkk a))
      have HOL := hid (show l = (iv (done.map (·.n))).length by obtain ⟨_, _, e⟩ := HOw.out.form; injection e)
      have HG6 := hid ((((HG.out.trans' HG1.out).trans' g5).trans CA.out (fun q e => .inr (by have e1 : q = ks := e; have := HKS.out; omega))).trans CB.out (fun q e => .inr (by have e1 : q = kx := e; have := HKX.out; have := HG.out.size; omega)))
      clear l5 g5 T5 X5 hn5 hOB
      go_wp2_with (first | (at_builtin; refine wpList_append_ow rfl (.tmp 17) (.tmp 20) 37 3 8 _ Try.underlying37 int_info rfl rfl ks _ _ rfl (HO6.out.alloc _) _ _ [.int .i64 x.n] rfl (ls_one1 (((((w5.setCell ⟨ks, 0, none⟩ (.slice a5 n5 q5)).setCell ⟨ks, 1, none⟩ (.int .i64 nx)).setCell ⟨kx, 0, none⟩ (.int .u64 x.w)).setCell ⟨kx, 1, none⟩ (.int .i64 x.n)).setCell ⟨kx, 2, none⟩ (.int .i64 x.v)) (.int .i64 x.n) 3 w5.heap.size (by simp)) (fun u hu => by rw [List.mem_singleton.1 hu]; rfl) (l + 1) (by rw [← HOL.out]; rfl) (by omega) (by unfold maxLen; omega) (Nat.le_of_lt (HT6.out.alloc _).lt) (iv ((done ++ [x]).map (·.n))) (by simp [iv]) ?_; intro ao2 cap2 w7 ow2 cw2 bl2))
      have hB1 : ∀ q, Blk (.slice ao2 (l + 1) cap2) q → (ks ≤ q ∧ q < kx ∧ Blk (.slice ao' l c') q) ∨ (((((w5.setCell ⟨ks, 0, none⟩ (.slice a5 n5 q5)).setCell ⟨ks, 1, none⟩ (.int .i64 nx)).setCell ⟨kx, 0, none⟩ (.int .u64 x.w)).setCell ⟨kx, 1, none⟩ (.int .i64 x.n)).setCell ⟨kx, 2, none⟩ (.int .i64 x.v)).heap.size ≤ q := fun q e => (bl2 q e).imp (fun a => ⟨(HOB.out q a).1, (HOB.out q a).2, a⟩) (fun a => by rw [World.size_alloc] at a; omega)
      have HL7 := hid (((HL6.out.mono (Q := fun q => q ≠ ks ∧ ¬ Blk (.slice ao2 (l + 1) cap2) q) (fun q hq (hq2 : W1.heap.size ≤ q) => ⟨fun a => by have := HS1.out; have := HTv.out.lt; have := HKX.out; omega, fun a => by
        rcases hB1 q a with h | h
        · have := HS1.out; omega
        · omega⟩))).mono (Q := fun q => (q ≠ ks ∧ ¬ Blk (.slice ao2 (l + 1) cap2) q)) (fun _ _ a => a))
      have HL8 := hid (((HL6.out.mono (Q := fun q => W1.heap.size ≤ q ∧ (q ≠ ks ∧ ¬ Blk (.slice ao2 (l + 1) cap2) q)) (fun q hq (hq2 : W1.heap.size ≤ q) => ⟨hq2, fun a => by have := HS1.out; have := HTv.out.lt; have := HKX.out; omega, fun a => by
        rcases hB1 q a with h | h
        · have := HS1.out; omega
        · omega⟩)).alloc (.cells #[.int .i64 x.n] 3)).ch cw2 (fun q _ hq a => by have := HOB.out q a; have := HS1.out; omega) |>.mono (Q := fun q => q ≠ ks ∧ ¬ Blk (.slice ao2 (l + 1) cap2) q) (fun _ _ a => a.2))
      have HO7 := hid ow2
      have HT7 := hid ((HT6.out.alloc (.cells #[.int .i64 x.n] 3)).ch cw2 (fun a => HNB.out a))
      have HNB7 := hid (show ¬ Blk (.slice ao2 (l + 1) cap2) ks from fun a => by
        rcases hB1 ks a with h | h
        · exact HNB.out h.2.2
        · have := HT6.out.lt; omega)
      have HG7 := hid ((HG6.out.alloc (.cells #[.int .i64 x.n] 3)).trans cw2 (fun q e => .inr (by have := HOB.out q e; have := HKS.out; omega)))
      have HNL := hid (show n5 + 1 = ny by
        rw [HN5.out, HNY.out]
        have hp := (List.getElem?_eq_some_iff.1 HM.out.a).1
        rw [List.length_eraseIdx_of_lt hp]
        omega)
      clear ow2 cw2 bl2 hB1 HL7
      go_wp2
      go_roundg (K1 - 1)
      case measure => have := HNL.out; have := HYL.out; omega
      case rel => exact ⟨done ++ [x], ys.eraseIdx p, _, _, _, _, by have := HNL.out; have := HYL.out; have := HN5.out; omega, by have := HNL.out; have := HYL.out; omega, rfl, HNu.out.next HM.out, HT7.out, HL8.out, HO7.out, HNB7.out, HG7.out⟩
    · have e0 : ny = 0 := by omega
      subst e0
      have hy0 : ys = [] := List.eq_nil_of_length_eq_zero HNY.out.symm
      subst hy0
      go_wp2
      go_ret
      exact ⟨_, done, rfl, by have := HNu.out.p; rwa [List.append_nil] at this, HNu.out.s, HOw.out.lower (by rw [HKS.out]; exact Nat.le_refl _), HG.out⟩
end Go.Proofs.Ytkaeccmhfbjcmaa.Hp
