/-
  What the program's disarm and takeFirst leave of timers. Condition: the timers are there, the one that is meant runs.
-/
import Derived.Test.YtgkapopkjgljjaaTmForget
namespace Go.Proofs.Ytgkapopkjgljjaa.Lt
open Go.RowKit Wd
attribute [local go_sem ↓] Go.wp_at_zero Go.wp_at_succ
set_option maxRecDepth 20000

/-- a timer with its number in a block of its own -/
structure Sd (k : Nat) (x : Tk) (n : Int) (W : World) : Prop where
  bx : W.heap[k]? = some (.cells #[.int .i64 x.id, .int .i64 x.kind, .int .i64 x.s, .int .i64 x.g, .int .i64 x.ch, .int .u64 x.wh, .bool x.nv, .int .u64 x.pd, .int .i64 n] 94 (0, 0))
  kl : k < W.heap.size
theorem Sd.ch {S : Nat → Prop} {k : Nat} {x : Tk} {n : Int} {W W' : World} (h : Sd k x n W) (c : Ch S W W') (h2 : ¬ S k) : Sd k x n W' := ⟨(c.block _ h.kl h2).trans h.bx, Nat.lt_of_lt_of_le h.kl c.size⟩
theorem Sd.gr {k : Nat} {x : Tk} {n : Int} {W W' : World} (h : Sd k x n W) (c : Gr W W') : Sd k x n W' := h.ch c (noB _)
/-- the set behind forget is that of those that are left -/
theorem offG_perm {d : Dt} {L : List Tk} (h : Lk d L) {x : Tk} (hx : x ∈ L) : ((offG d x).map (fun e => (e.s, e.g))).Perm (((L.filter (isId x.id)).filter slp).map gid) := by
  unfold offG
  by_cases hs : slp x = true
  · rw [if_pos hs]
    have h1 := gid_perm h.ui hx hs
    have h2 := h.gs.trans h1
    have hf : (delGs d.G x.s x.g).map (fun e => (e.s, e.g)) = (d.G.map (fun e => (e.s, e.g))).filter (fun y => !(y == gid x)) := by
      rw [List.filter_map]
      rfl
    rw [hf]
    have h3 := h2.filter (fun y => !(y == gid x))
    rw [List.filter_cons_of_neg (by simp)] at h3
    refine h3.trans ?_
    rw [List.filter_eq_self.2]
    intro y hy
    have hn := h1.nodup_iff.1 h.ug
    have := (List.nodup_cons.1 hn).1
    simp only [Bool.not_eq_true', beq_eq_false_iff_ne]
    exact fun e => this (by rw [← e]; exact hy)
  · rw [if_neg hs, List.filter_filter]
    have : (L.filter (fun a => slp a && isId x.id a)) = L.filter slp := by
      refine List.filter_congr (fun y hy => ?_)
      by_cases e : slp y = true
      · have hne : isId x.id y = true := by
          simp only [isId, Bool.not_eq_true', beq_eq_false_iff_ne]
          intro e2
          have := h.ui.one hy hx e2
          rw [this] at e
          exact hs e
        rw [e, hne]; rfl
      · have e : slp y = false := by simpa using e
        rw [e]; rfl
    rw [this]
    exact h.gs
set_option maxHeartbeats 8000000 in
theorem disarm_ever {T1 T2 : Nat → Prop} {w : World} {b : Nat} {last : Int} {d : Dt} {L : List Tk} {B : Int} (h : Tw T1 T2 w b last d) (hl : Lk d L) (hb : (0 ≤ d.dn ∧ d.dn ≤ B) ∧ 0 ≤ d.vn ∧ d.vn ≤ B) (x : Tk) (n : Int) (hx : x ∈ L) (hm : (⟨x, n⟩ : Tn) ∈ d.M.map (fun e => (e.t, e.n))) (hnv : x.nv = false) (hL : L.length < 4294967296) : Calls Try.prog 47 #[.pointer (some ⟨b, 0, none⟩), .agg #[.int .i64 x.id, .int .i64 x.kind, .int .i64 x.s, .int .i64 x.g, .int .i64 x.ch, .int .u64 x.wh, .bool x.nv, .int .u64 x.pd, .int .i64 n]] w fun e w' => e = .returned (.tuple #[]) ∧ TL (Ta b T1 T2 d) w w' b last (L.filter (isId x.id)) B := by
  have NB := hid (show ¬ T1 w.heap.size from fun e => by have := h.h1.tl _ e; omega)
  obtain ⟨P0, Q0, ho, hp1, hp2, hp3⟩ := hl.ex
  have hmem := hp3.mem_iff.1 hm
  obtain ⟨j, hj⟩ : ∃ j : Nat, d.xs[j]? = some (⟨x.wh, n, x.id⟩ : Hp.W3) := List.mem_iff_getElem?.1 (by
    rcases List.mem_append.1 hmem with e | e
    · exact hp1.mem_iff.2 (List.mem_map.2 ⟨_, e, rfl⟩)
    · have := (ho.nq _ e).1; rw [hnv] at this; cases this)
  have HJ := hid hj
  have LKK := hid hl
  have HM := hid hm
  have HXX := hid hx
  have GV := hid (show Ch (Ta b T1 T2 d) w (World.drew (w.alloc (.cells #[.int .i64 x.id, .int .i64 x.kind, .int .i64 x.s, .int .i64 x.g, .int .i64 x.ch, .int .u64 x.wh, .bool x.nv, .int .u64 x.pd, .int .i64 n] 94))) from (Ch.alloc (Ch.refl _ w) _).drew)
  have TW := hid (h.gr (show Gr w (World.drew (w.alloc (.cells #[.int .i64 x.id, .int .i64 x.kind, .int .i64 x.s, .int .i64 x.g, .int .i64 x.ch, .int .u64 x.wh, .bool x.nv, .int .u64 x.pd, .int .i64 n] 94))) from (Ch.alloc (Gr.refl w) _).drew))
  have hS0 : Sd w.heap.size x n (World.drew (w.alloc (.cells #[.int .i64 x.id, .int .i64 x.kind, .int .i64 x.s, .int .i64 x.g, .int .i64 x.ch, .int .u64 x.wh, .bool x.nv, .int .u64 x.pd, .int .i64 n] 94))) := ⟨al_at _ rfl, lt_of_block (al_at (w := w) _ rfl)⟩
  have SZ := hid (show w.heap.size ≤ (World.drew (w.alloc (.cells #[.int .i64 x.id, .int .i64 x.kind, .int .i64 x.s, .int .i64 x.g, .int .i64 x.ch, .int .u64 x.wh, .bool x.nv, .int .u64 x.pd, .int .i64 n] 94))).heap.size from GV.out.size)
  have XL := hid (show d.xs.length < 4294967296 from by have := hl.xl; omega)
  have HB := hid hb
  have HNV := hid hnv
  have KA := hid (fun q e => h.lt q e)
  clear ho hp1 hp2 hp3 hmem hj hl h hm hx hb hL hnv
  go_enter Try.func47, Try.ntmps47
  go_wp2_with fail
  refine wp_region_held_drew (S := Sd w.heap.size x n) (by kernel_rfl) (by exact hS0) (fun _ => ?_)
  generalize World.drew (w.alloc (.cells #[.int .i64 x.id, .int .i64 x.kind, .int .i64 x.s, .int .i64 x.g, .int .i64 x.ch, .int .u64 x.wh, .bool x.nv, .int .u64 x.pd, .int .i64 n] 94)) = V0 at hS0 TW GV SZ ⊢
  refine takeS_on (i := 0) 4 (v := ?hv1) rfl rfl (by kernel_rfl) (by kernel_rfl) (by kernel_rfl) (fun _ _ _ h => h) (by kernel_rfl) ?hh1 (by exact hS0) ?_
  case hh1 => (intro w' hSw; go_simp; try (with_reducible rfl))
  simp only [Act.put, List.setIfInBounds_toArray, List.set_cons_zero, List.set_cons_succ]
  refine takeS_on (i := 1) 5 (v := ?hv2) rfl rfl (by kernel_rfl) (by kernel_rfl) (by kernel_rfl) (fun _ _ _ h => h) (by kernel_rfl) ?hh2 (by exact hS0) ?_
  case hh2 => (intro w' hSw; go_simp; try (with_reducible rfl))
  simp only [Act.put, List.setIfInBounds_toArray, List.set_cons_zero, List.set_cons_succ]
  refine takeS_on (i := 2) 6 (v := ?hv3) rfl rfl (by kernel_rfl) (by kernel_rfl) (by kernel_rfl) (fun _ _ _ h => h) (by kernel_rfl) ?hh3 (by exact hS0) ?_
  case hh3 => (intro w' hSw; have xb := cell_of hSw.bx; have x0 := xb 0; have x1 := xb 1; have x2 := xb 2; have x3 := xb 3; have x4 := xb 4; have x5 := xb 5; have x6 := xb 6; have x7 := xb 7; simp at x0 x1 x2 x3 x4 x5 x6 x7; clear xb; go_simp; try (with_reducible rfl))
  simp only [Act.put, List.setIfInBounds_toArray, List.set_cons_zero, List.set_cons_succ]
  refine takeS_on (i := 4) 8 (v := ?hv4) rfl rfl (by kernel_rfl) (by kernel_rfl) (by kernel_rfl) (fun _ _ _ h => h) (by kernel_rfl) ?hh4 (by exact hS0) ?_
  case hh4 => (intro w' hSw; go_simp; try (with_reducible rfl))
  simp only [Act.put, List.setIfInBounds_toArray, List.set_cons_zero, List.set_cons_succ]
  refine takeS_on (i := 5) 9 (v := ?hv5) rfl rfl (by kernel_rfl) (by kernel_rfl) (by kernel_rfl) (fun _ _ _ h => h) (by kernel_rfl) ?hh5 (by exact hS0) ?_
  case hh5 => (intro w' hSw; have x8 := cell_of hSw.bx 8; simp at x8; go_simp; try (with_reducible rfl))
  simp only [Act.put, List.setIfInBounds_toArray, List.set_cons_zero, List.set_cons_succ]
  refine wpAnyH_ready (rs := [3]) (by kernel_rfl) (by simp) (AllReadyH.cons rfl (fun K hK => ?_) AllReadyH.nil)
  go_simp
  refine (line_w TW.out x).mono ?_
  rintro e w5 ⟨e5, g5⟩
  rw [HNV.out, if_neg Bool.false_ne_true] at e5
  subst e5
  have TW := hid (TW.out.gr g5)
  have GV := hid (GV.out.trans g5 (fun _ e => e.elim))
  have hS1 := hS0.gr g5
  have SZ := hid (Nat.le_trans SZ.out g5.size)
  clear g5
  refine hK.out _ _ (by exact hS1) (fun _ => ?_)
  clear hK K
  refine wpAnyH_ready (rs := [6]) (by kernel_rfl) (by simp) (AllReadyH.cons rfl (fun K hK => ?_) AllReadyH.nil)
  go_simp
  refine (Hp.drop_yes T1 d.bd d.xs d.dn j ⟨x.wh, n, x.id⟩ _ TW.out.h1 HJ.out (by have := XL.out; omega)).mono ?_
  rintro e w6 ⟨rfl, zs, hzs, hl6⟩
  obtain ⟨T1', tw6, c6, t6⟩ := TW.out.due hl6
  have HZ := hid hzs
  have TW6 := hid tw6
  have hS2 := hS1.ch c6 NB.out
  have GV6 := hid (GV.out.trans c6 (fun q e => .inl (.inr (.inl e))))
  have TT := hid (fun q e => (t6 q e).imp id (fun y => Nat.le_trans SZ.out y))
  clear hzs tw6 c6 t6 hl6
  refine hK.out _ _ (by exact hS2) (fun _ => ?_)
  clear hK K
  refine wpAnyH_done (by kernel_rfl) ?_ _
  have LKF := LKK.out.fk HXX.out
  have FK := hid (show Fk { d with xs := zs, dn := d.dn } x from ⟨LKF.he, LKF.ids, LKF.gok, LKF.gnd, LKF.gk⟩)
  have HD := hid (fun W (k : Gr w6 W) => forget_w (TW6.out.gr k) x FK.out)
  clear LKF
  have xb := cell_of hS2.bx
  have x0 := xb 0; have x1 := xb 1; have x2 := xb 2; have x3 := xb 3; have x4 := xb 4; have x5 := xb 5; have x6 := xb 6; have x7 := xb 7
  simp at x0 x1 x2 x3 x4 x5 x6 x7
  have xl := hS2.kl
  clear xb
  go_wp2_with (go_at_call 55; refine (HD.out _ (Gr.refl _)).mono ?_; rintro e w8 ⟨rfl, t8, c8⟩; have TW8 := hid t8; have C8 := hid c8; clear t8 c8)
  go_end0
  have hlk : Lk { { d with xs := zs, dn := d.dn } with M := delM d.M x.id, G := offG d x } (L.filter (isId x.id)) := LKK.out.del ⟨n, HM.out, fun _ => ⟨HZ.out, rfl⟩, fun e => by rw [HNV.out] at e; cases e⟩ (offG_perm LKK.out HXX.out)
  exact ⟨rfl, _, ⟨_, _, _, TW8.out, hlk, fun q => Iff.rfl, HB.out.1, HB.out.2⟩, GV6.out.trans C8.out (fun q e => TT.out q e), TT.out⟩
set_option maxHeartbeats 8000000 in
theorem disarm_never {T1 T2 : Nat → Prop} {w : World} {b : Nat} {last : Int} {d : Dt} {L : List Tk} {B : Int} (h : Tw T1 T2 w b last d) (hl : Lk d L) (hb : (0 ≤ d.dn ∧ d.dn ≤ B) ∧ 0 ≤ d.vn ∧ d.vn ≤ B) (x : Tk) (n : Int) (hx : x ∈ L) (hm : (⟨x, n⟩ : Tn) ∈ d.M.map (fun e => (e.t, e.n))) (hnv : x.nv = true) (hL : L.length < 4294967296) : Calls Try.prog 47 #[.pointer (some ⟨b, 0, none⟩), .agg #[.int .i64 x.id, .int .i64 x.kind, .int .i64 x.s, .int .i64 x.g, .int .i64 x.ch, .int .u64 x.wh, .bool x.nv, .int .u64 x.pd, .int .i64 n]] w fun e w' => e = .returned (.tuple #[]) ∧ TL (Ta b T1 T2 d) w w' b last (L.filter (isId x.id)) B := by
  have NB := hid (show ¬ T2 w.heap.size from fun e => by have := h.h2.tl _ e; omega)
  obtain ⟨P0, Q0, ho, hp1, hp2, hp3⟩ := hl.ex
  have hmem := hp3.mem_iff.1 hm
  obtain ⟨j, hj⟩ : ∃ j : Nat, d.ys[j]? = some (⟨x.wh, n, x.id⟩ : Hp.W3) := List.mem_iff_getElem?.1 (by
    rcases List.mem_append.1 hmem with e | e
    · have := ho.np _ e; rw [hnv] at this; cases this
    · exact hp2.mem_iff.2 (List.mem_map.2 ⟨_, e, rfl⟩))
  have HJ := hid hj
  have LKK := hid hl
  have HM := hid hm
  have HXX := hid hx
  have GV := hid (show Ch (Ta b T1 T2 d) w (World.drew (w.alloc (.cells #[.int .i64 x.id, .int .i64 x.kind, .int .i64 x.s, .int .i64 x.g, .int .i64 x.ch, .int .u64 x.wh, .bool x.nv, .int .u64 x.pd, .int .i64 n] 94))) from (Ch.alloc (Ch.refl _ w) _).drew)
  have TW := hid (h.gr (show Gr w (World.drew (w.alloc (.cells #[.int .i64 x.id, .int .i64 x.kind, .int .i64 x.s, .int .i64 x.g, .int .i64 x.ch, .int .u64 x.wh, .bool x.nv, .int .u64 x.pd, .int .i64 n] 94))) from (Ch.alloc (Gr.refl w) _).drew))
  have hS0 : Sd w.heap.size x n (World.drew (w.alloc (.cells #[.int .i64 x.id, .int .i64 x.kind, .int .i64 x.s, .int .i64 x.g, .int .i64 x.ch, .int .u64 x.wh, .bool x.nv, .int .u64 x.pd, .int .i64 n] 94))) := ⟨al_at _ rfl, lt_of_block (al_at (w := w) _ rfl)⟩
  have SZ := hid (show w.heap.size ≤ (World.drew (w.alloc (.cells #[.int .i64 x.id, .int .i64 x.kind, .int .i64 x.s, .int .i64 x.g, .int .i64 x.ch, .int .u64 x.wh, .bool x.nv, .int .u64 x.pd, .int .i64 n] 94))).heap.size from GV.out.size)
  have XL := hid (show d.ys.length < 4294967296 from by have := hl.xl; omega)
  have HB := hid hb
  have HNV := hid hnv
  have KA := hid (fun q e => h.lt q e)
  clear ho hp1 hp2 hp3 hmem hj hl h hm hx hb hL hnv
  go_enter Try.func47, Try.ntmps47
  go_wp2_with fail
  refine wp_region_held_drew (S := Sd w.heap.size x n) (by kernel_rfl) (by exact hS0) (fun _ => ?_)
  generalize World.drew (w.alloc (.cells #[.int .i64 x.id, .int .i64 x.kind, .int .i64 x.s, .int .i64 x.g, .int .i64 x.ch, .int .u64 x.wh, .bool x.nv, .int .u64 x.pd, .int .i64 n] 94)) = V0 at hS0 TW GV SZ ⊢
  refine takeS_on (i := 0) 4 (v := ?hv6) rfl rfl (by kernel_rfl) (by kernel_rfl) (by kernel_rfl) (fun _ _ _ h => h) (by kernel_rfl) ?hh6 (by exact hS0) ?_
  case hh6 => (intro w' hSw; go_simp; try (with_reducible rfl))
  simp only [Act.put, List.setIfInBounds_toArray, List.set_cons_zero, List.set_cons_succ]
  refine takeS_on (i := 1) 5 (v := ?hv7) rfl rfl (by kernel_rfl) (by kernel_rfl) (by kernel_rfl) (fun _ _ _ h => h) (by kernel_rfl) ?hh7 (by exact hS0) ?_
  case hh7 => (intro w' hSw; go_simp; try (with_reducible rfl))
  simp only [Act.put, List.setIfInBounds_toArray, List.set_cons_zero, List.set_cons_succ]
  refine takeS_on (i := 2) 6 (v := ?hv8) rfl rfl (by kernel_rfl) (by kernel_rfl) (by kernel_rfl) (fun _ _ _ h => h) (by kernel_rfl) ?hh8 (by exact hS0) ?_
  case hh8 => (intro w' hSw; have xb := cell_of hSw.bx; have x0 := xb 0; have x1 := xb 1; have x2 := xb 2; have x3 := xb 3; have x4 := xb 4; have x5 := xb 5; have x6 := xb 6; have x7 := xb 7; simp at x0 x1 x2 x3 x4 x5 x6 x7; clear xb; go_simp; try (with_reducible rfl))
  simp only [Act.put, List.setIfInBounds_toArray, List.set_cons_zero, List.set_cons_succ]
  refine takeS_on (i := 4) 8 (v := ?hv9) rfl rfl (by kernel_rfl) (by kernel_rfl) (by kernel_rfl) (fun _ _ _ h => h) (by kernel_rfl) ?hh9 (by exact hS0) ?_
  case hh9 => (intro w' hSw; go_simp; try (with_reducible rfl))
  simp only [Act.put, List.setIfInBounds_toArray, List.set_cons_zero, List.set_cons_succ]
  refine takeS_on (i := 5) 9 (v := ?hv10) rfl rfl (by kernel_rfl) (by kernel_rfl) (by kernel_rfl) (fun _ _ _ h => h) (by kernel_rfl) ?hh10 (by exact hS0) ?_
  case hh10 => (intro w' hSw; have x8 := cell_of hSw.bx 8; simp at x8; go_simp; try (with_reducible rfl))
  simp only [Act.put, List.setIfInBounds_toArray, List.set_cons_zero, List.set_cons_succ]
  refine wpAnyH_ready (rs := [3]) (by kernel_rfl) (by simp) (AllReadyH.cons rfl (fun K hK => ?_) AllReadyH.nil)
  go_simp
  refine (line_w TW.out x).mono ?_
  rintro e w5 ⟨e5, g5⟩
  rw [HNV.out, if_pos rfl] at e5
  subst e5
  have TW := hid (TW.out.gr g5)
  have GV := hid (GV.out.trans g5 (fun _ e => e.elim))
  have hS1 := hS0.gr g5
  have SZ := hid (Nat.le_trans SZ.out g5.size)
  clear g5
  refine hK.out _ _ (by exact hS1) (fun _ => ?_)
  clear hK K
  refine wpAnyH_ready (rs := [6]) (by kernel_rfl) (by simp) (AllReadyH.cons rfl (fun K hK => ?_) AllReadyH.nil)
  go_simp
  refine (Hp.drop_yes T2 d.bv d.ys d.vn j ⟨x.wh, n, x.id⟩ _ TW.out.h2 HJ.out (by have := XL.out; omega)).mono ?_
  rintro e w6 ⟨rfl, zs, hzs, hl6⟩
  obtain ⟨T2', tw6, c6, t6⟩ := TW.out.never hl6
  have HZ := hid hzs
  have TW6 := hid tw6
  have hS2 := hS1.ch c6 NB.out
  have GV6 := hid (GV.out.trans c6 (fun q e => .inl (.inr (.inr (.inl e)))))
  have TT := hid (fun q e => (t6 q e).imp id (fun y => Nat.le_trans SZ.out y))
  clear hzs tw6 c6 t6 hl6
  refine hK.out _ _ (by exact hS2) (fun _ => ?_)
  clear hK K
  refine wpAnyH_done (by kernel_rfl) ?_ _
  have LKF := LKK.out.fk HXX.out
  have FK := hid (show Fk { d with ys := zs, vn := d.vn } x from ⟨LKF.he, LKF.ids, LKF.gok, LKF.gnd, LKF.gk⟩)
  have HD := hid (fun W (k : Gr w6 W) => forget_w (TW6.out.gr k) x FK.out)
  clear LKF
  have xb := cell_of hS2.bx
  have x0 := xb 0; have x1 := xb 1; have x2 := xb 2; have x3 := xb 3; have x4 := xb 4; have x5 := xb 5; have x6 := xb 6; have x7 := xb 7
  simp at x0 x1 x2 x3 x4 x5 x6 x7
  have xl := hS2.kl
  clear xb
  go_wp2_with (go_at_call 55; refine (HD.out _ (Gr.refl _)).mono ?_; rintro e w8 ⟨rfl, t8, c8⟩; have TW8 := hid t8; have C8 := hid c8; clear t8 c8)
  go_end0
  have hlk : Lk { { d with ys := zs, vn := d.vn } with M := delM d.M x.id, G := offG d x } (L.filter (isId x.id)) := LKK.out.del ⟨n, HM.out, (fun e => by rw [HNV.out] at e; cases e), fun _ => ⟨HZ.out, rfl⟩⟩ (offG_perm LKK.out HXX.out)
  exact ⟨rfl, _, ⟨_, _, _, TW8.out, hlk, fun q => Iff.rfl, HB.out.1, HB.out.2⟩, GV6.out.trans C8.out (fun q e => TT.out q e), TT.out⟩
theorem disarm_any {T1 T2 : Nat → Prop} {w : World} {b : Nat} {last : Int} {d : Dt} {L : List Tk} {B : Int} (h : Tw T1 T2 w b last d) (hl : Lk d L) (hb : (0 ≤ d.dn ∧ d.dn ≤ B) ∧ 0 ≤ d.vn ∧ d.vn ≤ B) (x : Tk) (n : Int) (hx : x ∈ L) (hm : (⟨x, n⟩ : Tn) ∈ d.M.map (fun e => (e.t, e.n))) (hL : L.length < 4294967296) : Calls Try.prog 47 #[.pointer (some ⟨b, 0, none⟩), .agg #[.int .i64 x.id, .int .i64 x.kind, .int .i64 x.s, .int .i64 x.g, .int .i64 x.ch, .int .u64 x.wh, .bool x.nv, .int .u64 x.pd, .int .i64 n]] w fun e w' => e = .returned (.tuple #[]) ∧ TL (Ta b T1 T2 d) w w' b last (L.filter (isId x.id)) B := by
  by_cases hv : x.nv = true
  · exact disarm_never h hl hb x n hx hm hv hL
  · exact disarm_ever h hl hb x n hx hm (by simpa using hv) hL
end Go.Proofs.Ytgkapopkjgljjaa.Lt
