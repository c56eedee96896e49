/-
  What the program's takeFirst tells and leaves of timers. Condition: there is one that is due first.
-/
import Derived.Test.YtgkapopkjgljjaaTmOff
namespace Go.Proofs.Ytgkapopkjgljjaa.Lt
open Go.RowKit Wd
attribute [local go_sem ↓] Go.wp_at_zero Go.wp_at_succ
set_option maxRecDepth 20000

theorem first_node {xs : List Hp.W3} {P : List Tn} {x : Tn} (hp : Hp.HP xs) (h : xs.Perm ((x :: P).map nd)) (hs : SrtN (x :: P)) : xs[0]? = some (nd x) := by
  cases xs with
  | nil => have := h.length_eq; simp at this
  | cons y ys =>
    show some y = some (nd x)
    congr 1
    rcases List.mem_cons.1 (h.mem_iff.1 (List.mem_cons_self (a := y) (l := ys))) with e | e
    · exact e
    · obtain ⟨z, hz, rfl⟩ := List.mem_map.1 e
      have hl := (List.pairwise_cons.1 hs).1 z hz
      obtain ⟨i, hi⟩ := List.mem_iff_getElem?.1 (h.mem_iff.2 (List.mem_cons_self (a := nd x) (l := P.map nd)))
      have h1 := hp.root (x := nd z) rfl i (nd x) hi
      have h2 : Hp.lt (nd x) (nd z) = true := decide_eq_true hl
      rw [h2] at h1
      cases h1
theorem field_arm (t : Tk) (n : Int) : ∀ w : World, (Instr.field 94 (.agg #[.int .i64 t.id, .int .i64 t.kind, .int .i64 t.s, .int .i64 t.g, .int .i64 t.ch, .int .u64 t.wh, .bool t.nv, .int .u64 t.pd, .int .i64 n]) 0).run Try.prog w = .ok (.agg #[.int .i64 t.id, .int .i64 t.kind, .int .i64 t.s, .int .i64 t.g, .int .i64 t.ch, .int .u64 t.wh, .bool t.nv, .int .u64 t.pd]) w := fun w => by kernel_rfl
set_option maxHeartbeats 8000000 in
theorem takeFirst_any {T : Nat → Prop} {w : World} {b : Nat} {last : Int} {t : Tk} {r : List Tk} {B : Int} (h : Tm T w b last (t :: r) B) (ht : t.nv = false) (hL : (t :: r).length ≤ 4294967296) : Calls Try.prog 40 #[.pointer (some ⟨b, 0, none⟩)] w fun e w' => e = .returned (tV t) ∧ TL T w w' b last r B := by
  obtain ⟨T1, T2, d, h1, h2, h3, h4⟩ := h
  have eT : T = Ta b T1 T2 d := funext fun q => propext (h3 q)
  subst eT
  obtain ⟨P, Q, ho, hp1, hp2, hp3⟩ := h2.ex
  obtain ⟨n, P', rfl, ho'⟩ := ho.head ht
  have hx0 := first_node h1.h1.hp hp1 ho.sp
  have hmem : (⟨t, n⟩ : Tn) ∈ d.M.map (fun e => (e.t, e.n)) := hp3.mem_iff.2 (by simp)
  obtain ⟨e0, he0, hen⟩ := List.mem_map.1 hmem
  injection hen with hen1 hen2
  have hxl := h2.xl.1
  obtain ⟨W0, hW0⟩ : ∃ W, W = w.alloc (.cells #[.int .i64 0, .int .i64 0, .int .i64 0, .int .i64 0, .int .i64 0, .int .u64 0, .bool false, .int .u64 0] 46) := ⟨_, rfl⟩
  have g0 : Gr w W0 := by rw [hW0]; exact Ch.alloc (Gr.refl w) _
  have BX := hid (show W0.heap[w.heap.size]? = some (.cells #[.int .i64 0, .int .i64 0, .int .i64 0, .int .i64 0, .int .i64 0, .int .u64 0, .bool false, .int .u64 0] 46 (0, 0)) from by rw [hW0]; exact al_at _ rfl)
  have NB := hid (show ¬ T1 w.heap.size ∧ ¬ Ta b T1 T2 d w.heap.size from ⟨fun e => by have := h1.h1.tl _ e; omega, fun e => by have := h1.lt _ e; omega⟩)
  have TW0 := hid (h1.gr g0)
  have HPOP := hid (Hp.pop_some T1 d.bd d.xs d.dn ⟨t.wh, n, t.id⟩ W0 (h1.gr g0).h1 hx0 (by omega))
  have c1 := cell_of (h1.gr g0).hb 1
  simp at c1
  have bl0 := lt_of_block (h1.gr g0).hb
  have HME := hid hmem
  have LKK := hid h2
  have H4 := hid h4
  have HNV := hid ht
  have G0 := hid g0
  have HE0 := hid he0
  have HE1 := hid hen1
  have HE2 := hid hen2
  rw [hW0] at c1 bl0
  have HW0 := hid hW0
  clear h1 h2 h3 h4 ho hp1 hp2 hp3 hx0 hmem he0 hen1 hen2 hxl g0 ho' ht hL hW0
  go_enter Try.func40, Try.ntmps40
  go_wp2_with (first
    | (go_at_call 54; rw [← HW0.out]; refine HPOP.out.mono ?_; rintro e w1 ⟨rfl, zs, hzs, hl6⟩; obtain ⟨T1', tw6, c6, t6⟩ := TW0.out.due hl6; have HZ := hid hzs; have TW1 := hid tw6; have C1 := hid c6; have TT := hid t6; have BX1 := hid ((c6.block _ (lt_of_block BX.out) NB.out.1).trans BX.out); have c3 := cell_of tw6.hb 3; simp at c3; have bl1 := lt_of_block tw6.hb; have hE := look_some (k := d.mr) (M := d.M) (clock := d.mc) tw6.m LKK.out.ids HE0.out false; simp only [Bool.false_eq_true, if_false] at hE; unfold aV at hE; rw [HE1.out, HE2.out] at hE; have hF := field_arm t n; have LKF := LKK.out.fk (x := t) (by simp); have FK := hid (show Fk { d with xs := zs, dn := d.dn } t from ⟨LKF.he, LKF.ids, LKF.gok, LKF.gnd, LKF.gk⟩); have NT := hid (show ¬ Ta b T1' T2 { d with xs := zs, dn := d.dn } w.heap.size from fun e => (t6 _ e).elim NB.out.2 (fun x => by have := lt_of_block BX.out; omega)); clear LKF hzs hl6 tw6 c6 t6 c1 bl0)
    | (go_at_call 55; refine (forget_w (TW1.out.gr (Ch.alloc (Gr.refl w1) _)) t FK.out).mono ?_; rintro e w2 ⟨rfl, t8, c8⟩; have TW2 := hid t8; have C2 := hid c8; have B7 := hid ((c8.block _ (by simp) (fun e => by have := TW1.out.lt _ e; omega)).trans (al_at (w := w1) (.cells #[.int .i64 t.id, .int .i64 t.kind, .int .i64 t.s, .int .i64 t.g, .int .i64 t.ch, .int .u64 t.wh, .bool t.nv, .int .u64 t.pd] 46) rfl)); have B2 := hid ((c8.block _ (lt_of_block (al_blk BX1.out _)) NT.out).trans (al_blk BX1.out _)); clear t8 c8 c3 bl1 hE hF)
    | (refine wpList_load_row rfl 46 (.tmp 7) rfl w1.heap.size rfl _ _ _ _ B7.out Try.underlying46 rfl tmr_size ?_)
    | (refine st_row rfl 46 (.tmp 2) (.tmp 28) rfl w.heap.size _ rfl rfl _ _ B2.out tmr_size rfl (one_tmr _ _ _ _ _ _ _ _) ?_; intro w9 b9 k9; have M9 := hid b9; have K9 := hid k9; clear b9 k9))
  have hr : (t :: r).filter (isId t.id) = r := LKK.out.ui.head
  have hlk : Lk { { d with xs := zs, dn := d.dn } with M := delM d.M t.id, G := offG d t } r := by
    have h0 := LKK.out.del (x := t) (xs := zs) (ys := d.ys) (gc := d.gc) ⟨n, HME.out, fun _ => ⟨HZ.out, rfl⟩, fun e => by rw [HNV.out] at e; cases e⟩ (offG_perm LKK.out (by simp))
    rw [hr] at h0
    exact h0
  have c10 : Ch (Ta b T1 T2 d) w w9 := by
    have s1 : Ch (Ta b T1 T2 d) w W0 := G0.out.any
    have s2 := s1.trans C1.out (fun q e => .inl (.inr (.inl e)))
    have s3 := s2.trans (Ch.alloc (Gr.refl w1) (.cells #[.int .i64 t.id, .int .i64 t.kind, .int .i64 t.s, .int .i64 t.g, .int .i64 t.ch, .int .u64 t.wh, .bool t.nv, .int .u64 t.pd] 46)) (fun q e => e.elim)
    have s4 := s3.trans C2.out (fun q e => (TT.out q e).imp id (fun x => Nat.le_trans G0.out.size x))
    exact s4.trans K9.out (fun q e => .inr (by have e1 : q = w.heap.size := e; omega))
  refine bodyPost_ret (results_cell_row rfl _ _ w.heap.size _ _ _ _ rfl M9.out Try.underlying46 rfl tmr_size) rfl ⟨rfl, _, ⟨_, _, _, TW2.out.ch K9.out (fun q e e2 => ?_), hlk, fun q => Iff.rfl, H4.out⟩, c10, fun q e => (TT.out q e).imp id (fun x => Nat.le_trans G0.out.size x)⟩
  have e1 : q = w.heap.size := e2
  subst e1
  exact NT.out e
end Go.Proofs.Ytgkapopkjgljjaa.Lt
