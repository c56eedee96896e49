/-
  What the program's arm leaves of timers. Condition: the timers are there, and a thing that is armed is there no more.
-/
import Derived.Test.YtgkapopkjgljjaaTmForget
namespace Go.Proofs.Ytgkapopkjgljjaa.Lt
open Go.RowKit Wd
attribute [local go_sem ↓] Go.wp_at_zero Go.wp_at_succ
set_option maxRecDepth 20000

set_option maxHeartbeats 8000000 in
theorem arm_ever {T1 T2 : Nat → Prop} {w : World} {b : Nat} {last : Int} {d : Dt} {L : List Tk} {B : Int} (h : Tw T1 T2 w b last d) (hl : Lk d L) (hb : (0 ≤ d.dn ∧ d.dn ≤ B) ∧ 0 ≤ d.vn ∧ d.vn ≤ B) (x : Tk) (ok : Tok x) (hnv : x.nv = false) (hk : slp x = false) (hi : ∀ t ∈ L, t.id ≠ x.id) (hs : slp x = true → ∀ u ∈ L, slp u = true → gid u ≠ gid x) (hL : L.length < 4294967296) (hB : B < 4611686018427387904) : Calls Try.prog 38 #[.pointer (some ⟨b, 0, none⟩), .agg #[.int .i64 x.id, .int .i64 x.kind, .int .i64 x.s, .int .i64 x.g, .int .i64 x.ch, .int .u64 x.wh, .bool x.nv, .int .u64 x.pd]] w fun e w' => e = .returned (.tuple #[]) ∧ TL (Ta b T1 T2 d) w w' b last (putL L x) (B + 1) := by
  have hlt := h.lt
  have NB := hid (show ¬ T1 b ∧ ¬ T1 w.heap.size ∧ ¬ b = d.mr ∧ ¬ w.heap.size = d.mr ∧ ¬ b = d.ms ∧ ¬ w.heap.size = d.ms from ⟨h.b1, fun e => by have := h.h1.tl _ e; omega, h.br, by have := h.m.lt; omega, h.bs, by have := h.g.lt; omega⟩)
  have LKK := hid hl
  have GK := hid (show Gok x.s x.g from ⟨⟨ok.s0, ok.s1⟩, ok.g0, ok.g1⟩)
  have GV := hid (show Ch (Ta b T1 T2 d) w (World.drew (w.alloc (.cells #[.int .i64 x.id, .int .i64 x.kind, .int .i64 x.s, .int .i64 x.g, .int .i64 x.ch, .int .u64 x.wh, .bool x.nv, .int .u64 x.pd] 46))) from (Ch.alloc (Ch.refl _ w) _).drew)
  have TW := hid (h.gr (show Gr w (World.drew (w.alloc (.cells #[.int .i64 x.id, .int .i64 x.kind, .int .i64 x.s, .int .i64 x.g, .int .i64 x.ch, .int .u64 x.wh, .bool x.nv, .int .u64 x.pd] 46))) from (Ch.alloc (Gr.refl w) _).drew))
  have hS0 : Sa b w.heap.size last d x (World.drew (w.alloc (.cells #[.int .i64 x.id, .int .i64 x.kind, .int .i64 x.s, .int .i64 x.g, .int .i64 x.ch, .int .u64 x.wh, .bool x.nv, .int .u64 x.pd] 46))) := ⟨TW.out.hb, al_at _ rfl, lt_of_block TW.out.hb, lt_of_block (al_at (w := w) _ rfl)⟩
  have SZ := hid (show w.heap.size ≤ (World.drew (w.alloc (.cells #[.int .i64 x.id, .int .i64 x.kind, .int .i64 x.s, .int .i64 x.g, .int .i64 x.ch, .int .u64 x.wh, .bool x.nv, .int .u64 x.pd] 46))).heap.size from GV.out.size)
  have BD := hid (show 0 ≤ d.dn ∧ d.dn < 4611686018427387904 from by omega)
  have XL := hid (show d.xs.length < 4294967296 from by have := hl.xl; omega)
  have NO := hid (hl.no hi)
  have NX := hid (show ∀ y ∈ d.xs, y.n < d.dn from h.h1.lt)
  have HI := hid hi
  have HS := hid hs
  have OK := hid ok
  have HB := hid hb
  have NOG := hid (show (x.kind == 1) = true → NoG d.G x.s x.g from fun e => (hl.sl x.s x.g).1 (by
    unfold sleepsL
    refine List.any_eq_false.2 (fun u hu e2 => ?_)
    simp only [Bool.and_eq_true, beq_iff_eq] at e2
    exact hs e u hu (by simp [slp, e2.1]) (by simp [gid, e2.2.1, e2.2.2])))
  have hk1 : (x.kind == 1) = false := hk
  have HK := hid hk
  have HNV := hid hnv
  clear hlt hl ok h hi hs hb hL hB hk hnv
  · go_enter Try.func38, Try.ntmps38
    go_wp2_with fail
    refine wp_region_held_drew (S := Sa b w.heap.size last d x) (by kernel_rfl) (by exact hS0) (fun _ => ?_)
    generalize World.drew (w.alloc (.cells #[.int .i64 x.id, .int .i64 x.kind, .int .i64 x.s, .int .i64 x.g, .int .i64 x.ch, .int .u64 x.wh, .bool x.nv, .int .u64 x.pd] 46)) = V0 at hS0 TW GV SZ ⊢
    refine takeS_on (i := 0) 4 (v := ?hv19) rfl rfl (by kernel_rfl) (by kernel_rfl) (by kernel_rfl) (fun _ _ _ h => h) (by kernel_rfl) ?hh19 (by exact hS0) ?_
    case hh19 => (intro w' hSw; go_simp; try (with_reducible rfl))
    simp only [Act.put, List.setIfInBounds_toArray, List.set_cons_zero, List.set_cons_succ]
    refine takeS_on (i := 1) 5 (v := ?hv20) rfl rfl (by kernel_rfl) (by kernel_rfl) (by kernel_rfl) (fun _ _ _ h => h) (by kernel_rfl) ?hh20 (by exact hS0) ?_
    case hh20 => (intro w' hSw; go_simp; try (with_reducible rfl))
    simp only [Act.put, List.setIfInBounds_toArray, List.set_cons_zero, List.set_cons_succ]
    refine takeS_on (i := 2) 6 (v := ?hv21) rfl rfl (by kernel_rfl) (by kernel_rfl) (by kernel_rfl) (fun _ _ _ h => h) (by kernel_rfl) ?hh21 (by exact hS0) ?_
    case hh21 => (intro w' hSw; go_simp; try (with_reducible rfl))
    simp only [Act.put, List.setIfInBounds_toArray, List.set_cons_zero, List.set_cons_succ]
    refine takeS_on (i := 3) 7 (v := ?hv22) rfl rfl (by kernel_rfl) (by kernel_rfl) (by kernel_rfl) (fun _ _ _ h => h) (by kernel_rfl) ?hh22 (by exact hS0) ?_
    case hh22 => (intro w' hSw; have c3 := cell_of hSw.me 3; simp at c3; go_simp; try (with_reducible rfl))
    simp only [Act.put, List.setIfInBounds_toArray, List.set_cons_zero, List.set_cons_succ]
    refine takeS_on (i := 4) 8 (v := ?hv23) rfl rfl (by kernel_rfl) (by kernel_rfl) (by kernel_rfl) (fun _ _ _ h => h) (by kernel_rfl) ?hh23 (by exact hS0) ?_
    case hh23 => (intro w' hSw; go_simp; try (with_reducible rfl))
    simp only [Act.put, List.setIfInBounds_toArray, List.set_cons_zero, List.set_cons_succ]
    refine takeS_on (i := 5) 9 (v := ?hv24) rfl rfl (by kernel_rfl) (by kernel_rfl) (by kernel_rfl) (fun _ _ _ h => h) (by kernel_rfl) ?hh24 (by exact hS0) ?_
    case hh24 => (intro w' hSw; have x0 := cell_of hSw.bx 0; simp at x0; go_simp; try (with_reducible rfl))
    simp only [Act.put, List.setIfInBounds_toArray, List.set_cons_zero, List.set_cons_succ]
    refine takeS_on (i := 6) 10 (v := ?hv25) rfl rfl (by kernel_rfl) (by kernel_rfl) (by kernel_rfl) (fun _ _ _ h => h) (by kernel_rfl) ?hh25 (by exact hS0) ?_
    case hh25 => (intro w' hSw; refine Eq.trans (exec_row 46 (.tmp 3) rfl _ rfl _ _ _ _ hSw.bx Try.underlying46 rfl tmr_size) ?_; go_simp; try (with_reducible rfl))
    simp only [Act.put, List.setIfInBounds_toArray, List.set_cons_zero, List.set_cons_succ]
    refine takeS_on (i := 7) 11 (v := ?hv26) rfl rfl (by kernel_rfl) (by kernel_rfl) (by kernel_rfl) (fun _ _ _ h => h) (by kernel_rfl) ?hh26 (by exact hS0) ?_
    case hh26 => (intro w' hSw; go_simp; try (with_reducible rfl))
    simp only [Act.put, List.setIfInBounds_toArray, List.set_cons_zero, List.set_cons_succ]
    refine takeS_on (i := 8) 12 (v := ?hv27) rfl rfl (by kernel_rfl) (by kernel_rfl) (by kernel_rfl) (fun _ _ _ h => h) (by kernel_rfl) ?hh27 (by exact hS0) ?_
    case hh27 => (intro w' hSw; refine Eq.trans (exec_row 46 (.tmp 3) rfl _ rfl _ _ _ _ hSw.bx Try.underlying46 rfl tmr_size) ?_; go_simp; try (with_reducible rfl))
    simp only [Act.put, List.setIfInBounds_toArray, List.set_cons_zero, List.set_cons_succ]
    refine takeS_on (i := 10) 14 (v := ?hv28) rfl rfl (by kernel_rfl) (by kernel_rfl) (by kernel_rfl) (fun _ _ _ h => h) (by kernel_rfl) ?hh28 (by exact hS0) ?_
    case hh28 => (intro w' hSw; go_simp; try (with_reducible rfl))
    simp only [Act.put, List.setIfInBounds_toArray, List.set_cons_zero, List.set_cons_succ]
    refine takeS_on (i := 11) 15 (v := ?hv29) rfl rfl (by kernel_rfl) (by kernel_rfl) (by kernel_rfl) (fun _ _ _ h => h) (by kernel_rfl) ?hh29 (by exact hS0) ?_
    case hh29 => (intro w' hSw; have x5 := cell_of hSw.bx 5; simp at x5; go_simp; try (with_reducible rfl))
    simp only [Act.put, List.setIfInBounds_toArray, List.set_cons_zero, List.set_cons_succ]
    refine takeS_on (i := 12) 16 (v := ?hv30) rfl rfl (by kernel_rfl) (by kernel_rfl) (by kernel_rfl) (fun _ _ _ h => h) (by kernel_rfl) ?hh30 (by exact hS0) ?_
    case hh30 => (intro w' hSw; go_simp; try (with_reducible rfl))
    simp only [Act.put, List.setIfInBounds_toArray, List.set_cons_zero, List.set_cons_succ]
    refine takeS_on (i := 13) 17 (v := ?hv31) rfl rfl (by kernel_rfl) (by kernel_rfl) (by kernel_rfl) (fun _ _ _ h => h) (by kernel_rfl) ?hh31 (by exact hS0) ?_
    case hh31 => (intro w' hSw; have x0 := cell_of hSw.bx 0; simp at x0; go_simp; try (with_reducible rfl))
    simp only [Act.put, List.setIfInBounds_toArray, List.set_cons_zero, List.set_cons_succ]
    refine wpAnyH_ready (rs := [9]) (by kernel_rfl) (by simp) (AllReadyH.cons rfl (fun K hK => ?_) AllReadyH.nil)
    go_simp
    refine (line_w TW.out x).mono ?_
    rintro e w5 ⟨e5, g5⟩
    rw [HNV.out, if_neg Bool.false_ne_true] at e5
    subst e5
    have TW := hid (TW.out.gr g5)
    have GV := hid (GV.out.trans g5 (fun _ e => e.elim))
    have hS1 := hS0.gr g5
    have SZ := hid (Nat.le_trans SZ.out g5.size)
    clear g5
    refine hK.out _ _ (by exact hS1) (fun _ => ?_)
    clear hK K
    refine wpAnyH_ready (rs := [14]) (by kernel_rfl) (by simp) (AllReadyH.cons rfl (fun K hK => ?_) AllReadyH.nil)
    go_simp
    refine (Hp.push_any T1 d.bd d.xs d.dn x.wh x.id _ TW.out.h1 BD.out.1 BD.out.2 (by have := XL.out; omega)).mono ?_
    rintro e w6 ⟨rfl, zs, hzs, hl6⟩
    obtain ⟨T1', tw6, c6, t6⟩ := TW.out.due hl6
    have HZ := hid hzs
    have TW6 := hid tw6
    have hS2 := hS1.ch c6 NB.out.1 NB.out.2.1
    have GV6 := hid (GV.out.trans c6 (fun q e => .inl (.inr (.inl e))))
    have TT := hid (fun q e => (t6 q e).imp id (fun y => Nat.le_trans SZ.out y))
    clear hzs tw6 c6 t6 hl6
    refine hK.out _ _ (by exact hS2) (fun _ => ?_)
    clear hK K
    refine takeS_on (i := 15) 19 (v := .agg #[.int .i64 x.id, .int .i64 x.kind, .int .i64 x.s, .int .i64 x.g, .int .i64 x.ch, .int .u64 x.wh, .bool x.nv, .int .u64 x.pd, .int .i64 d.dn]) rfl rfl (by kernel_rfl) (by kernel_rfl) (by kernel_rfl) (fun _ _ _ h => h) (by kernel_rfl) ?hh32 (by exact hS2) ?_
    case hh32 => (intro w' hSw; go_simp; try (with_reducible rfl))
    simp only [Act.put, List.setIfInBounds_toArray, List.set_cons_zero, List.set_cons_succ]
    refine wpAnyH_ready (rs := [16]) (by kernel_rfl) (by simp) (AllReadyH.cons rfl (fun K hK => ?_) AllReadyH.nil)
    have hE := update_new (k := d.mr) (M := d.M) (clock := d.mc) TW6.out.m NO.out d.dn
    unfold aV at hE
    go_simp
    clear hE
    have TW := hid (TW6.out.setM (d.M ++ [⟨x, d.dn, d.mc⟩]) (d.mc + 1))
    have G7 := hid (GV6.out.trans (putM_ch w6 d.mr (d.M ++ [⟨x, d.dn, d.mc⟩]) (d.mc + 1)) (fun q e => .inl (.inr (.inr (.inr (.inl e))))))
    have hS3 := hS2.ch (putM_ch w6 d.mr (d.M ++ [⟨x, d.dn, d.mc⟩]) (d.mc + 1)) (fun e => NB.out.2.2.1 e) (fun e => NB.out.2.2.2.1 e)
    generalize putM w6 d.mr (d.M ++ [⟨x, d.dn, d.mc⟩]) (d.mc + 1) = V7 at hS3 TW G7 ⊢
    refine hK.out _ _ (by exact hS3) (fun _ => ?_)
    clear hK K
    refine wpAnyH_done (by kernel_rfl) ?_ _
    have x1 := cell_of hS3.bx 1
    have xl := lt_of_block hS3.bx
    simp at x1
    go_wp2_with fail
    go_end0
    exact ⟨rfl, _, ⟨_, _, _, TW.out, LKK.out.put HNV.out NX.out HI.out OK.out HZ.out (by rw [List.filter_cons_of_neg (by rw [HK.out]; simp)]; exact LKK.out.gs) HS.out, fun q => Iff.rfl, ⟨by show 0 ≤ d.dn + 1; have := HB.out; omega, by show d.dn + 1 ≤ B + 1; have := HB.out; omega⟩, by show 0 ≤ d.vn; have := HB.out; omega, by show d.vn ≤ B + 1; have := HB.out; omega⟩, G7.out, TT.out⟩
set_option maxHeartbeats 8000000 in
theorem arm_everS {T1 T2 : Nat → Prop} {w : World} {b : Nat} {last : Int} {d : Dt} {L : List Tk} {B : Int} (h : Tw T1 T2 w b last d) (hl : Lk d L) (hb : (0 ≤ d.dn ∧ d.dn ≤ B) ∧ 0 ≤ d.vn ∧ d.vn ≤ B) (x : Tk) (ok : Tok x) (hnv : x.nv = false) (hk : slp x = true) (hi : ∀ t ∈ L, t.id ≠ x.id) (hs : slp x = true → ∀ u ∈ L, slp u = true → gid u ≠ gid x) (hL : L.length < 4294967296) (hB : B < 4611686018427387904) : Calls Try.prog 38 #[.pointer (some ⟨b, 0, none⟩), .agg #[.int .i64 x.id, .int .i64 x.kind, .int .i64 x.s, .int .i64 x.g, .int .i64 x.ch, .int .u64 x.wh, .bool x.nv, .int .u64 x.pd]] w fun e w' => e = .returned (.tuple #[]) ∧ TL (Ta b T1 T2 d) w w' b last (putL L x) (B + 1) := by
  have hlt := h.lt
  have NB := hid (show ¬ T1 b ∧ ¬ T1 w.heap.size ∧ ¬ b = d.mr ∧ ¬ w.heap.size = d.mr ∧ ¬ b = d.ms ∧ ¬ w.heap.size = d.ms from ⟨h.b1, fun e => by have := h.h1.tl _ e; omega, h.br, by have := h.m.lt; omega, h.bs, by have := h.g.lt; omega⟩)
  have LKK := hid hl
  have GK := hid (show Gok x.s x.g from ⟨⟨ok.s0, ok.s1⟩, ok.g0, ok.g1⟩)
  have GV := hid (show Ch (Ta b T1 T2 d) w (World.drew (w.alloc (.cells #[.int .i64 x.id, .int .i64 x.kind, .int .i64 x.s, .int .i64 x.g, .int .i64 x.ch, .int .u64 x.wh, .bool x.nv, .int .u64 x.pd] 46))) from (Ch.alloc (Ch.refl _ w) _).drew)
  have TW := hid (h.gr (show Gr w (World.drew (w.alloc (.cells #[.int .i64 x.id, .int .i64 x.kind, .int .i64 x.s, .int .i64 x.g, .int .i64 x.ch, .int .u64 x.wh, .bool x.nv, .int .u64 x.pd] 46))) from (Ch.alloc (Gr.refl w) _).drew))
  have hS0 : Sa b w.heap.size last d x (World.drew (w.alloc (.cells #[.int .i64 x.id, .int .i64 x.kind, .int .i64 x.s, .int .i64 x.g, .int .i64 x.ch, .int .u64 x.wh, .bool x.nv, .int .u64 x.pd] 46))) := ⟨TW.out.hb, al_at _ rfl, lt_of_block TW.out.hb, lt_of_block (al_at (w := w) _ rfl)⟩
  have SZ := hid (show w.heap.size ≤ (World.drew (w.alloc (.cells #[.int .i64 x.id, .int .i64 x.kind, .int .i64 x.s, .int .i64 x.g, .int .i64 x.ch, .int .u64 x.wh, .bool x.nv, .int .u64 x.pd] 46))).heap.size from GV.out.size)
  have BD := hid (show 0 ≤ d.dn ∧ d.dn < 4611686018427387904 from by omega)
  have XL := hid (show d.xs.length < 4294967296 from by have := hl.xl; omega)
  have NO := hid (hl.no hi)
  have NX := hid (show ∀ y ∈ d.xs, y.n < d.dn from h.h1.lt)
  have HI := hid hi
  have HS := hid hs
  have OK := hid ok
  have HB := hid hb
  have NOG := hid (show (x.kind == 1) = true → NoG d.G x.s x.g from fun e => (hl.sl x.s x.g).1 (by
    unfold sleepsL
    refine List.any_eq_false.2 (fun u hu e2 => ?_)
    simp only [Bool.and_eq_true, beq_iff_eq] at e2
    exact hs e u hu (by simp [slp, e2.1]) (by simp [gid, e2.2.1, e2.2.2])))
  have hk1 : (x.kind == 1) = true := hk
  have HK := hid hk
  have HNV := hid hnv
  clear hlt hl ok h hi hs hb hL hB hk hnv
  · go_enter Try.func38, Try.ntmps38
    go_wp2_with fail
    refine wp_region_held_drew (S := Sa b w.heap.size last d x) (by kernel_rfl) (by exact hS0) (fun _ => ?_)
    generalize World.drew (w.alloc (.cells #[.int .i64 x.id, .int .i64 x.kind, .int .i64 x.s, .int .i64 x.g, .int .i64 x.ch, .int .u64 x.wh, .bool x.nv, .int .u64 x.pd] 46)) = V0 at hS0 TW GV SZ ⊢
    refine takeS_on (i := 0) 4 (v := ?hv40) rfl rfl (by kernel_rfl) (by kernel_rfl) (by kernel_rfl) (fun _ _ _ h => h) (by kernel_rfl) ?hh40 (by exact hS0) ?_
    case hh40 => (intro w' hSw; go_simp; try (with_reducible rfl))
    simp only [Act.put, List.setIfInBounds_toArray, List.set_cons_zero, List.set_cons_succ]
    refine takeS_on (i := 1) 5 (v := ?hv41) rfl rfl (by kernel_rfl) (by kernel_rfl) (by kernel_rfl) (fun _ _ _ h => h) (by kernel_rfl) ?hh41 (by exact hS0) ?_
    case hh41 => (intro w' hSw; go_simp; try (with_reducible rfl))
    simp only [Act.put, List.setIfInBounds_toArray, List.set_cons_zero, List.set_cons_succ]
    refine takeS_on (i := 2) 6 (v := ?hv42) rfl rfl (by kernel_rfl) (by kernel_rfl) (by kernel_rfl) (fun _ _ _ h => h) (by kernel_rfl) ?hh42 (by exact hS0) ?_
    case hh42 => (intro w' hSw; go_simp; try (with_reducible rfl))
    simp only [Act.put, List.setIfInBounds_toArray, List.set_cons_zero, List.set_cons_succ]
    refine takeS_on (i := 3) 7 (v := ?hv43) rfl rfl (by kernel_rfl) (by kernel_rfl) (by kernel_rfl) (fun _ _ _ h => h) (by kernel_rfl) ?hh43 (by exact hS0) ?_
    case hh43 => (intro w' hSw; have c3 := cell_of hSw.me 3; simp at c3; go_simp; try (with_reducible rfl))
    simp only [Act.put, List.setIfInBounds_toArray, List.set_cons_zero, List.set_cons_succ]
    refine takeS_on (i := 4) 8 (v := ?hv44) rfl rfl (by kernel_rfl) (by kernel_rfl) (by kernel_rfl) (fun _ _ _ h => h) (by kernel_rfl) ?hh44 (by exact hS0) ?_
    case hh44 => (intro w' hSw; go_simp; try (with_reducible rfl))
    simp only [Act.put, List.setIfInBounds_toArray, List.set_cons_zero, List.set_cons_succ]
    refine takeS_on (i := 5) 9 (v := ?hv45) rfl rfl (by kernel_rfl) (by kernel_rfl) (by kernel_rfl) (fun _ _ _ h => h) (by kernel_rfl) ?hh45 (by exact hS0) ?_
    case hh45 => (intro w' hSw; have x0 := cell_of hSw.bx 0; simp at x0; go_simp; try (with_reducible rfl))
    simp only [Act.put, List.setIfInBounds_toArray, List.set_cons_zero, List.set_cons_succ]
    refine takeS_on (i := 6) 10 (v := ?hv46) rfl rfl (by kernel_rfl) (by kernel_rfl) (by kernel_rfl) (fun _ _ _ h => h) (by kernel_rfl) ?hh46 (by exact hS0) ?_
    case hh46 => (intro w' hSw; refine Eq.trans (exec_row 46 (.tmp 3) rfl _ rfl _ _ _ _ hSw.bx Try.underlying46 rfl tmr_size) ?_; go_simp; try (with_reducible rfl))
    simp only [Act.put, List.setIfInBounds_toArray, List.set_cons_zero, List.set_cons_succ]
    refine takeS_on (i := 7) 11 (v := ?hv47) rfl rfl (by kernel_rfl) (by kernel_rfl) (by kernel_rfl) (fun _ _ _ h => h) (by kernel_rfl) ?hh47 (by exact hS0) ?_
    case hh47 => (intro w' hSw; go_simp; try (with_reducible rfl))
    simp only [Act.put, List.setIfInBounds_toArray, List.set_cons_zero, List.set_cons_succ]
    refine takeS_on (i := 8) 12 (v := ?hv48) rfl rfl (by kernel_rfl) (by kernel_rfl) (by kernel_rfl) (fun _ _ _ h => h) (by kernel_rfl) ?hh48 (by exact hS0) ?_
    case hh48 => (intro w' hSw; refine Eq.trans (exec_row 46 (.tmp 3) rfl _ rfl _ _ _ _ hSw.bx Try.underlying46 rfl tmr_size) ?_; go_simp; try (with_reducible rfl))
    simp only [Act.put, List.setIfInBounds_toArray, List.set_cons_zero, List.set_cons_succ]
    refine takeS_on (i := 10) 14 (v := ?hv49) rfl rfl (by kernel_rfl) (by kernel_rfl) (by kernel_rfl) (fun _ _ _ h => h) (by kernel_rfl) ?hh49 (by exact hS0) ?_
    case hh49 => (intro w' hSw; go_simp; try (with_reducible rfl))
    simp only [Act.put, List.setIfInBounds_toArray, List.set_cons_zero, List.set_cons_succ]
    refine takeS_on (i := 11) 15 (v := ?hv50) rfl rfl (by kernel_rfl) (by kernel_rfl) (by kernel_rfl) (fun _ _ _ h => h) (by kernel_rfl) ?hh50 (by exact hS0) ?_
    case hh50 => (intro w' hSw; have x5 := cell_of hSw.bx 5; simp at x5; go_simp; try (with_reducible rfl))
    simp only [Act.put, List.setIfInBounds_toArray, List.set_cons_zero, List.set_cons_succ]
    refine takeS_on (i := 12) 16 (v := ?hv51) rfl rfl (by kernel_rfl) (by kernel_rfl) (by kernel_rfl) (fun _ _ _ h => h) (by kernel_rfl) ?hh51 (by exact hS0) ?_
    case hh51 => (intro w' hSw; go_simp; try (with_reducible rfl))
    simp only [Act.put, List.setIfInBounds_toArray, List.set_cons_zero, List.set_cons_succ]
    refine takeS_on (i := 13) 17 (v := ?hv52) rfl rfl (by kernel_rfl) (by kernel_rfl) (by kernel_rfl) (fun _ _ _ h => h) (by kernel_rfl) ?hh52 (by exact hS0) ?_
    case hh52 => (intro w' hSw; have x0 := cell_of hSw.bx 0; simp at x0; go_simp; try (with_reducible rfl))
    simp only [Act.put, List.setIfInBounds_toArray, List.set_cons_zero, List.set_cons_succ]
    refine wpAnyH_ready (rs := [9]) (by kernel_rfl) (by simp) (AllReadyH.cons rfl (fun K hK => ?_) AllReadyH.nil)
    go_simp
    refine (line_w TW.out x).mono ?_
    rintro e w5 ⟨e5, g5⟩
    rw [HNV.out, if_neg Bool.false_ne_true] at e5
    subst e5
    have TW := hid (TW.out.gr g5)
    have GV := hid (GV.out.trans g5 (fun _ e => e.elim))
    have hS1 := hS0.gr g5
    have SZ := hid (Nat.le_trans SZ.out g5.size)
    clear g5
    refine hK.out _ _ (by exact hS1) (fun _ => ?_)
    clear hK K
    refine wpAnyH_ready (rs := [14]) (by kernel_rfl) (by simp) (AllReadyH.cons rfl (fun K hK => ?_) AllReadyH.nil)
    go_simp
    refine (Hp.push_any T1 d.bd d.xs d.dn x.wh x.id _ TW.out.h1 BD.out.1 BD.out.2 (by have := XL.out; omega)).mono ?_
    rintro e w6 ⟨rfl, zs, hzs, hl6⟩
    obtain ⟨T1', tw6, c6, t6⟩ := TW.out.due hl6
    have HZ := hid hzs
    have TW6 := hid tw6
    have hS2 := hS1.ch c6 NB.out.1 NB.out.2.1
    have GV6 := hid (GV.out.trans c6 (fun q e => .inl (.inr (.inl e))))
    have TT := hid (fun q e => (t6 q e).imp id (fun y => Nat.le_trans SZ.out y))
    clear hzs tw6 c6 t6 hl6
    refine hK.out _ _ (by exact hS2) (fun _ => ?_)
    clear hK K
    refine takeS_on (i := 15) 19 (v := .agg #[.int .i64 x.id, .int .i64 x.kind, .int .i64 x.s, .int .i64 x.g, .int .i64 x.ch, .int .u64 x.wh, .bool x.nv, .int .u64 x.pd, .int .i64 d.dn]) rfl rfl (by kernel_rfl) (by kernel_rfl) (by kernel_rfl) (fun _ _ _ h => h) (by kernel_rfl) ?hh53 (by exact hS2) ?_
    case hh53 => (intro w' hSw; go_simp; try (with_reducible rfl))
    simp only [Act.put, List.setIfInBounds_toArray, List.set_cons_zero, List.set_cons_succ]
    refine wpAnyH_ready (rs := [16]) (by kernel_rfl) (by simp) (AllReadyH.cons rfl (fun K hK => ?_) AllReadyH.nil)
    have hE := update_new (k := d.mr) (M := d.M) (clock := d.mc) TW6.out.m NO.out d.dn
    unfold aV at hE
    go_simp
    clear hE
    have TW := hid (TW6.out.setM (d.M ++ [⟨x, d.dn, d.mc⟩]) (d.mc + 1))
    have G7 := hid (GV6.out.trans (putM_ch w6 d.mr (d.M ++ [⟨x, d.dn, d.mc⟩]) (d.mc + 1)) (fun q e => .inl (.inr (.inr (.inr (.inl e))))))
    have hS3 := hS2.ch (putM_ch w6 d.mr (d.M ++ [⟨x, d.dn, d.mc⟩]) (d.mc + 1)) (fun e => NB.out.2.2.1 e) (fun e => NB.out.2.2.2.1 e)
    generalize putM w6 d.mr (d.M ++ [⟨x, d.dn, d.mc⟩]) (d.mc + 1) = V7 at hS3 TW G7 ⊢
    refine hK.out _ _ (by exact hS3) (fun _ => ?_)
    clear hK K
    refine wpAnyH_done (by kernel_rfl) ?_ _
    have x1 := cell_of hS3.bx 1
    have xl := lt_of_block hS3.bx
    simp at x1
    go_wp2_with fail
    replace hS3 := hS3.gr (Ch.drew (Gr.refl V7))
    have G7 := hid (G7.out.drew)
    have TW := hid (TW.out.gr (Ch.drew (Gr.refl V7)))
    refine wp_region_held_drew (S := Sa b w.heap.size last d x) (by kernel_rfl) (by exact hS3) (fun _ => ?_)
    generalize World.drew V7 = V8 at hS3 TW G7 ⊢
    refine takeS_on (i := 0) 23 (v := ?hv54) rfl rfl (by kernel_rfl) (by kernel_rfl) (by kernel_rfl) (fun _ _ _ h => h) (by kernel_rfl) ?hh54 (by exact hS3) ?_
    case hh54 => (intro w' hSw; go_simp; try (with_reducible rfl))
    simp only [Act.put, List.setIfInBounds_toArray, List.set_cons_zero, List.set_cons_succ]
    refine takeS_on (i := 1) 24 (v := ?hv55) rfl rfl (by kernel_rfl) (by kernel_rfl) (by kernel_rfl) (fun _ _ _ h => h) (by kernel_rfl) ?hh55 (by exact hS3) ?_
    case hh55 => (intro w' hSw; go_simp; try (with_reducible rfl))
    simp only [Act.put, List.setIfInBounds_toArray, List.set_cons_zero, List.set_cons_succ]
    refine takeS_on (i := 2) 25 (v := ?hv56) rfl rfl (by kernel_rfl) (by kernel_rfl) (by kernel_rfl) (fun _ _ _ h => h) (by kernel_rfl) ?hh56 (by exact hS3) ?_
    case hh56 => (intro w' hSw; go_simp; try (with_reducible rfl))
    simp only [Act.put, List.setIfInBounds_toArray, List.set_cons_zero, List.set_cons_succ]
    refine takeS_on (i := 3) 26 (v := ?hv57) rfl rfl (by kernel_rfl) (by kernel_rfl) (by kernel_rfl) (fun _ _ _ h => h) (by kernel_rfl) ?hh57 (by exact hS3) ?_
    case hh57 => (intro w' hSw; have c4 := cell_of hSw.me 4; simp at c4; go_simp; try (with_reducible rfl))
    simp only [Act.put, List.setIfInBounds_toArray, List.set_cons_zero, List.set_cons_succ]
    refine takeS_on (i := 4) 27 (v := ?hv58) rfl rfl (by kernel_rfl) (by kernel_rfl) (by kernel_rfl) (fun _ _ _ h => h) (by kernel_rfl) ?hh58 (by exact hS3) ?_
    case hh58 => (intro w' hSw; go_simp; try (with_reducible rfl))
    simp only [Act.put, List.setIfInBounds_toArray, List.set_cons_zero, List.set_cons_succ]
    refine takeS_on (i := 5) 28 (v := ?hv59) rfl rfl (by kernel_rfl) (by kernel_rfl) (by kernel_rfl) (fun _ _ _ h => h) (by kernel_rfl) ?hh59 (by exact hS3) ?_
    case hh59 => (intro w' hSw; have x2 := cell_of hSw.bx 2; have x3 := cell_of hSw.bx 3; simp at x2 x3; go_simp; try (with_reducible rfl))
    simp only [Act.put, List.setIfInBounds_toArray, List.set_cons_zero, List.set_cons_succ]
    refine takeS_on (i := 6) 29 (v := .agg #[]) rfl rfl (by kernel_rfl) (by kernel_rfl) (by kernel_rfl) (fun _ _ _ h => h) (by kernel_rfl) ?hh60 (by exact hS3) ?_
    case hh60 => (intro w' hSw; go_simp; try (with_reducible rfl))
    simp only [Act.put, List.setIfInBounds_toArray, List.set_cons_zero, List.set_cons_succ]
    refine wpAnyH_ready (rs := [7]) (by kernel_rfl) (by simp) (AllReadyH.cons rfl (fun K hK => ?_) AllReadyH.nil)
    have hE := updG_new (k := d.ms) (M := d.G) (clock := d.gc) TW.out.g LKK.out.gok GK.out (NOG.out hk1)
    unfold kG at hE
    go_simp
    clear hE
    have TW := hid (TW.out.setG (d.G ++ [⟨x.s, x.g, d.gc⟩]) (d.gc + 1))
    have G8 := hid (G7.out.trans (putG_ch V8 d.ms (d.G ++ [⟨x.s, x.g, d.gc⟩]) (d.gc + 1)) (fun q e => .inl (.inr (.inr (.inr (.inr e))))))
    have hS4 := hS3.ch (putG_ch V8 d.ms (d.G ++ [⟨x.s, x.g, d.gc⟩]) (d.gc + 1)) (fun e => NB.out.2.2.2.2.1 e) (fun e => NB.out.2.2.2.2.2 e)
    generalize putG V8 d.ms (d.G ++ [⟨x.s, x.g, d.gc⟩]) (d.gc + 1) = V9 at hS4 TW G8 ⊢
    refine hK.out _ _ (by exact hS4) (fun _ => ?_)
    clear hK K
    refine wpAnyH_done (by kernel_rfl) ?_ _
    go_wp2_with fail
    go_end0
    exact ⟨rfl, _, ⟨_, _, _, TW.out, LKK.out.put HNV.out NX.out HI.out OK.out HZ.out (by rw [List.filter_cons_of_pos HK.out, List.map_append]; exact List.perm_append_comm.trans (LKK.out.gs.cons (gid x))) HS.out, fun q => Iff.rfl, ⟨by show 0 ≤ d.dn + 1; have := HB.out; omega, by show d.dn + 1 ≤ B + 1; have := HB.out; omega⟩, by show 0 ≤ d.vn; have := HB.out; omega, by show d.vn ≤ B + 1; have := HB.out; omega⟩, G8.out, TT.out⟩
set_option maxHeartbeats 8000000 in
theorem arm_never {T1 T2 : Nat → Prop} {w : World} {b : Nat} {last : Int} {d : Dt} {L : List Tk} {B : Int} (h : Tw T1 T2 w b last d) (hl : Lk d L) (hb : (0 ≤ d.dn ∧ d.dn ≤ B) ∧ 0 ≤ d.vn ∧ d.vn ≤ B) (x : Tk) (ok : Tok x) (hnv : x.nv = true) (hk : slp x = false) (hi : ∀ t ∈ L, t.id ≠ x.id) (hs : slp x = true → ∀ u ∈ L, slp u = true → gid u ≠ gid x) (hL : L.length < 4294967296) (hB : B < 4611686018427387904) : Calls Try.prog 38 #[.pointer (some ⟨b, 0, none⟩), .agg #[.int .i64 x.id, .int .i64 x.kind, .int .i64 x.s, .int .i64 x.g, .int .i64 x.ch, .int .u64 x.wh, .bool x.nv, .int .u64 x.pd]] w fun e w' => e = .returned (.tuple #[]) ∧ TL (Ta b T1 T2 d) w w' b last (putL L x) (B + 1) := by
  have hlt := h.lt
  have NB := hid (show ¬ T2 b ∧ ¬ T2 w.heap.size ∧ ¬ b = d.mr ∧ ¬ w.heap.size = d.mr ∧ ¬ b = d.ms ∧ ¬ w.heap.size = d.ms from ⟨h.b2, fun e => by have := h.h2.tl _ e; omega, h.br, by have := h.m.lt; omega, h.bs, by have := h.g.lt; omega⟩)
  have LKK := hid hl
  have GK := hid (show Gok x.s x.g from ⟨⟨ok.s0, ok.s1⟩, ok.g0, ok.g1⟩)
  have GV := hid (show Ch (Ta b T1 T2 d) w (World.drew (w.alloc (.cells #[.int .i64 x.id, .int .i64 x.kind, .int .i64 x.s, .int .i64 x.g, .int .i64 x.ch, .int .u64 x.wh, .bool x.nv, .int .u64 x.pd] 46))) from (Ch.alloc (Ch.refl _ w) _).drew)
  have TW := hid (h.gr (show Gr w (World.drew (w.alloc (.cells #[.int .i64 x.id, .int .i64 x.kind, .int .i64 x.s, .int .i64 x.g, .int .i64 x.ch, .int .u64 x.wh, .bool x.nv, .int .u64 x.pd] 46))) from (Ch.alloc (Gr.refl w) _).drew))
  have hS0 : Sa b w.heap.size last d x (World.drew (w.alloc (.cells #[.int .i64 x.id, .int .i64 x.kind, .int .i64 x.s, .int .i64 x.g, .int .i64 x.ch, .int .u64 x.wh, .bool x.nv, .int .u64 x.pd] 46))) := ⟨TW.out.hb, al_at _ rfl, lt_of_block TW.out.hb, lt_of_block (al_at (w := w) _ rfl)⟩
  have SZ := hid (show w.heap.size ≤ (World.drew (w.alloc (.cells #[.int .i64 x.id, .int .i64 x.kind, .int .i64 x.s, .int .i64 x.g, .int .i64 x.ch, .int .u64 x.wh, .bool x.nv, .int .u64 x.pd] 46))).heap.size from GV.out.size)
  have BD := hid (show 0 ≤ d.vn ∧ d.vn < 4611686018427387904 from by omega)
  have XL := hid (show d.ys.length < 4294967296 from by have := hl.xl; omega)
  have NO := hid (hl.no hi)
  have NX := hid (show ∀ y ∈ d.ys, y.n < d.vn from h.h2.lt)
  have HI := hid hi
  have HS := hid hs
  have OK := hid ok
  have HB := hid hb
  have NOG := hid (show (x.kind == 1) = true → NoG d.G x.s x.g from fun e => (hl.sl x.s x.g).1 (by
    unfold sleepsL
    refine List.any_eq_false.2 (fun u hu e2 => ?_)
    simp only [Bool.and_eq_true, beq_iff_eq] at e2
    exact hs e u hu (by simp [slp, e2.1]) (by simp [gid, e2.2.1, e2.2.2])))
  have hk1 : (x.kind == 1) = false := hk
  have HK := hid hk
  have HNV := hid hnv
  clear hlt hl ok h hi hs hb hL hB hk hnv
  · go_enter Try.func38, Try.ntmps38
    go_wp2_with fail
    refine wp_region_held_drew (S := Sa b w.heap.size last d x) (by kernel_rfl) (by exact hS0) (fun _ => ?_)
    generalize World.drew (w.alloc (.cells #[.int .i64 x.id, .int .i64 x.kind, .int .i64 x.s, .int .i64 x.g, .int .i64 x.ch, .int .u64 x.wh, .bool x.nv, .int .u64 x.pd] 46)) = V0 at hS0 TW GV SZ ⊢
    refine takeS_on (i := 0) 4 (v := ?hv61) rfl rfl (by kernel_rfl) (by kernel_rfl) (by kernel_rfl) (fun _ _ _ h => h) (by kernel_rfl) ?hh61 (by exact hS0) ?_
    case hh61 => (intro w' hSw; go_simp; try (with_reducible rfl))
    simp only [Act.put, List.setIfInBounds_toArray, List.set_cons_zero, List.set_cons_succ]
    refine takeS_on (i := 1) 5 (v := ?hv62) rfl rfl (by kernel_rfl) (by kernel_rfl) (by kernel_rfl) (fun _ _ _ h => h) (by kernel_rfl) ?hh62 (by exact hS0) ?_
    case hh62 => (intro w' hSw; go_simp; try (with_reducible rfl))
    simp only [Act.put, List.setIfInBounds_toArray, List.set_cons_zero, List.set_cons_succ]
    refine takeS_on (i := 2) 6 (v := ?hv63) rfl rfl (by kernel_rfl) (by kernel_rfl) (by kernel_rfl) (fun _ _ _ h => h) (by kernel_rfl) ?hh63 (by exact hS0) ?_
    case hh63 => (intro w' hSw; go_simp; try (with_reducible rfl))
    simp only [Act.put, List.setIfInBounds_toArray, List.set_cons_zero, List.set_cons_succ]
    refine takeS_on (i := 3) 7 (v := ?hv64) rfl rfl (by kernel_rfl) (by kernel_rfl) (by kernel_rfl) (fun _ _ _ h => h) (by kernel_rfl) ?hh64 (by exact hS0) ?_
    case hh64 => (intro w' hSw; have c3 := cell_of hSw.me 3; simp at c3; go_simp; try (with_reducible rfl))
    simp only [Act.put, List.setIfInBounds_toArray, List.set_cons_zero, List.set_cons_succ]
    refine takeS_on (i := 4) 8 (v := ?hv65) rfl rfl (by kernel_rfl) (by kernel_rfl) (by kernel_rfl) (fun _ _ _ h => h) (by kernel_rfl) ?hh65 (by exact hS0) ?_
    case hh65 => (intro w' hSw; go_simp; try (with_reducible rfl))
    simp only [Act.put, List.setIfInBounds_toArray, List.set_cons_zero, List.set_cons_succ]
    refine takeS_on (i := 5) 9 (v := ?hv66) rfl rfl (by kernel_rfl) (by kernel_rfl) (by kernel_rfl) (fun _ _ _ h => h) (by kernel_rfl) ?hh66 (by exact hS0) ?_
    case hh66 => (intro w' hSw; have x0 := cell_of hSw.bx 0; simp at x0; go_simp; try (with_reducible rfl))
    simp only [Act.put, List.setIfInBounds_toArray, List.set_cons_zero, List.set_cons_succ]
    refine takeS_on (i := 6) 10 (v := ?hv67) rfl rfl (by kernel_rfl) (by kernel_rfl) (by kernel_rfl) (fun _ _ _ h => h) (by kernel_rfl) ?hh67 (by exact hS0) ?_
    case hh67 => (intro w' hSw; refine Eq.trans (exec_row 46 (.tmp 3) rfl _ rfl _ _ _ _ hSw.bx Try.underlying46 rfl tmr_size) ?_; go_simp; try (with_reducible rfl))
    simp only [Act.put, List.setIfInBounds_toArray, List.set_cons_zero, List.set_cons_succ]
    refine takeS_on (i := 7) 11 (v := ?hv68) rfl rfl (by kernel_rfl) (by kernel_rfl) (by kernel_rfl) (fun _ _ _ h => h) (by kernel_rfl) ?hh68 (by exact hS0) ?_
    case hh68 => (intro w' hSw; go_simp; try (with_reducible rfl))
    simp only [Act.put, List.setIfInBounds_toArray, List.set_cons_zero, List.set_cons_succ]
    refine takeS_on (i := 8) 12 (v := ?hv69) rfl rfl (by kernel_rfl) (by kernel_rfl) (by kernel_rfl) (fun _ _ _ h => h) (by kernel_rfl) ?hh69 (by exact hS0) ?_
    case hh69 => (intro w' hSw; refine Eq.trans (exec_row 46 (.tmp 3) rfl _ rfl _ _ _ _ hSw.bx Try.underlying46 rfl tmr_size) ?_; go_simp; try (with_reducible rfl))
    simp only [Act.put, List.setIfInBounds_toArray, List.set_cons_zero, List.set_cons_succ]
    refine takeS_on (i := 10) 14 (v := ?hv70) rfl rfl (by kernel_rfl) (by kernel_rfl) (by kernel_rfl) (fun _ _ _ h => h) (by kernel_rfl) ?hh70 (by exact hS0) ?_
    case hh70 => (intro w' hSw; go_simp; try (with_reducible rfl))
    simp only [Act.put, List.setIfInBounds_toArray, List.set_cons_zero, List.set_cons_succ]
    refine takeS_on (i := 11) 15 (v := ?hv71) rfl rfl (by kernel_rfl) (by kernel_rfl) (by kernel_rfl) (fun _ _ _ h => h) (by kernel_rfl) ?hh71 (by exact hS0) ?_
    case hh71 => (intro w' hSw; have x5 := cell_of hSw.bx 5; simp at x5; go_simp; try (with_reducible rfl))
    simp only [Act.put, List.setIfInBounds_toArray, List.set_cons_zero, List.set_cons_succ]
    refine takeS_on (i := 12) 16 (v := ?hv72) rfl rfl (by kernel_rfl) (by kernel_rfl) (by kernel_rfl) (fun _ _ _ h => h) (by kernel_rfl) ?hh72 (by exact hS0) ?_
    case hh72 => (intro w' hSw; go_simp; try (with_reducible rfl))
    simp only [Act.put, List.setIfInBounds_toArray, List.set_cons_zero, List.set_cons_succ]
    refine takeS_on (i := 13) 17 (v := ?hv73) rfl rfl (by kernel_rfl) (by kernel_rfl) (by kernel_rfl) (fun _ _ _ h => h) (by kernel_rfl) ?hh73 (by exact hS0) ?_
    case hh73 => (intro w' hSw; have x0 := cell_of hSw.bx 0; simp at x0; go_simp; try (with_reducible rfl))
    simp only [Act.put, List.setIfInBounds_toArray, List.set_cons_zero, List.set_cons_succ]
    refine wpAnyH_ready (rs := [9]) (by kernel_rfl) (by simp) (AllReadyH.cons rfl (fun K hK => ?_) AllReadyH.nil)
    go_simp
    refine (line_w TW.out x).mono ?_
    rintro e w5 ⟨e5, g5⟩
    rw [HNV.out, if_pos rfl] at e5
    subst e5
    have TW := hid (TW.out.gr g5)
    have GV := hid (GV.out.trans g5 (fun _ e => e.elim))
    have hS1 := hS0.gr g5
    have SZ := hid (Nat.le_trans SZ.out g5.size)
    clear g5
    refine hK.out _ _ (by exact hS1) (fun _ => ?_)
    clear hK K
    refine wpAnyH_ready (rs := [14]) (by kernel_rfl) (by simp) (AllReadyH.cons rfl (fun K hK => ?_) AllReadyH.nil)
    go_simp
    refine (Hp.push_any T2 d.bv d.ys d.vn x.wh x.id _ TW.out.h2 BD.out.1 BD.out.2 (by have := XL.out; omega)).mono ?_
    rintro e w6 ⟨rfl, zs, hzs, hl6⟩
    obtain ⟨T2', tw6, c6, t6⟩ := TW.out.never hl6
    have HZ := hid hzs
    have TW6 := hid tw6
    have hS2 := hS1.ch c6 NB.out.1 NB.out.2.1
    have GV6 := hid (GV.out.trans c6 (fun q e => .inl (.inr (.inr (.inl e)))))
    have TT := hid (fun q e => (t6 q e).imp id (fun y => Nat.le_trans SZ.out y))
    clear hzs tw6 c6 t6 hl6
    refine hK.out _ _ (by exact hS2) (fun _ => ?_)
    clear hK K
    refine takeS_on (i := 15) 19 (v := .agg #[.int .i64 x.id, .int .i64 x.kind, .int .i64 x.s, .int .i64 x.g, .int .i64 x.ch, .int .u64 x.wh, .bool x.nv, .int .u64 x.pd, .int .i64 d.vn]) rfl rfl (by kernel_rfl) (by kernel_rfl) (by kernel_rfl) (fun _ _ _ h => h) (by kernel_rfl) ?hh74 (by exact hS2) ?_
    case hh74 => (intro w' hSw; go_simp; try (with_reducible rfl))
    simp only [Act.put, List.setIfInBounds_toArray, List.set_cons_zero, List.set_cons_succ]
    refine wpAnyH_ready (rs := [16]) (by kernel_rfl) (by simp) (AllReadyH.cons rfl (fun K hK => ?_) AllReadyH.nil)
    have hE := update_new (k := d.mr) (M := d.M) (clock := d.mc) TW6.out.m NO.out d.vn
    unfold aV at hE
    go_simp
    clear hE
    have TW := hid (TW6.out.setM (d.M ++ [⟨x, d.vn, d.mc⟩]) (d.mc + 1))
    have G7 := hid (GV6.out.trans (putM_ch w6 d.mr (d.M ++ [⟨x, d.vn, d.mc⟩]) (d.mc + 1)) (fun q e => .inl (.inr (.inr (.inr (.inl e))))))
    have hS3 := hS2.ch (putM_ch w6 d.mr (d.M ++ [⟨x, d.vn, d.mc⟩]) (d.mc + 1)) (fun e => NB.out.2.2.1 e) (fun e => NB.out.2.2.2.1 e)
    generalize putM w6 d.mr (d.M ++ [⟨x, d.vn, d.mc⟩]) (d.mc + 1) = V7 at hS3 TW G7 ⊢
    refine hK.out _ _ (by exact hS3) (fun _ => ?_)
    clear hK K
    refine wpAnyH_done (by kernel_rfl) ?_ _
    have x1 := cell_of hS3.bx 1
    have xl := lt_of_block hS3.bx
    simp at x1
    go_wp2_with fail
    go_end0
    exact ⟨rfl, _, ⟨_, _, _, TW.out, LKK.out.putN HNV.out NX.out HI.out OK.out HZ.out (by rw [List.filter_cons_of_neg (by rw [HK.out]; simp)]; exact LKK.out.gs) HS.out, fun q => Iff.rfl, ⟨by show 0 ≤ d.dn; have := HB.out; omega, by show d.dn ≤ B + 1; have := HB.out; omega⟩, by show 0 ≤ d.vn + 1; have := HB.out; omega, by show d.vn + 1 ≤ B + 1; have := HB.out; omega⟩, G7.out, TT.out⟩
set_option maxHeartbeats 8000000 in
theorem arm_neverS {T1 T2 : Nat → Prop} {w : World} {b : Nat} {last : Int} {d : Dt} {L : List Tk} {B : Int} (h : Tw T1 T2 w b last d) (hl : Lk d L) (hb : (0 ≤ d.dn ∧ d.dn ≤ B) ∧ 0 ≤ d.vn ∧ d.vn ≤ B) (x : Tk) (ok : Tok x) (hnv : x.nv = true) (hk : slp x = true) (hi : ∀ t ∈ L, t.id ≠ x.id) (hs : slp x = true → ∀ u ∈ L, slp u = true → gid u ≠ gid x) (hL : L.length < 4294967296) (hB : B < 4611686018427387904) : Calls Try.prog 38 #[.pointer (some ⟨b, 0, none⟩), .agg #[.int .i64 x.id, .int .i64 x.kind, .int .i64 x.s, .int .i64 x.g, .int .i64 x.ch, .int .u64 x.wh, .bool x.nv, .int .u64 x.pd]] w fun e w' => e = .returned (.tuple #[]) ∧ TL (Ta b T1 T2 d) w w' b last (putL L x) (B + 1) := by
  have hlt := h.lt
  have NB := hid (show ¬ T2 b ∧ ¬ T2 w.heap.size ∧ ¬ b = d.mr ∧ ¬ w.heap.size = d.mr ∧ ¬ b = d.ms ∧ ¬ w.heap.size = d.ms from ⟨h.b2, fun e => by have := h.h2.tl _ e; omega, h.br, by have := h.m.lt; omega, h.bs, by have := h.g.lt; omega⟩)
  have LKK := hid hl
  have GK := hid (show Gok x.s x.g from ⟨⟨ok.s0, ok.s1⟩, ok.g0, ok.g1⟩)
  have GV := hid (show Ch (Ta b T1 T2 d) w (World.drew (w.alloc (.cells #[.int .i64 x.id, .int .i64 x.kind, .int .i64 x.s, .int .i64 x.g, .int .i64 x.ch, .int .u64 x.wh, .bool x.nv, .int .u64 x.pd] 46))) from (Ch.alloc (Ch.refl _ w) _).drew)
  have TW := hid (h.gr (show Gr w (World.drew (w.alloc (.cells #[.int .i64 x.id, .int .i64 x.kind, .int .i64 x.s, .int .i64 x.g, .int .i64 x.ch, .int .u64 x.wh, .bool x.nv, .int .u64 x.pd] 46))) from (Ch.alloc (Gr.refl w) _).drew))
  have hS0 : Sa b w.heap.size last d x (World.drew (w.alloc (.cells #[.int .i64 x.id, .int .i64 x.kind, .int .i64 x.s, .int .i64 x.g, .int .i64 x.ch, .int .u64 x.wh, .bool x.nv, .int .u64 x.pd] 46))) := ⟨TW.out.hb, al_at _ rfl, lt_of_block TW.out.hb, lt_of_block (al_at (w := w) _ rfl)⟩
  have SZ := hid (show w.heap.size ≤ (World.drew (w.alloc (.cells #[.int .i64 x.id, .int .i64 x.kind, .int .i64 x.s, .int .i64 x.g, .int .i64 x.ch, .int .u64 x.wh, .bool x.nv, .int .u64 x.pd] 46))).heap.size from GV.out.size)
  have BD := hid (show 0 ≤ d.vn ∧ d.vn < 4611686018427387904 from by omega)
  have XL := hid (show d.ys.length < 4294967296 from by have := hl.xl; omega)
  have NO := hid (hl.no hi)
  have NX := hid (show ∀ y ∈ d.ys, y.n < d.vn from h.h2.lt)
  have HI := hid hi
  have HS := hid hs
  have OK := hid ok
  have HB := hid hb
  have NOG := hid (show (x.kind == 1) = true → NoG d.G x.s x.g from fun e => (hl.sl x.s x.g).1 (by
    unfold sleepsL
    refine List.any_eq_false.2 (fun u hu e2 => ?_)
    simp only [Bool.and_eq_true, beq_iff_eq] at e2
    exact hs e u hu (by simp [slp, e2.1]) (by simp [gid, e2.2.1, e2.2.2])))
  have hk1 : (x.kind == 1) = true := hk
  have HK := hid hk
  have HNV := hid hnv
  clear hlt hl ok h hi hs hb hL hB hk hnv
  · go_enter Try.func38, Try.ntmps38
    go_wp2_with fail
    refine wp_region_held_drew (S := Sa b w.heap.size last d x) (by kernel_rfl) (by exact hS0) (fun _ => ?_)
    generalize World.drew (w.alloc (.cells #[.int .i64 x.id, .int .i64 x.kind, .int .i64 x.s, .int .i64 x.g, .int .i64 x.ch, .int .u64 x.wh, .bool x.nv, .int .u64 x.pd] 46)) = V0 at hS0 TW GV SZ ⊢
    refine takeS_on (i := 0) 4 (v := ?hv82) rfl rfl (by kernel_rfl) (by kernel_rfl) (by kernel_rfl) (fun _ _ _ h => h) (by kernel_rfl) ?hh82 (by exact hS0) ?_
    case hh82 => (intro w' hSw; go_simp; try (with_reducible rfl))
    simp only [Act.put, List.setIfInBounds_toArray, List.set_cons_zero, List.set_cons_succ]
    refine takeS_on (i := 1) 5 (v := ?hv83) rfl rfl (by kernel_rfl) (by kernel_rfl) (by kernel_rfl) (fun _ _ _ h => h) (by kernel_rfl) ?hh83 (by exact hS0) ?_
    case hh83 => (intro w' hSw; go_simp; try (with_reducible rfl))
    simp only [Act.put, List.setIfInBounds_toArray, List.set_cons_zero, List.set_cons_succ]
    refine takeS_on (i := 2) 6 (v := ?hv84) rfl rfl (by kernel_rfl) (by kernel_rfl) (by kernel_rfl) (fun _ _ _ h => h) (by kernel_rfl) ?hh84 (by exact hS0) ?_
    case hh84 => (intro w' hSw; go_simp; try (with_reducible rfl))
    simp only [Act.put, List.setIfInBounds_toArray, List.set_cons_zero, List.set_cons_succ]
    refine takeS_on (i := 3) 7 (v := ?hv85) rfl rfl (by kernel_rfl) (by kernel_rfl) (by kernel_rfl) (fun _ _ _ h => h) (by kernel_rfl) ?hh85 (by exact hS0) ?_
    case hh85 => (intro w' hSw; have c3 := cell_of hSw.me 3; simp at c3; go_simp; try (with_reducible rfl))
    simp only [Act.put, List.setIfInBounds_toArray, List.set_cons_zero, List.set_cons_succ]
    refine takeS_on (i := 4) 8 (v := ?hv86) rfl rfl (by kernel_rfl) (by kernel_rfl) (by kernel_rfl) (fun _ _ _ h => h) (by kernel_rfl) ?hh86 (by exact hS0) ?_
    case hh86 => (intro w' hSw; go_simp; try (with_reducible rfl))
    simp only [Act.put, List.setIfInBounds_toArray, List.set_cons_zero, List.set_cons_succ]
    refine takeS_on (i := 5) 9 (v := ?hv87) rfl rfl (by kernel_rfl) (by kernel_rfl) (by kernel_rfl) (fun _ _ _ h => h) (by kernel_rfl) ?hh87 (by exact hS0) ?_
    case hh87 => (intro w' hSw; have x0 := cell_of hSw.bx 0; simp at x0; go_simp; try (with_reducible rfl))
    simp only [Act.put, List.setIfInBounds_toArray, List.set_cons_zero, List.set_cons_succ]
    refine takeS_on (i := 6) 10 (v := ?hv88) rfl rfl (by kernel_rfl) (by kernel_rfl) (by kernel_rfl) (fun _ _ _ h => h) (by kernel_rfl) ?hh88 (by exact hS0) ?_
    case hh88 => (intro w' hSw; refine Eq.trans (exec_row 46 (.tmp 3) rfl _ rfl _ _ _ _ hSw.bx Try.underlying46 rfl tmr_size) ?_; go_simp; try (with_reducible rfl))
    simp only [Act.put, List.setIfInBounds_toArray, List.set_cons_zero, List.set_cons_succ]
    refine takeS_on (i := 7) 11 (v := ?hv89) rfl rfl (by kernel_rfl) (by kernel_rfl) (by kernel_rfl) (fun _ _ _ h => h) (by kernel_rfl) ?hh89 (by exact hS0) ?_
    case hh89 => (intro w' hSw; go_simp; try (with_reducible rfl))
    simp only [Act.put, List.setIfInBounds_toArray, List.set_cons_zero, List.set_cons_succ]
    refine takeS_on (i := 8) 12 (v := ?hv90) rfl rfl (by kernel_rfl) (by kernel_rfl) (by kernel_rfl) (fun _ _ _ h => h) (by kernel_rfl) ?hh90 (by exact hS0) ?_
    case hh90 => (intro w' hSw; refine Eq.trans (exec_row 46 (.tmp 3) rfl _ rfl _ _ _ _ hSw.bx Try.underlying46 rfl tmr_size) ?_; go_simp; try (with_reducible rfl))
    simp only [Act.put, List.setIfInBounds_toArray, List.set_cons_zero, List.set_cons_succ]
    refine takeS_on (i := 10) 14 (v := ?hv91) rfl rfl (by kernel_rfl) (by kernel_rfl) (by kernel_rfl) (fun _ _ _ h => h) (by kernel_rfl) ?hh91 (by exact hS0) ?_
    case hh91 => (intro w' hSw; go_simp; try (with_reducible rfl))
    simp only [Act.put, List.setIfInBounds_toArray, List.set_cons_zero, List.set_cons_succ]
    refine takeS_on (i := 11) 15 (v := ?hv92) rfl rfl (by kernel_rfl) (by kernel_rfl) (by kernel_rfl) (fun _ _ _ h => h) (by kernel_rfl) ?hh92 (by exact hS0) ?_
    case hh92 => (intro w' hSw; have x5 := cell_of hSw.bx 5; simp at x5; go_simp; try (with_reducible rfl))
    simp only [Act.put, List.setIfInBounds_toArray, List.set_cons_zero, List.set_cons_succ]
    refine takeS_on (i := 12) 16 (v := ?hv93) rfl rfl (by kernel_rfl) (by kernel_rfl) (by kernel_rfl) (fun _ _ _ h => h) (by kernel_rfl) ?hh93 (by exact hS0) ?_
    case hh93 => (intro w' hSw; go_simp; try (with_reducible rfl))
    simp only [Act.put, List.setIfInBounds_toArray, List.set_cons_zero, List.set_cons_succ]
    refine takeS_on (i := 13) 17 (v := ?hv94) rfl rfl (by kernel_rfl) (by kernel_rfl) (by kernel_rfl) (fun _ _ _ h => h) (by kernel_rfl) ?hh94 (by exact hS0) ?_
    case hh94 => (intro w' hSw; have x0 := cell_of hSw.bx 0; simp at x0; go_simp; try (with_reducible rfl))
    simp only [Act.put, List.setIfInBounds_toArray, List.set_cons_zero, List.set_cons_succ]
    refine wpAnyH_ready (rs := [9]) (by kernel_rfl) (by simp) (AllReadyH.cons rfl (fun K hK => ?_) AllReadyH.nil)
    go_simp
    refine (line_w TW.out x).mono ?_
    rintro e w5 ⟨e5, g5⟩
    rw [HNV.out, if_pos rfl] at e5
    subst e5
    have TW := hid (TW.out.gr g5)
    have GV := hid (GV.out.trans g5 (fun _ e => e.elim))
    have hS1 := hS0.gr g5
    have SZ := hid (Nat.le_trans SZ.out g5.size)
    clear g5
    refine hK.out _ _ (by exact hS1) (fun _ => ?_)
    clear hK K
    refine wpAnyH_ready (rs := [14]) (by kernel_rfl) (by simp) (AllReadyH.cons rfl (fun K hK => ?_) AllReadyH.nil)
    go_simp
    refine (Hp.push_any T2 d.bv d.ys d.vn x.wh x.id _ TW.out.h2 BD.out.1 BD.out.2 (by have := XL.out; omega)).mono ?_
    rintro e w6 ⟨rfl, zs, hzs, hl6⟩
    obtain ⟨T2', tw6, c6, t6⟩ := TW.out.never hl6
    have HZ := hid hzs
    have TW6 := hid tw6
    have hS2 := hS1.ch c6 NB.out.1 NB.out.2.1
    have GV6 := hid (GV.out.trans c6 (fun q e => .inl (.inr (.inr (.inl e)))))
    have TT := hid (fun q e => (t6 q e).imp id (fun y => Nat.le_trans SZ.out y))
    clear hzs tw6 c6 t6 hl6
    refine hK.out _ _ (by exact hS2) (fun _ => ?_)
    clear hK K
    refine takeS_on (i := 15) 19 (v := .agg #[.int .i64 x.id, .int .i64 x.kind, .int .i64 x.s, .int .i64 x.g, .int .i64 x.ch, .int .u64 x.wh, .bool x.nv, .int .u64 x.pd, .int .i64 d.vn]) rfl rfl (by kernel_rfl) (by kernel_rfl) (by kernel_rfl) (fun _ _ _ h => h) (by kernel_rfl) ?hh95 (by exact hS2) ?_
    case hh95 => (intro w' hSw; go_simp; try (with_reducible rfl))
    simp only [Act.put, List.setIfInBounds_toArray, List.set_cons_zero, List.set_cons_succ]
    refine wpAnyH_ready (rs := [16]) (by kernel_rfl) (by simp) (AllReadyH.cons rfl (fun K hK => ?_) AllReadyH.nil)
    have hE := update_new (k := d.mr) (M := d.M) (clock := d.mc) TW6.out.m NO.out d.vn
    unfold aV at hE
    go_simp
    clear hE
    have TW := hid (TW6.out.setM (d.M ++ [⟨x, d.vn, d.mc⟩]) (d.mc + 1))
    have G7 := hid (GV6.out.trans (putM_ch w6 d.mr (d.M ++ [⟨x, d.vn, d.mc⟩]) (d.mc + 1)) (fun q e => .inl (.inr (.inr (.inr (.inl e))))))
    have hS3 := hS2.ch (putM_ch w6 d.mr (d.M ++ [⟨x, d.vn, d.mc⟩]) (d.mc + 1)) (fun e => NB.out.2.2.1 e) (fun e => NB.out.2.2.2.1 e)
    generalize putM w6 d.mr (d.M ++ [⟨x, d.vn, d.mc⟩]) (d.mc + 1) = V7 at hS3 TW G7 ⊢
    refine hK.out _ _ (by exact hS3) (fun _ => ?_)
    clear hK K
    refine wpAnyH_done (by kernel_rfl) ?_ _
    have x1 := cell_of hS3.bx 1
    have xl := lt_of_block hS3.bx
    simp at x1
    go_wp2_with fail
    replace hS3 := hS3.gr (Ch.drew (Gr.refl V7))
    have G7 := hid (G7.out.drew)
    have TW := hid (TW.out.gr (Ch.drew (Gr.refl V7)))
    refine wp_region_held_drew (S := Sa b w.heap.size last d x) (by kernel_rfl) (by exact hS3) (fun _ => ?_)
    generalize World.drew V7 = V8 at hS3 TW G7 ⊢
    refine takeS_on (i := 0) 23 (v := ?hv96) rfl rfl (by kernel_rfl) (by kernel_rfl) (by kernel_rfl) (fun _ _ _ h => h) (by kernel_rfl) ?hh96 (by exact hS3) ?_
    case hh96 => (intro w' hSw; go_simp; try (with_reducible rfl))
    simp only [Act.put, List.setIfInBounds_toArray, List.set_cons_zero, List.set_cons_succ]
    refine takeS_on (i := 1) 24 (v := ?hv97) rfl rfl (by kernel_rfl) (by kernel_rfl) (by kernel_rfl) (fun _ _ _ h => h) (by kernel_rfl) ?hh97 (by exact hS3) ?_
    case hh97 => (intro w' hSw; go_simp; try (with_reducible rfl))
    simp only [Act.put, List.setIfInBounds_toArray, List.set_cons_zero, List.set_cons_succ]
    refine takeS_on (i := 2) 25 (v := ?hv98) rfl rfl (by kernel_rfl) (by kernel_rfl) (by kernel_rfl) (fun _ _ _ h => h) (by kernel_rfl) ?hh98 (by exact hS3) ?_
    case hh98 => (intro w' hSw; go_simp; try (with_reducible rfl))
    simp only [Act.put, List.setIfInBounds_toArray, List.set_cons_zero, List.set_cons_succ]
    refine takeS_on (i := 3) 26 (v := ?hv99) rfl rfl (by kernel_rfl) (by kernel_rfl) (by kernel_rfl) (fun _ _ _ h => h) (by kernel_rfl) ?hh99 (by exact hS3) ?_
    case hh99 => (intro w' hSw; have c4 := cell_of hSw.me 4; simp at c4; go_simp; try (with_reducible rfl))
    simp only [Act.put, List.setIfInBounds_toArray, List.set_cons_zero, List.set_cons_succ]
    refine takeS_on (i := 4) 27 (v := ?hv100) rfl rfl (by kernel_rfl) (by kernel_rfl) (by kernel_rfl) (fun _ _ _ h => h) (by kernel_rfl) ?hh100 (by exact hS3) ?_
    case hh100 => (intro w' hSw; go_simp; try (with_reducible rfl))
    simp only [Act.put, List.setIfInBounds_toArray, List.set_cons_zero, List.set_cons_succ]
    refine takeS_on (i := 5) 28 (v := ?hv101) rfl rfl (by kernel_rfl) (by kernel_rfl) (by kernel_rfl) (fun _ _ _ h => h) (by kernel_rfl) ?hh101 (by exact hS3) ?_
    case hh101 => (intro w' hSw; have x2 := cell_of hSw.bx 2; have x3 := cell_of hSw.bx 3; simp at x2 x3; go_simp; try (with_reducible rfl))
    simp only [Act.put, List.setIfInBounds_toArray, List.set_cons_zero, List.set_cons_succ]
    refine takeS_on (i := 6) 29 (v := .agg #[]) rfl rfl (by kernel_rfl) (by kernel_rfl) (by kernel_rfl) (fun _ _ _ h => h) (by kernel_rfl) ?hh102 (by exact hS3) ?_
    case hh102 => (intro w' hSw; go_simp; try (with_reducible rfl))
    simp only [Act.put, List.setIfInBounds_toArray, List.set_cons_zero, List.set_cons_succ]
    refine wpAnyH_ready (rs := [7]) (by kernel_rfl) (by simp) (AllReadyH.cons rfl (fun K hK => ?_) AllReadyH.nil)
    have hE := updG_new (k := d.ms) (M := d.G) (clock := d.gc) TW.out.g LKK.out.gok GK.out (NOG.out hk1)
    unfold kG at hE
    go_simp
    clear hE
    have TW := hid (TW.out.setG (d.G ++ [⟨x.s, x.g, d.gc⟩]) (d.gc + 1))
    have G8 := hid (G7.out.trans (putG_ch V8 d.ms (d.G ++ [⟨x.s, x.g, d.gc⟩]) (d.gc + 1)) (fun q e => .inl (.inr (.inr (.inr (.inr e))))))
    have hS4 := hS3.ch (putG_ch V8 d.ms (d.G ++ [⟨x.s, x.g, d.gc⟩]) (d.gc + 1)) (fun e => NB.out.2.2.2.2.1 e) (fun e => NB.out.2.2.2.2.2 e)
    generalize putG V8 d.ms (d.G ++ [⟨x.s, x.g, d.gc⟩]) (d.gc + 1) = V9 at hS4 TW G8 ⊢
    refine hK.out _ _ (by exact hS4) (fun _ => ?_)
    clear hK K
    refine wpAnyH_done (by kernel_rfl) ?_ _
    go_wp2_with fail
    go_end0
    exact ⟨rfl, _, ⟨_, _, _, TW.out, LKK.out.putN HNV.out NX.out HI.out OK.out HZ.out (by rw [List.filter_cons_of_pos HK.out, List.map_append]; exact List.perm_append_comm.trans (LKK.out.gs.cons (gid x))) HS.out, fun q => Iff.rfl, ⟨by show 0 ≤ d.dn; have := HB.out; omega, by show d.dn ≤ B + 1; have := HB.out; omega⟩, by show 0 ≤ d.vn + 1; have := HB.out; omega, by show d.vn + 1 ≤ B + 1; have := HB.out; omega⟩, G8.out, TT.out⟩
theorem arm_any {T : Nat → Prop} {w : World} {b : Nat} {last : Int} {L : List Tk} {B : Int} (h : Tm T w b last L B) (x : Tk) (ok : Tok x) (hi : ∀ t ∈ L, t.id ≠ x.id) (hs : slp x = true → ∀ u ∈ L, slp u = true → gid u ≠ gid x) (hL : L.length < 4294967296) (hB : B < 4611686018427387904) : Calls Try.prog 38 #[.pointer (some ⟨b, 0, none⟩), .agg #[.int .i64 x.id, .int .i64 x.kind, .int .i64 x.s, .int .i64 x.g, .int .i64 x.ch, .int .u64 x.wh, .bool x.nv, .int .u64 x.pd]] w fun e w' => e = .returned (.tuple #[]) ∧ TL T w w' b last (putL L x) (B + 1) := by
  obtain ⟨T1, T2, d, h1, h2, h3, h4, h5⟩ := h
  have e : T = Ta b T1 T2 d := funext fun q => propext (h3 q)
  subst e
  by_cases hv : x.nv = true
  · by_cases hk : slp x = true
    · exact arm_neverS h1 h2 ⟨h4, h5⟩ x ok hv hk hi hs hL hB
    · exact arm_never h1 h2 ⟨h4, h5⟩ x ok hv (by simpa using hk) hi hs hL hB
  · by_cases hk : slp x = true
    · exact arm_everS h1 h2 ⟨h4, h5⟩ x ok (by simpa using hv) hk hi hs hL hB
    · exact arm_ever h1 h2 ⟨h4, h5⟩ x ok (by simpa using hv) (by simpa using hk) hi hs hL hB
end Go.Proofs.Ytgkapopkjgljjaa.Lt
