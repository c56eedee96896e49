/-
  What the program's forget, arm, disarm and takeFirst leave of timers. Condition: the timers are there, and a thing that is armed is there no more.
-/
import Derived.Test.YtgkapopkjgljjaaTmFn
import Derived.Deep.Cut
namespace Go.Proofs.Ytgkapopkjgljjaa.Lt
open Go.RowKit Wd
attribute [local go_sem ↓] Go.wp_at_zero Go.wp_at_succ
set_option maxRecDepth 20000

/-- timers' cells, and a timer's in a block of its own -/
structure Sa (b k : Nat) (last : Int) (d : Dt) (x : Tk) (W : World) : Prop where
  me : W.heap[b]? = some (.cells #[.int .i64 last, .pointer (some ⟨d.bd, 0, none⟩), .pointer (some ⟨d.bv, 0, none⟩), .map (some d.mr), .map (some d.ms)] 69 (0, 0))
  bx : W.heap[k]? = some (.cells #[.int .i64 x.id, .int .i64 x.kind, .int .i64 x.s, .int .i64 x.g, .int .i64 x.ch, .int .u64 x.wh, .bool x.nv, .int .u64 x.pd] 46 (0, 0))
  bl : b < W.heap.size
  kl : k < W.heap.size
theorem Sa.ch {S : Nat → Prop} {b k : Nat} {last : Int} {d : Dt} {x : Tk} {W W' : World} (h : Sa b k last d x W) (c : Ch S W W') (h1 : ¬ S b) (h2 : ¬ S k) : Sa b k last d x W' := ⟨(c.block _ h.bl h1).trans h.me, (c.block _ h.kl h2).trans h.bx, Nat.lt_of_lt_of_le h.bl c.size, Nat.lt_of_lt_of_le h.kl c.size⟩
theorem Sa.gr {b k : Nat} {last : Int} {d : Dt} {x : Tk} {W W' : World} (h : Sa b k last d x W) (c : Gr W W') : Sa b k last d x W' := h.ch c (noB _) (noB _)
/-- what forget leans on -/
structure Fk (d : Dt) (x : Tk) : Prop where
  he : ∃ e ∈ d.M, e.t = x
  ids : (d.M.map (·.t.id)).Nodup
  gok : ∀ e ∈ d.G, Gok e.s e.g
  gnd : (d.G.map (fun e => (e.s, e.g))).Nodup
  gk : Gok x.s x.g
theorem Lk.fk {d : Dt} {L : List Tk} (h : Lk d L) {x : Tk} (hx : x ∈ L) : Fk d x := ⟨h.has hx, h.ids, h.gok, h.gnd, ⟨(h.ok x hx).s0, (h.ok x hx).s1⟩, (h.ok x hx).g0, (h.ok x hx).g1⟩
/-- the set behind forget -/
def offG (d : Dt) (x : Tk) : List Ge := if slp x then delGs d.G x.s x.g else d.G
set_option maxHeartbeats 4000000 in
theorem forget_w {T1 T2 : Nat → Prop} {w : World} {b : Nat} {last : Int} {d : Dt} (h : Tw T1 T2 w b last d) (x : Tk) (hl : Fk d x) : Calls Try.prog 55 #[.pointer (some ⟨b, 0, none⟩), .agg #[.int .i64 x.id, .int .i64 x.kind, .int .i64 x.s, .int .i64 x.g, .int .i64 x.ch, .int .u64 x.wh, .bool x.nv, .int .u64 x.pd]] w fun e w' => e = .returned (.tuple #[]) ∧ Tw T1 T2 w' b last { d with M := delM d.M x.id, G := offG d x } ∧ Ch (Ta b T1 T2 d) w w' := by
  have hlt := h.lt
  have NB := hid (show ¬ b = d.mr ∧ ¬ w.heap.size = d.mr ∧ ¬ b = d.ms ∧ ¬ w.heap.size = d.ms from ⟨h.br, by have := h.m.lt; omega, h.bs, by have := h.g.lt; omega⟩)
  obtain ⟨e0, he, hex⟩ := hl.he
  have HE := hid he
  have HX := hid (show e0.t.id = x.id by rw [hex])
  have LKK := hid hl
  have GK := hid hl.gk
  have GV := hid (show Ch (Ta b T1 T2 d) w (World.drew (w.alloc (.cells #[.int .i64 x.id, .int .i64 x.kind, .int .i64 x.s, .int .i64 x.g, .int .i64 x.ch, .int .u64 x.wh, .bool x.nv, .int .u64 x.pd] 46))) from (Ch.alloc (Ch.refl _ w) _).drew)
  have TW := hid (h.gr (show Gr w (World.drew (w.alloc (.cells #[.int .i64 x.id, .int .i64 x.kind, .int .i64 x.s, .int .i64 x.g, .int .i64 x.ch, .int .u64 x.wh, .bool x.nv, .int .u64 x.pd] 46))) from (Ch.alloc (Gr.refl w) _).drew))
  have hS0 : Sa b w.heap.size last d x (World.drew (w.alloc (.cells #[.int .i64 x.id, .int .i64 x.kind, .int .i64 x.s, .int .i64 x.g, .int .i64 x.ch, .int .u64 x.wh, .bool x.nv, .int .u64 x.pd] 46))) := ⟨TW.out.hb, al_at _ rfl, lt_of_block TW.out.hb, lt_of_block (al_at (w := w) _ rfl)⟩
  clear hlt he hex hl h
  by_cases hk : slp x = true
  · have hk1 : (x.kind == 1) = true := hk
    have hG : offG d x = delGs d.G x.s x.g := if_pos hk
    rw [hG]
    clear hk hG
    go_enter Try.func55, Try.ntmps55
    go_wp2_with fail
    refine wp_region_held_drew (S := Sa b w.heap.size last d x) (by kernel_rfl) (by exact hS0) (fun _ => ?_)
    generalize World.drew (w.alloc (.cells #[.int .i64 x.id, .int .i64 x.kind, .int .i64 x.s, .int .i64 x.g, .int .i64 x.ch, .int .u64 x.wh, .bool x.nv, .int .u64 x.pd] 46)) = V0 at hS0 TW GV ⊢
    refine takeS_on (i := 0) 4 (v := ?hv7) rfl rfl (by kernel_rfl) (by kernel_rfl) (by kernel_rfl) (fun _ _ _ h => h) (by kernel_rfl) ?hh7 (by exact hS0) ?_
    case hh7 => (intro w' hSw; go_simp; try (with_reducible rfl))
    simp only [Act.put, List.setIfInBounds_toArray, List.set_cons_zero, List.set_cons_succ]
    refine takeS_on (i := 1) 5 (v := ?hv8) rfl rfl (by kernel_rfl) (by kernel_rfl) (by kernel_rfl) (fun _ _ _ h => h) (by kernel_rfl) ?hh8 (by exact hS0) ?_
    case hh8 => (intro w' hSw; go_simp; try (with_reducible rfl))
    simp only [Act.put, List.setIfInBounds_toArray, List.set_cons_zero, List.set_cons_succ]
    refine takeS_on (i := 2) 6 (v := ?hv9) rfl rfl (by kernel_rfl) (by kernel_rfl) (by kernel_rfl) (fun _ _ _ h => h) (by kernel_rfl) ?hh9 (by exact hS0) ?_
    case hh9 => (intro w' hSw; go_simp; try (with_reducible rfl))
    simp only [Act.put, List.setIfInBounds_toArray, List.set_cons_zero, List.set_cons_succ]
    refine takeS_on (i := 3) 7 (v := ?hv10) rfl rfl (by kernel_rfl) (by kernel_rfl) (by kernel_rfl) (fun _ _ _ h => h) (by kernel_rfl) ?hh10 (by exact hS0) ?_
    case hh10 => (intro w' hSw; have c3 := cell_of hSw.me 3; simp at c3; go_simp; try (with_reducible rfl))
    simp only [Act.put, List.setIfInBounds_toArray, List.set_cons_zero, List.set_cons_succ]
    refine takeS_on (i := 4) 8 (v := ?hv11) rfl rfl (by kernel_rfl) (by kernel_rfl) (by kernel_rfl) (fun _ _ _ h => h) (by kernel_rfl) ?hh11 (by exact hS0) ?_
    case hh11 => (intro w' hSw; go_simp; try (with_reducible rfl))
    simp only [Act.put, List.setIfInBounds_toArray, List.set_cons_zero, List.set_cons_succ]
    refine takeS_on (i := 5) 9 (v := ?hv12) rfl rfl (by kernel_rfl) (by kernel_rfl) (by kernel_rfl) (fun _ _ _ h => h) (by kernel_rfl) ?hh12 (by exact hS0) ?_
    case hh12 => (intro w' hSw; have x0 := cell_of hSw.bx 0; simp at x0; go_simp; try (with_reducible rfl))
    simp only [Act.put, List.setIfInBounds_toArray, List.set_cons_zero, List.set_cons_succ]
    refine wpAnyH_ready (rs := [6]) (by kernel_rfl) (by simp) (AllReadyH.cons rfl (fun K hK => ?_) AllReadyH.nil)
    have hE := delete_one TW.out.m LKK.out.ids HE.out 0
    rw [HX.out] at hE
    go_simp
    clear hE
    have TW := hid (TW.out.setM (delM d.M x.id) d.mc)
    have G3 := hid (show Ch (Ta b T1 T2 d) w (putM V0 d.mr (delM d.M x.id) d.mc) from (GV.out.trans (putM_ch V0 d.mr _ _) (fun q e => .inl (.inr (.inr (.inr (.inl e)))))))
    have hS1 := hS0.ch (putM_ch V0 d.mr (delM d.M x.id) d.mc) (fun e => NB.out.1 e) (fun e => NB.out.2.1 e)
    generalize putM V0 d.mr (delM d.M x.id) d.mc = V1 at hS1 TW G3 ⊢
    refine hK.out _ _ (by exact hS1) (fun _ => ?_)
    clear hK K
    refine wpAnyH_done (by kernel_rfl) ?_ _
    have x1 := cell_of hS1.bx 1
    have xl := lt_of_block hS1.bx
    simp at x1
    go_wp2_with fail
    replace hS1 := hS1.gr (Ch.drew (Gr.refl V1))
    have G3 := hid (G3.out.drew)
    have TW := hid (TW.out.gr (Ch.drew (Gr.refl V1)))
    refine wp_region_held_drew (S := Sa b w.heap.size last d x) (by kernel_rfl) (by exact hS1) (fun _ => ?_)
    generalize World.drew V1 = V2 at hS1 TW G3 ⊢
    refine takeS_on (i := 0) 13 (v := ?hv1) rfl rfl (by kernel_rfl) (by kernel_rfl) (by kernel_rfl) (fun _ _ _ h => h) (by kernel_rfl) ?hh1 (by exact hS1) ?_
    case hh1 => (intro w' hSw; go_simp; try (with_reducible rfl))
    simp only [Act.put, List.setIfInBounds_toArray, List.set_cons_zero, List.set_cons_succ]
    refine takeS_on (i := 1) 14 (v := ?hv2) rfl rfl (by kernel_rfl) (by kernel_rfl) (by kernel_rfl) (fun _ _ _ h => h) (by kernel_rfl) ?hh2 (by exact hS1) ?_
    case hh2 => (intro w' hSw; go_simp; try (with_reducible rfl))
    simp only [Act.put, List.setIfInBounds_toArray, List.set_cons_zero, List.set_cons_succ]
    refine takeS_on (i := 2) 15 (v := ?hv3) rfl rfl (by kernel_rfl) (by kernel_rfl) (by kernel_rfl) (fun _ _ _ h => h) (by kernel_rfl) ?hh3 (by exact hS1) ?_
    case hh3 => (intro w' hSw; go_simp; try (with_reducible rfl))
    simp only [Act.put, List.setIfInBounds_toArray, List.set_cons_zero, List.set_cons_succ]
    refine takeS_on (i := 3) 16 (v := ?hv4) rfl rfl (by kernel_rfl) (by kernel_rfl) (by kernel_rfl) (fun _ _ _ h => h) (by kernel_rfl) ?hh4 (by exact hS1) ?_
    case hh4 => (intro w' hSw; have c4 := cell_of hSw.me 4; simp at c4; go_simp; try (with_reducible rfl))
    simp only [Act.put, List.setIfInBounds_toArray, List.set_cons_zero, List.set_cons_succ]
    refine takeS_on (i := 4) 17 (v := ?hv5) rfl rfl (by kernel_rfl) (by kernel_rfl) (by kernel_rfl) (fun _ _ _ h => h) (by kernel_rfl) ?hh5 (by exact hS1) ?_
    case hh5 => (intro w' hSw; go_simp; try (with_reducible rfl))
    simp only [Act.put, List.setIfInBounds_toArray, List.set_cons_zero, List.set_cons_succ]
    refine takeS_on (i := 5) 18 (v := ?hv6) rfl rfl (by kernel_rfl) (by kernel_rfl) (by kernel_rfl) (fun _ _ _ h => h) (by kernel_rfl) ?hh6 (by exact hS1) ?_
    case hh6 => (intro w' hSw; have x2 := cell_of hSw.bx 2; have x3 := cell_of hSw.bx 3; simp at x2 x3; go_simp; try (with_reducible rfl))
    simp only [Act.put, List.setIfInBounds_toArray, List.set_cons_zero, List.set_cons_succ]
    refine wpAnyH_ready (rs := [6]) (by kernel_rfl) (by simp) (AllReadyH.cons rfl (fun K hK => ?_) AllReadyH.nil)
    have hE := delG (k := d.ms) (M := d.G) (clock := d.gc) TW.out.g LKK.out.gok GK.out LKK.out.gnd 0
    unfold kG at hE
    go_simp
    clear hE
    have TW := hid (TW.out.setG (delGs d.G x.s x.g) d.gc)
    have G4 := hid (show Ch (Ta b T1 T2 d) w (putG V2 d.ms (delGs d.G x.s x.g) d.gc) from (G3.out.trans (putG_ch V2 d.ms _ _) (fun q e => .inl (.inr (.inr (.inr (.inr e)))))))
    have hS2 := hS1.ch (putG_ch V2 d.ms (delGs d.G x.s x.g) d.gc) (fun e => NB.out.2.2.1 e) (fun e => NB.out.2.2.2 e)
    generalize putG V2 d.ms (delGs d.G x.s x.g) d.gc = V3 at hS2 TW G4 ⊢
    refine hK.out _ _ (by exact hS2) (fun _ => ?_)
    clear hK K
    refine wpAnyH_done (by kernel_rfl) ?_ _
    go_wp2_with fail
    go_end0
    exact ⟨rfl, TW.out, G4.out⟩
  · have hk1 : (x.kind == 1) = false := by simpa [slp] using hk
    have hG : offG d x = d.G := if_neg hk
    rw [hG]
    clear hk hG
    go_enter Try.func55, Try.ntmps55
    go_wp2_with fail
    refine wp_region_held_drew (S := Sa b w.heap.size last d x) (by kernel_rfl) (by exact hS0) (fun _ => ?_)
    generalize World.drew (w.alloc (.cells #[.int .i64 x.id, .int .i64 x.kind, .int .i64 x.s, .int .i64 x.g, .int .i64 x.ch, .int .u64 x.wh, .bool x.nv, .int .u64 x.pd] 46)) = V0 at hS0 TW GV ⊢
    refine takeS_on (i := 0) 4 (v := ?hv13) rfl rfl (by kernel_rfl) (by kernel_rfl) (by kernel_rfl) (fun _ _ _ h => h) (by kernel_rfl) ?hh13 (by exact hS0) ?_
    case hh13 => (intro w' hSw; go_simp; try (with_reducible rfl))
    simp only [Act.put, List.setIfInBounds_toArray, List.set_cons_zero, List.set_cons_succ]
    refine takeS_on (i := 1) 5 (v := ?hv14) rfl rfl (by kernel_rfl) (by kernel_rfl) (by kernel_rfl) (fun _ _ _ h => h) (by kernel_rfl) ?hh14 (by exact hS0) ?_
    case hh14 => (intro w' hSw; go_simp; try (with_reducible rfl))
    simp only [Act.put, List.setIfInBounds_toArray, List.set_cons_zero, List.set_cons_succ]
    refine takeS_on (i := 2) 6 (v := ?hv15) rfl rfl (by kernel_rfl) (by kernel_rfl) (by kernel_rfl) (fun _ _ _ h => h) (by kernel_rfl) ?hh15 (by exact hS0) ?_
    case hh15 => (intro w' hSw; go_simp; try (with_reducible rfl))
    simp only [Act.put, List.setIfInBounds_toArray, List.set_cons_zero, List.set_cons_succ]
    refine takeS_on (i := 3) 7 (v := ?hv16) rfl rfl (by kernel_rfl) (by kernel_rfl) (by kernel_rfl) (fun _ _ _ h => h) (by kernel_rfl) ?hh16 (by exact hS0) ?_
    case hh16 => (intro w' hSw; have c3 := cell_of hSw.me 3; simp at c3; go_simp; try (with_reducible rfl))
    simp only [Act.put, List.setIfInBounds_toArray, List.set_cons_zero, List.set_cons_succ]
    refine takeS_on (i := 4) 8 (v := ?hv17) rfl rfl (by kernel_rfl) (by kernel_rfl) (by kernel_rfl) (fun _ _ _ h => h) (by kernel_rfl) ?hh17 (by exact hS0) ?_
    case hh17 => (intro w' hSw; go_simp; try (with_reducible rfl))
    simp only [Act.put, List.setIfInBounds_toArray, List.set_cons_zero, List.set_cons_succ]
    refine takeS_on (i := 5) 9 (v := ?hv18) rfl rfl (by kernel_rfl) (by kernel_rfl) (by kernel_rfl) (fun _ _ _ h => h) (by kernel_rfl) ?hh18 (by exact hS0) ?_
    case hh18 => (intro w' hSw; have x0 := cell_of hSw.bx 0; simp at x0; go_simp; try (with_reducible rfl))
    simp only [Act.put, List.setIfInBounds_toArray, List.set_cons_zero, List.set_cons_succ]
    refine wpAnyH_ready (rs := [6]) (by kernel_rfl) (by simp) (AllReadyH.cons rfl (fun K hK => ?_) AllReadyH.nil)
    have hE := delete_one TW.out.m LKK.out.ids HE.out 0
    rw [HX.out] at hE
    go_simp
    clear hE
    have TW := hid (TW.out.setM (delM d.M x.id) d.mc)
    have G3 := hid (show Ch (Ta b T1 T2 d) w (putM V0 d.mr (delM d.M x.id) d.mc) from (GV.out.trans (putM_ch V0 d.mr _ _) (fun q e => .inl (.inr (.inr (.inr (.inl e)))))))
    have hS1 := hS0.ch (putM_ch V0 d.mr (delM d.M x.id) d.mc) (fun e => NB.out.1 e) (fun e => NB.out.2.1 e)
    generalize putM V0 d.mr (delM d.M x.id) d.mc = V1 at hS1 TW G3 ⊢
    refine hK.out _ _ (by exact hS1) (fun _ => ?_)
    clear hK K
    refine wpAnyH_done (by kernel_rfl) ?_ _
    have x1 := cell_of hS1.bx 1
    have xl := lt_of_block hS1.bx
    simp at x1
    go_wp2
    go_end0
    exact ⟨rfl, TW.out, G3.out⟩
end Go.Proofs.Ytgkapopkjgljjaa.Lt
