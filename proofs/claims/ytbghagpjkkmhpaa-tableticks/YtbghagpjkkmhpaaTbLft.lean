/-
  What Left answers: the program. Condition: the numbers are of their types.
-/
import Derived.Test.YtbghagpjkkmhpaaTbOwn0
namespace Go.Proofs.Ytbghagpjkkmhpaa.Lt
open Go.RowKit Wd
attribute [local go_sem ↓] Go.wp_at_zero Go.wp_at_succ
set_option maxRecDepth 20000

/-- a table's box and a slot's -/
structure Sx (b e : Nat) (y z : Array Value) (W : World) : Prop where
  b : W.heap[b]? = some (.cells y 25 (0, 0))
  e : W.heap[e]? = some (.cells z 54 (0, 0))
theorem Sx.gr {b e : Nat} {y z : Array Value} {W W' : World} (h : Sx b e y z W) (g : Gr W W') : Sx b e y z W' := ⟨gr_blk h.b g, gr_blk h.e g⟩
set_option maxHeartbeats 4000000 in
theorem left_any (w : World) (a : Option Addr) (n c : Nat) (L : List (List Sl)) (h : Rw w (.slice a n c) L) (hx : Rgs L) (F t p : Int) (hF : Tk.U F) (ht : Tk.U t) :
    Calls Try.prog 14 #[.agg #[.int .u64 F, .slice a n c], .int .u64 t, .int .i64 p] w fun e w' => e = .returned (.tuple #[.int .u64 (lftN F L t p), .int .i64 (ownE F L p)]) ∧ Gr w w' := by
  have CA := at_any _ a n c L (h.gr (Ch.alloc (Gr.refl w) (.cells #[.int .u64 F, .slice a n c] 25))) hx F t p hF ht
  cases hs : sat F L t p with
  | none =>
    rw [hs, atV_none] at CA
    have HD := hide (sat_none hs).1
    generalize ownE F L p = E at CA ⊢
    clear h hx hF ht hs
    go_enter Try.func14, Try.ntmps14
    go_wp2_with fail
    refine CA.mono ?_
    rintro e w1 ⟨rfl, g1⟩
    obtain ⟨t0, t1, tb, gt⟩ := box2 g1
    have GT := hide gt
    clear g1 gt
    go_wp2
    go_ret2
    exact ⟨by rw [HD.out]; rfl, Ch.alloc GT.out _⟩
  | some x =>
    rw [hs, atV_some] at CA
    obtain ⟨h0, _, _, hr, hw, hs0, hs1, hs2, _, _, hp0, _, hd, _⟩ := sat_some hx hs
    obtain ⟨hm, he⟩ := lft_run hw hs0 hp0 hs1
    have HD := hide hd
    have HE := hide h0
    have HRUN := hide (run_any x.d x.s x.l x.p hp0 (by have := hw.2.2; omega) hr.2.2.1.2)
    have HC := hide (left16 t F x.s (x.l - x.p) ht hF hr.2.1 ⟨by have := hw.2.2; omega, by have := hr.2.2.1.2; omega⟩)
    rw [h0] at CA
    rw [hm] at HC
    generalize Tk.leN t F x.s (x.l - x.p) = R at HC HD
    clear h hx hF ht hs h0 hd hr hw hs0 hs1 hs2 hm he
    go_enter Try.func14, Try.ntmps14
    go_wp2_with fail
    refine CA.mono ?_
    rintro e w1 ⟨rfl, g1⟩
    obtain ⟨t0, t1, tb, gt⟩ := box2 g1
    have GT := hide gt
    have hS0 : Sx w.heap.size w1.heap.size #[.int .u64 F, .slice a n c] #[.int .i64 x.d, .int .u64 x.s, .int .u64 x.l, .int .u64 x.p] (World.drew (w1.alloc (.cells #[.int .i64 x.d, .int .u64 x.s, .int .u64 x.l, .int .u64 x.p] 54))) := ⟨gr_blk (gr_blk (al_at _ rfl) g1) (Ch.drew (Ch.alloc (Gr.refl w1) _)), al_at (w := w1) _ rfl⟩
    have GV := hide (show Gr w (World.drew (w1.alloc (.cells #[.int .i64 x.d, .int .u64 x.s, .int .u64 x.l, .int .u64 x.p] 54))) from Ch.drew (Ch.alloc GT.out _))
    clear g1 gt
    go_wp2_with fail
    refine wp_region_held_drew (S := Sx w.heap.size w1.heap.size #[.int .u64 F, .slice a n c] #[.int .i64 x.d, .int .u64 x.s, .int .u64 x.l, .int .u64 x.p]) (by kernel_rfl) (by exact hS0) (fun _ => ?_)
    generalize World.drew (w1.alloc (.cells #[.int .i64 x.d, .int .u64 x.s, .int .u64 x.l, .int .u64 x.p] 54)) = V0 at hS0 GV ⊢
    refine takeS_on (i := 0) 22 (v := ?hv1) rfl rfl (by kernel_rfl) (by kernel_rfl) (by kernel_rfl) (fun _ _ _ h => h) (by kernel_rfl) ?hh1 (by exact hS0) ?_
    case hh1 => (intro w' hSw; go_simp; try (with_reducible rfl))
    simp only [Act.put, List.setIfInBounds_toArray, List.set_cons_zero, List.set_cons_succ]
    refine takeS_on (i := 1) 23 (v := ?hv2) rfl rfl (by kernel_rfl) (by kernel_rfl) (by kernel_rfl) (fun _ _ _ h => h) (by kernel_rfl) ?hh2 (by exact hS0) ?_
    case hh2 => (intro w' hSw; go_simp; try (with_reducible rfl))
    simp only [Act.put, List.setIfInBounds_toArray, List.set_cons_zero, List.set_cons_succ]
    refine takeS_on (i := 2) 24 (v := ?hv3) rfl rfl (by kernel_rfl) (by kernel_rfl) (by kernel_rfl) (fun _ _ _ h => h) (by kernel_rfl) ?hh3 (by exact hS0) ?_
    case hh3 => (intro w' hSw; have x0 := cell_of hSw.b 0; simp at x0; have xl := lt_of_block hSw.b; go_simp; try (with_reducible rfl))
    simp only [Act.put, List.setIfInBounds_toArray, List.set_cons_zero, List.set_cons_succ]
    refine takeS_on (i := 3) 25 (v := ?hv4) rfl rfl (by kernel_rfl) (by kernel_rfl) (by kernel_rfl) (fun _ _ _ h => h) (by kernel_rfl) ?hh4 (by exact hS0) ?_
    case hh4 => (intro w' hSw; refine Eq.trans (exec_row 54 (.tmp 8) rfl _ rfl _ _ _ _ hSw.e Try.underlying54 rfl slot_size) ?_; go_simp; try (with_reducible rfl))
    simp only [Act.put, List.setIfInBounds_toArray, List.set_cons_zero, List.set_cons_succ]
    refine wpAnyH_ready (rs := [4]) (by kernel_rfl) (by simp) (AllReadyH.cons rfl (fun K hK => ?_) AllReadyH.nil)
    go_simp
    refine (HRUN.out _).mono ?_
    rintro e w5 ⟨rfl, g5⟩
    have hS1 := hS0.gr g5
    have G5 := hide (Gr.trans GV.out g5)
    clear g5
    refine hK.out _ _ (by exact hS1) (fun _ => ?_)
    clear hK K
    refine wpAnyH_ready (rs := [5]) (by kernel_rfl) (by simp) (AllReadyH.cons rfl (fun K hK => ?_) AllReadyH.nil)
    go_simp
    refine (HC.out _).mono ?_
    rintro e w6 ⟨rfl, g6⟩
    have hS2 := hS1.gr g6
    have G6 := hide (Gr.trans G5.out g6)
    clear g6
    refine hK.out _ _ (by exact hS2) (fun _ => ?_)
    clear hK K
    refine takeS_on (i := 6) 28 (v := ?hv5) rfl rfl (by kernel_rfl) (by kernel_rfl) (by kernel_rfl) (fun _ _ _ h => h) (by kernel_rfl) ?hh5 (by exact hS2) ?_
    case hh5 => (intro w' hSw; go_simp; try (with_reducible rfl))
    simp only [Act.put, List.setIfInBounds_toArray, List.set_cons_zero, List.set_cons_succ]
    refine takeS_on (i := 7) 29 (v := ?hv6) rfl rfl (by kernel_rfl) (by kernel_rfl) (by kernel_rfl) (fun _ _ _ h => h) (by kernel_rfl) ?hh6 (by exact hS2) ?_
    case hh6 => (intro w' hSw; go_simp; try (with_reducible rfl))
    simp only [Act.put, List.setIfInBounds_toArray, List.set_cons_zero, List.set_cons_succ]
    refine takeS_on (i := 8) 6 (v := ?hv7) rfl rfl (by kernel_rfl) (by kernel_rfl) (by kernel_rfl) (fun _ _ _ h => h) (by kernel_rfl) ?hh7 (by exact hS2) ?_
    case hh7 => (intro w' hSw; go_simp; try (with_reducible rfl))
    simp only [Act.put, List.setIfInBounds_toArray, List.set_cons_zero, List.set_cons_succ]
    refine takeS_on (i := 9) 7 (v := ?hv8) rfl rfl (by kernel_rfl) (by kernel_rfl) (by kernel_rfl) (fun _ _ _ h => h) (by kernel_rfl) ?hh8 (by exact hS2) ?_
    case hh8 => (intro w' hSw; go_simp; try (with_reducible rfl))
    simp only [Act.put, List.setIfInBounds_toArray, List.set_cons_zero, List.set_cons_succ]
    refine wpAnyH_done (by kernel_rfl) ?_ _
    go_wp2_with fail
    go_ret2
    exact ⟨by rw [HD.out, HE.out]; rfl, G6.out⟩
end Go.Proofs.Ytbghagpjkkmhpaa.Lt
