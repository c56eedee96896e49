/-
  What Select answers and leaves where a case goes on. Conditions: the goroutine waits nowhere, each case has a channel or nil.
-/
import Derived.Test.YtalmiphddgmfbabChCar
import Derived.Deep.Cut
namespace Go.Proofs.Ytalmiphddgmfbab.Lt
open Go.RowKit Wd
attribute [local go_sem ↓] Go.wp_at_zero Go.wp_at_succ

theorem cho_size : (Try.prog.info? 45).map (·.size) = some 7 := by kernel_rfl
theorem one_cho (x : Int) (y a : Bool) (b : Int) (c : Bool) (d : Int) (e : Option Addr) (n m : Nat) : (#[.int .i64 x, .bool y, .bool a, .int .i64 b, .bool c, .int .i64 d, .slice e n m] : Array Value).all (·.oneCell') = true := by simp [Value.oneCell']
abbrev cz : Array Value := #[.int .i64 0, .bool false, .bool false, .int .i64 0, .bool false, .int .i64 0, .slice none 0 0]
theorem op_row {o : Oper} {a : Act} {w : World} {K : Act → World → Prop} {Q : Exit → Act → World → Prop} (ty : TypeId) (x y : Operand) (ho : o.op = .store ty x y)
    (g : Nat) (cells : Array Value) (hx : a.eval x = .pointer (some ⟨g, 0, none⟩)) (hy : a.eval y = .agg cells)
    (t : TypeId) (old : Array Value) (hg : w.heap[g]? = some (.cells old t (0, 0))) (hi : (Try.prog.info? ty).map (·.size) = some cells.size)
    (hold : old.size = cells.size) (h1 : cells.all (·.oneCell') = true)
    (h : ∀ w', w'.heap[g]? = some (.cells cells t (0, 0)) → Ch (Only g) w w' → K (a.put o.dst undef) w') : o.wp Try.prog a w K Q :=
  wp_store_row ty x y ho g cells hx hy t old hg hi hold h1 (h _ (setRow_blk hg) (setRow_ch w g cells))
/-- what Select tells and leaves where a case goes on -/
def SeR (t : Nat → Tg) (w : World) (b : Nat) (cs : List Cn) (k : Nat) (wa : Bool) (va : Int) (ok : Bool) (tr : Int) (ks : List Wk) (e : Ending) (w' : World) : Prop := ∃ mo mn mc, e = .returned (.tuple #[.agg #[.int .i64 (k : Int), .bool false, .bool wa, .int .i64 va, .bool ok, .int .i64 tr, .slice mo mn mc], .int .i64 0]) ∧ Ow eK 6 114 w.heap.size w' (.slice mo mn mc) ks ∧ ∃ t', Cs t' w' b cs ∧ Tn t t' w w' ∧ ∀ q, Blk (.slice mo mn mc) q → t' q = .no
/-- in the last region of Select -/
structure Sl (w : World) (s g : Int) (gp o : Nat) (x0 : Bool) (x1 x2 : Int) (W : World) : Prop where
  bx : W.heap[w.heap.size]? = some (.cells #[.int .i64 s, .int .i64 g] 24 (0, 0))
  p0 : W.cell? ⟨gp, o, none⟩ = some (.bool x0)
  p1 : W.cell? ⟨gp, o + 1, none⟩ = some (.int .i64 x1)
  p2 : W.cell? ⟨gp, o + 2, none⟩ = some (.int .i64 x2)
  lt : gp < w.heap.size
  zl : w.heap.size ≤ W.heap.size
  u : True
theorem Sl.tn {t t' : Nat → Tg} {w W W' : World} {s g : Int} {gp o : Nat} {x0 : Bool} {x1 x2 : Int} (h : Sl w s g gp o x0 x1 x2 W) (n : Tn t t' W W') (hp : t gp = .no) (hi : t w.heap.size = .no) : Sl w s g gp o x0 x1 x2 W' :=
  ⟨(n.c.block _ (lt_of_block h.bx) (fun q => q hi)).trans h.bx, (n.c.cell (Nat.lt_of_lt_of_le h.lt h.zl) (fun q => q hp)).trans h.p0, (n.c.cell (Nat.lt_of_lt_of_le h.lt h.zl) (fun q => q hp)).trans h.p1, (n.c.cell (Nat.lt_of_lt_of_le h.lt h.zl) (fun q => q hp)).trans h.p2, h.lt, Nat.le_trans h.zl n.c.size, trivial⟩
theorem Sl.own {w W W' : World} {s g : Int} {gp o : Nat} {x0 : Bool} {x1 x2 : Int} (h : Sl w s g gp o x0 x1 x2 W) (k : Ch (Only (w.heap.size + 1)) W W') (hp : gp < w.heap.size) : Sl w s g gp o x0 x1 x2 W' :=
  ⟨(k.block _ (lt_of_block h.bx) (fun q => by have e : w.heap.size = w.heap.size + 1 := q; omega)).trans h.bx, (k.cell (Nat.lt_of_lt_of_le h.lt h.zl) (fun q => by have e : gp = w.heap.size + 1 := q; omega)).trans h.p0, (k.cell (Nat.lt_of_lt_of_le h.lt h.zl) (fun q => by have e : gp = w.heap.size + 1 := q; omega)).trans h.p1, (k.cell (Nat.lt_of_lt_of_le h.lt h.zl) (fun q => by have e : gp = w.heap.size + 1 := q; omega)).trans h.p2, h.lt, Nat.le_trans h.zl k.size, trivial⟩
set_option maxRecDepth 40000 in
set_option maxHeartbeats 8000000 in
theorem sel_goes {t : Nat → Tg} {w : World} {b : Nat} {cs : List Cn} {s g : Int} {wa : Bool} {va : Int} {ok : Bool} {tr : Int} {ks : List Wk} (ao : Option Addr) (n cap : Nat) (ps : List Pk) (df : Bool) (dv : Value) (l : List Int) (k : Nat) (x0 : Bool) (x1 x2 : Int) (P : Nat → Prop) (hps : Ls eP P w (.slice ao n cap) ps) (hpP : ∀ q, P q → t q = .no) (hk : ps[k]? = some ⟨x0, x1, x2⟩)
    (hi : ∀ q, w.heap.size ≤ q → t q = .no) (hO : ∀ W, Gr w W → Calls Try.prog 16 #[.int .i64 (n : Int), dv] W (OrR W n l))
    (hW : ∀ W, Gr w W → Calls Try.prog 10 #[.pointer (some ⟨b, 0, none⟩), .agg #[.int .i64 s, .int .i64 g]] W fun e w' => e = .returned (.bool false) ∧ Gr W w')
    (hC : ∀ W, Gr w W → Calls Try.prog 28 #[.pointer (some ⟨b, 0, none⟩), .slice ao n cap] W fun e w' => e = .returned (.bool true) ∧ Gr W w')
    (hF : ∀ W, Gr w W → ∀ oo co, Ls eI (w.heap.size ≤ ·) W (.slice oo n co) l → Calls Try.prog 29 #[.pointer (some ⟨b, 0, none⟩), .slice ao n cap, .slice oo n co] W fun e w' => e = .returned (.int .i64 (k : Int)) ∧ Gr W w')
    (hA : ∀ W, Gr w W → Calls Try.prog 30 #[.pointer (some ⟨b, 0, none⟩), .agg #[.int .i64 s, .int .i64 g], .agg #[.bool x0, .int .i64 x1, .int .i64 x2]] W (CaR t W b cs wa va ok tr ks)) :
    Calls Try.prog 11 #[.pointer (some ⟨b, 0, none⟩), .agg #[.int .i64 s, .int .i64 g], .slice ao n cap, .bool df, dv] w (SeR t w b cs k wa va ok tr ks) := by
  obtain ⟨gp, op, capp, hvp, hP1, hgp, _, hcs⟩ := hps.get eP_len hk
  injection hvp with hv1 hv2 hv3
  subst hv1
  have HP := hid (hpP gp hP1)
  have HGP := hid hgp
  have HPC := hid hcs
  have HI := hid hi
  have HKN := hid (show k < n from by have := (List.getElem?_eq_some_iff.1 hk).1; have := hps.len.1; omega)
  have HO := hid hO
  have HW := hid hW
  have HC := hid hC
  have HF := hid hF
  have HCA := hid hA
  obtain ⟨W0, hW0⟩ : ∃ W0, W0 = (w.alloc (.cells #[.int .i64 s, .int .i64 g] 24)).alloc (.cells cz 45) := ⟨_, rfl⟩
  have G0 := hid (show Gr w W0 from by rw [hW0]; exact Ch.alloc (Ch.alloc (Gr.refl w) _) _)
  have B0 := hid (show W0.heap[w.heap.size]? = some (.cells #[.int .i64 s, .int .i64 g] 24 (0, 0)) from by rw [hW0]; exact al_blk (MapKept.heap_alloc w _).1 _)
  have Z0 := hid (show W0.heap[w.heap.size + 1]? = some (.cells cz 45 (0, 0)) from by rw [hW0]; exact al_at _ (by simp))
  have k0 : (0 : Int) ≤ (k : Int) := by omega
  have k1 : (k : Int) < (n : Int) := by have := HKN.out; omega
  have k2 : ((k : Int) == -1) = false := by simp
  clear hps hpP hk hi hO hW hC hF hA hcs hv2 hv3 hP1 hgp
  go_enter Try.func11, Try.ntmps11
  go_upto_region 10 with (first
    | (go_at_call 16; rw [← hW0]; refine (HO.out _ G0.out).mono ?_; rintro e w1 ⟨oo, co, rfl, o1, g1⟩; have G1 := hid (Gr.trans G0.out g1); have O1 := hid (o1.lst.mono (Q := fun q => w.heap.size ≤ q) (fun q _ hq => Nat.le_trans G0.out.size hq)); have B1 := hid (gr_blk B0.out g1); have Z1 := hid (gr_blk Z0.out g1); clear o1 g1)
    | (refine wpList_load_row rfl 24 (.tmp 6) rfl w.heap.size rfl _ _ _ _ B1.out Try.underlying24 rfl gid_size ?_)
    | (go_at_call 10; refine (HW.out _ G1.out).mono ?_; rintro e w2 ⟨rfl, g2⟩; have G2 := hid (Gr.trans G1.out g2); have O2 := hid (O1.out.gr g2); have B2 := hid (gr_blk B1.out g2); have Z2 := hid (gr_blk Z1.out g2); clear g2)
    | (go_at_call 28; refine (HC.out _ G2.out).mono ?_; rintro e w3 ⟨rfl, g3⟩; have G3 := hid (Gr.trans G2.out g3); have O3 := hid (O2.out.gr g3); have B3 := hid (gr_blk B2.out g3); have Z3 := hid (gr_blk Z2.out g3); clear g3)
    | (go_at_call 29; refine (HF.out _ G3.out _ _ O3.out).mono ?_; rintro e w4 ⟨rfl, g4⟩; have G4 := hid (Gr.trans G3.out g4); have B4 := hid (gr_blk B3.out g4); have Z4 := hid (gr_blk Z3.out g4); clear g4))
  clear HO HW HC HF O1 O2 O3 B1 B2 B3 Z1 Z2 Z3 G1 G2 G3
  have hS0 : Sl w s g gp (op + k * 3) x0 x1 x2 (World.drew w4) := ⟨B4.out, by have := HPC.out 0 _ rfl; exact (G4.out.cell HGP.out).trans this, by have := HPC.out 1 _ rfl; exact (G4.out.cell HGP.out).trans this, by have := HPC.out 2 _ rfl; exact (G4.out.cell HGP.out).trans this, HGP.out, G4.out.size, trivial⟩
  have HZ5 := hid (show (World.drew w4).heap[w.heap.size + 1]? = some (.cells cz 45 (0, 0)) from Z4.out)
  have GV := hid (show Gr w (World.drew w4) from Ch.drew G4.out)
  refine wp_region_held_drew (S := Sl w s g gp (op + k * 3) x0 x1 x2) (by kernel_rfl) (by exact hS0) (fun _ => ?_)
  generalize World.drew w4 = V0 at hS0 HZ5 GV ⊢
  refine takeS_on (i := 0) 45 (v := ?v1) rfl rfl (by kernel_rfl) (by kernel_rfl) (by kernel_rfl) (fun _ _ _ h => h) (by kernel_rfl) ?hy1 (by exact hS0) ?_
  case hy1 => (intro w' hSw; go_simp; try (with_reducible rfl))
  simp only [Act.put, List.setIfInBounds_toArray, List.set_cons_zero, List.set_cons_succ]
  refine takeS_on (i := 1) 46 (v := ?v2) rfl rfl (by kernel_rfl) (by kernel_rfl) (by kernel_rfl) (fun _ _ _ h => h) (by kernel_rfl) ?hy2 (by exact hS0) ?_
  case hy2 => (intro w' hSw; go_simp; try (with_reducible rfl))
  simp only [Act.put, List.setIfInBounds_toArray, List.set_cons_zero, List.set_cons_succ]
  refine takeS_on (i := 2) 47 (v := ?v3) rfl rfl (by kernel_rfl) (by kernel_rfl) (by kernel_rfl) (fun _ _ _ h => h) (by kernel_rfl) ?hy3 (by exact hS0) ?_
  case hy3 => (intro w' hSw; refine Eq.trans (exec_row 24 (.tmp 6) rfl _ rfl _ _ _ _ hSw.bx Try.underlying24 rfl gid_size) ?_; with_reducible rfl)
  simp only [Act.put, List.setIfInBounds_toArray, List.set_cons_zero, List.set_cons_succ]
  refine takeS_on (i := 3) 48 (v := ?v4) rfl rfl (by kernel_rfl) (by kernel_rfl) (by kernel_rfl) (fun _ _ _ h => h) (by kernel_rfl) ?hy4 (by exact hS0) ?_
  case hy4 => (intro w' hSw; go_simp; try (with_reducible rfl))
  simp only [Act.put, List.setIfInBounds_toArray, List.set_cons_zero, List.set_cons_succ]
  refine takeS_on (i := 4) 49 (v := ?v5) rfl rfl (by kernel_rfl) (by kernel_rfl) (by kernel_rfl) (fun _ _ _ h => h) (by kernel_rfl) ?hy5 (by exact hS0) ?_
  case hy5 => (intro w' hSw; go_simp; try (with_reducible rfl))
  simp only [Act.put, List.setIfInBounds_toArray, List.set_cons_zero, List.set_cons_succ]
  refine takeS_on (i := 5) 50 (v := ?v6) rfl rfl (by kernel_rfl) (by kernel_rfl) (by kernel_rfl) (fun _ _ _ h => h) (by kernel_rfl) ?hy6 (by exact hS0) ?_
  case hy6 => (intro w' hSw; go_simp; try (with_reducible rfl))
  simp only [Act.put, List.setIfInBounds_toArray, List.set_cons_zero, List.set_cons_succ]
  refine takeS_on (i := 6) 51 (v := ?v7) rfl rfl (by kernel_rfl) (by kernel_rfl) (by kernel_rfl) (fun _ _ _ h => h) (by kernel_rfl) ?hy7 (by exact hS0) ?_
  case hy7 => (intro w' hSw; have c0 := hSw.p0; have c1 := hSw.p1; have c2 := hSw.p2; go_simp; try (with_reducible rfl))
  simp only [Act.put, List.setIfInBounds_toArray, List.set_cons_zero, List.set_cons_succ]
  refine wpAnyH_ready (rs := [7]) (by kernel_rfl) (by simp) (AllReadyH.cons rfl (fun K hK => ?_) AllReadyH.nil)
  go_simp
  refine (HCA.out _ GV.out).mono ?_
  rintro e w6 ⟨mo, mn, mc, rfl, o6, t6, c6, n6, z6⟩
  have hS1 : Sl w s g gp (op + k * 3) x0 x1 x2 w6 := hS0.tn n6 (HP.out) (HI.out _ (Nat.le_refl _))
  have O6 := hid o6
  have C6 := hid c6
  have N6 := hid (Tn.ahead GV.out n6)
  have Z6 := hid z6
  have T6 := hid (n6.o _ (lt_of_block HZ5.out) (HI.out (w.heap.size + 1) (by omega)))
  have HZ6 := hid ((n6.c.block _ (lt_of_block HZ5.out) (fun q => q (HI.out (w.heap.size + 1) (by omega)))).trans HZ5.out)
  have G6 := hid GV.out
  clear o6 c6 n6 z6
  refine hK.out _ _ (by exact hS1) (fun _ => ?_)
  clear hK K
  refine takeS_on (i := 8) 53 (v := ?v8) rfl rfl (by kernel_rfl) (by kernel_rfl) (by kernel_rfl) (fun _ _ _ h => h) (by kernel_rfl) ?hy8 (by exact hS1) ?_
  case hy8 => (intro w' hSw; go_simp; try (with_reducible rfl))
  simp only [Act.put, List.setIfInBounds_toArray, List.set_cons_zero, List.set_cons_succ]
  refine wpAnyH_ready (rs := [9]) (by kernel_rfl) (by simp) (AllReadyH.cons rfl (fun K hK => ?_) AllReadyH.nil)
  rw [if_pos (by kernel_rfl)]
  refine op_row 45 (.tmp 10) (.tmp 53) rfl (w.heap.size + 1) _ rfl rfl _ _ HZ6.out cho_size rfl (one_cho _ _ _ _ _ _ _ _ _) ?_
  intro w9 b9 k9
  have hS2 : Sl w s g gp (op + k * 3) x0 x1 x2 w9 := hS1.own k9 HGP.out
  have M9 := hid b9
  have K9 := hid k9
  clear b9 k9
  refine hK.out _ _ (by exact hS2) (fun _ => ?_)
  clear hK K
  refine takeS_on (i := 10) 11 (v := ?v9) rfl rfl (by kernel_rfl) (by kernel_rfl) (by kernel_rfl) (fun _ _ _ h => h) (by kernel_rfl) ?hy9 (by exact hS2) ?_
  case hy9 => (intro w' hSw; go_simp; try (with_reducible rfl))
  simp only [Act.put, List.setIfInBounds_toArray]
  refine wpAnyH_done (by kernel_rfl) ?_ _
  go_wp2
  exact bodyPost_ret (results_cell_tmp2 rfl _ _ (w.heap.size + 1) _ rfl (run_loadVar_row _ _ _ _ _ _ _ M9.out Try.underlying45 rfl cho_size)) rfl ⟨mo, mn, mc, rfl, ((O6.out.ch K9.out (fun q hq e => by have e1 : q = w.heap.size + 1 := e; have := (O6.out.blk hq).1; have := lt_of_block HZ5.out; omega)).lower G6.out.size), t6, C6.out.ch K9.out (fun q e => by have e1 : q = w.heap.size + 1 := e; rw [e1]; exact T6.out), N6.out.own K9.out (by omega), Z6.out⟩
end Go.Proofs.Ytalmiphddgmfbab.Lt
