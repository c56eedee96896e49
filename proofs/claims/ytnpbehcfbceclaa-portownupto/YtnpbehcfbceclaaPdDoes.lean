/-
  One act on a port and on the document's state: the answers are the same. Conditions: they stand for the same.
-/
import Derived.Test.YtnpbehcfbceclaaPdNb
import Derived.Test.YtnpbehcfbceclaaPoCall
import Derived.Deep.RegionHeld3
namespace Go.Proofs.Ytnpbehcfbceclaa.Lt
open Go.RowKit Wd
attribute [local go_sem ↓] Go.wp_at_zero Go.wp_at_succ
set_option maxRecDepth 20000

/-- the three boxes of a call -/
def B3 (W : World) : Nat → Prop := fun g => W.heap.size ≤ g ∧ g < W.heap.size + 3
def BB (B : Nat → Prop) (W : World) : Nat → Prop := fun g => B g ∨ B3 W g
/-- what does tells -/
def DoR (B : Nat → Prop) (w W : World) (p : Nat) (x : Pt) (e : Ending) (W' : World) : Prop := ∃ u1 u2, e = .returned (.tuple #[stV x u1 u2, .bool true]) ∧ Nb B w W' p x u1 u2 x ∧ Ch (fun g => ¬ B g) W W'
/-- the boxes of the act and of the state that was told -/
def Sd (b t8 : Nat) (ac z : Array Value) (V : World) : Prop := V.heap[b]? = some (.cells ac 39 (0, 0)) ∧ V.heap[t8]? = some (.cells z 32 (0, 0))
theorem Sd.ch {b t8 : Nat} {ac z : Array Value} {V V' : World} {S : Nat → Prop} (h : Sd b t8 ac z V) (c : Ch S V V') (h1 : ¬ S b) (h2 : ¬ S t8) : Sd b t8 ac z V' := ⟨ch_blk h.1 c h1, ch_blk h.2 c h2⟩
section
variable {B : Nat → Prop} {w W : World} {p : Nat} {x : Pt} {v1 v2 : Value}
set_option maxHeartbeats 4000000 in
theorem does0 (v : Int) (h : Nb B w W p x v1 v2 x) (hB : ∀ g, B g → g < W.heap.size) : Calls Try.prog 12 #[.pointer (some ⟨p, 0, none⟩), stV x v1 v2, .agg #[.int .i64 0, .int .i64 v]] W fun e W' => DoR B w W p (putP x v).1 e W' := by
  obtain ⟨a1, n1, c1, rfl⟩ : ∃ a n c, v1 = .slice a n c := by
    obtain ⟨_, _, _, T, _, _, l3, _⟩ := h
    obtain ⟨a, c, e⟩ := l3.form
    exact ⟨a, _, c, e⟩
  obtain ⟨a2, n2, c2, rfl⟩ : ∃ a n c, v2 = .slice a n c := by
    obtain ⟨_, _, _, T, _, _, _, l4⟩ := h
    obtain ⟨a, c, e⟩ := l4.form
    exact ⟨a, _, c, e⟩
  obtain ⟨A, hA⟩ : ∃ A, A = ((W.alloc (.cells #[.bool x.q, .int .i64 (x.cap : Nat), .slice a1 n1 c1, .slice a2 n2 c2, .int .i64 (x.lost : Nat)] 32)).alloc (.cells #[.int .i64 0, .int .i64 v] 39)).alloc (.cells #[.bool false, .int .i64 0, .slice none 0 0, .slice none 0 0, .int .i64 0] 32) := ⟨_, rfl⟩
  have GA := hid (show Gr W A by rw [hA]; exact Ch.alloc (Ch.alloc (Ch.alloc (Gr.refl W) _) _) _)
  have XB := hid (show A.heap[W.heap.size]? = some (.cells #[.bool x.q, .int .i64 (x.cap : Nat), .slice a1 n1 c1, .slice a2 n2 c2, .int .i64 (x.lost : Nat)] 32 (0, 0)) by rw [hA]; exact al_blk (al_blk (al_at _ rfl) _) _)
  have XC := hid (show A.heap[W.heap.size + 1]? = some (.cells #[.int .i64 0, .int .i64 v] 39 (0, 0)) by rw [hA]; exact al_blk (al_at _ (by simp)) _)
  have XZ := hid (show A.heap[W.heap.size + 2]? = some (.cells #[.bool false, .int .i64 0, .slice none 0 0, .slice none 0 0, .int .i64 0] 32 (0, 0)) by rw [hA]; exact al_at _ (by simp))
  have XS := hid (show A.heap.size = W.heap.size + 3 by rw [hA]; simp)
  have NBA := hid (show Nb (BB B W) w A p x (.slice a1 n1 c1) (.slice a2 n2 c2) x from (h.add (fun g e => e.elim .inl (fun e => .inr e.1))).gr GA.out)
  have HBW := hid hB
  have HBA := hid (show ∀ g, BB B W g → g < A.heap.size from fun g e => e.elim (fun e => by have := HBW.out g e; have := XS.out; omega) (fun e => by have := e.2; have := XS.out; omega))
  have HWS := hid (show w.heap.size ≤ W.heap.size from h.1.size)
  unfold stV
  have HC := hid (brput v NBA.out HBA.out)
  unfold stV at HC
  obtain ⟨y, hy⟩ : ∃ y, y = (putP x v).1 := ⟨_, rfl⟩
  obtain ⟨r, hr⟩ : ∃ r, r = (putP x v).2 := ⟨_, rfl⟩
  rw [← hy, ← hr] at HC
  have HY := hid hy
  rw [← hy]
  have HR := hid hr
  have hrr : (r == r) = true := by simp
  clear h hB hy hr
  go_enter Try.func12, Try.ntmps12
  go_wp2_with (rw [← hA]; refine wpList_load_row rfl 32 (.tmp 4) rfl W.heap.size rfl _ _ _ _ XB.out Try.underlying32 rfl pst_size ?_)
  rw [← hA]
  clear hA
  refine HC.out.mono ?_
  rintro e w1 ⟨u1, u2, rfl, nb1, g1⟩
  obtain ⟨a3, n3, c3, rfl⟩ : ∃ a n c, u1 = .slice a n c := by
    obtain ⟨_, _, _, T, _, _, l3, _⟩ := nb1
    obtain ⟨a, c, e⟩ := l3.form
    exact ⟨a, _, c, e⟩
  obtain ⟨a4, n4, c4, rfl⟩ : ∃ a n c, u2 = .slice a n c := by
    obtain ⟨_, _, _, T, _, _, _, l4⟩ := nb1
    obtain ⟨a, c, e⟩ := l4.form
    exact ⟨a, _, c, e⟩
  have G1 := hid g1
  have NB1 := hid nb1
  have XT := hid (show (w1.alloc (.cells #[.bool y.q, .int .i64 (y.cap : Nat), .slice a3 n3 c3, .slice a4 n4 c4, .int .i64 (y.lost : Nat)] 32)).heap[w1.heap.size]? = some (.cells #[.bool y.q, .int .i64 (y.cap : Nat), .slice a3 n3 c3, .slice a4 n4 c4, .int .i64 (y.lost : Nat)] 32 (0, 0)) from al_at _ rfl)
  have XC2 := hid (show (w1.alloc (.cells #[.bool y.q, .int .i64 (y.cap : Nat), .slice a3 n3 c3, .slice a4 n4 c4, .int .i64 (y.lost : Nat)] 32)).heap[W.heap.size + 1]? = some (.cells #[.int .i64 0, .int .i64 v] 39 (0, 0)) from al_blk (gr_blk XC.out G1.out) _)
  have XZ2 := hid (show (w1.alloc (.cells #[.bool y.q, .int .i64 (y.cap : Nat), .slice a3 n3 c3, .slice a4 n4 c4, .int .i64 (y.lost : Nat)] 32)).heap[W.heap.size + 2]? = some (.cells #[.bool false, .int .i64 0, .slice none 0 0, .slice none 0 0, .int .i64 0] 32 (0, 0)) from al_blk (gr_blk XZ.out G1.out) _)
  have HT8 := hid (show W.heap.size + 3 ≤ w1.heap.size by have := XS.out; have := G1.out.size; omega)
  have NB2 := hid (show Nb (fun g => BB B W g ∨ g = w1.heap.size) w (w1.alloc (.cells #[.bool y.q, .int .i64 (y.cap : Nat), .slice a3 n3 c3, .slice a4 n4 c4, .int .i64 (y.lost : Nat)] 32)) p x (.slice a3 n3 c3) (.slice a4 n4 c4) y from (NB1.out.add (fun g e => e.elim .inl (fun e => .inr (by omega)))).gr (Ch.alloc (Gr.refl w1) _))
  have HB2 := hid (show ∀ g, (BB B W g ∨ g = w1.heap.size) → g < (w1.alloc (.cells #[.bool y.q, .int .i64 (y.cap : Nat), .slice a3 n3 c3, .slice a4 n4 c4, .int .i64 (y.lost : Nat)] 32)).heap.size from fun g e => e.elim (fun e => by have := HBA.out g e; have := G1.out.size; simp; omega) (fun e => by simp; omega))
  have CW2 := hid (show Ch (fun g => ¬ B g) W (w1.alloc (.cells #[.bool y.q, .int .i64 (y.cap : Nat), .slice a3 n3 c3, .slice a4 n4 c4, .int .i64 (y.lost : Nat)] 32)) from (Ch.alloc (Gr.trans GA.out G1.out) _).any)
  clear g1 nb1
  go_wp2_with fail
  generalize hW2 : (w1.alloc (.cells #[.bool y.q, .int .i64 (y.cap : Nat), .slice a3 n3 c3, .slice a4 n4 c4, .int .i64 (y.lost : Nat)] 32)) = W2 at XT XC2 XZ2 NB2 HB2 CW2 ⊢
  clear hW2
  obtain ⟨t8, ht8⟩ : ∃ t, t = w1.heap.size := ⟨_, rfl⟩
  rw [← ht8] at XT HT8 NB2 HB2 ⊢
  clear ht8
  have hS0 : Sd (W.heap.size + 1) t8 #[.int .i64 0, .int .i64 v] #[.bool y.q, .int .i64 (y.cap : Nat), .slice a3 n3 c3, .slice a4 n4 c4, .int .i64 (y.lost : Nat)] W2.drew := ⟨XC2.out, XT.out⟩
  have BZ0 := hid (show W2.drew.heap[W.heap.size + 2]? = some (.cells #[.bool false, .int .i64 0, .slice none 0 0, .slice none 0 0, .int .i64 0] 32 (0, 0)) from XZ2.out)
  have NB0 := hid (show Nb (fun g => BB B W g ∨ g = t8) w W2.drew p x (.slice a3 n3 c3) (.slice a4 n4 c4) y from NB2.out.gr (Ch.drew (Gr.refl W2)))
  have HB0 := hid (show ∀ g, (BB B W g ∨ g = t8) → g < W2.drew.heap.size from HB2.out)
  have CW0 := hid (show Ch (fun g => ¬ B g) W W2.drew from CW2.out.drew)
  have BP := hid (show ∀ W5 : World, Nb (fun g => BB B W g ∨ g = t8) w W5 p x (.slice a3 n3 c3) (.slice a4 n4 c4) y → (∀ g, (BB B W g ∨ g = t8) → g < W5.heap.size) → Calls Try.prog 19 #[.pointer (some ⟨p, 0, none⟩), .int .i64 v] W5 fun e W' => e = .returned (.bool r) ∧ Nb (fun g => BB B W g ∨ g = t8) w W' p y (.slice a3 n3 c3) (.slice a4 n4 c4) y ∧ Ch (fun g => ¬ (BB B W g ∨ g = t8)) W5 W' from fun W5 h1 h2 => by have k := bput v h1 h2; rw [← HR.out, ← HY.out] at k; exact k)
  refine wp_region_held_drew (S := Sd (W.heap.size + 1) t8 #[.int .i64 0, .int .i64 v] #[.bool y.q, .int .i64 (y.cap : Nat), .slice a3 n3 c3, .slice a4 n4 c4, .int .i64 (y.lost : Nat)]) (by kernel_rfl) (by exact hS0) (fun _ => ?_)
  generalize World.drew W2 = V0 at hS0 BZ0 NB0 HB0 CW0 ⊢
  refine takeS_on (i := 0) 26 (v := ?hv1) rfl rfl (by kernel_rfl) (by kernel_rfl) (by kernel_rfl) (fun _ _ _ h => h) (by kernel_rfl) ?hh1 (by exact hS0) ?_
  case hh1 => (intro w' hSw; have z0 := cell_of hSw.2 0; have z1 := cell_of hSw.2 1; have z2 := cell_of hSw.2 2; have z3 := cell_of hSw.2 3; have z4 := cell_of hSw.2 4; have zl := lt_of_block hSw.2; simp at z0 z1 z2 z3 z4; go_simp; try (with_reducible rfl))
  simp only [Act.put, List.setIfInBounds_toArray, List.set_cons_zero, List.set_cons_succ]
  refine takeS_on (i := 1) 27 (v := ?hv2) rfl rfl (by kernel_rfl) (by kernel_rfl) (by kernel_rfl) (fun _ _ _ h => h) (by kernel_rfl) ?hh2 (by exact hS0) ?_
  case hh2 => (intro w' hSw; go_simp; try (with_reducible rfl))
  simp only [Act.put, List.setIfInBounds_toArray, List.set_cons_zero, List.set_cons_succ]
  refine takeS_on (i := 2) 28 (v := ?hv3) rfl rfl (by kernel_rfl) (by kernel_rfl) (by kernel_rfl) (fun _ _ _ h => h) (by kernel_rfl) ?hh3 (by exact hS0) ?_
  case hh3 => (intro w' hSw; go_simp; try (with_reducible rfl))
  simp only [Act.put, List.setIfInBounds_toArray, List.set_cons_zero, List.set_cons_succ]
  refine takeS_on (i := 3) 29 (v := ?hv4) rfl rfl (by kernel_rfl) (by kernel_rfl) (by kernel_rfl) (fun _ _ _ h => h) (by kernel_rfl) ?hh4 (by exact hS0) ?_
  case hh4 => (intro w' hSw; have z1 := cell_of hSw.1 1; have zl := lt_of_block hSw.1; simp at z1; go_simp; try (with_reducible rfl))
  simp only [Act.put, List.setIfInBounds_toArray, List.set_cons_zero, List.set_cons_succ]
  refine takeS_on (i := 5) 31 (v := ?hv5) rfl rfl (by kernel_rfl) (by kernel_rfl) (by kernel_rfl) (fun _ _ _ h => h) (by kernel_rfl) ?hh5 (by exact hS0) ?_
  case hh5 => (intro w' hSw; go_simp; try (with_reducible rfl))
  simp only [Act.put, List.setIfInBounds_toArray, List.set_cons_zero, List.set_cons_succ]
  refine wpAnyH_ready (rs := [4]) (by kernel_rfl) (by simp) (AllReadyH.cons rfl (fun K hK => ?_) AllReadyH.nil)
  go_simp
  refine (BP.out _ NB0.out HB0.out).mono ?_
  rintro e w3 ⟨rfl, nb3, c3⟩
  have hS3 := hS0.ch c3 (fun e => e (.inl (.inr ⟨by omega, by omega⟩))) (fun e => e (.inr rfl))
  have BZ3 := hid (ch_blk BZ0.out c3 (fun e => e (.inl (.inr ⟨by omega, by omega⟩))))
  have NB3 := hid nb3
  have CW3 := hid (Ch.trans' CW0.out (c3.mono (T := fun g => ¬ B g) (fun q hq => .inl (fun e => hq (.inl (.inl e))))))
  clear nb3 c3
  refine hK.out _ _ (by exact hS3) (fun _ => ?_)
  clear hK K
  refine takeS_on (i := 6) 32 (v := ?hv6) rfl rfl (by kernel_rfl) (by kernel_rfl) (by kernel_rfl) (fun _ _ _ h => h) (by kernel_rfl) ?hh6 (by exact hS3) ?_
  case hh6 => (intro w' hSw; go_simp; try (with_reducible rfl))
  simp only [Act.put, List.setIfInBounds_toArray, List.set_cons_zero, List.set_cons_succ]
  refine wpAnyH_ready (rs := [7]) (by kernel_rfl) (by simp) (AllReadyH.cons rfl (fun K hK => ?_) AllReadyH.nil)
  refine step_st_row rfl 32 (.tmp 6) (.tmp 26) rfl (W.heap.size + 2) #[.bool y.q, .int .i64 (y.cap : Nat), .slice a3 n3 c3, .slice a4 n4 c4, .int .i64 (y.lost : Nat)] rfl rfl _ _ BZ3.out pst_size rfl (by simp [Value.oneCell']) ?_
  intro w8 b8 k8
  have hS8 := hS3.ch k8 (fun e => by have e1 : W.heap.size + 1 = W.heap.size + 2 := e; omega) (fun e => by have e1 : t8 = W.heap.size + 2 := e; have := HT8.out; omega)
  have B8 := hid b8
  have NB8 := hid (NB3.out.st k8 (fun g e => .inl (.inr (by have e1 : g = W.heap.size + 2 := e; exact ⟨by omega, by omega⟩))) (fun g e => by have e1 : g = W.heap.size + 2 := e; have := HWS.out; omega))
  have CW8 := hid (Ch.trans CW3.out k8 (fun q e => .inr (by have e1 : q = W.heap.size + 2 := e; omega)))
  clear b8 k8
  refine hK.out _ _ (by exact hS8) (fun _ => ?_)
  change wpAnyH _ _ _ _ _ _ _ (Act.put _ none _) _
  simp only [Act.put]
  clear hK K
  refine takeS_on (i := 8) 7 (v := ?hv7) rfl rfl (by kernel_rfl) (by kernel_rfl) (by kernel_rfl) (fun _ _ _ h => h) (by kernel_rfl) ?hh7 (by exact hS8) ?_
  case hh7 => (intro w' hSw; go_simp; try (with_reducible rfl))
  simp only [Act.put, List.setIfInBounds_toArray, List.set_cons_zero, List.set_cons_succ]
  refine wpAnyH_done (by kernel_rfl) ?_ _
  clear hS0 hS3 hS8
  go_wp2
  exact bodyPost_ret (results_cell_tmp2 rfl _ _ (W.heap.size + 2) _ rfl (run_loadVar_row _ _ _ _ _ _ _ B8.out Try.underlying32 rfl pst_size)) rfl ⟨_, _, rfl, NB8.out.add (fun g e => .inl (.inl (.inl e))), CW8.out⟩
set_option maxHeartbeats 4000000 in
theorem does1 (v : Int) (h : Nb B w W p x v1 v2 x) (hB : ∀ g, B g → g < W.heap.size) : Calls Try.prog 12 #[.pointer (some ⟨p, 0, none⟩), stV x v1 v2, .agg #[.int .i64 1, .int .i64 v]] W fun e W' => DoR B w W p (getP x) e W' := by
  obtain ⟨a1, n1, c1, rfl⟩ : ∃ a n c, v1 = .slice a n c := by
    obtain ⟨_, _, _, T, _, _, l3, _⟩ := h
    obtain ⟨a, c, e⟩ := l3.form
    exact ⟨a, _, c, e⟩
  obtain ⟨a2, n2, c2, rfl⟩ : ∃ a n c, v2 = .slice a n c := by
    obtain ⟨_, _, _, T, _, _, _, l4⟩ := h
    obtain ⟨a, c, e⟩ := l4.form
    exact ⟨a, _, c, e⟩
  obtain ⟨A, hA⟩ : ∃ A, A = ((W.alloc (.cells #[.bool x.q, .int .i64 (x.cap : Nat), .slice a1 n1 c1, .slice a2 n2 c2, .int .i64 (x.lost : Nat)] 32)).alloc (.cells #[.int .i64 1, .int .i64 v] 39)).alloc (.cells #[.bool false, .int .i64 0, .slice none 0 0, .slice none 0 0, .int .i64 0] 32) := ⟨_, rfl⟩
  have GA := hid (show Gr W A by rw [hA]; exact Ch.alloc (Ch.alloc (Ch.alloc (Gr.refl W) _) _) _)
  have XB := hid (show A.heap[W.heap.size]? = some (.cells #[.bool x.q, .int .i64 (x.cap : Nat), .slice a1 n1 c1, .slice a2 n2 c2, .int .i64 (x.lost : Nat)] 32 (0, 0)) by rw [hA]; exact al_blk (al_blk (al_at _ rfl) _) _)
  have XC := hid (show A.heap[W.heap.size + 1]? = some (.cells #[.int .i64 1, .int .i64 v] 39 (0, 0)) by rw [hA]; exact al_blk (al_at _ (by simp)) _)
  have XZ := hid (show A.heap[W.heap.size + 2]? = some (.cells #[.bool false, .int .i64 0, .slice none 0 0, .slice none 0 0, .int .i64 0] 32 (0, 0)) by rw [hA]; exact al_at _ (by simp))
  have XS := hid (show A.heap.size = W.heap.size + 3 by rw [hA]; simp)
  have NBA := hid (show Nb (BB B W) w A p x (.slice a1 n1 c1) (.slice a2 n2 c2) x from (h.add (fun g e => e.elim .inl (fun e => .inr e.1))).gr GA.out)
  have HBW := hid hB
  have HBA := hid (show ∀ g, BB B W g → g < A.heap.size from fun g e => e.elim (fun e => by have := HBW.out g e; have := XS.out; omega) (fun e => by have := e.2; have := XS.out; omega))
  have HWS := hid (show w.heap.size ≤ W.heap.size from h.1.size)
  unfold stV
  have HC := hid (brget NBA.out HBA.out)
  unfold stV at HC
  obtain ⟨y, hy⟩ : ∃ y, y = getP x := ⟨_, rfl⟩
  have BP := hid (fun (B : Nat → Prop) (W5 : World) (u1 u2 : Value) (y : Pt) (h1 : Nb B w W5 p x u1 u2 y) (h2 : ∀ g, B g → g < W5.heap.size) => bget h1 h2)
  rw [← hy] at HC BP
  rw [← hy]
  generalize (firstG x.inn).1 = g1v at HC BP
  generalize (firstG x.inn).2 = g2v at HC BP
  have e1 : (g1v == g1v) = true := by simp
  have e2 : (g2v == g2v) = true := by simp
  clear h hB hy
  go_enter Try.func12, Try.ntmps12
  go_wp2_with (rw [← hA]; refine wpList_load_row rfl 32 (.tmp 4) rfl W.heap.size rfl _ _ _ _ XB.out Try.underlying32 rfl pst_size ?_)
  rw [← hA]
  clear hA
  refine HC.out.mono ?_
  rintro e w1 ⟨u1, u2, rfl, nb1, g1⟩
  obtain ⟨a3, n3, c3, rfl⟩ : ∃ a n c, u1 = .slice a n c := by
    obtain ⟨_, _, _, T, _, _, l3, _⟩ := nb1
    obtain ⟨a, c, e⟩ := l3.form
    exact ⟨a, _, c, e⟩
  obtain ⟨a4, n4, c4, rfl⟩ : ∃ a n c, u2 = .slice a n c := by
    obtain ⟨_, _, _, T, _, _, _, l4⟩ := nb1
    obtain ⟨a, c, e⟩ := l4.form
    exact ⟨a, _, c, e⟩
  have G1 := hid g1
  have NB1 := hid nb1
  have XT := hid (show (w1.alloc (.cells #[.bool y.q, .int .i64 (y.cap : Nat), .slice a3 n3 c3, .slice a4 n4 c4, .int .i64 (y.lost : Nat)] 32)).heap[w1.heap.size]? = some (.cells #[.bool y.q, .int .i64 (y.cap : Nat), .slice a3 n3 c3, .slice a4 n4 c4, .int .i64 (y.lost : Nat)] 32 (0, 0)) from al_at _ rfl)
  have XC2 := hid (show (w1.alloc (.cells #[.bool y.q, .int .i64 (y.cap : Nat), .slice a3 n3 c3, .slice a4 n4 c4, .int .i64 (y.lost : Nat)] 32)).heap[W.heap.size + 1]? = some (.cells #[.int .i64 1, .int .i64 v] 39 (0, 0)) from al_blk (gr_blk XC.out G1.out) _)
  have XZ2 := hid (show (w1.alloc (.cells #[.bool y.q, .int .i64 (y.cap : Nat), .slice a3 n3 c3, .slice a4 n4 c4, .int .i64 (y.lost : Nat)] 32)).heap[W.heap.size + 2]? = some (.cells #[.bool false, .int .i64 0, .slice none 0 0, .slice none 0 0, .int .i64 0] 32 (0, 0)) from al_blk (gr_blk XZ.out G1.out) _)
  have HT8 := hid (show W.heap.size + 3 ≤ w1.heap.size by have := XS.out; have := G1.out.size; omega)
  have NB2 := hid (show Nb (fun g => BB B W g ∨ g = w1.heap.size) w (w1.alloc (.cells #[.bool y.q, .int .i64 (y.cap : Nat), .slice a3 n3 c3, .slice a4 n4 c4, .int .i64 (y.lost : Nat)] 32)) p x (.slice a3 n3 c3) (.slice a4 n4 c4) y from (NB1.out.add (fun g e => e.elim .inl (fun e => .inr (by omega)))).gr (Ch.alloc (Gr.refl w1) _))
  have HB2 := hid (show ∀ g, (BB B W g ∨ g = w1.heap.size) → g < (w1.alloc (.cells #[.bool y.q, .int .i64 (y.cap : Nat), .slice a3 n3 c3, .slice a4 n4 c4, .int .i64 (y.lost : Nat)] 32)).heap.size from fun g e => e.elim (fun e => by have := HBA.out g e; have := G1.out.size; simp; omega) (fun e => by simp; omega))
  have CW2 := hid (show Ch (fun g => ¬ B g) W (w1.alloc (.cells #[.bool y.q, .int .i64 (y.cap : Nat), .slice a3 n3 c3, .slice a4 n4 c4, .int .i64 (y.lost : Nat)] 32)) from (Ch.alloc (Gr.trans GA.out G1.out) _).any)
  clear g1 nb1
  go_wp2_with fail
  generalize hW2 : (w1.alloc (.cells #[.bool y.q, .int .i64 (y.cap : Nat), .slice a3 n3 c3, .slice a4 n4 c4, .int .i64 (y.lost : Nat)] 32)) = W2 at XT XC2 XZ2 NB2 HB2 CW2 ⊢
  clear hW2
  obtain ⟨t8, ht8⟩ : ∃ t, t = w1.heap.size := ⟨_, rfl⟩
  rw [← ht8] at XT HT8 NB2 HB2 ⊢
  clear ht8
  refine (BP.out _ _ _ _ _ NB2.out HB2.out).mono ?_
  rintro e w3 ⟨rfl, nb3, c3'⟩
  have XT3 := hid (ch_blk XT.out c3' (fun e => e (.inr rfl)))
  have XZ3 := hid (ch_blk XZ2.out c3' (fun e => e (.inl (.inr ⟨by omega, by omega⟩))))
  have NB3 := hid nb3
  have CW3 := hid (Ch.trans' CW2.out (c3'.mono (T := fun g => ¬ B g) (fun q hq => .inl (fun e => hq (.inl (.inl e))))))
  clear nb3 c3'
  go_wp2_with (first
    | (refine wpList_load_row rfl 32 (.tmp 10) rfl t8 rfl _ _ _ _ XT3.out Try.underlying32 rfl pst_size ?_)
    | (refine st_row rfl 32 (.tmp 6) (.tmp 46) rfl (W.heap.size + 2) #[.bool y.q, .int .i64 (y.cap : Nat), .slice a3 n3 c3, .slice a4 n4 c4, .int .i64 (y.lost : Nat)] rfl rfl _ _ XZ3.out pst_size rfl (by simp [Value.oneCell']) ?_; intro w8 b8 k8; have B8 := hid b8; have NB8 := hid (NB3.out.st k8 (fun g e => .inl (.inr (by have e1 : g = W.heap.size + 2 := e; exact ⟨by omega, by omega⟩))) (fun g e => by have e1 : g = W.heap.size + 2 := e; have := HWS.out; omega)); have CW8 := hid (Ch.trans CW3.out k8 (fun q e => .inr (by have e1 : q = W.heap.size + 2 := e; omega))); clear b8 k8))
  exact bodyPost_ret (results_cell_tmp2 rfl _ _ (W.heap.size + 2) _ rfl (run_loadVar_row _ _ _ _ _ _ _ B8.out Try.underlying32 rfl pst_size)) rfl ⟨_, _, rfl, NB8.out.add (fun g e => .inl (.inl (.inl e))), CW8.out⟩
set_option maxHeartbeats 4000000 in
theorem does2 (v : Int) (h : Nb B w W p x v1 v2 x) (hB : ∀ g, B g → g < W.heap.size) : Calls Try.prog 12 #[.pointer (some ⟨p, 0, none⟩), stV x v1 v2, .agg #[.int .i64 2, .int .i64 v]] W fun e W' => DoR B w W p (dlvP x) e W' := by
  obtain ⟨a1, n1, c1, rfl⟩ : ∃ a n c, v1 = .slice a n c := by
    obtain ⟨_, _, _, T, _, _, l3, _⟩ := h
    obtain ⟨a, c, e⟩ := l3.form
    exact ⟨a, _, c, e⟩
  obtain ⟨a2, n2, c2, rfl⟩ : ∃ a n c, v2 = .slice a n c := by
    obtain ⟨_, _, _, T, _, _, _, l4⟩ := h
    obtain ⟨a, c, e⟩ := l4.form
    exact ⟨a, _, c, e⟩
  obtain ⟨A, hA⟩ : ∃ A, A = ((W.alloc (.cells #[.bool x.q, .int .i64 (x.cap : Nat), .slice a1 n1 c1, .slice a2 n2 c2, .int .i64 (x.lost : Nat)] 32)).alloc (.cells #[.int .i64 2, .int .i64 v] 39)).alloc (.cells #[.bool false, .int .i64 0, .slice none 0 0, .slice none 0 0, .int .i64 0] 32) := ⟨_, rfl⟩
  have GA := hid (show Gr W A by rw [hA]; exact Ch.alloc (Ch.alloc (Ch.alloc (Gr.refl W) _) _) _)
  have XB := hid (show A.heap[W.heap.size]? = some (.cells #[.bool x.q, .int .i64 (x.cap : Nat), .slice a1 n1 c1, .slice a2 n2 c2, .int .i64 (x.lost : Nat)] 32 (0, 0)) by rw [hA]; exact al_blk (al_blk (al_at _ rfl) _) _)
  have XC := hid (show A.heap[W.heap.size + 1]? = some (.cells #[.int .i64 2, .int .i64 v] 39 (0, 0)) by rw [hA]; exact al_blk (al_at _ (by simp)) _)
  have XZ := hid (show A.heap[W.heap.size + 2]? = some (.cells #[.bool false, .int .i64 0, .slice none 0 0, .slice none 0 0, .int .i64 0] 32 (0, 0)) by rw [hA]; exact al_at _ (by simp))
  have XS := hid (show A.heap.size = W.heap.size + 3 by rw [hA]; simp)
  have NBA := hid (show Nb (BB B W) w A p x (.slice a1 n1 c1) (.slice a2 n2 c2) x from (h.add (fun g e => e.elim .inl (fun e => .inr e.1))).gr GA.out)
  have HBW := hid hB
  have HBA := hid (show ∀ g, BB B W g → g < A.heap.size from fun g e => e.elim (fun e => by have := HBW.out g e; have := XS.out; omega) (fun e => by have := e.2; have := XS.out; omega))
  have HWS := hid (show w.heap.size ≤ W.heap.size from h.1.size)
  unfold stV
  have HC := hid (bdeliver NBA.out HBA.out)
  obtain ⟨y, hy⟩ : ∃ y, y = dlvP x := ⟨_, rfl⟩
  have HY := hid hy
  rw [← hy]
  clear h hB hy
  go_enter Try.func12, Try.ntmps12
  go_wp2_with fail
  rw [← hA]
  clear hA
  refine HC.out.mono ?_
  rintro e w1 ⟨rfl, nb1, c1'⟩
  have XB1 := hid (ch_blk XB.out c1' (fun e => e (.inr ⟨by omega, by omega⟩)))
  have XZ1 := hid (ch_blk XZ.out c1' (fun e => e (.inr ⟨by omega, by omega⟩)))
  have CW1 := hid (Ch.trans' (Ch.any (S := fun g => ¬ B g) GA.out) (c1'.mono (T := fun g => ¬ B g) (fun q hq => .inl (fun e => hq (.inl e)))))
  have HB1 := hid (show ∀ g, BB B W g → g < w1.heap.size from fun g e => Nat.lt_of_lt_of_le (HBA.out g e) c1'.size)
  have HC2 := hid (brdeliver nb1 HB1.out)
  unfold stV at HC2
  rw [← HY.out] at HC2
  clear nb1 c1'
  go_wp2_with (refine wpList_load_row rfl 32 (.tmp 4) rfl W.heap.size rfl _ _ _ _ XB1.out Try.underlying32 rfl pst_size ?_)
  refine HC2.out.mono ?_
  rintro e w2 ⟨u1, u2, rfl, nb1, g2⟩
  obtain ⟨a3, n3, c3, rfl⟩ : ∃ a n c, u1 = .slice a n c := by
    obtain ⟨_, _, _, T, _, _, l3, _⟩ := nb1
    obtain ⟨a, c, e⟩ := l3.form
    exact ⟨a, _, c, e⟩
  obtain ⟨a4, n4, c4, rfl⟩ : ∃ a n c, u2 = .slice a n c := by
    obtain ⟨_, _, _, T, _, _, _, l4⟩ := nb1
    obtain ⟨a, c, e⟩ := l4.form
    exact ⟨a, _, c, e⟩
  have NB3 := hid nb1
  have XZ3 := hid (gr_blk XZ1.out g2)
  have CW3 := hid (Ch.trans' CW1.out g2.any)
  clear nb1 g2
  go_wp2_with (refine st_row rfl 32 (.tmp 6) (.tmp 60) rfl (W.heap.size + 2) #[.bool y.q, .int .i64 (y.cap : Nat), .slice a3 n3 c3, .slice a4 n4 c4, .int .i64 (y.lost : Nat)] rfl rfl _ _ XZ3.out pst_size rfl (by simp [Value.oneCell']) ?_; intro w8 b8 k8; have B8 := hid b8; have NB8 := hid (NB3.out.st k8 (fun g e => .inr (by have e1 : g = W.heap.size + 2 := e; exact ⟨by omega, by omega⟩)) (fun g e => by have e1 : g = W.heap.size + 2 := e; have := HWS.out; omega)); have CW8 := hid (Ch.trans CW3.out k8 (fun q e => .inr (by have e1 : q = W.heap.size + 2 := e; omega))); clear b8 k8)
  exact bodyPost_ret (results_cell_tmp2 rfl _ _ (W.heap.size + 2) _ rfl (run_loadVar_row _ _ _ _ _ _ _ B8.out Try.underlying32 rfl pst_size)) rfl ⟨_, _, rfl, NB8.out.add (fun g e => .inl (.inl e)), CW8.out⟩
set_option maxHeartbeats 4000000 in
theorem does3 (k v : Int) (h0 : k ≠ 0) (h1 : k ≠ 1) (h2 : k ≠ 2) (h : Nb B w W p x v1 v2 x) (hB : ∀ g, B g → g < W.heap.size) : Calls Try.prog 12 #[.pointer (some ⟨p, 0, none⟩), stV x v1 v2, .agg #[.int .i64 k, .int .i64 v]] W fun e W' => DoR B w W p x e W' := by
  obtain ⟨a1, n1, c1, rfl⟩ : ∃ a n c, v1 = .slice a n c := by
    obtain ⟨_, _, _, T, _, _, l3, _⟩ := h
    obtain ⟨a, c, e⟩ := l3.form
    exact ⟨a, _, c, e⟩
  obtain ⟨a2, n2, c2, rfl⟩ : ∃ a n c, v2 = .slice a n c := by
    obtain ⟨_, _, _, T, _, _, _, l4⟩ := h
    obtain ⟨a, c, e⟩ := l4.form
    exact ⟨a, _, c, e⟩
  obtain ⟨A, hA⟩ : ∃ A, A = ((W.alloc (.cells #[.bool x.q, .int .i64 (x.cap : Nat), .slice a1 n1 c1, .slice a2 n2 c2, .int .i64 (x.lost : Nat)] 32)).alloc (.cells #[.int .i64 k, .int .i64 v] 39)).alloc (.cells #[.bool false, .int .i64 0, .slice none 0 0, .slice none 0 0, .int .i64 0] 32) := ⟨_, rfl⟩
  have GA := hid (show Gr W A by rw [hA]; exact Ch.alloc (Ch.alloc (Ch.alloc (Gr.refl W) _) _) _)
  have XB := hid (show A.heap[W.heap.size]? = some (.cells #[.bool x.q, .int .i64 (x.cap : Nat), .slice a1 n1 c1, .slice a2 n2 c2, .int .i64 (x.lost : Nat)] 32 (0, 0)) by rw [hA]; exact al_blk (al_blk (al_at _ rfl) _) _)
  have XC := hid (show A.heap[W.heap.size + 1]? = some (.cells #[.int .i64 k, .int .i64 v] 39 (0, 0)) by rw [hA]; exact al_blk (al_at _ (by simp)) _)
  have XZ := hid (show A.heap[W.heap.size + 2]? = some (.cells #[.bool false, .int .i64 0, .slice none 0 0, .slice none 0 0, .int .i64 0] 32 (0, 0)) by rw [hA]; exact al_at _ (by simp))
  have XS := hid (show A.heap.size = W.heap.size + 3 by rw [hA]; simp)
  have NBA := hid (show Nb (BB B W) w A p x (.slice a1 n1 c1) (.slice a2 n2 c2) x from (h.add (fun g e => e.elim .inl (fun e => .inr e.1))).gr GA.out)
  have HBW := hid hB
  have HBA := hid (show ∀ g, BB B W g → g < A.heap.size from fun g e => e.elim (fun e => by have := HBW.out g e; have := XS.out; omega) (fun e => by have := e.2; have := XS.out; omega))
  have HWS := hid (show w.heap.size ≤ W.heap.size from h.1.size)
  unfold stV
  have k0 : (k == 0) = false := by simpa using h0
  have k1 : (k == 1) = false := by simpa using h1
  have k2 : (k == 2) = false := by simpa using h2
  have hS0 : A.drew.heap[W.heap.size]? = some (.cells #[.bool x.q, .int .i64 (x.cap : Nat), .slice a1 n1 c1, .slice a2 n2 c2, .int .i64 (x.lost : Nat)] 32 (0, 0)) := XB.out
  have BZ0 := hid (show A.drew.heap[W.heap.size + 2]? = some (.cells #[.bool false, .int .i64 0, .slice none 0 0, .slice none 0 0, .int .i64 0] 32 (0, 0)) from XZ.out)
  have NB0 := hid (show Nb (BB B W) w A.drew p x (.slice a1 n1 c1) (.slice a2 n2 c2) x from NBA.out.gr (Ch.drew (Gr.refl A)))
  have CW0 := hid (show Ch (fun g => ¬ B g) W A.drew from (Ch.drew GA.out).any)
  clear h hB h0 h1 h2
  go_enter Try.func12, Try.ntmps12
  go_wp2_with fail
  rw [← hA]
  clear hA
  refine wp_region_held_drew (S := fun V => V.heap[W.heap.size]? = some (.cells #[.bool x.q, .int .i64 (x.cap : Nat), .slice a1 n1 c1, .slice a2 n2 c2, .int .i64 (x.lost : Nat)] 32 (0, 0))) (by kernel_rfl) (by exact hS0) (fun _ => ?_)
  generalize World.drew A = V0 at hS0 BZ0 NB0 CW0 ⊢
  refine takeS_on (i := 0) 61 (v := ?hv8) rfl rfl (by kernel_rfl) (by kernel_rfl) (by kernel_rfl) (fun _ _ _ h => h) (by kernel_rfl) ?hh8 (by exact hS0) ?_
  case hh8 => (intro w' hSw; have z0 := cell_of hSw 0; have z1 := cell_of hSw 1; have z2 := cell_of hSw 2; have z3 := cell_of hSw 3; have z4 := cell_of hSw 4; have zl := lt_of_block hSw; simp at z0 z1 z2 z3 z4; go_simp; try (with_reducible rfl))
  simp only [Act.put, List.setIfInBounds_toArray, List.set_cons_zero, List.set_cons_succ]
  refine takeS_on (i := 1) 62 (v := ?hv9) rfl rfl (by kernel_rfl) (by kernel_rfl) (by kernel_rfl) (fun _ _ _ h => h) (by kernel_rfl) ?hh9 (by exact hS0) ?_
  case hh9 => (intro w' hSw; go_simp; try (with_reducible rfl))
  simp only [Act.put, List.setIfInBounds_toArray, List.set_cons_zero, List.set_cons_succ]
  refine takeS_on (i := 3) 64 (v := ?hv10) rfl rfl (by kernel_rfl) (by kernel_rfl) (by kernel_rfl) (fun _ _ _ h => h) (by kernel_rfl) ?hh10 (by exact hS0) ?_
  case hh10 => (intro w' hSw; have z0 := cell_of hSw 0; have z1 := cell_of hSw 1; have z2 := cell_of hSw 2; have z3 := cell_of hSw 3; have z4 := cell_of hSw 4; have zl := lt_of_block hSw; simp at z0 z1 z2 z3 z4; go_simp; try (with_reducible rfl))
  simp only [Act.put, List.setIfInBounds_toArray, List.set_cons_zero, List.set_cons_succ]
  refine wpAnyH_ready (rs := [2]) (by kernel_rfl) (by simp) (AllReadyH.cons rfl (fun K hK => ?_) AllReadyH.nil)
  go_simp
  refine (bstate NB0.out).mono ?_
  rintro e w3 ⟨u1, u2, rfl, o1, o2, nb3, g3⟩
  obtain ⟨a3, c3, rfl⟩ := o1.form
  obtain ⟨a4, c4, rfl⟩ := o2.form
  have hS3 := gr_blk hS0 g3
  have BZ3 := hid (gr_blk BZ0.out g3)
  have CSM := hid (bsame nb3 o1.lst o2.lst)
  unfold stV at CSM
  have CW3 := hid (Ch.trans' CW0.out g3.any)
  clear o1 o2 nb3 g3
  refine hK.out _ _ (by exact hS3) (fun _ => ?_)
  clear hK K
  refine wpAnyH_ready (rs := [4]) (by kernel_rfl) (by simp) (AllReadyH.cons rfl (fun K hK => ?_) AllReadyH.nil)
  go_simp
  refine CSM.out.mono ?_
  rintro e w4 ⟨rfl, nb4, g4⟩
  have hS4 := gr_blk hS3 g4
  have BZ4 := hid (gr_blk BZ3.out g4)
  have NB4 := hid nb4
  have CW4 := hid (Ch.trans' CW3.out g4.any)
  clear nb4 g4
  refine hK.out _ _ (by exact hS4) (fun _ => ?_)
  clear hK K
  refine wpAnyH_ready (rs := [5]) (by kernel_rfl) (by simp) (AllReadyH.cons rfl (fun K hK => ?_) AllReadyH.nil)
  refine step_st_row rfl 32 (.tmp 6) (.tmp 61) rfl (W.heap.size + 2) #[.bool x.q, .int .i64 (x.cap : Nat), .slice a1 n1 c1, .slice a2 n2 c2, .int .i64 (x.lost : Nat)] rfl rfl _ _ BZ4.out pst_size rfl (by simp [Value.oneCell']) ?_
  intro w8 b8 k8
  have hS8 := ch_blk hS4 k8 (fun e => by have e1 : W.heap.size = W.heap.size + 2 := e; omega)
  have B8 := hid b8
  have NB8 := hid (NB4.out.st k8 (fun g e => .inr (by have e1 : g = W.heap.size + 2 := e; exact ⟨by omega, by omega⟩)) (fun g e => by have e1 : g = W.heap.size + 2 := e; have := HWS.out; omega))
  have CW8 := hid (Ch.trans CW4.out k8 (fun q e => .inr (by have e1 : q = W.heap.size + 2 := e; omega)))
  clear b8 k8
  refine hK.out _ _ (by exact hS8) (fun _ => ?_)
  change wpAnyH _ _ _ _ _ _ _ (Act.put _ none _) _
  simp only [Act.put]
  clear hK K
  refine takeS_on (i := 6) 7 (v := ?hv11) rfl rfl (by kernel_rfl) (by kernel_rfl) (by kernel_rfl) (fun _ _ _ h => h) (by kernel_rfl) ?hh11 (by exact hS8) ?_
  case hh11 => (intro w' hSw; go_simp; try (with_reducible rfl))
  simp only [Act.put, List.setIfInBounds_toArray, List.set_cons_zero, List.set_cons_succ]
  refine wpAnyH_done (by kernel_rfl) ?_ _
  clear hS0 hS3 hS4 hS8
  go_wp2
  exact bodyPost_ret (results_cell_tmp2 rfl _ _ (W.heap.size + 2) _ rfl (run_loadVar_row _ _ _ _ _ _ _ B8.out Try.underlying32 rfl pst_size)) rfl ⟨_, _, rfl, NB8.out.add (fun g e => .inl (.inl e)), CW8.out⟩
end
/-- what an act leaves -/
def actP (x : Pt) (a : Ac) : Pt := if a.k = 0 then (putP x a.v).1 else if a.k = 1 then getP x else if a.k = 2 then dlvP x else x
theorem does_any {B : Nat → Prop} {w W : World} {p : Nat} {x : Pt} {v1 v2 : Value} (a : Ac) (h : Nb B w W p x v1 v2 x) (hB : ∀ g, B g → g < W.heap.size) : Calls Try.prog 12 #[.pointer (some ⟨p, 0, none⟩), stV x v1 v2, .agg #[.int .i64 a.k, .int .i64 a.v]] W fun e W' => DoR B w W p (actP x a) e W' := by
  obtain ⟨k, v⟩ := a
  unfold actP
  dsimp only
  by_cases h0 : k = 0
  · subst h0
    rw [if_pos rfl]
    exact does0 v h hB
  · rw [if_neg h0]
    by_cases h1 : k = 1
    · subst h1
      rw [if_pos rfl]
      exact does1 v h hB
    · rw [if_neg h1]
      by_cases h2 : k = 2
      · subst h2
        rw [if_pos rfl]
        exact does2 v h hB
      · rw [if_neg h2]
        exact does3 k v h0 h1 h2 h hB
end Go.Proofs.Ytnpbehcfbceclaa.Lt
