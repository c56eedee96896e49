/-
  The variables of the statements' 'calls'; what it answers where a call's kind is none. No conditions.
-/
import Derived.Test.YtpmhmikefkgbdabClRo
namespace Go.Proofs.Ytpmhmikefkgbdab.Lt
open Go.RowKit Wd
attribute [local go_sem ↓] Go.wp_at_zero Go.wp_at_succ

/-- is a call's kind one? -/
def okK (o : O4) : Bool := decide (1 ≤ o.k ∧ o.k ≤ 4)
/-- what 'calls' tells: the access, whether it was one, what is in the cells behind it -/
def cTold (o : O4) (vs : List Int) : Ac := if okK o = true then told o vs else Ac.nil
def cOk (o : O4) (vs : List Int) : Bool := okK o && (terr o vs == 0)
def cLeft (o : O4) (vs : List Int) : List Int := if okK o = true then left o vs else vs
theorem cLeft_len (o : O4) (vs : List Int) : (cLeft o vs).length = vs.length := by
  unfold cLeft
  split
  · exact left_len o vs
  · rfl
theorem left_load {o : O4} (vs : List Int) (hk : o.k = 1) : left o vs = vs := by simp [left, putOf, hk]
/-- what 'calls' leaves -/
def CsR (P : Nat → Prop) (base : Nat) (w : World) (b : Nat) (v : Value) (vs : List Int) (o : O4) (e : Ending) (w' : World) : Prop :=
  ∃ ao cap, e = .returned (.tuple #[.slice ao vs.length cap, (cTold o vs).val, .bool (cOk o vs), .bool true]) ∧ Ls eI (fun q => P q ∨ w.heap.size ≤ q) w' (.slice ao vs.length cap) (cLeft o vs) ∧ CAt base w' b v (cLeft o vs) ∧ Ch (Blk v) w w'
/-- its variables -/
structure Vc (s : Nat) (o : O4) (X Y : Array Value) (W : World) : Prop where
  o : W.heap[s]? = some (.cells #[.int .i64 o.k, .int .i64 o.c, .int .i64 o.o, .int .i64 o.v] 35 (0, 0))
  t : ∃ old, W.heap[s + 1]? = some (.cells old 28 (0, 0)) ∧ old.size = 5
  x : W.heap[s + 2]? = some (.cells X 28 (0, 0))
  y : W.heap[s + 3]? = some (.cells Y 28 (0, 0))
theorem Vc.ch {S : Nat → Prop} {s : Nat} {o : O4} {X Y : Array Value} {W W' : World} (h : Vc s o X Y W) (k : Ch S W W') (hn : ∀ q, s ≤ q → q < s + 4 → ¬ S q) : Vc s o X Y W' := by
  obtain ⟨old, h1, h2⟩ := h.t
  exact ⟨(k.block _ (lt_of_block h.o) (hn _ (by omega) (by omega))).trans h.o, ⟨old, (k.block _ (lt_of_block h1) (hn _ (by omega) (by omega))).trans h1, h2⟩, (k.block _ (lt_of_block h.x) (hn _ (by omega) (by omega))).trans h.x, (k.block _ (lt_of_block h.y) (hn _ (by omega) (by omega))).trans h.y⟩
theorem Vc.setx {s : Nat} {o : O4} {X Y X' : Array Value} {W W' : World} (h : Vc s o X Y W) (k : Ch (Only (s + 2)) W W') (hx : W'.heap[s + 2]? = some (.cells X' 28 (0, 0))) : Vc s o X' Y W' := by
  obtain ⟨old, h1, h2⟩ := h.t
  have hn : ∀ q, q ≠ s + 2 → ¬ Only (s + 2) q := fun q a b => a b
  exact ⟨(k.block _ (lt_of_block h.o) (hn _ (by omega))).trans h.o, ⟨old, (k.block _ (lt_of_block h1) (hn _ (by omega))).trans h1, h2⟩, hx, (k.block _ (lt_of_block h.y) (hn _ (by omega))).trans h.y⟩
theorem Vc.sety {s : Nat} {o : O4} {X Y Y' : Array Value} {W W' : World} (h : Vc s o X Y W) (k : Ch (Only (s + 3)) W W') (hy : W'.heap[s + 3]? = some (.cells Y' 28 (0, 0))) : Vc s o X Y' W' := by
  obtain ⟨old, h1, h2⟩ := h.t
  have hn : ∀ q, q ≠ s + 3 → ¬ Only (s + 3) q := fun q a b => a b
  exact ⟨(k.block _ (lt_of_block h.o) (hn _ (by omega))).trans h.o, ⟨old, (k.block _ (lt_of_block h1) (hn _ (by omega))).trans h1, h2⟩, (k.block _ (lt_of_block h.x) (hn _ (by omega))).trans h.x, hy⟩
theorem Vc.sett {s : Nat} {o : O4} {X Y T : Array Value} {W W' : World} (h : Vc s o X Y W) (k : Ch (Only (s + 1)) W W') (ht : W'.heap[s + 1]? = some (.cells T 28 (0, 0))) (hs : T.size = 5) : Vc s o X Y W' := by
  have hn : ∀ q, q ≠ s + 1 → ¬ Only (s + 1) q := fun q a b => a b
  exact ⟨(k.block _ (lt_of_block h.o) (hn _ (by omega))).trans h.o, ⟨T, ht, hs⟩, (k.block _ (lt_of_block h.x) (hn _ (by omega))).trans h.x, (k.block _ (lt_of_block h.y) (hn _ (by omega))).trans h.y⟩
theorem Vc.drew {s : Nat} {o : O4} {X Y : Array Value} {W : World} (h : Vc s o X Y W) : Vc s o X Y W.drew := ⟨h.o, h.t, h.x, h.y⟩
theorem Vc.new (w : World) (o : O4) : Vc w.heap.size o #[.int .i64 0, .int .i64 0, .int .i64 0, .int .i64 0, .bool false] #[.int .i64 0, .int .i64 0, .int .i64 0, .int .i64 0, .bool false] ((((w.alloc (.cells #[.int .i64 o.k, .int .i64 o.c, .int .i64 o.o, .int .i64 o.v] 35)).alloc (.cells #[.int .i64 0, .int .i64 0, .int .i64 0, .int .i64 0, .bool false] 28)).alloc (.cells #[.int .i64 0, .int .i64 0, .int .i64 0, .int .i64 0, .bool false] 28)).alloc (.cells #[.int .i64 0, .int .i64 0, .int .i64 0, .int .i64 0, .bool false] 28)) :=
  ⟨al_blk (al_blk (al_blk (al_at _ rfl) _) _) _, ⟨_, al_blk (al_blk (al_at _ (by simp)) _) _, rfl⟩, al_blk (al_at _ (by simp)) _, al_at _ (by simp)⟩
theorem Vc.cells {s : Nat} {o : O4} {X Y : Array Value} {W : World} (h : Vc s o X Y W) : W.cell? ⟨s, 0, none⟩ = some (.int .i64 o.k) ∧ W.cell? ⟨s, 1, none⟩ = some (.int .i64 o.c) ∧ W.cell? ⟨s, 2, none⟩ = some (.int .i64 o.o) ∧ W.cell? ⟨s, 3, none⟩ = some (.int .i64 o.v) :=
  ⟨(cell_of h.o 0).trans rfl, (cell_of h.o 1).trans rfl, (cell_of h.o 2).trans rfl, (cell_of h.o 3).trans rfl⟩
theorem results4 {fn : Func} {p s t u : Tmp} {ty : TypeId} (h : fn.results = #[.tmp s, .cell p ty, .tmp t, .tmp u]) (tmps : Array Value) (w : World) (g : Nat) (cs : Array Value)
    (hp : tmps.getD p undef = .pointer (some ⟨g, 0, none⟩)) (hl : (loadVar ty ⟨g, 0, none⟩).run Try.prog w = .ok (.agg cs) w) :
    (results fn tmps).run Try.prog w = .ok (.tuple #[tmps.getD s undef, .agg cs, tmps.getD t undef, tmps.getD u undef]) w := by
  have hp' : tmps[p]?.getD undef = .pointer (some ⟨g, 0, none⟩) := by simpa using hp
  simp [results, h, hp', asAddr, hl]
theorem acc_eq (tc tk tb ta : Int) (tx : Bool) (w : World) : (binOp .eql 28 (.agg #[.int .i64 tc, .int .i64 tk, .int .i64 tb, .int .i64 ta, .bool tx]) (.agg #[.int .i64 tc, .int .i64 tk, .int .i64 tb, .int .i64 ta, .bool tx])).run Try.prog w = .ok (.bool true) w := by
  go_simp
set_option maxHeartbeats 4000000 in
set_option maxRecDepth 20000 in
theorem calls_other (P : Nat → Prop) (base : Nat) (w : World) (b : Nat) (v : Value) (vs : List Int) (o : O4) (ao : Option Addr) (cap : Nat) (h : CAt base w b v vs) (hm : Ls eI P w (.slice ao vs.length cap) vs) (hk : okK o = false) :
    Calls Try.prog 16 #[.pointer (some ⟨b, 0, none⟩), .slice ao vs.length cap, .agg #[.int .i64 o.k, .int .i64 o.c, .int .i64 o.o, .int .i64 o.v]] w (CsR P base w b v vs o) := by
  have hk' := of_decide_eq_false hk
  have q1 : (o.k == 1) = false := by simp; omega
  have q2 : (o.k == 2) = false := by simp; omega
  have q3 : (o.k == 3) = false := by simp; omega
  have q4 : (o.k == 4) = false := by simp; omega
  have HR := hid (show ∀ w', Gr w w' → CsR P base w b v vs o (.returned (.tuple #[.slice ao vs.length cap, .agg #[.int .i64 0, .int .i64 0, .int .i64 0, .int .i64 0, .bool false], .bool false, .bool true])) w' from fun w' g => ⟨ao, cap, by simp [cTold, cOk, hk, Ac.val, Ac.nil], by simp only [cLeft, hk]; exact (hm.gr g).mono (fun _ _ q => .inl q), by simp only [cLeft, hk]; exact h.gr g, g.any⟩)
  have hS0 : Gr w ((((w.alloc (.cells #[.int .i64 o.k, .int .i64 o.c, .int .i64 o.o, .int .i64 o.v] 35)).alloc (.cells #[.int .i64 0, .int .i64 0, .int .i64 0, .int .i64 0, .bool false] 28)).alloc (.cells #[.int .i64 0, .int .i64 0, .int .i64 0, .int .i64 0, .bool false] 28)).alloc (.cells #[.int .i64 0, .int .i64 0, .int .i64 0, .int .i64 0, .bool false] 28)).drew ∧ Vc w.heap.size o #[.int .i64 0, .int .i64 0, .int .i64 0, .int .i64 0, .bool false] #[.int .i64 0, .int .i64 0, .int .i64 0, .int .i64 0, .bool false] ((((w.alloc (.cells #[.int .i64 o.k, .int .i64 o.c, .int .i64 o.o, .int .i64 o.v] 35)).alloc (.cells #[.int .i64 0, .int .i64 0, .int .i64 0, .int .i64 0, .bool false] 28)).alloc (.cells #[.int .i64 0, .int .i64 0, .int .i64 0, .int .i64 0, .bool false] 28)).alloc (.cells #[.int .i64 0, .int .i64 0, .int .i64 0, .int .i64 0, .bool false] 28)).drew := ⟨Ch.drew (Ch.alloc (Ch.alloc (Ch.alloc (Ch.alloc (Gr.refl w) _) _) _) _), (Vc.new w o).drew⟩
  clear h hm hk hk'
  go_enter Try.func16, Try.ntmps16
  go_wp2_with fail
  refine wp_region_held_drew (S := (fun W => Gr w W ∧ Vc w.heap.size o #[.int .i64 0, .int .i64 0, .int .i64 0, .int .i64 0, .bool false] #[.int .i64 0, .int .i64 0, .int .i64 0, .int .i64 0, .bool false] W)) (by kernel_rfl) (by exact hS0) (fun _ => ?_)
  refine takeS_on (i := 0) 18 (v := ?v1) rfl rfl (by kernel_rfl) (by kernel_rfl) (by kernel_rfl) (fun _ _ _ h => h) (by kernel_rfl) ?hy1 (by exact hS0) ?_
  case hy1 => (intro w' hSw; go_simp; try (with_reducible rfl))
  simp only [Act.put, List.setIfInBounds_toArray, List.set_cons_zero, List.set_cons_succ]
  refine takeS_on (i := 1) 19 (v := ?v2) rfl rfl (by kernel_rfl) (by kernel_rfl) (by kernel_rfl) (fun _ _ _ h => h) (by kernel_rfl) ?hy2 (by exact hS0) ?_
  case hy2 => (intro w' hSw; refine Eq.trans (exec_row 28 (.tmp 10) rfl _ rfl _ _ _ _ hSw.2.x Try.underlying28 rfl acc_size) ?_; with_reducible rfl)
  simp only [Act.put, List.setIfInBounds_toArray, List.set_cons_zero, List.set_cons_succ]
  refine takeS_on (i := 2) 6 (v := ?v3) rfl rfl (by kernel_rfl) (by kernel_rfl) (by kernel_rfl) (fun _ _ _ h => h) (by kernel_rfl) ?hy3 (by exact hS0) ?_
  case hy3 => (intro w' hSw; go_simp; try (with_reducible rfl))
  simp only [Act.put, List.setIfInBounds_toArray, List.set_cons_zero, List.set_cons_succ]
  refine wpAnyH_ready (rs := [3]) (by kernel_rfl) (by simp) (AllReadyH.cons rfl (fun K hK => ?_) AllReadyH.nil)
  rw [if_pos (by kernel_rfl)]
  obtain ⟨old, ht, hsz⟩ := hS0.2.t
  refine wp_store_row 28 (.tmp 7) (.tmp 19) rfl (w.heap.size + 1) #[.int .i64 0, .int .i64 0, .int .i64 0, .int .i64 0, .bool false] rfl rfl _ _ ht acc_size hsz (one5 _ _ _ _ _) ?_
  have b3 := setRow_blk (c := #[.int .i64 0, .int .i64 0, .int .i64 0, .int .i64 0, .bool false]) ht
  have hS1 := And.intro (Ch.trans hS0.1 (setRow_ch _ (w.heap.size + 1) #[.int .i64 0, .int .i64 0, .int .i64 0, .int .i64 0, .bool false]) (fun q e => .inr (by have e1 : q = w.heap.size + 1 := e; omega))) (hS0.2.sett (setRow_ch _ (w.heap.size + 1) #[.int .i64 0, .int .i64 0, .int .i64 0, .int .i64 0, .bool false]) b3 rfl)
  clear ht hsz
  have B3 := hid b3
  clear b3
  refine hK.out _ _ (by exact hS1) (fun _ => ?_)
  clear hK K
  refine takeS_on (i := 4) 8 (v := ?v4) rfl rfl (by kernel_rfl) (by kernel_rfl) (by kernel_rfl) (fun _ _ _ h => h) (by kernel_rfl) ?hy4 (by exact hS1) ?_
  case hy4 => (intro w' hSw; go_simp; try (with_reducible rfl))
  (try simp only [Act.put]); (try simp only [List.setIfInBounds_toArray])
  refine takeS_on (i := 5) 9 (v := ?v5) rfl rfl (by kernel_rfl) (by kernel_rfl) (by kernel_rfl) (fun _ _ _ h => h) (by kernel_rfl) ?hy5 (by exact hS1) ?_
  case hy5 => (intro w' hSw; go_simp; try (with_reducible rfl))
  (try simp only [Act.put]); (try simp only [List.setIfInBounds_toArray])
  refine wpAnyH_done (by kernel_rfl) ?_ _
  go_wp2_with fail
  refine bodyPost_ret (results4 rfl _ _ (w.heap.size + 1) _ rfl (run_loadVar_row _ _ _ _ _ _ _ B3.out Try.underlying28 rfl acc_size)) rfl ?_
  exact HR.out _ hS1.1

end Go.Proofs.Ytpmhmikefkgbdab.Lt
