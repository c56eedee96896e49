/-
  What the document's New, Load, Store, Swap, Add and Same of layer 10 answer. No conditions.
-/
import Derived.Test.YtpmhmikefkgbdabClProg
import Derived.Test.YtpmhmikefkgbdabGnHeld
namespace Go.Proofs.Ytpmhmikefkgbdab.Lt
open Go.RowKit Wd
attribute [local go_sem ↓] Go.wp_at_zero Go.wp_at_succ

theorem one5 (a b c d : Int) (x : Bool) : (#[.int .i64 a, .int .i64 b, .int .i64 c, .int .i64 d, .bool x] : Array Value).all (·.oneCell') = true := by
  simp [Value.oneCell']
theorem results_tmp_cell_tmp {fn : Func} {p s t : Tmp} {ty : TypeId} (h : fn.results = #[.tmp s, .cell p ty, .tmp t]) (tmps : Array Value) (w : World) (g : Nat) (cs : Array Value)
    (hp : tmps.getD p undef = .pointer (some ⟨g, 0, none⟩)) (hl : (loadVar ty ⟨g, 0, none⟩).run Try.prog w = .ok (.agg cs) w) :
    (results fn tmps).run Try.prog w = .ok (.tuple #[tmps.getD s undef, .agg cs, tmps.getD t undef]) w := by
  have hp' : tmps[p]?.getD undef = .pointer (some ⟨g, 0, none⟩) := by simpa using hp
  simp [results, h, hp', asAddr, hl]
theorem ris_any (i : Int) (ao : Option Addr) (n cap : Nat) (w : World) : Calls Try.prog 32 #[.slice ao n cap, .int .i64 i] w fun e w' => e = .returned (.bool (isP i n)) ∧ w' = w := by
  unfold isP
  by_cases h0 : 0 ≤ i
  · have d0 : decide (0 ≤ i) = true := decide_eq_true h0
    by_cases h1 : i < (n : Int)
    · have d1 : decide (i < (n : Int)) = true := decide_eq_true h1
      rw [decide_eq_true (show 0 ≤ i ∧ i < (n : Int) from ⟨h0, h1⟩)]
      go_enter Try.func32, Try.ntmps32
      go_wp2
      go_ret
      exact ⟨rfl, rfl⟩
    · have d1 : decide (i < (n : Int)) = false := decide_eq_false h1
      rw [decide_eq_false (show ¬ (0 ≤ i ∧ i < (n : Int)) from fun q => h1 q.2)]
      go_enter Try.func32, Try.ntmps32
      go_wp2
      go_ret
      exact ⟨rfl, rfl⟩
  · have d0 : decide (0 ≤ i) = false := decide_eq_false h0
    rw [decide_eq_false (show ¬ (0 ≤ i ∧ i < (n : Int)) from fun q => h0 q.1)]
    go_enter Try.func32, Try.ntmps32
    go_wp2
    go_ret
    exact ⟨rfl, rfl⟩
set_option maxHeartbeats 1000000 in
theorem rput_any (P : Nat → Prop) (w : World) (v : Value) (vs : List Int) (h : Ls eI P w v vs) (hl : vs.length ≤ 17592186044416) (j : Nat) (hj : j < vs.length) (x : Int) :
    Calls Try.prog 33 #[v, .int .i64 (j : Int), .int .i64 x] w fun e w' => ∃ v', e = .returned v' ∧ Ow eI 1 2 w.heap.size w' v' (vs.set j x) ∧ Gr w w' := by
  have hx : vs[j]? = some vs[j] := List.getElem?_eq_getElem hj
  generalize vs[j] = y at hx
  have H := hid h
  have HX := hid hx
  obtain ⟨ao, cap, hv⟩ := h.form
  subst hv
  have hji : (j : Int) < (vs.length : Int) := by omega
  clear h hx
  go_enter Try.func33, Try.ntmps33
  go_wp2_with (first | (at_builtin; refine wpList_append_ow eI_len rfl (.tmp 8) (.tmp 9) 22 2 8 (.int .i64 0) Try.underlying22 i64_info rfl (by omega) rfl w.heap.size _ [] rfl (Ow.nil _ _ _ _ _) P _ vs rfl H.out (eI_one vs) vs.length (by simp) (by omega) (by unfold maxLen; omega) (by simp) vs rfl ?_; intro ao2 cap2 w2 ow2 cw2 bl2; have O2 := hid ow2; have G2 := hid (show Gr w w2 from cw2.mono (fun q e => by cases e)); obtain ⟨g, cap3, hv3, hg0, hgl, _, hc, hf, hs⟩ := ow2.get eI_len HX.out; injection hv3 with e1 e2 e3; subst e1; have hc0 := hc 0 _ rfl; have hf0 := hf j; have HS := hid (hs 0 (.int .i64 x) x (by omega) rfl); simp only [Nat.mul_one, Nat.add_zero] at hc0 HS; clear ow2 cw2 bl2 hc hf hs e2 e3))
  go_ret
  exact ⟨_, rfl, HS.out, Ch.trans G2.out ((Ch.refl (Only g) w2).own j (.int .i64 x)) (fun q e => .inr (by have e1 : q = g := e; omega))⟩
/-- what the document's call leaves -/
def RfR (P : Nat → Prop) (w : World) (vs : List Int) (o : O4) (e : Ending) (w' : World) : Prop :=
  ∃ ao cap, e = .returned (.tuple #[.slice ao vs.length cap, (told o vs).val, .int .i64 (terr o vs)]) ∧ Ls eI (fun q => P q ∨ w.heap.size ≤ q) w' (.slice ao vs.length cap) (left o vs) ∧ Gr w w'
/-- the result's variable, and a cell that is read -/
structure Sr (w : World) (a : Addr) (x : Int) (W : World) : Prop where
  g : Gr w W
  t : ∃ old, W.heap[w.heap.size]? = some (.cells old 28 (0, 0)) ∧ old.size = 5
  l : a.block < w.heap.size ∧ a.spot = none
  f : W.cell? a = some (.int .i64 x)
theorem Sr.gr {w : World} {a : Addr} {x : Int} {W W' : World} (h : Sr w a x W) (g : Gr W W') : Sr w a x W' := by
  obtain ⟨old, h1, h2⟩ := h.t
  obtain ⟨l1, l2⟩ := h.l
  obtain ⟨ab, ao, sp⟩ := a
  subst l2
  exact ⟨Gr.trans h.g g, ⟨old, gr_blk h1 g, h2⟩, h.l, (g.cell (by have := h.g.size; simp only at l1; omega)).trans h.f⟩
theorem Sr.st {w : World} {a : Addr} {x : Int} {W W' : World} {c : Array Value} (h : Sr w a x W) (k : Ch (Only w.heap.size) W W') (hc : W'.heap[w.heap.size]? = some (.cells c 28 (0, 0))) (hs : c.size = 5) : Sr w a x W' := by
  obtain ⟨l1, l2⟩ := h.l
  obtain ⟨ab, ao, sp⟩ := a
  subst l2
  refine ⟨Ch.trans h.g k (fun q e => .inr (by have e1 : q = w.heap.size := e; omega)), ⟨c, hc, hs⟩, h.l, (k.cell (by have := h.g.size; simp only at l1; omega) (fun q => by have q1 : ab = w.heap.size := q; simp only at l1; omega)).trans h.f⟩
theorem Sr.new (w : World) (g o : Nat) (x : Int) (hg : g < w.heap.size) (hc : w.cell? ⟨g, o, none⟩ = some (.int .i64 x)) : Sr w ⟨g, o, none⟩ x (w.alloc (.cells #[.int .i64 0, .int .i64 0, .int .i64 0, .int .i64 0, .bool false] 28)).drew :=
  ⟨Ch.drew (Ch.alloc (Gr.refl w) _), ⟨_, (MapKept.heap_alloc w _).1, rfl⟩, ⟨hg, rfl⟩, ((Gr.alloc (Gr.refl w) _ _).cell hg).trans hc⟩
theorem told_no {o : O4} {vs : List Int} (h : isP o.c vs.length = false) : told o vs = Ac.nil ∧ terr o vs = 100 ∧ left o vs = vs := by
  simp [told, terr, left, h]
theorem told_yes {o : O4} {vs : List Int} (h : isP o.c vs.length = true) : told o vs = ⟨o.c, o.k, inC vs o.c, (putOf o (inC vs o.c)).1, (putOf o (inC vs o.c)).2⟩ ∧ terr o vs = 0 ∧ left o vs = if (putOf o (inC vs o.c)).2 = true then vs.set o.c.toNat (putOf o (inC vs o.c)).1 else vs := by
  simp [told, terr, left, h]
theorem inC_get {vs : List Int} {j : Nat} (hj : j < vs.length) : vs[j]? = some (inC vs (j : Int)) := by
  have : inC vs (j : Int) = vs[j] := by unfold inC; rw [Int.toNat_natCast, List.getD_eq_getElem?_getD, List.getElem?_eq_getElem hj]; rfl
  rw [this]
  exact List.getElem?_eq_getElem hj
theorem RfR.no {P : Nat → Prop} {w : World} {ao : Option Addr} {cap : Nat} {vs : List Int} {o : O4} (h : Ls eI P w (.slice ao vs.length cap) vs) (hp : isP o.c vs.length = false) {w' : World} (g : Gr w w') : RfR P w vs o (.returned (.tuple #[.slice ao vs.length cap, .agg #[.int .i64 0, .int .i64 0, .int .i64 0, .int .i64 0, .bool false], .int .i64 100])) w' := by
  obtain ⟨e1, e2, e3⟩ := told_no hp
  refine ⟨ao, cap, by rw [e1, e2]; rfl, ?_, g⟩
  rw [e3]
  exact (h.gr g).mono (fun _ _ q => .inl q)
end Go.Proofs.Ytpmhmikefkgbdab.Lt
