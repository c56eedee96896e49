/-
  What the document's Send of layer 11 answers, where nothing is done: the goroutine waits already; the channel is nil; there is no such channel. Conditions: the lists are not too long.
-/
import Derived.Test.YtalmiphddgmfbabCnWait
namespace Go.Proofs.Ytalmiphddgmfbab.Lt
open Go.RowKit Wd

theorem one_m (a b : Bool) (x y : Int) (o : Option Addr) (n c : Nat) : (#[.bool a, .int .i64 x, .bool b, .int .i64 y, .slice o n c] : Array Value).all (·.oneCell') = true := by simp [Value.oneCell']
theorem results_tct {fn : Func} {p a b : Tmp} {ty : TypeId} (h : fn.results = #[.tmp a, .cell p ty, .tmp b]) (tmps : Array Value) (w : World) (g : Nat) (cs : Array Value)
    (hp : tmps.getD p undef = .pointer (some ⟨g, 0, none⟩)) (hl : (loadVar ty ⟨g, 0, none⟩).run Try.prog w = .ok (.agg cs) w) :
    (results fn tmps).run Try.prog w = .ok (.tuple #[tmps.getD a undef, .agg cs, tmps.getD b undef]) w := by
  have hp' : tmps[p]?.getD undef = .pointer (some ⟨g, 0, none⟩) := by simpa using hp
  simp [results, h, hp', asAddr, hl]
set_option maxHeartbeats 2000000 in
set_option maxRecDepth 20000 in
theorem rsend_waits (P : Nat → Prop) (w : World) (ao : Option Addr) (n cap : Nat) (cs : List Cn) (s g x : Int) (ch : Int) (h : Rds P w (.slice ao n cap) cs) (hb : Bd cs) (hn : cs.length ≤ 1024) (hp : decide (0 < pls cs s g) = true) :
    Calls Try.prog 40 #[.slice ao n cap, .int .i64 ch, .agg #[.int .i64 s, .int .i64 g], .int .i64 x] w fun e w' => e = .returned (.tuple #[.slice ao n cap, .agg #[.bool false, .int .i64 0, .bool false, .int .i64 0, .slice none 0 0], .int .i64 111]) ∧ Gr w w' := by
  have HW := hid (fun (W : World) (p : Gr w W) => rwaits_any P W _ cs s g (h.gr p) hb (by omega))
  have HI := hid ris_any
  have HP := hid hp
  have G0 := hid (show Gr w ((w.alloc (.cells #[.int .i64 s, .int .i64 g] 24)).alloc (.cells #[.bool false, .int .i64 0, .bool false, .int .i64 0, .slice none 0 0] 43)) from Ch.alloc (Ch.alloc (Gr.refl w) _) _)
  have X0 := hid (show ((w.alloc (.cells #[.int .i64 s, .int .i64 g] 24)).alloc (.cells #[.bool false, .int .i64 0, .bool false, .int .i64 0, .slice none 0 0] 43)).heap[w.heap.size + 1]? = some (.cells #[.bool false, .int .i64 0, .bool false, .int .i64 0, .slice none 0 0] 43 (0, 0)) from by simpa using (MapKept.heap_alloc (w.alloc (.cells #[.int .i64 s, .int .i64 g] 24)) (.cells #[.bool false, .int .i64 0, .bool false, .int .i64 0, .slice none 0 0] 43)).1)
  have Y0 := hid (show ((w.alloc (.cells #[.int .i64 s, .int .i64 g] 24)).alloc (.cells #[.bool false, .int .i64 0, .bool false, .int .i64 0, .slice none 0 0] 43)).heap[w.heap.size]? = some (.cells #[.int .i64 s, .int .i64 g] 24 (0, 0)) from al_blk (MapKept.heap_alloc w _).1 _)
  clear h hb hn hp
  go_enter Try.func40, Try.ntmps40
  go_wp2_with (first
    | (refine wpList_load_row rfl 24 (.tmp 6) rfl w.heap.size rfl _ _ _ _ Y0.out Try.underlying24 rfl gid_size ?_)
    | (go_at_call 38; refine (HW.out _ G0.out).mono ?_; rw [HP.out]; rintro e w1 ⟨rfl, g1⟩; have G1 := hid (Gr.trans G0.out g1); have X1 := hid (gr_blk X0.out g1); clear g1)
    | (refine st_row rfl 43 (.tmp 9) (.tmp 18) rfl (w.heap.size + 1) _ rfl rfl _ _ X1.out mov_size rfl (one_m _ _ _ _ _ _ _) ?_; intro w2 b2 k2; have B2 := hid b2; have G2 := hid (show Gr w w2 from Ch.trans G1.out k2 (fun q e => .inr (by have e1 : q = w.heap.size + 1 := e; omega))); clear b2 k2))
  exact bodyPost_ret (results_tct rfl _ _ _ _ rfl (run_loadVar_row _ _ _ _ _ _ _ B2.out Try.underlying43 rfl mov_size)) rfl ⟨rfl, G2.out⟩
set_option maxHeartbeats 2000000 in
set_option maxRecDepth 20000 in
theorem rsend_nil (P : Nat → Prop) (w : World) (ao : Option Addr) (n cap : Nat) (cs : List Cn) (s g x : Int) (h : Rds P w (.slice ao n cap) cs) (hb : Bd cs) (hn : cs.length ≤ 1024) (hp : decide (0 < pls cs s g) = false) :
    Calls Try.prog 40 #[.slice ao n cap, .int .i64 0, .agg #[.int .i64 s, .int .i64 g], .int .i64 x] w fun e w' => e = .returned (.tuple #[.slice ao n cap, .agg #[.bool true, .int .i64 0, .bool false, .int .i64 0, .slice none 0 0], .int .i64 0]) ∧ Gr w w' := by
  have HW := hid (fun (W : World) (p : Gr w W) => rwaits_any P W _ cs s g (h.gr p) hb (by omega))
  have HI := hid ris_any
  have HP := hid hp
  have G0 := hid (show Gr w ((w.alloc (.cells #[.int .i64 s, .int .i64 g] 24)).alloc (.cells #[.bool false, .int .i64 0, .bool false, .int .i64 0, .slice none 0 0] 43)) from Ch.alloc (Ch.alloc (Gr.refl w) _) _)
  have X0 := hid (show ((w.alloc (.cells #[.int .i64 s, .int .i64 g] 24)).alloc (.cells #[.bool false, .int .i64 0, .bool false, .int .i64 0, .slice none 0 0] 43)).heap[w.heap.size + 1]? = some (.cells #[.bool false, .int .i64 0, .bool false, .int .i64 0, .slice none 0 0] 43 (0, 0)) from by simpa using (MapKept.heap_alloc (w.alloc (.cells #[.int .i64 s, .int .i64 g] 24)) (.cells #[.bool false, .int .i64 0, .bool false, .int .i64 0, .slice none 0 0] 43)).1)
  have Y0 := hid (show ((w.alloc (.cells #[.int .i64 s, .int .i64 g] 24)).alloc (.cells #[.bool false, .int .i64 0, .bool false, .int .i64 0, .slice none 0 0] 43)).heap[w.heap.size]? = some (.cells #[.int .i64 s, .int .i64 g] 24 (0, 0)) from al_blk (MapKept.heap_alloc w _).1 _)
  clear h hb hn hp
  go_enter Try.func40, Try.ntmps40
  go_wp2_with (first
    | (refine wpList_load_row rfl 24 (.tmp 6) rfl w.heap.size rfl _ _ _ _ Y0.out Try.underlying24 rfl gid_size ?_)
    | (go_at_call 38; refine (HW.out _ G0.out).mono ?_; rw [HP.out]; rintro e w1 ⟨rfl, g1⟩; have G1 := hid (Gr.trans G0.out g1); have X1 := hid (gr_blk X0.out g1); clear g1)
    | (refine st_row rfl 43 (.tmp 9) (.tmp 22) rfl (w.heap.size + 1) _ rfl rfl _ _ X1.out mov_size rfl (one_m _ _ _ _ _ _ _) ?_; intro w2 b2 k2; have B2 := hid b2; have G2 := hid (show Gr w w2 from Ch.trans G1.out k2 (fun q e => .inr (by have e1 : q = w.heap.size + 1 := e; omega))); clear b2 k2))
  exact bodyPost_ret (results_tct rfl _ _ _ _ rfl (run_loadVar_row _ _ _ _ _ _ _ B2.out Try.underlying43 rfl mov_size)) rfl ⟨rfl, G2.out⟩
set_option maxHeartbeats 2000000 in
set_option maxRecDepth 20000 in
theorem rsend_none (P : Nat → Prop) (w : World) (ao : Option Addr) (n cap : Nat) (cs : List Cn) (s g x : Int) (ch : Int) (h0 : ch ≠ 0) (h1 : ¬ (1 ≤ ch ∧ ch ≤ (n : Int))) (h : Rds P w (.slice ao n cap) cs) (hb : Bd cs) (hn : cs.length ≤ 1024) (hp : decide (0 < pls cs s g) = false) :
    Calls Try.prog 40 #[.slice ao n cap, .int .i64 ch, .agg #[.int .i64 s, .int .i64 g], .int .i64 x] w fun e w' => e = .returned (.tuple #[.slice ao n cap, .agg #[.bool false, .int .i64 0, .bool false, .int .i64 4, .slice none 0 0], .int .i64 0]) ∧ Gr w w' := by
  have HW := hid (fun (W : World) (p : Gr w W) => rwaits_any P W _ cs s g (h.gr p) hb (by omega))
  have HI := hid ris_any
  have HP := hid hp
  have G0 := hid (show Gr w ((w.alloc (.cells #[.int .i64 s, .int .i64 g] 24)).alloc (.cells #[.bool false, .int .i64 0, .bool false, .int .i64 0, .slice none 0 0] 43)) from Ch.alloc (Ch.alloc (Gr.refl w) _) _)
  have X0 := hid (show ((w.alloc (.cells #[.int .i64 s, .int .i64 g] 24)).alloc (.cells #[.bool false, .int .i64 0, .bool false, .int .i64 0, .slice none 0 0] 43)).heap[w.heap.size + 1]? = some (.cells #[.bool false, .int .i64 0, .bool false, .int .i64 0, .slice none 0 0] 43 (0, 0)) from by simpa using (MapKept.heap_alloc (w.alloc (.cells #[.int .i64 s, .int .i64 g] 24)) (.cells #[.bool false, .int .i64 0, .bool false, .int .i64 0, .slice none 0 0] 43)).1)
  have Y0 := hid (show ((w.alloc (.cells #[.int .i64 s, .int .i64 g] 24)).alloc (.cells #[.bool false, .int .i64 0, .bool false, .int .i64 0, .slice none 0 0] 43)).heap[w.heap.size]? = some (.cells #[.int .i64 s, .int .i64 g] 24 (0, 0)) from al_blk (MapKept.heap_alloc w _).1 _)
  have e0 : (ch == 0) = false := by simpa using h0
  have hd : decide (1 ≤ ch ∧ ch ≤ (n : Int)) = false := decide_eq_false h1
  clear h hb hn hp h0 h1
  go_enter Try.func40, Try.ntmps40
  go_wp2_with (first
    | (refine wpList_load_row rfl 24 (.tmp 6) rfl w.heap.size rfl _ _ _ _ Y0.out Try.underlying24 rfl gid_size ?_)
    | (go_at_call 38; refine (HW.out _ G0.out).mono ?_; rw [HP.out]; rintro e w1 ⟨rfl, g1⟩; have G1 := hid (Gr.trans G0.out g1); have X1 := hid (gr_blk X0.out g1); clear g1)
    | (go_at_call 57; refine (HI.out _ _ _ _ _).mono ?_; rw [hd]; rintro e w9 ⟨rfl, hw⟩; have hw := hw.symm; subst hw)
    | (refine st_row rfl 43 (.tmp 9) (.tmp 28) rfl (w.heap.size + 1) _ rfl rfl _ _ X1.out mov_size rfl (one_m _ _ _ _ _ _ _) ?_; intro w2 b2 k2; have B2 := hid b2; have G2 := hid (show Gr w w2 from Ch.trans G1.out k2 (fun q e => .inr (by have e1 : q = w.heap.size + 1 := e; omega))); clear b2 k2))
  exact bodyPost_ret (results_tct rfl _ _ _ _ rfl (run_loadVar_row _ _ _ _ _ _ _ B2.out Try.underlying43 rfl mov_size)) rfl ⟨rfl, G2.out⟩
end Go.Proofs.Ytalmiphddgmfbab.Lt
