/-
  What the program's Send of layer 11 answers and leaves where there is room for a value. Conditions: nobody waits to receive there, the goroutine waits nowhere.
-/
import Derived.Test.YtalmiphddgmfbabCpSet
import Derived.Test.YtalmiphddgmfbabCpWt
import Derived.Deep.Cut
namespace Go.Proofs.Ytalmiphddgmfbab.Lt
open Go.RowKit Wd
attribute [local go_sem ↓] Go.wp_at_zero Go.wp_at_succ

theorem Tn.own {t t' : Nat → Tg} {w w' w'' : World} {x : Nat} (h : Tn t t' w w') (k : Ch (Only x) w' w'') (hx : w.heap.size ≤ x) : Tn t t' w w'' := ⟨h.c.trans k (fun q e => .inr (by have e1 : q = x := e; omega)), h.o⟩
theorem Tn.then {t t' : Nat → Tg} {w w' w'' : World} (h : Tn t t' w w') (g : Gr w' w'') : Tn t t' w w'' := ⟨h.c.trans g (fun _ q => q.elim), h.o⟩
theorem Tn.ahead {t t' : Nat → Tg} {w w' w'' : World} (g : Gr w w') (h : Tn t t' w' w'') : Tn t t' w w'' := ⟨g.any.trans h.c (fun _ q => .inl q), fun q hq e => h.o q (Nat.lt_of_lt_of_le hq g.size) e⟩
theorem one_mov (a : Bool) (b : Int) (c : Bool) (d : Int) (e : Option Addr) (n m : Nat) : (#[.bool a, .int .i64 b, .bool c, .int .i64 d, .slice e n m] : Array Value).all (·.oneCell') = true := by simp [Value.oneCell']
/-- what a call that goes on tells and leaves -/
def SnR (t : Nat → Tg) (w : World) (b : Nat) (cs : List Cn) (m : Array Value) (er : Int) (e : Ending) (w' : World) : Prop := e = .returned (.tuple #[.agg m, .int .i64 er]) ∧ ∃ t', Cs t' w' b cs ∧ Tn t t' w w'
/-- the same, with whom it woke -/
def MvR (t : Nat → Tg) (w : World) (b : Nat) (cs : List Cn) (wa : Bool) (va : Int) (ok : Bool) (tr : Int) (ks : List Wk) (er : Int) (e : Ending) (w' : World) : Prop := ∃ mo mn mc, e = .returned (.tuple #[.agg #[.bool wa, .int .i64 va, .bool ok, .int .i64 tr, .slice mo mn mc], .int .i64 er]) ∧ Ow eK 6 114 w.heap.size w' (.slice mo mn mc) ks ∧ ∃ t', Cs t' w' b cs ∧ Tn t t' w w' ∧ ∀ q, Blk (.slice mo mn mc) q → t' q = .no
theorem SnR.mv {t : Nat → Tg} {w : World} {b : Nat} {cs : List Cn} {wa : Bool} {va : Int} {ok : Bool} {tr er : Int} {e : Ending} {w' : World} (h : SnR t w b cs #[.bool wa, .int .i64 va, .bool ok, .int .i64 tr, .slice none 0 0] er e w') : MvR t w b cs wa va ok tr [] er e w' := by
  obtain ⟨h1, t', h2, h3⟩ := h
  exact ⟨none, 0, 0, h1, Ow.nil _ _ _ _ _, t', h2, h3, fun q hq => by cases hq⟩
abbrev mz : Array Value := #[.bool false, .int .i64 0, .bool false, .int .i64 0, .slice none 0 0]
set_option maxRecDepth 20000 in
set_option maxHeartbeats 4000000 in
theorem send_room {t : Nat → Tg} {w : World} {b i : Nat} {cs : List Cn} {c : Cn} {s g : Int} (h : Cs t w b cs) (hk : Gok s g) (hc : cs[i]? = some c) (hn : cs.length ≤ 1024) (vv : Int) (hcl : c.cl = false) (hr : c.rs = []) (hv : (c.vs.length : Int) < c.cap) (hcp : c.cap ≤ 1024) (hp : pls cs s g = 0) :
    Calls Try.prog 50 #[.pointer (some ⟨b, 0, none⟩), .int .i64 ((i : Int) + 1), .agg #[.int .i64 s, .int .i64 g], .int .i64 vv] w (SnR t w b (cs.set i ⟨c.cap, c.vs ++ [vv], c.ss, c.rs, c.cl⟩) #[.bool false, .int .i64 0, .bool true, .int .i64 0, .slice none 0 0] 0) := by
  obtain ⟨W0, hW0⟩ : ∃ W0, W0 = (w.alloc (.cells #[.int .i64 s, .int .i64 g] 24)).alloc (.cells mz 43) := ⟨_, rfl⟩
  have g0 : Gr w W0 := by rw [hW0]; exact Ch.alloc (Ch.alloc (Gr.refl w) _) _
  have HRF := hid (by
    have := refuses_any (h.gr g0) hk
    rw [if_neg (by omega)] at this
    exact this)
  have hbx : W0.heap[w.heap.size]? = some (.cells #[.int .i64 s, .int .i64 g] 24 (0, 0)) := by rw [hW0]; exact al_blk (MapKept.heap_alloc w _).1 _
  have hmv : W0.heap[w.heap.size + 1]? = some (.cells mz 43 (0, 0)) := by rw [hW0]; exact al_at _ (by simp)
  have HMV := hid hmv
  have HCS := hid h
  have G0 := hid g0
  have hno : t (w.heap.size + 1) = .no := by
    obtain ⟨k, v, xs, M, clock, h⟩ := h
    rcases Classical.em (t (w.heap.size + 1) = .no) with e | e
    · exact e
    · have := h.hi _ e; omega
  have HNO := hid hno
  have HC := hid hc
  have HN := hid hn
  have HV := hid hv
  have HCP := hid hcp
  have HCL := hid hcl
  have HR := hid hr
  clear h hk hmv hno hc hn hv hcp hcl hr hp g0
  rw [hW0] at HRF hbx
  go_enter Try.func50, Try.ntmps50
  go_upto_region 2 with (first
    | (refine wpList_load_row rfl 24 (.tmp 6) rfl w.heap.size rfl _ _ _ _ hbx Try.underlying24 rfl gid_size ?_)
    | (go_at_call 61; refine HRF.out.mono ?_; rintro e w1 ⟨rfl, g1⟩; rw [← hW0] at g1; have G1 := hid (Gr.trans G0.out g1); have M1 := hid (gr_blk HMV.out g1); clear g1))
  obtain ⟨k, v, xs, M, clock, H⟩ := HCS.out.gr G1.out
  obtain ⟨gO, ca, x, rfl, -, hx, ho, h5⟩ := H.nl.at HC.out
  have HF := hid (find_yes H.me i (List.getElem?_eq_some_iff.1 HC.out).1 HN.out)
  obtain ⟨vo, vk, ev⟩ := ho.v.form
  obtain ⟨ro, rk, er⟩ := ho.r.form
  rw [HR.out] at er
  have c0 := h5.c0
  have c1 := h5.c1
  have c3 := h5.c3
  have c4 := h5.c4
  rw [ho.cap] at c0
  rw [ev] at c1
  rw [er] at c3
  rw [ho.cl, HCL.out] at c4
  have OV := hid (ev ▸ ho.v)
  have H' := hid H
  have HX := hid hx
  have EV := hid ev
  obtain ⟨vn, hvn⟩ : ∃ n, n = c.vs.length := ⟨_, rfl⟩
  have HVN := hid hvn
  have hvc := HV.out
  have hvb := HCP.out
  rw [← hvn] at c1 hvc OV
  obtain ⟨cp, hcp⟩ : ∃ n, n = c.cap := ⟨_, rfl⟩
  rw [← hcp] at c0 hvc hvb
  have HCQ := hid hcp
  have hvs := HVN.out
  clear hx ev er ho h5 H hvn hcp
  have HB := hid (show vn + 1 ≤ 1024 from by omega)
  clear hvs hvb
  go_wp2_with (first
    | (go_at_call 26; refine HF.out.mono ?_; rintro e w2 ⟨rfl, hw⟩; obtain rfl := hw.symm; clear hw))
  go_region
  all_goals go_upto_region 14 with (first
    | (at_builtin; refine wpList_append_ow eI_len rfl (.tmp 72) (.tmp 74) _ 2 8 _ Try.underlying67 i64_info rfl (by omega) rfl 0 _ c.vs rfl (OV.out.alloc _).drew _ _ [vv] rfl (Ls.single w1 vv 2 #[.int .i64 vv] rfl).drew (eI_one _) (vn + 1) (by rw [HVN.out]; rfl) (by have := HB.out; omega) (by unfold maxLen; have := HB.out; omega) (Nat.zero_le _) (c.vs ++ [vv]) rfl ?_; intro ao5 cap5 w5 ow5 cw5 bl5; obtain ⟨gO', ca', t', e5, l5, p5, f5, b5, n5, -, -⟩ := (H'.out.b.gr (show Gr w1 (World.drew (w1.alloc (.cells #[.int .i64 vv] 2))) from Ch.drew (Ch.alloc (Gr.refl w1) _))).setv HX.out HC.out (by rw [EV.out, ← HVN.out]; exact cw5) ow5 (by rw [EV.out, ← HVN.out]; exact bl5); injection e5 with e5 _ _; injection e5 with e5; injection e5 with e5 _ _; subst e5; rw [EV.out, ← HVN.out] at p5; have B5 := hid b5; have N5 := hid (Tn.ahead (show Gr w1 (World.drew (w1.alloc (.cells #[.int .i64 vv] 2))) from Ch.drew (Ch.alloc (Gr.refl w1) _)) n5); clear ow5 cw5 bl5 b5 n5))
  all_goals have M5 := hid ((N5.out.c.block _ (lt_of_block M1.out) (fun q => q HNO.out)).trans M1.out)
  all_goals have N6 := hid (Tn.ahead G1.out N5.out)
  all_goals have HNO5 := hid (N5.out.o _ (lt_of_block M1.out) HNO.out)
  all_goals generalize World.setCell w5 _ _ = w6 at M5 N6 B5 ⊢
  all_goals clear c0 c1 c3 c4 p5 f5 l5
  all_goals go_wp2_with (first
    | (refine st_row rfl 43 (.tmp 8) (.tmp 78) rfl (w.heap.size + 1) _ rfl rfl _ _ M5.out mov_size rfl (one_mov _ _ _ _ _ _ _) ?_; intro w9 b9 k9; have M9 := hid b9; have K9 := hid k9; clear b9 k9))
  all_goals refine bodyPost_ret (results_cell_tmp2 rfl _ _ (w.heap.size + 1) _ rfl (run_loadVar_row _ _ _ _ _ _ _ M9.out Try.underlying43 rfl mov_size)) rfl ⟨rfl, t', ?_, N6.out.own K9.out (by omega)⟩
  all_goals exact ⟨_, _, _, _, _, ((B5.out.a (fun s' g' => plA_set (c := c) (d := ⟨c.cap, c.vs ++ [vv], c.ss, c.rs, c.cl⟩) rfl _ _ _ HC.out)).ch K9.out (fun q e => by have e1 : q = w.heap.size + 1 := e; rw [e1]; exact HNO5.out))⟩
end Go.Proofs.Ytalmiphddgmfbab.Lt
