/-
  What the program's wake of layer 11 leaves, and its Send where one waits to receive, and where it waits. Conditions: goroutines' numbers are ints, lists are not too long.
-/
import Derived.Test.YtalmiphddgmfbabCpLv
import Derived.Test.YtalmiphddgmfbabCpWa
import Derived.Deep.Cut
namespace Go.Proofs.Ytalmiphddgmfbab.Lt
open Go.RowKit Wd
attribute [local go_sem ↓] Go.wp_at_zero Go.wp_at_succ

theorem wok_size : (Try.prog.info? 114).map (·.size) = some 6 := by kernel_rfl
theorem one_wok (a b c d : Int) (e : Bool) (f : Int) : (#[.int .i64 a, .int .i64 b, .int .i64 c, .int .i64 d, .bool e, .int .i64 f] : Array Value).all (·.oneCell') = true := by simp [Value.oneCell']
theorem ow_one {α : Type} {enc : α → List Value} {K : Nat} (w : World) (x : α) (T : TypeId) (c : Array Value) (hc : c.toList = enc x) (hK : (enc x).length = K) : Ow enc K T w.heap.size (w.alloc (.cells c T)) (.slice (some ⟨w.heap.size, 0, none⟩) 1 1) [x] := by
  refine ⟨by simp [hK], .inr ⟨w.heap.size, 1, c, rfl, Nat.le_refl _, (MapKept.heap_alloc w _).1, Nat.le_refl _, by unfold maxLen; omega, by rw [← Array.length_toList, hc, hK]; omega, ?_⟩⟩
  rw [hc]
  simp [List.take_of_length_le, hK]
theorem cs_hi {t : Nat → Tg} {w : World} {b : Nat} {cs : List Cn} (h : Cs t w b cs) : ∀ q, w.heap.size ≤ q → t q = .no := by
  obtain ⟨k, v, xs, M, clock, h⟩ := h
  intro q hq
  rcases Classical.em (t q = .no) with e | e
  · exact e
  · have := h.hi q e; omega
abbrev wkz : Array Value := #[.int .i64 0, .int .i64 0, .int .i64 0, .int .i64 0, .bool false, .int .i64 0]
/-- what wake tells and leaves, where the map speaks of other channels -/
def WkB (t : Nat → Tg) (w : World) (b : Nat) (v : Value) (cs fs : List Cn) (s g cc va : Int) (ok : Bool) (tr : Int) (e : Ending) (w' : World) : Prop := e = .returned (.agg #[.int .i64 s, .int .i64 g, .int .i64 cc, .int .i64 va, .bool ok, .int .i64 tr]) ∧ ∃ t', Ct t' w' b v (lvs cs s g) (lvs fs s g) ∧ Tn t t' w w'
set_option maxRecDepth 40000 in
set_option maxHeartbeats 4000000 in
theorem wakeB_any {t : Nat → Tg} {w : World} {b : Nat} {v : Value} {cs fs : List Cn} {s g : Int} (cc vv va : Int) (ok : Bool) (tr : Int) (h : Ct t w b v cs fs) (hle : fs.length = cs.length) (hcv : ∀ (i : Nat) (c f : Cn), cs[i]? = some c → fs[i]? = some f → 0 < c.pl s g → 0 < f.pl s g) (hk : Gok s g) (hn : cs.length ≤ 1024) (hb : Bw cs) (hp : pls fs s g ≤ 4398046511104) : Calls Try.prog 63 #[.pointer (some ⟨b, 0, none⟩), .agg #[.int .i64 s, .int .i64 g, .int .i64 cc, .int .i64 vv], .int .i64 va, .bool ok, .int .i64 tr] w (WkB t w b v cs fs s g cc va ok tr) := by
  obtain ⟨W0, hW0⟩ : ∃ W0, W0 = (w.alloc (.cells #[.int .i64 s, .int .i64 g, .int .i64 cc, .int .i64 vv] 95)).alloc (.cells wkz 114) := ⟨_, rfl⟩
  have g0 : Gr w W0 := by rw [hW0]; exact Ch.alloc (Ch.alloc (Gr.refl w) _) _
  have HLV := hid (leaveB_any (h.gr g0) hle hcv hk hn hb hp)
  have hbx : W0.heap[w.heap.size]? = some (.cells #[.int .i64 s, .int .i64 g, .int .i64 cc, .int .i64 vv] 95 (0, 0)) := by rw [hW0]; exact al_blk (MapKept.heap_alloc w _).1 _
  have hkx : W0.heap[w.heap.size + 1]? = some (.cells wkz 114 (0, 0)) := by rw [hW0]; exact al_at _ (by simp)
  have hno : ∀ q, w.heap.size ≤ q → t q = .no := h.hi
  have HBX := hid hbx
  have HKX := hid hkx
  have HNO := hid hno
  have G0 := hid g0
  rw [hW0] at HLV
  clear h hk hn hb hp hbx hkx hno g0 hle hcv
  go_enter Try.func63, Try.ntmps63
  go_upto_region 2 with (go_at_call 68; refine HLV.out.mono ?_; rintro e w1 ⟨rfl, t1, c1, n1⟩; rw [← hW0] at n1; have C1 := hid c1; have N1 := hid n1; clear c1 n1)
  have bx := (N1.out.c.block _ (lt_of_block HBX.out) (fun q => q (HNO.out _ (Nat.le_refl _)))).trans HBX.out
  have KX := hid ((N1.out.c.block _ (lt_of_block HKX.out) (fun q => q (HNO.out (w.heap.size + 1) (by omega)))).trans HKX.out)
  have T1 := hid (N1.out.o _ (lt_of_block HKX.out) (HNO.out (w.heap.size + 1) (by omega)))
  have p0 := cell_of bx 0
  have p1 := cell_of bx 1
  have p2 := cell_of bx 2
  simp at p0 p1 p2
  clear bx
  go_wp2_with (first
    | (refine st_row rfl 114 (.tmp 10) (.tmp 22) rfl (w.heap.size + 1) _ rfl rfl _ _ KX.out wok_size rfl (one_wok _ _ _ _ _ _) ?_; intro w9 b9 k9; have M9 := hid b9; have K9 := hid k9; clear b9 k9))
  exact bodyPost_ret (results_cell_row rfl _ _ (w.heap.size + 1) _ _ _ _ rfl M9.out Try.underlying114 rfl wok_size) rfl ⟨rfl, t1, C1.out.ch K9.out (fun q e => by have e1 : q = w.heap.size + 1 := e; rw [e1]; exact T1.out), (Tn.ahead G0.out N1.out).own K9.out (by omega)⟩
/-- what wake tells and leaves -/
def WkR (t : Nat → Tg) (w : World) (b : Nat) (cs : List Cn) (s g cc va : Int) (ok : Bool) (tr : Int) (e : Ending) (w' : World) : Prop := e = .returned (.agg #[.int .i64 s, .int .i64 g, .int .i64 cc, .int .i64 va, .bool ok, .int .i64 tr]) ∧ ∃ t', Cs t' w' b (lvs cs s g) ∧ Tn t t' w w'
theorem self_cv {cs : List Cn} (s g : Int) : ∀ (i : Nat) (c f : Cn), cs[i]? = some c → cs[i]? = some f → 0 < c.pl s g → 0 < f.pl s g := fun i c f hc hf hz => by
  rw [hc] at hf
  injection hf with hf
  rw [← hf]
  exact hz
theorem wake_any {t : Nat → Tg} {w : World} {b : Nat} {cs : List Cn} {s g : Int} (cc vv va : Int) (ok : Bool) (tr : Int) (h : Cs t w b cs) (hk : Gok s g) (hn : cs.length ≤ 1024) (hb : Bw cs) (hp : pls cs s g ≤ 4398046511104) : Calls Try.prog 63 #[.pointer (some ⟨b, 0, none⟩), .agg #[.int .i64 s, .int .i64 g, .int .i64 cc, .int .i64 vv], .int .i64 va, .bool ok, .int .i64 tr] w (WkR t w b cs s g cc va ok tr) := by
  obtain ⟨v, h⟩ := h.t
  refine (wakeB_any cc vv va ok tr h rfl (self_cv s g) hk hn hb hp).mono ?_
  rintro e w' ⟨h1, t', h2, h3⟩
  exact ⟨h1, t', h2.s (fun _ _ => rfl), h3⟩
set_option maxRecDepth 40000 in
set_option maxHeartbeats 8000000 in
theorem send_wake {t : Nat → Tg} {w : World} {b i : Nat} {cs : List Cn} {c : Cn} {s g : Int} (h : Cs t w b cs) (hk : Gok s g) (hc : cs[i]? = some c) (hn : cs.length ≤ 1024) (vv : Int) (hcl : c.cl = false) (r : Wt) (rr : List Wt) (hr : c.rs = r :: rr) (hp : pls cs s g = 0) (hb : Bw cs) (hkr : Gok r.s r.g) (hpr : pls cs r.s r.g ≤ 4398046511104) :
    Calls Try.prog 50 #[.pointer (some ⟨b, 0, none⟩), .int .i64 ((i : Int) + 1), .agg #[.int .i64 s, .int .i64 g], .int .i64 vv] w (MvR t w b (lvs cs r.s r.g) false 0 true 0 [⟨r.s, r.g, r.c, vv, true, 0⟩] 0) := by
  obtain ⟨r0, r1, r2, r3⟩ := r
  dsimp only at hkr hpr ⊢
  obtain ⟨W0, hW0⟩ : ∃ W0, W0 = (w.alloc (.cells #[.int .i64 s, .int .i64 g] 24)).alloc (.cells mz 43) := ⟨_, rfl⟩
  have g0 : Gr w W0 := by rw [hW0]; exact Ch.alloc (Ch.alloc (Gr.refl w) _) _
  have HRF := hid (by
    have := refuses_any (h.gr g0) hk
    rw [if_neg (by omega)] at this
    exact this)
  have hbx : W0.heap[w.heap.size]? = some (.cells #[.int .i64 s, .int .i64 g] 24 (0, 0)) := by rw [hW0]; exact al_blk (MapKept.heap_alloc w _).1 _
  have hmv : W0.heap[w.heap.size + 1]? = some (.cells mz 43 (0, 0)) := by rw [hW0]; exact al_at _ (by simp)
  have HMV := hid hmv
  have HCS := hid h
  have G0 := hid g0
  have hno : t (w.heap.size + 1) = .no := by
    obtain ⟨k, v, xs, M, clock, h⟩ := h
    rcases Classical.em (t (w.heap.size + 1) = .no) with e | e
    · exact e
    · have := h.hi _ e; omega
  have HNO := hid hno
  have HC := hid hc
  have HN := hid hn
  have HCL := hid hcl
  have HR := hid hr
  have HWK := hid (fun (W : World) (p : Gr w W) => wake_any (s := r0) (g := r1) r2 r3 vv true 0 (h.gr p) hkr hn hb hpr)
  clear h hk hmv hno hc hn hcl hr hp g0 hb hkr hpr
  rw [hW0] at HRF hbx
  go_enter Try.func50, Try.ntmps50
  go_upto_region 2 with (first
    | (refine wpList_load_row rfl 24 (.tmp 6) rfl w.heap.size rfl _ _ _ _ hbx Try.underlying24 rfl gid_size ?_)
    | (go_at_call 61; refine HRF.out.mono ?_; rintro e w1 ⟨rfl, g1⟩; rw [← hW0] at g1; have G1 := hid (Gr.trans G0.out g1); have M1 := hid (gr_blk HMV.out g1); clear g1))
  obtain ⟨k, v, xs, M, clock, H⟩ := HCS.out.gr G1.out
  obtain ⟨gO, ca, x, rfl, -, hx, ho, h5⟩ := H.nl.at HC.out
  have HF := hid (find_yes H.me i (List.getElem?_eq_some_iff.1 HC.out).1 HN.out)
  obtain ⟨vo, vk, ev⟩ := ho.v.form
  obtain ⟨ro, rk, er⟩ := ho.r.form
  have c0 := h5.c0
  have c1 := h5.c1
  have c3 := h5.c3
  have c4 := h5.c4
  rw [ho.cap] at c0
  rw [ev] at c1
  rw [er] at c3
  rw [ho.cl, HCL.out] at c4
  rw [HR.out] at er c3
  obtain ⟨gr, rc, e9, -, hgr, -, hcs, -, -⟩ := ho.r.get eW_len (i := 0) (by rw [HR.out]; rfl)
  rw [er] at e9
  injection e9 with e9 e10 e11
  subst e9
  clear e10 e11
  have d0 := hcs 0 _ rfl
  have d1 := hcs 1 _ rfl
  have d2 := hcs 2 _ rfl
  have d3 := hcs 3 _ rfl
  simp only [Nat.zero_mul, Nat.zero_add] at d0 d1 d2 d3
  have rp : (0 : Int) < ((((Wt.mk r0 r1 r2 r3) :: rr).length : Nat) : Int) := by simp
  have rq : 0 < ((Wt.mk r0 r1 r2 r3) :: rr).length := by simp
  generalize ((Wt.mk r0 r1 r2 r3) :: rr).length = rn at c3 rp rq
  have HWK1 := hid (HWK.out _ G1.out)
  clear hx ev er ho h5 H hcs HWK hgr
  go_upto_region 11 with (first
    | (go_at_call 26; refine HF.out.mono ?_; rintro e w2 ⟨rfl, hw⟩; obtain rfl := hw.symm; clear hw)
    | (go_at_call 63; refine HWK1.out.mono ?_; rintro e w5 ⟨rfl, t5, c5, n5⟩; have C5 := hid c5; have N5 := hid n5; clear c5 n5))
  have M5a := hid ((N5.out.c.block _ (lt_of_block M1.out) (fun q => q HNO.out)).trans M1.out)
  have T5 := hid (N5.out.o _ (lt_of_block M1.out) HNO.out)
  have GA := hid (show Gr w5 (w5.alloc (.cells #[.int .i64 r0, .int .i64 r1, .int .i64 r2, .int .i64 vv, .bool true, .int .i64 0] 114)) from Ch.alloc (Gr.refl w5) _)
  have B6 := (MapKept.heap_alloc w5 (.cells #[.int .i64 r0, .int .i64 r1, .int .i64 r2, .int .i64 vv, .bool true, .int .i64 0] 114)).1
  go_wp2_with (first
    | (refine wpList_load_row rfl 114 (.tmp 13) rfl w5.heap.size rfl _ _ _ _ B6 Try.underlying114 rfl wok_size ?_)
    | (refine st_row rfl 43 (.tmp 8) (.tmp 56) rfl (w.heap.size + 1) _ rfl rfl _ _ (al_blk (al_blk M5a.out _) _) mov_size rfl (one_mov _ _ _ _ _ _ _) ?_; intro w9 b9 k9; have M9 := hid b9; have K9 := hid k9; clear b9 k9))
  have ok0 := (ow_one (enc := eK) (K := 6) (w5.alloc (.cells #[.int .i64 r0, .int .i64 r1, .int .i64 r2, .int .i64 vv, .bool true, .int .i64 0] 114)) (Wk.mk r0 r1 r2 vv true 0) 114 #[.int .i64 r0, .int .i64 r1, .int .i64 r2, .int .i64 vv, .bool true, .int .i64 0] rfl rfl)
  have sz1 : (w5.alloc (.cells #[.int .i64 r0, .int .i64 r1, .int .i64 r2, .int .i64 vv, .bool true, .int .i64 0] 114)).heap.size = w5.heap.size + 1 := by simp
  rw [sz1] at ok0
  have OK := hid ok0
  clear ok0 sz1
  have GB := hid (show Gr w5 _ from Gr.trans GA.out (Ch.alloc (Gr.refl (w5.alloc (.cells #[.int .i64 r0, .int .i64 r1, .int .i64 r2, .int .i64 vv, .bool true, .int .i64 0] 114))) (.cells #[.int .i64 r0, .int .i64 r1, .int .i64 r2, .int .i64 vv, .bool true, .int .i64 0] 114)))
  have NW := hid (show Tn t t5 w w5 from Tn.ahead G1.out N5.out)
  have hle : w.heap.size + 1 < w5.heap.size := lt_of_block M5a.out
  refine bodyPost_ret (results_cell_tmp2 rfl _ _ (w.heap.size + 1) _ rfl (run_loadVar_row _ _ _ _ _ _ _ M9.out Try.underlying43 rfl mov_size)) rfl ⟨some ⟨w5.heap.size + 1, 0, none⟩, 1, 1, rfl, ((OK.out.ch K9.out (fun q hq e => ?_)).lower (by omega)), t5, (C5.out.gr GB.out).ch K9.out (fun q e => by have e1 : q = w.heap.size + 1 := e; rw [e1]; exact T5.out), (NW.out.then GB.out).own K9.out (by omega), fun q hq => cs_hi C5.out q ?_⟩
  · have e1 : q = w.heap.size + 1 := e
    have := (OK.out.blk hq).1
    omega
  · have := (OK.out.blk hq).1
    omega
end Go.Proofs.Ytalmiphddgmfbab.Lt
