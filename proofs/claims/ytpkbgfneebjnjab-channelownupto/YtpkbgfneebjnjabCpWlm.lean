/-
  Whom a close wakes, in plain words; what a call may turn besides its own blocks. No conditions.
  What the program's wakeAll of layer 11 answers and leaves. Conditions: goroutines' numbers are ints, lists are not too long.
-/
import Derived.Test.YtpkbgfneebjnjabCpRv
import Derived.Deep.Cut
namespace Go.Proofs.Ytpkbgfneebjnjab.Lt
open Go.RowKit Wd

/-- each of them leaves -/
def lvl (l : List Wt) (cs : List Cn) : List Cn := l.foldl (fun cs x => lvs cs x.s x.g) cs
theorem lvl_nil (cs : List Cn) : lvl [] cs = cs := rfl
theorem lvl_cons (x : Wt) (l : List Wt) (cs : List Cn) : lvl (x :: l) cs = lvl l (lvs cs x.s x.g) := rfl
theorem lvl_snoc (l : List Wt) (x : Wt) (cs : List Cn) : lvl (l ++ [x]) cs = lvs (lvl l cs) x.s x.g := by unfold lvl; rw [List.foldl_append]; rfl
theorem lvl_app (l m : List Wt) (cs : List Cn) : lvl (l ++ m) cs = lvl m (lvl l cs) := by unfold lvl; rw [List.foldl_append]
theorem lvs_len (cs : List Cn) (s g : Int) : (lvs cs s g).length = cs.length := List.length_map _
theorem lvl_len (l : List Wt) : ∀ cs : List Cn, (lvl l cs).length = cs.length := by
  induction l with
  | nil => intro cs; rfl
  | cons x r ih => intro cs; rw [lvl_cons, ih, lvs_len]
/-- who of them waits is woken, one behind the other -/
def wkF : List Cn → List Wt → List Wt
  | _, [] => []
  | fs, x :: r => if 0 < pls fs x.s x.g then x :: wkF (lvs fs x.s x.g) r else wkF fs r
/-- what one is told -/
def toK (tr : Int) (x : Wt) : Wk := ⟨x.s, x.g, x.c, 0, false, tr⟩
theorem wkF_len : ∀ (l : List Wt) (fs : List Cn), (wkF fs l).length ≤ l.length := by
  intro l
  induction l with
  | nil => intro fs; exact Nat.le_refl _
  | cons x r ih =>
    intro fs
    unfold wkF
    split
    · have := ih (lvs fs x.s x.g); simp only [List.length_cons]; omega
    · have := ih fs; simp only [List.length_cons]; omega
theorem wo_le (l : List Wt) (s g : Int) : (wo l s g).length ≤ l.length := List.length_filter_le _ _
theorem Bw.lvs {cs : List Cn} (h : Bw cs) (s g : Int) : Bw (lvs cs s g) := by
  intro d hd
  obtain ⟨c, hc, rfl⟩ := List.mem_map.1 hd
  have := h c hc
  exact ⟨Nat.le_trans (wo_le _ _ _) this.1, Nat.le_trans (wo_le _ _ _) this.2⟩
theorem Bw.lvl {cs : List Cn} (h : Bw cs) (l : List Wt) : Bw (lvl l cs) := by
  induction l generalizing cs with
  | nil => exact h
  | cons x r ih => rw [lvl_cons]; exact ih (h.lvs _ _)
theorem pls_other {cs : List Cn} {s g s' g' : Int} (h : ¬ (s' = s ∧ g' = g)) : pls (lvs cs s g) s' g' = pls cs s' g' := by
  rw [← plA_len s' g' 0, plA_lvs h, plA_len]
theorem pls_lvs_le (cs : List Cn) (s g s' g' : Int) : pls (lvs cs s g) s' g' ≤ pls cs s' g' := by
  rcases Classical.em (s' = s ∧ g' = g) with e | e
  · rw [e.1, e.2, pls_lvs]; exact Nat.zero_le _
  · rw [pls_other e]; exact Nat.le_refl _
theorem pls_lvl_le (l : List Wt) (s g : Int) : ∀ cs : List Cn, pls (lvl l cs) s g ≤ pls cs s g := by
  induction l with
  | nil => intro cs; exact Nat.le_refl _
  | cons x r ih => intro cs; rw [lvl_cons]; exact Nat.le_trans (ih _) (pls_lvs_le _ _ _ _ _)
/-- the channels, some of them emptied -/
def Cov (cs fs : List Cn) : Prop := fs.length = cs.length ∧ ∀ (i : Nat) (c f : Cn), cs[i]? = some c → fs[i]? = some f → c = f ∨ (c.ss = [] ∧ c.rs = [])
theorem Cov.lvs {cs fs : List Cn} (h : Cov cs fs) (s g : Int) : Cov (lvs cs s g) (lvs fs s g) := by
  refine ⟨by rw [lvs_len, lvs_len]; exact h.1, fun i c f hc hf => ?_⟩
  unfold Lt.lvs at hc hf
  rw [List.getElem?_map] at hc hf
  cases e1 : cs[i]? with
  | none => rw [e1] at hc; cases hc
  | some c1 =>
    cases e2 : fs[i]? with
    | none => rw [e2] at hf; cases hf
    | some f1 =>
      rw [e1] at hc
      rw [e2] at hf
      injection hc with hc
      injection hf with hf
      subst hc hf
      rcases h.2 i c1 f1 e1 e2 with e | ⟨e, e'⟩
      · exact .inl (by rw [e])
      · refine .inr ⟨?_, ?_⟩
        · show wo c1.ss s g = []
          rw [e]; rfl
        · show wo c1.rs s g = []
          rw [e']; rfl
theorem Cov.lvl {cs fs : List Cn} (h : Cov cs fs) (l : List Wt) : Cov (lvl l cs) (lvl l fs) := by
  induction l generalizing cs fs with
  | nil => exact h
  | cons x r ih => rw [lvl_cons, lvl_cons]; exact ih (h.lvs _ _)
theorem Cov.cv {cs fs : List Cn} (h : Cov cs fs) (s g : Int) : ∀ (i : Nat) (c f : Cn), cs[i]? = some c → fs[i]? = some f → 0 < c.pl s g → 0 < f.pl s g := by
  intro i c f hc hf hz
  rcases h.2 i c f hc hf with e | ⟨e, e'⟩
  · rw [← e]; exact hz
  · unfold Cn.pl at hz
    rw [e, e'] at hz
    simp [wo] at hz
/-- what a call may turn that also writes new blocks of its caller's -/
structure Tb (B : Nat) (t t' : Nat → Tg) (w w' : World) : Prop where
  c : Ch (fun q => t q ≠ .no ∨ B ≤ q) w w'
  o : ∀ q, q < w.heap.size → t q = .no → t' q = .no
section
variable {B : Nat} {t t1 t2 : Nat → Tg} {w w1 w2 : World}
theorem Tb.refl (B : Nat) (t : Nat → Tg) (w : World) : Tb B t t w w := ⟨Ch.refl _ _, fun _ _ h => h⟩
theorem Tb.tn (h : Tb B t t1 w w1) (k : Tn t1 t2 w1 w2) : Tb B t t2 w w2 :=
  ⟨h.c.trans k.c (fun q hq => by
    by_cases h1 : q < w.heap.size
    · exact .inl (.inl (fun e => hq (h.o q h1 e)))
    · exact .inr (by omega)), fun q hq e => k.o q (Nat.lt_of_lt_of_le hq h.c.size) (h.o q hq e)⟩
theorem Tb.gr (h : Tb B t t1 w w1) (g : Gr w1 w2) : Tb B t t1 w w2 := ⟨h.c.trans g (fun _ q => q.elim), h.o⟩
theorem Tb.bl {S : Nat → Prop} (h : Tb B t t1 w w1) (k : Ch S w1 w2) (hS : ∀ q, S q → B ≤ q) : Tb B t t1 w w2 := ⟨h.c.trans k (fun q hq => .inl (.inr (hS q hq))), h.o⟩
theorem Tb.ls {α : Type} {enc : α → List Value} {P : Nat → Prop} {v : Value} {ys : List α} (h : Tb B t t1 w w1) (l : Ls enc P w v ys) (hP : ∀ q, q < w.heap.size → P q → t q = .no ∧ q < B) : Ls enc P w1 v ys :=
  l.ch h.c (fun q hq hp hs => by
    obtain ⟨h1, h2⟩ := hP q hq hp
    rcases hs with h3 | h3
    · exact h3 h1
    · omega)
end
theorem Tn.tb {B : Nat} {t t1 t2 : Nat → Tg} {w w1 w2 : World} (h : Tn t t1 w w1) (k : Tb B t1 t2 w1 w2) (hB : w.heap.size ≤ B) : Tn t t2 w w2 :=
  ⟨h.c.trans k.c (fun q hq => by
    by_cases h1 : q < w.heap.size
    · rcases hq with hq | hq
      · exact .inl (fun e => hq (h.o q h1 e))
      · omega
    · exact .inr (by omega)), fun q hq e => k.o q (Nat.lt_of_lt_of_le hq h.c.size) (h.o q hq e)⟩
theorem wok_info : (Try.prog.info? 95).map (fun i => (i.zero, i.size, i.bytes)) = some (some (.agg #[.int .i64 0, .int .i64 0, .int .i64 0, .int .i64 0, .bool false, .int .i64 0]), 6, 48) := by kernel_rfl
theorem wkF_step {fs : List Cn} {ws : List Wt} {j : Nat} {x : Wt} (hx : ws[j]? = some x) : wkF fs (ws.drop j) = if 0 < pls fs x.s x.g then x :: wkF (lvs fs x.s x.g) (ws.drop (j + 1)) else wkF fs (ws.drop (j + 1)) := by
  have : ws.drop j = x :: ws.drop (j + 1) := by
    have hj := (List.getElem?_eq_some_iff.1 hx)
    rw [← hj.2]
    exact List.drop_eq_getElem_cons hj.1
  rw [this, wkF]
end Go.Proofs.Ytpkbgfneebjnjab.Lt

namespace Go.Proofs.Ytpkbgfneebjnjab.Lt
open Go.RowKit Wd
attribute [local go_sem ↓] Go.wp_at_zero Go.wp_at_succ

/-- what wakeAll tells and leaves -/
def WlR (t : Nat → Tg) (w : World) (b : Nat) (v : Value) (cs fs : List Cn) (B : Nat) (ks : List Wk) (wk : List Wt) (e : Ending) (w' : World) : Prop := ∃ mo mn mc, e = .returned (.slice mo mn mc) ∧ Ow eK 6 95 B w' (.slice mo mn mc) ks ∧ ∃ t', Ct t' w' b v (lvl wk cs) (lvl wk fs) ∧ Tb B t t' w w' ∧ ∀ q, Blk (.slice mo mn mc) q → t' q = .no
set_option maxRecDepth 40000 in
set_option maxHeartbeats 8000000 in
theorem wakeAll_any {t : Nat → Tg} {w : World} {b : Nat} {v : Value} {cs fs : List Cn} (h : Ct t w b v cs fs) (hcv : Cov cs fs) (hn : cs.length ≤ 1024) (hb : Bw cs) (ws : List Wt) (hw : ∀ x ∈ ws, Gok x.s x.g ∧ pls fs x.s x.g ≤ 4398046511104) (B : Nat) (hB : B ≤ w.heap.size) (P : Nat → Prop) (ao : Option Addr) (n cap : Nat) (hl : Ls eW P w (.slice ao n cap) ws) (hP : ∀ q, q < w.heap.size → P q → t q = .no ∧ q < B) (mo : Option Addr) (mn mc : Nat) (ks : List Wk) (ho : Ow eK 6 95 B w (.slice mo mn mc) ks) (hto : ∀ q, Blk (.slice mo mn mc) q → t q = .no) (tr : Int) (hlen : mn + n ≤ 2932031007402) :
    Calls Try.prog 51 #[.pointer (some ⟨b, 0, none⟩), .slice mo mn mc, .slice ao n cap, .int .i64 tr] w (WlR t w b v cs fs B (ks ++ (wkF fs ws).map (toK tr)) (wkF fs ws)) := by
  have HL := hid hl.len.1
  have HKL := hid ho.len.1
  have HLS := hid hl
  have HP := hid hP
  have HW := hid hw
  have HN := hid hn
  have HBW := hid hb
  have HCV := hid hcv
  have HBB := hid hB
  have HC := hid h
  have HO := hid ho
  have HTO := hid hto
  have HLN := hid hlen
  have hnb : n ≤ 2932031007402 := by omega
  clear h hcv hn hb hw hB hl hP ho hto hlen
  go_enter Try.func51, Try.ntmps51
  go_wp2_with fail
  go_loopg [1, 13] n (fun q v1 v13 wr => ∃ (j mm : Nat) (done : List Wt) (t1 : Nat → Tg) (ma : Option Addr) (mcc : Nat), j + q = n ∧ v13 = .int .i64 (j : Int) ∧ v1 = .slice ma mm mcc ∧ done ++ wkF (lvl done fs) (ws.drop j) = wkF fs ws ∧ done.length ≤ j ∧ Ct t1 wr b v (lvl done cs) (lvl done fs) ∧ Ow eK 6 95 B wr (.slice ma mm mcc) (ks ++ done.map (toK tr)) ∧ (∀ q, Blk (.slice ma mm mcc) q → t1 q = .no) ∧ Tb B t t1 w wr)
  case atStart => exact ⟨0, mn, [], t, mo, mc, by omega, rfl, rfl, rfl, Nat.le_refl _, HC.out, by rw [List.map_nil, List.append_nil]; exact HO.out, HTO.out, Tb.refl _ _ _⟩
  case round =>
    obtain ⟨j, mm, done, t1, ma, mcc, hjq, rfl, rfl, hdn, hdl, hC, hO, hT, hTb⟩ := hrel
    have RD := hid hdn
    have RL := hid hdl
    have RC := hid hC
    have RO := hid hO
    have RT := hid hT
    have RB := hid hTb
    clear hdn hdl hC hO hT hTb
    by_cases hj : j < n
    · obtain ⟨⟨x0, x1, x2, x3⟩, hx⟩ : ∃ x, ws[j]? = some x := ⟨_, List.getElem?_eq_getElem (by rw [← HL.out]; exact hj)⟩
      obtain ⟨gg, oo, cap', hv, _, hgl, _, hcs⟩ := (RB.out.ls HLS.out HP.out).get eW_len hx
      injection hv with hv1 hv2 hv3
      subst hv1
      have c0 := hcs 0 _ rfl
      have c1 := hcs 1 _ rfl
      have c2 := hcs 2 _ rfl
      have c3 := hcs 3 _ rfl
      dsimp only [Nat.add_zero] at c0 c1 c2 c3
      have j0 : (0 : Int) ≤ (j : Int) := by omega
      have j1 : (j : Int) < (n : Int) := by omega
      obtain ⟨hkx, hpx⟩ := HW.out _ (List.mem_of_getElem? hx)
      dsimp only at hkx hpx
      obtain ⟨W1, hW1⟩ : ∃ W, W = wr.alloc (.cells #[.int .i64 x0, .int .i64 x1, .int .i64 x2, .int .i64 x3] 65) := ⟨_, rfl⟩
      have GA := hid (show Gr wr W1 from by rw [hW1]; exact Ch.alloc (Gr.refl wr) _)
      have BX := hid (show W1.heap[wr.heap.size]? = some (.cells #[.int .i64 x0, .int .i64 x1, .int .i64 x2, .int .i64 x3] 65 (0, 0)) from by rw [hW1]; exact (MapKept.heap_alloc wr _).1)
      have HST := hid (wkF_step (fs := lvl done fs) hx)
      dsimp only at HST
      have HK := hid hkx
      have HPX := hid (Nat.le_trans (pls_lvl_le done x0 x1 fs) hpx)
      have HWT := hid (by
        obtain ⟨k1, xs1, M1, cl1, H1⟩ := RC.out.gr GA.out
        exact waits_core H1.me H1.mp hkx)
      rw [hW1] at HWT
      clear hcs hv2 hv3 hx hgl hkx hpx
      by_cases hwt : 0 < pls (lvl done fs) x0 x1
      · rw [decide_eq_true hwt] at HWT
        rw [if_pos hwt] at HST
        clear hwt
        go_upto_region 5 with (go_at_call 59; refine HWT.out.mono ?_; rintro e w2 ⟨rfl, g2⟩; rw [← hW1] at g2; have G2 := hid (Gr.trans GA.out g2); have B2 := hid (gr_blk BX.out g2); clear g2)
        have HWK := hid (wakeB_any (s := x0) (g := x1) x2 x3 0 false tr (RC.out.gr G2.out) (HCV.out.lvl done).1 ((HCV.out.lvl done).cv x0 x1) HK.out (by rw [lvl_len]; exact HN.out) (HBW.out.lvl done) HPX.out)
        clear c0 c1 c2 c3
        go_wp2_with (first
          | (refine wpList_load_row rfl 65 (.tmp 10) rfl wr.heap.size rfl _ _ _ _ B2.out Try.underlying65 rfl wtr_size ?_)
          | (go_at_call 46; refine HWK.out.mono ?_; rintro e w3 ⟨rfl, t3, c3, n3⟩; have C3 := hid c3; have N3 := hid n3; have TB3 := hid ((RB.out.gr G2.out).tn n3); have O3 := hid (show Ow eK 6 95 B w3 (.slice ma mm mcc) (ks ++ done.map (toK tr)) from (RO.out.gr G2.out).ch n3.c (fun q hq hs => hs (RT.out q hq))); clear c3 n3)
          | (at_builtin; refine wpList_append_ow eK_len rfl (.tmp 21) (.tmp 26) _ 95 48 _ Try.underlying58 wok_info rfl (by omega) rfl B _ (ks ++ done.map (toK tr)) rfl (O3.out.alloc _) _ _ [(Wk.mk x0 x1 x2 0 false tr)] rfl (Ls.single w3 (Wk.mk x0 x1 x2 0 false tr) 95 #[.int .i64 x0, .int .i64 x1, .int .i64 x2, .int .i64 0, .bool false, .int .i64 tr] rfl) (eK_one _) (mm + 1) (by rw [← O3.out.len.1]; rfl) (by have := O3.out.len.1; have := RL.out; have := HLN.out; have := HKL.out; simp only [List.length_append, List.length_map] at *; omega) (by unfold maxLen; have := O3.out.len.1; have := RL.out; have := HLN.out; have := HKL.out; simp only [List.length_append, List.length_map] at *; omega) (by have := HBB.out; have := TB3.out.c.size; have := (Ch.alloc (Gr.refl w3) (.cells #[.int .i64 x0, .int .i64 x1, .int .i64 x2, .int .i64 0, .bool false, .int .i64 tr] 95)).size; omega) ((ks ++ done.map (toK tr)) ++ [(Wk.mk x0 x1 x2 0 false tr)]) rfl ?_; intro ao5 cap5 w5 ow5 cw5 bl5; have O5 := hid ow5; have K5 := hid cw5; have L5 := hid bl5; clear ow5 cw5 bl5))
        go_roundg (gk - 1)
        case measure => omega
        case rel =>
          have GB := (show Gr w3 (w3.alloc (.cells #[.int .i64 x0, .int .i64 x1, .int .i64 x2, .int .i64 0, .bool false, .int .i64 tr] 95)) from Ch.alloc (Gr.refl w3) _)
          have hno : ∀ q, Blk (.slice ma mm mcc) q → t3 q = .no := fun q hq => N3.out.o q (Nat.lt_of_lt_of_le (RO.out.blk hq).2 G2.out.size) (RT.out q hq)
          refine ⟨j + 1, mm + 1, done ++ [⟨x0, x1, x2, x3⟩], t3, ao5, cap5, by omega, by simp, rfl, ?_, by simp; exact RL.out, ?_, ?_, ?_, ?_⟩
          · rw [lvl_snoc, List.append_assoc]
            rw [← RD.out, HST.out]
            rfl
          · rw [lvl_snoc, lvl_snoc]
            exact (C3.out.gr GB).ch K5.out hno
          · rw [List.map_append, ← List.append_assoc]
            exact O5.out
          · intro q hq
            rcases L5.out q hq with h1 | h1
            · exact hno q h1
            · exact C3.out.hi q (Nat.le_trans GB.size h1)
          · exact (TB3.out.gr GB).bl K5.out (fun q hq => (O3.out.blk hq).1)
      · rw [decide_eq_false hwt] at HWT
        rw [if_neg hwt] at HST
        clear hwt
        go_wp2_with (go_at_call 59; refine HWT.out.mono ?_; rintro e w2 ⟨rfl, g2⟩; rw [← hW1] at g2; have G2 := hid (Gr.trans GA.out g2); have B2 := hid (gr_blk BX.out g2); clear g2)
        go_roundg (gk - 1)
        case measure => omega
        case rel => exact ⟨j + 1, mm, done, t1, ma, mcc, by omega, by simp, rfl, by rw [← HST.out]; exact RD.out, Nat.le_succ_of_le RL.out, RC.out.gr G2.out, RO.out.gr G2.out, RT.out, RB.out.gr G2.out⟩
    · have jn : ¬ (j : Int) < (n : Int) := by omega
      have HE := hid (show done = wkF fs ws from by
        have := RD.out
        rw [List.drop_of_length_le (by rw [← HL.out]; omega)] at this
        rw [← this]
        simp [wkF])
      go_wp2
      go_ret
      rw [← HE.out]
      exact ⟨_, _, _, rfl, RO.out, t1, RC.out, RB.out, RT.out⟩
end Go.Proofs.Ytpkbgfneebjnjab.Lt
