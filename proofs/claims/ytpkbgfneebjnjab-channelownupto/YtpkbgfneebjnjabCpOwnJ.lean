/-
  ChannelOwn holds, where what it reads is small (the second form): for any states and any script of calls the call returns true, and its arguments read afterwards as they read before.
-/
import Derived.Test.YtpkbgfneebjnjabCpLdm
import Derived.Deep.Cut
import Derived.Test.YtpkbgfneebjnjabCpFrameE
import Derived.Test.YtpkbgfneebjnjabCpAny
namespace Go.Proofs.Ytpkbgfneebjnjab.Lt
open Go.RowKit Wd
attribute [local go_sem ↓] Go.wp_at_zero Go.wp_at_succ

set_option maxHeartbeats 4000000 in
set_option maxRecDepth 20000 in
theorem rmay_all (P : Nat → Prop) (w : World) (cp : Int) (vo so ro : Option Addr) (vn vc sn sc rn rc : Nat) (cl : Bool) (vs : List Int) (ss rs : List Wt) (hvl : vn = vs.length) (hs : Ls eW P w (.slice so sn sc) ss) (hr : Ls eW P w (.slice ro rn rc) rs) (hb : sn ≤ 4398046511104 ∧ rn ≤ 4398046511104) :
    Calls Try.prog 17 #[.agg #[.int .i64 cp, .slice vo vn vc, .slice so sn sc, .slice ro rn rc, .bool cl]] w fun e w' => e = .returned (.bool (mayT cp vs ss rs cl)) ∧ Gr w w' := by
  by_cases hc : 0 ≤ cp ∧ cp ≤ 1024 ∧ (vs.length : Int) ≤ cp
  · have := may_any P w cp vo so ro vn vc sn sc rn rc cl vs ss rs hvl hs hr hc.1 hc.2.1 (by rw [hvl]; exact hc.2.2) hb
    unfold mayT
    rw [decide_eq_true hc, Bool.true_and]
    exact this
  · have HT := hid (show mayT cp vs ss rs cl = false from by unfold mayT; rw [decide_eq_false hc, Bool.false_and])
    have G1 := hid (show Gr w (w.alloc (.cells #[.int .i64 cp, .slice vo vn vc, .slice so sn sc, .slice ro rn rc, .bool cl] 45)) from Ch.alloc (Gr.refl w) _)
    by_cases a1 : cp < 0
    · have a1' : decide (cp < 0) = true := decide_eq_true a1
      clear hvl hs hr hc hb
      go_enter Try.func17, Try.ntmps17
      go_wp2_with fail
      go_ret
      exact ⟨by rw [HT.out]; try rfl, G1.out⟩
    · have a1' : decide (cp < 0) = false := decide_eq_false a1
      by_cases a2 : (1024 : Int) < cp
      · have a2' : decide ((1024 : Int) < cp) = true := decide_eq_true a2
        clear hvl hs hr hc hb
        go_enter Try.func17, Try.ntmps17
        go_wp2_with fail
        go_ret
        exact ⟨by rw [HT.out]; try rfl, G1.out⟩
      · have a2' : decide ((1024 : Int) < cp) = false := decide_eq_false a2
        have a3 : cp < (vn : Int) := by omega
        have a3' : decide (cp < (vn : Int)) = true := decide_eq_true a3
        clear hvl hs hr hc hb
        go_enter Try.func17, Try.ntmps17
        go_wp2_with fail
        go_ret
        exact ⟨by rw [HT.out]; try rfl, G1.out⟩
/-- what Load of the document tells -/
def RlR (w : World) (cs : List Cn) (e : Ending) (w' : World) : Prop := (ldB cs = true → ∃ v, e = .returned (.tuple #[v, .int .i64 0]) ∧ Nx w.heap.size w' v cs) ∧ (ldB cs = false → e = .returned (.tuple #[.slice none 0 0, .int .i64 110])) ∧ Gr w w'
set_option maxRecDepth 20000 in
set_option maxHeartbeats 4000000 in
theorem rload_walk (P : Nat → Prop) (w : World) (ao : Option Addr) (n cap : Nat) (cs : List Cn) (h : Rds P w (.slice ao n cap) cs) (hb : Bd cs) :
    Calls Try.prog 6 #[.slice ao n cap] w (RlR w cs) := by
  have hnl : n = cs.length := by
    obtain ⟨a, c, e⟩ := h.form
    injection e
  have HNL := hid hnl
  have HBD := hid hb
  have HR := hid h
  clear h hb hnl
  by_cases h1 : n ≤ 1024
  · have h1' : ¬ (1024 : Int) < (n : Int) := by omega
    have J24 := hid h1
    go_enter Try.func6, Try.ntmps6
    go_wp2_with fail
    clear h1'
    go_loopg [4] n (fun q v4 wr => ∃ (j : Nat), j + q = n ∧ v4 = .int .i64 (j : Int) ∧ Gr w wr ∧ (∀ c ∈ cs.take j, mayT c.cap c.vs c.ss c.rs c.cl = true))
    case atStart => exact ⟨0, by omega, rfl, Gr.refl w, fun c hc => by simp at hc⟩
    case round =>
      obtain ⟨j, hjq, rfl, hG, hA⟩ := hrel
      have GJ := hid hG
      have AJ := hid hA
      clear hG hA
      by_cases hj : j < n
      · obtain ⟨c, hc⟩ : ∃ c, cs[j]? = some c := ⟨_, List.getElem?_eq_getElem (by rw [← HNL.out]; exact hj)⟩
        obtain ⟨rows, hl, hrn, hf⟩ := HR.out
        obtain ⟨x, hx⟩ : ∃ x, rows[j]? = some x := ⟨_, List.getElem?_eq_getElem (by rw [hrn, ← HNL.out]; exact hj)⟩
        have hrd := hf j x c hx hc
        obtain ⟨gg, oo, cap', hv, _, hgl, _, hcs⟩ := (hl.gr GJ.out).get eR_len hx
        injection hv with hv1 hv2 hv3
        subst hv1
        clear hv2 hv3
        obtain ⟨vo, vk, ex⟩ := hrd.v.form
        obtain ⟨so, sk, ey⟩ := hrd.s.form
        obtain ⟨ro, rk, ez⟩ := hrd.r.form
        have c0 := hcs 0 _ rfl
        have c1 := hcs 1 _ rfl
        have c2 := hcs 2 _ rfl
        have c3 := hcs 3 _ rfl
        have c4 := hcs 4 _ rfl
        simp only [Nat.add_zero] at c0
        obtain ⟨xcap, xv, xs', xr, xcl⟩ := x
        dsimp only at ex ey ez c0 c1 c2 c3 c4
        subst ex ey ez
        have mem := List.mem_of_getElem? hc
        obtain ⟨vn, evn⟩ : ∃ m, m = c.vs.length := ⟨_, rfl⟩
        obtain ⟨sn, esn⟩ : ∃ m, m = c.ss.length := ⟨_, rfl⟩
        obtain ⟨rn, ern⟩ : ∃ m, m = c.rs.length := ⟨_, rfl⟩
        rw [← evn] at c1 hrd
        rw [← esn] at c2 hrd
        rw [← ern] at c3 hrd
        have bds := HBD.out.s c mem
        have bdr := HBD.out.r c mem
        have HMB := hid (rmay_all P wr xcap vo so ro vn vk sn sk rn rk xcl c.vs c.ss c.rs evn (hrd.s.gr GJ.out) (hrd.r.gr GJ.out) ⟨by omega, by omega⟩)
        have ecap : xcap = c.cap := hrd.cap
        have ecl : xcl = c.cl := hrd.cl
        have HZZ := hid (show mayT xcap c.vs c.ss c.rs xcl = mayT c.cap c.vs c.ss c.rs c.cl from by rw [ecap, ecl])
        have HC := hid hc
        have j0 : (0 : Int) ≤ (j : Int) := by omega
        have j1 : (j : Int) < (n : Int) := by omega
        clear hrd hf hl hrn hx hc mem evn esn ern ecap ecl hcs hgl bds bdr
        obtain ⟨z, hz⟩ : ∃ z, z = mayT xcap c.vs c.ss c.rs xcl := ⟨_, rfl⟩
        rw [← hz] at HMB HZZ
        clear hz
        cases z with
        | false =>
          go_wp2_with (go_at_call 17; refine HMB.out.mono ?_; rintro e w5 ⟨rfl, g5⟩; have G5 := hid g5; clear g5)
          refine bodyPost_ret (v := .tuple #[.slice none 0 0, .int .i64 110]) (by simp [results, Try.results6, go_sem]) rfl ⟨fun e => ?_, fun _ => rfl, Gr.trans GJ.out G5.out⟩
          rw [ldB_no HC.out HZZ.out.symm] at e
          cases e
        | true =>
          go_wp2_with (go_at_call 17; refine HMB.out.mono ?_; rintro e w5 ⟨rfl, g5⟩; have G5 := hid g5; clear g5)
          go_roundg (gk - 1)
          case measure => omega
          case rel =>
            refine ⟨j + 1, by omega, ?_, Gr.trans GJ.out G5.out, ?_⟩
            · first | with_reducible rfl | simp
            · intro d hd
              rw [take_one HC.out] at hd
              rcases List.mem_append.1 hd with q | q
              · exact AJ.out d q
              · rw [List.mem_singleton] at q
                rw [q]
                exact HZZ.out.symm
      · have jn : ¬ (j : Int) < (n : Int) := by omega
        have hta : cs.take j = cs := List.take_of_length_le (by rw [← HNL.out]; omega)
        rw [hta] at AJ
        clear hta
        have HCY := hid (copy_any P wr _ cs (HR.out.gr GJ.out) HBD.out)
        go_wp2_with (go_at_call 4; refine HCY.out.mono ?_; rintro e w5 ⟨v5, t5, xs5, rfl, n5, g5⟩; have N5 := hid (show Nx wr.heap.size w5 v5 cs from ⟨t5, xs5, n5⟩); have G5 := hid g5; clear n5 g5)
        refine bodyPost_ret (v := .tuple #[v5, .int .i64 0]) (by simp [results, Try.results6, go_sem]) rfl ⟨fun _ => ⟨v5, rfl, N5.out.lower GJ.out.size⟩, fun e => ?_, Gr.trans GJ.out G5.out⟩
        rw [show ldB cs = true from by unfold ldB; rw [decide_eq_true (by rw [← HNL.out]; exact J24.out), Bool.true_and]; exact List.all_eq_true.2 (fun c hc => AJ.out c hc)] at e
        cases e
  · have h1' : (1024 : Int) < (n : Int) := by omega
    have HLB := hid (show ldB cs = false from by unfold ldB; rw [decide_eq_false (by rw [← HNL.out]; exact h1), Bool.false_and])
    go_enter Try.func6, Try.ntmps6
    go_wp2_with fail
    refine bodyPost_ret (v := .tuple #[.slice none 0 0, .int .i64 110]) (by simp [results, Try.results6, go_sem]) rfl ⟨fun e => ?_, fun _ => rfl, Gr.refl w⟩
    rw [HLB.out] at e
    cases e
theorem rload_any {P : Nat → Prop} {w : World} {v : Value} {cs : List Cn} (h : Rds P w v cs) (hb : Bd cs) :
    Calls Try.prog 6 #[v] w (RlR w cs) := by
  obtain ⟨ao, cap, rfl⟩ := h.form
  exact rload_walk P w ao _ cap cs h hb
/-- channels that Load takes are good -/
theorem ldB_gd {N : Nat} {cs : List Cn} (h : ldB cs = true) (hw : tot cs ≤ N) (hg : ∀ c ∈ cs, ∀ x, x ∈ c.ss ∨ x ∈ c.rs → Gok x.s x.g) : Gd N cs := by
  unfold ldB at h
  rw [Bool.and_eq_true] at h
  have h1 := of_decide_eq_true h.1
  have h2 : ∀ c ∈ cs, 0 ≤ c.cap ∧ c.cap ≤ 1024 ∧ (c.vs.length : Int) ≤ c.cap := by
    intro c hc
    have := List.all_eq_true.1 h.2 c hc
    unfold mayT at this
    rw [Bool.and_eq_true] at this
    exact of_decide_eq_true this.1
  exact ⟨h1, fun c hc => ⟨(h2 c hc).1, (h2 c hc).2.1⟩, fun c hc => (h2 c hc).2.2, hw, hg⟩
end Go.Proofs.Ytpkbgfneebjnjab.Lt

namespace Go.Proofs.Ytpkbgfneebjnjab.Lt
open Go.RowKit Wd
attribute [local go_sem ↓] Go.wp_at_zero Go.wp_at_succ

def bnd (c : Cn) (K : Nat) : Prop := c.vs.length ≤ K ∧ c.ss.length ≤ K ∧ c.rs.length ≤ K
theorem bnd.up {c : Cn} {K L : Nat} (h : bnd c K) (hl : K ≤ L) : bnd c L := ⟨Nat.le_trans h.1 hl, Nat.le_trans h.2.1 hl, Nat.le_trans h.2.2 hl⟩
/-- the blocks of channels -/
def InT (t : Nat → Tg) : Nat → Prop := fun q => (t q).in_
/-- states that are being spoilt -/
structure Spz (t0 : Nat → Tg) (w0 : World) (base : Nat) (v : Value) (n i M m : Nat) (W : World) (t : Nat → Tg) (xs : List Rw) (cs : List Cn) : Prop where
  nl : NL t base W v xs cs
  n : cs.length = n
  tg : ∀ q, q < w0.heap.size → (t q).in_ → (t0 q).in_
  ch : Ch (fun q => (t0 q).in_) w0 W
  bd : ∀ (j : Nat) (c : Cn), cs[j]? = some c → (i < j → bnd c M) ∧ (j = i → bnd c (M + m))
section
variable {t0 t : Nat → Tg} {w0 W W' : World} {base n i M m : Nat} {v : Value} {xs : List Rw} {cs : List Cn}
theorem Spz.step (h : Spz t0 w0 base v n i M m W t xs cs) {S : Nat → Prop} (k : Ch S W W') (hS : ∀ q, S q → (t q).in_ ∨ w0.heap.size ≤ q) : Ch (fun q => (t0 q).in_) w0 W' :=
  h.ch.trans k (fun q hq => by
    rcases hS q hq with q1 | q1
    · rcases Nat.lt_or_ge q w0.heap.size with h1 | h1
      · exact .inl (h.tg q h1 q1)
      · exact .inr h1
    · exact .inr q1)
theorem Spz.gr (h : Spz t0 w0 base v n i M m W t xs cs) (g : Gr W W') : Spz t0 w0 base v n i M m W' t xs cs := ⟨h.nl.gr g, h.n, h.tg, h.step g (fun _ q => q.elim), h.bd⟩
theorem set_bd {d : Cn} (h : ∀ (j : Nat) (c : Cn), cs[j]? = some c → (i < j → bnd c M) ∧ (j = i → bnd c (M + m))) (hi : i < cs.length) {m' : Nat} (hd : bnd d (M + m')) : ∀ (j : Nat) (c : Cn), (cs.set i d)[j]? = some c → (i < j → bnd c M) ∧ (j = i → bnd c (M + m')) := by
  intro j e he
  by_cases ej : i = j
  · subst ej
    rw [List.getElem?_set_self hi] at he
    injection he with he
    subst he
    exact ⟨fun q => by omega, fun _ => hd⟩
  · rw [List.getElem?_set_ne ej] at he
    exact ⟨(h j e he).1, fun q => (ej q.symm).elim⟩
/-- a channel's vs turn in their place -/
theorem NL.in_v {w w1 : World} {x : Rw} {c : Cn} {us : List Int} (h : NL t base w v xs cs) (hx : xs[i]? = some x) (hc : cs[i]? = some c) (kc : Ch (Blk x.v) w w1) (o : Ow eI 1 2 base w1 x.v us) : NL t base w1 v xs (cs.set i ⟨c.cap, us, c.ss, c.rs, c.cl⟩) := by
  have hx1 := h.f i x c hx hc
  refine ⟨h.o.ch kc (fun q hq hb => by have e1 := h.to q hq; rw [hx1.tv q hb] at e1; cases e1), h.to, by rw [List.length_set]; exact h.n, fun j y d hy hd => ?_⟩
  by_cases ej : i = j
  · subst ej
    rw [hx] at hy
    injection hy with hy
    subst hy
    rw [List.getElem?_set_self (List.getElem?_eq_some_iff.1 hc).1] at hd
    injection hd with hd
    subst hd
    exact ⟨hx1.cap, hx1.cl, o, hx1.tv, hx1.s.ch kc (fun q hq hb => by have e1 := hx1.ts q hq; rw [hx1.tv q hb] at e1; cases e1), hx1.ts, hx1.r.ch kc (fun q hq hb => by have e1 := hx1.tr q hq; rw [hx1.tv q hb] at e1; cases e1), hx1.tr⟩
  · rw [List.getElem?_set_ne ej] at hd
    have y1 := h.f j y d hy hd
    exact ⟨y1.cap, y1.cl, y1.v.ch kc (fun q hq hb => by have e1 := y1.tv q hq; rw [hx1.tv q hb] at e1; injection e1 with _ e2; exact ej e2), y1.tv, y1.s.ch kc (fun q hq hb => by have e1 := y1.ts q hq; rw [hx1.tv q hb] at e1; injection e1 with _ e2; exact ej e2), y1.ts, y1.r.ch kc (fun q hq hb => by have e1 := y1.tr q hq; rw [hx1.tv q hb] at e1; injection e1 with _ e2; exact ej e2), y1.tr⟩
/-- a channel's ss turn in their place -/
theorem NL.in_s {w w1 : World} {x : Rw} {c : Cn} {us : List Wt} (h : NL t base w v xs cs) (hx : xs[i]? = some x) (hc : cs[i]? = some c) (kc : Ch (Blk x.s) w w1) (o : Ow eW 4 65 base w1 x.s us) : NL t base w1 v xs (cs.set i ⟨c.cap, c.vs, us, c.rs, c.cl⟩) := by
  have hx1 := h.f i x c hx hc
  refine ⟨h.o.ch kc (fun q hq hb => by have e1 := h.to q hq; rw [hx1.ts q hb] at e1; cases e1), h.to, by rw [List.length_set]; exact h.n, fun j y d hy hd => ?_⟩
  by_cases ej : i = j
  · subst ej
    rw [hx] at hy
    injection hy with hy
    subst hy
    rw [List.getElem?_set_self (List.getElem?_eq_some_iff.1 hc).1] at hd
    injection hd with hd
    subst hd
    exact ⟨hx1.cap, hx1.cl, hx1.v.ch kc (fun q hq hb => by have e1 := hx1.tv q hq; rw [hx1.ts q hb] at e1; cases e1), hx1.tv, o, hx1.ts, hx1.r.ch kc (fun q hq hb => by have e1 := hx1.tr q hq; rw [hx1.ts q hb] at e1; cases e1), hx1.tr⟩
  · rw [List.getElem?_set_ne ej] at hd
    have y1 := h.f j y d hy hd
    exact ⟨y1.cap, y1.cl, y1.v.ch kc (fun q hq hb => by have e1 := y1.tv q hq; rw [hx1.ts q hb] at e1; injection e1 with _ e2; exact ej e2), y1.tv, y1.s.ch kc (fun q hq hb => by have e1 := y1.ts q hq; rw [hx1.ts q hb] at e1; injection e1 with _ e2; exact ej e2), y1.ts, y1.r.ch kc (fun q hq hb => by have e1 := y1.tr q hq; rw [hx1.ts q hb] at e1; injection e1 with _ e2; exact ej e2), y1.tr⟩
/-- a channel's rs turn in their place -/
theorem NL.in_r {w w1 : World} {x : Rw} {c : Cn} {us : List Wt} (h : NL t base w v xs cs) (hx : xs[i]? = some x) (hc : cs[i]? = some c) (kc : Ch (Blk x.r) w w1) (o : Ow eW 4 65 base w1 x.r us) : NL t base w1 v xs (cs.set i ⟨c.cap, c.vs, c.ss, us, c.cl⟩) := by
  have hx1 := h.f i x c hx hc
  refine ⟨h.o.ch kc (fun q hq hb => by have e1 := h.to q hq; rw [hx1.tr q hb] at e1; cases e1), h.to, by rw [List.length_set]; exact h.n, fun j y d hy hd => ?_⟩
  by_cases ej : i = j
  · subst ej
    rw [hx] at hy
    injection hy with hy
    subst hy
    rw [List.getElem?_set_self (List.getElem?_eq_some_iff.1 hc).1] at hd
    injection hd with hd
    subst hd
    exact ⟨hx1.cap, hx1.cl, hx1.v.ch kc (fun q hq hb => by have e1 := hx1.tv q hq; rw [hx1.tr q hb] at e1; cases e1), hx1.tv, hx1.s.ch kc (fun q hq hb => by have e1 := hx1.ts q hq; rw [hx1.tr q hb] at e1; cases e1), hx1.ts, o, hx1.tr⟩
  · rw [List.getElem?_set_ne ej] at hd
    have y1 := h.f j y d hy hd
    exact ⟨y1.cap, y1.cl, y1.v.ch kc (fun q hq hb => by have e1 := y1.tv q hq; rw [hx1.tr q hb] at e1; injection e1 with _ e2; exact ej e2), y1.tv, y1.s.ch kc (fun q hq hb => by have e1 := y1.ts q hq; rw [hx1.tr q hb] at e1; injection e1 with _ e2; exact ej e2), y1.ts, y1.r.ch kc (fun q hq hb => by have e1 := y1.tr q hq; rw [hx1.tr q hb] at e1; injection e1 with _ e2; exact ej e2), y1.tr⟩
theorem Spz.stv (h : Spz t0 w0 base v n i M m W t xs cs) {x : Rw} {c : Cn} (hx : xs[i]? = some x) (hc : cs[i]? = some c) {j : Nat} (hj : j < c.vs.length) (u : Int) :
    ∃ g ca, x.v = .slice (some ⟨g, 0, none⟩) c.vs.length ca ∧ g < W.heap.size ∧ (∃ u0, W.cell? ⟨g, j, none⟩ = some u0) ∧ W.frozen? ⟨g, j, none⟩ = false ∧ ∃ us : List Int, us.length = c.vs.length ∧ Spz t0 w0 base v n i M m (W.setCell ⟨g, j, none⟩ (.int .i64 u)) t xs (cs.set i ⟨c.cap, us, c.ss, c.rs, c.cl⟩) := by
  have hx1 := h.nl.f i x c hx hc
  obtain ⟨a, ha⟩ : ∃ a, c.vs[j]? = some a := ⟨_, List.getElem?_eq_getElem hj⟩
  obtain ⟨g, ca, e, -, hg, -, hcs, hfz, hst⟩ := hx1.v.get eI_len ha
  have hb : Blk x.v g := by rw [e]; rfl
  have kc : Ch (Blk x.v) W (W.setCell ⟨g, j, none⟩ (.int .i64 u)) := (Ch.refl (Blk x.v) W).setCell (p := ⟨g, j, none⟩) (.inl hb) _
  have ho := hst 0 (.int .i64 u) u (by omega) rfl
  have hq := hcs 0 _ rfl
  simp only [Nat.mul_one, Nat.add_zero] at ho hq
  refine ⟨g, ca, e, hg, ⟨_, hq⟩, hfz _, c.vs.set j u, List.length_set, ?_⟩
  refine ⟨h.nl.in_v hx hc kc ho, by rw [List.length_set]; exact h.n, h.tg, h.step kc (fun q hq => .inl (by rw [hx1.tv q hq]; rfl)), set_bd h.bd (List.getElem?_eq_some_iff.1 hc).1 ?_⟩
  have := (h.bd i c hc).2 rfl
  exact ⟨by show (c.vs.set j _).length ≤ _; rw [List.length_set]; exact this.1, this.2.1, this.2.2⟩
theorem Spz.sts (h : Spz t0 w0 base v n i M m W t xs cs) {x : Rw} {c : Cn} (hx : xs[i]? = some x) (hc : cs[i]? = some c) {j : Nat} (hj : j < c.ss.length) (u : Int) :
    ∃ g ca, x.s = .slice (some ⟨g, 0, none⟩) c.ss.length ca ∧ g < W.heap.size ∧ (∃ u0, W.cell? ⟨g, j * 4 + 2, none⟩ = some u0) ∧ W.frozen? ⟨g, j * 4 + 2, none⟩ = false ∧ ∃ us : List Wt, us.length = c.ss.length ∧ Spz t0 w0 base v n i M m (W.setCell ⟨g, j * 4 + 2, none⟩ (.int .i64 u)) t xs (cs.set i ⟨c.cap, c.vs, us, c.rs, c.cl⟩) := by
  have hx1 := h.nl.f i x c hx hc
  obtain ⟨a, ha⟩ : ∃ a, c.ss[j]? = some a := ⟨_, List.getElem?_eq_getElem hj⟩
  obtain ⟨g, ca, e, -, hg, -, hcs, hfz, hst⟩ := hx1.s.get eW_len ha
  have hb : Blk x.s g := by rw [e]; rfl
  have kc : Ch (Blk x.s) W (W.setCell ⟨g, j * 4 + 2, none⟩ (.int .i64 u)) := (Ch.refl (Blk x.s) W).setCell (p := ⟨g, j * 4 + 2, none⟩) (.inl hb) _
  have ho := hst 2 (.int .i64 u) ⟨a.s, a.g, u, a.v⟩ (by omega) rfl
  have hq := hcs 2 _ rfl
  skip
  refine ⟨g, ca, e, hg, ⟨_, hq⟩, hfz _, c.ss.set j ⟨a.s, a.g, u, a.v⟩, List.length_set, ?_⟩
  refine ⟨h.nl.in_s hx hc kc ho, by rw [List.length_set]; exact h.n, h.tg, h.step kc (fun q hq => .inl (by rw [hx1.ts q hq]; rfl)), set_bd h.bd (List.getElem?_eq_some_iff.1 hc).1 ?_⟩
  have := (h.bd i c hc).2 rfl
  exact ⟨this.1, by show (c.ss.set j _).length ≤ _; rw [List.length_set]; exact this.2.1, this.2.2⟩
theorem Spz.str (h : Spz t0 w0 base v n i M m W t xs cs) {x : Rw} {c : Cn} (hx : xs[i]? = some x) (hc : cs[i]? = some c) {j : Nat} (hj : j < c.rs.length) (u : Int) :
    ∃ g ca, x.r = .slice (some ⟨g, 0, none⟩) c.rs.length ca ∧ g < W.heap.size ∧ (∃ u0, W.cell? ⟨g, j * 4 + 2, none⟩ = some u0) ∧ W.frozen? ⟨g, j * 4 + 2, none⟩ = false ∧ ∃ us : List Wt, us.length = c.rs.length ∧ Spz t0 w0 base v n i M m (W.setCell ⟨g, j * 4 + 2, none⟩ (.int .i64 u)) t xs (cs.set i ⟨c.cap, c.vs, c.ss, us, c.cl⟩) := by
  have hx1 := h.nl.f i x c hx hc
  obtain ⟨a, ha⟩ : ∃ a, c.rs[j]? = some a := ⟨_, List.getElem?_eq_getElem hj⟩
  obtain ⟨g, ca, e, -, hg, -, hcs, hfz, hst⟩ := hx1.r.get eW_len ha
  have hb : Blk x.r g := by rw [e]; rfl
  have kc : Ch (Blk x.r) W (W.setCell ⟨g, j * 4 + 2, none⟩ (.int .i64 u)) := (Ch.refl (Blk x.r) W).setCell (p := ⟨g, j * 4 + 2, none⟩) (.inl hb) _
  have ho := hst 2 (.int .i64 u) ⟨a.s, a.g, u, a.v⟩ (by omega) rfl
  have hq := hcs 2 _ rfl
  skip
  refine ⟨g, ca, e, hg, ⟨_, hq⟩, hfz _, c.rs.set j ⟨a.s, a.g, u, a.v⟩, List.length_set, ?_⟩
  refine ⟨h.nl.in_r hx hc kc ho, by rw [List.length_set]; exact h.n, h.tg, h.step kc (fun q hq => .inl (by rw [hx1.tr q hq]; rfl)), set_bd h.bd (List.getElem?_eq_some_iff.1 hc).1 ?_⟩
  have := (h.bd i c hc).2 rfl
  exact ⟨this.1, this.2.1, by show (c.rs.set j _).length ≤ _; rw [List.length_set]; exact this.2.2⟩
theorem Spz.apv (h : Spz t0 w0 base v n i M m W t xs cs) {x : Rw} {c : Cn} (hx : xs[i]? = some x) (hc : cs[i]? = some c) {w1 w9 : World} (g1 : Gr W w1) {a9 : Option Addr} {l9 c9 : Nat} {us : List Int} (hl : us.length = c.vs.length + 1)
    (o9 : Ow eI 1 2 base w9 (.slice a9 l9 c9) us) (k9 : Ch (Blk x.v) w1 w9) (b9 : ∀ q, Blk (.slice a9 l9 c9) q → Blk x.v q ∨ w1.heap.size ≤ q) :
    ∃ gO ca, v = .slice (some ⟨gO, 0, none⟩) n ca ∧ gO < w9.heap.size ∧ w9.cell? ⟨gO, i * 5 + 1, none⟩ = some x.v ∧ w9.frozen? ⟨gO, i * 5 + 1, none⟩ = false ∧ ∃ t', Spz t0 w0 base v n i M (m + 1) (w9.setCell ⟨gO, i * 5 + 1, none⟩ (.slice a9 l9 c9)) t' (xs.set i ⟨x.cap, .slice a9 l9 c9, x.s, x.r, x.cl⟩) (cs.set i ⟨c.cap, us, c.ss, c.rs, c.cl⟩) := by
  have h1 := h.gr g1
  have hx1 := h1.nl.f i x c hx hc
  obtain ⟨gO, ca, t', e, hg, tg, hcell, hfz, e1, -, hnl⟩ := h1.nl.setv hx hc k9 o9 b9
  refine ⟨gO, ca, by rw [e, h1.nl.n, h1.n], Nat.lt_of_lt_of_le hg k9.size, hcell, hfz, t', hnl, by rw [List.length_set]; exact h.n, fun q hq hi => ?_, ?_, set_bd h.bd (List.getElem?_eq_some_iff.1 hc).1 ?_⟩
  · rw [e1 q (Nat.lt_of_lt_of_le hq (Nat.le_trans h.ch.size g1.size))] at hi
    exact h.tg q hq hi
  · have kk : Ch (fun q => Blk x.v q ∨ q = gO) w1 (w9.setCell ⟨gO, i * 5 + 1, none⟩ (.slice a9 l9 c9)) := (k9.mono (T := fun q => Blk x.v q ∨ q = gO) (fun q hq => .inl (.inl hq))).setCell (p := ⟨gO, i * 5 + 1, none⟩) (.inl (.inr rfl)) _
    exact h1.step kk (fun q hq => .inl (by
      rcases hq with hq | hq
      · rw [hx1.tv q hq]; rfl
      · rw [hq, tg]; decide))
  · have := (h.bd i c hc).2 rfl
    exact ⟨by show us.length ≤ _; have := this.1; omega, Nat.le_trans this.2.1 (by omega), Nat.le_trans this.2.2 (by omega)⟩
theorem Spz.aps (h : Spz t0 w0 base v n i M m W t xs cs) {x : Rw} {c : Cn} (hx : xs[i]? = some x) (hc : cs[i]? = some c) {w1 w9 : World} (g1 : Gr W w1) {a9 : Option Addr} {l9 c9 : Nat} {us : List Wt} (hl : us.length = c.ss.length + 1)
    (o9 : Ow eW 4 65 base w9 (.slice a9 l9 c9) us) (k9 : Ch (Blk x.s) w1 w9) (b9 : ∀ q, Blk (.slice a9 l9 c9) q → Blk x.s q ∨ w1.heap.size ≤ q) :
    ∃ gO ca, v = .slice (some ⟨gO, 0, none⟩) n ca ∧ gO < w9.heap.size ∧ w9.cell? ⟨gO, i * 5 + 2, none⟩ = some x.s ∧ w9.frozen? ⟨gO, i * 5 + 2, none⟩ = false ∧ ∃ t', Spz t0 w0 base v n i M (m + 1) (w9.setCell ⟨gO, i * 5 + 2, none⟩ (.slice a9 l9 c9)) t' (xs.set i ⟨x.cap, x.v, .slice a9 l9 c9, x.r, x.cl⟩) (cs.set i ⟨c.cap, c.vs, us, c.rs, c.cl⟩) := by
  have h1 := h.gr g1
  have hx1 := h1.nl.f i x c hx hc
  obtain ⟨gO, ca, t', e, hg, tg, hcell, hfz, e1, -, hnl⟩ := h1.nl.sets hx hc k9 o9 b9
  refine ⟨gO, ca, by rw [e, h1.nl.n, h1.n], Nat.lt_of_lt_of_le hg k9.size, hcell, hfz, t', hnl, by rw [List.length_set]; exact h.n, fun q hq hi => ?_, ?_, set_bd h.bd (List.getElem?_eq_some_iff.1 hc).1 ?_⟩
  · rw [e1 q (Nat.lt_of_lt_of_le hq (Nat.le_trans h.ch.size g1.size))] at hi
    exact h.tg q hq hi
  · have kk : Ch (fun q => Blk x.s q ∨ q = gO) w1 (w9.setCell ⟨gO, i * 5 + 2, none⟩ (.slice a9 l9 c9)) := (k9.mono (T := fun q => Blk x.s q ∨ q = gO) (fun q hq => .inl (.inl hq))).setCell (p := ⟨gO, i * 5 + 2, none⟩) (.inl (.inr rfl)) _
    exact h1.step kk (fun q hq => .inl (by
      rcases hq with hq | hq
      · rw [hx1.ts q hq]; rfl
      · rw [hq, tg]; decide))
  · have := (h.bd i c hc).2 rfl
    exact ⟨Nat.le_trans this.1 (by omega), by show us.length ≤ _; have := this.2.1; omega, Nat.le_trans this.2.2 (by omega)⟩
theorem Spz.apr (h : Spz t0 w0 base v n i M m W t xs cs) {x : Rw} {c : Cn} (hx : xs[i]? = some x) (hc : cs[i]? = some c) {w1 w9 : World} (g1 : Gr W w1) {a9 : Option Addr} {l9 c9 : Nat} {us : List Wt} (hl : us.length = c.rs.length + 1)
    (o9 : Ow eW 4 65 base w9 (.slice a9 l9 c9) us) (k9 : Ch (Blk x.r) w1 w9) (b9 : ∀ q, Blk (.slice a9 l9 c9) q → Blk x.r q ∨ w1.heap.size ≤ q) :
    ∃ gO ca, v = .slice (some ⟨gO, 0, none⟩) n ca ∧ gO < w9.heap.size ∧ w9.cell? ⟨gO, i * 5 + 3, none⟩ = some x.r ∧ w9.frozen? ⟨gO, i * 5 + 3, none⟩ = false ∧ ∃ t', Spz t0 w0 base v n i M (m + 1) (w9.setCell ⟨gO, i * 5 + 3, none⟩ (.slice a9 l9 c9)) t' (xs.set i ⟨x.cap, x.v, x.s, .slice a9 l9 c9, x.cl⟩) (cs.set i ⟨c.cap, c.vs, c.ss, us, c.cl⟩) := by
  have h1 := h.gr g1
  have hx1 := h1.nl.f i x c hx hc
  obtain ⟨gO, ca, t', e, hg, tg, hcell, hfz, e1, -, hnl⟩ := h1.nl.setr hx hc k9 o9 b9
  refine ⟨gO, ca, by rw [e, h1.nl.n, h1.n], Nat.lt_of_lt_of_le hg k9.size, hcell, hfz, t', hnl, by rw [List.length_set]; exact h.n, fun q hq hi => ?_, ?_, set_bd h.bd (List.getElem?_eq_some_iff.1 hc).1 ?_⟩
  · rw [e1 q (Nat.lt_of_lt_of_le hq (Nat.le_trans h.ch.size g1.size))] at hi
    exact h.tg q hq hi
  · have kk : Ch (fun q => Blk x.r q ∨ q = gO) w1 (w9.setCell ⟨gO, i * 5 + 3, none⟩ (.slice a9 l9 c9)) := (k9.mono (T := fun q => Blk x.r q ∨ q = gO) (fun q hq => .inl (.inl hq))).setCell (p := ⟨gO, i * 5 + 3, none⟩) (.inl (.inr rfl)) _
    exact h1.step kk (fun q hq => .inl (by
      rcases hq with hq | hq
      · rw [hx1.tr q hq]; rfl
      · rw [hq, tg]; decide))
  · have := (h.bd i c hc).2 rfl
    exact ⟨Nat.le_trans this.1 (by omega), Nat.le_trans this.2.1 (by omega), by show us.length ≤ _; have := this.2.2; omega⟩
end
theorem set_same {α : Type} {l : List α} {i : Nat} {x y : α} (h : l[i]? = some x) : (l.set i y)[i]? = some y := List.getElem?_set_self (List.getElem?_eq_some_iff.1 h).1
set_option maxRecDepth 40000 in
set_option maxHeartbeats 16000000 in
theorem spoil_walk (t0 : Nat → Tg) (w : World) (B n ca gO M : Nat) (xs0 : List Rw) (cs0 : List Cn) (h : NL t0 B w (.slice (some ⟨gO, 0, none⟩) n ca) xs0 cs0) (hb : ∀ c ∈ cs0, bnd c M) (hM : M ≤ 4194304) (hn : n ≤ 1048576) (hB : B ≤ w.heap.size) :
    Calls Try.prog 9 #[.slice (some ⟨gO, 0, none⟩) n ca] w fun e w' => e = .returned (.tuple #[]) ∧ Ch (InT t0) w w' := by
  have hnn : cs0.length = n := by
    obtain ⟨a, c, e⟩ := h.o.form
    injection e with _ e _
    rw [← h.n, e]
  have S0 := hid (show Spz t0 w B (.slice (some ⟨gO, 0, none⟩) n ca) n 0 M 0 w t0 xs0 cs0 from ⟨h, hnn, fun _ _ q => q, Ch.refl _ _, fun j c hc => ⟨fun _ => hb c (List.mem_of_getElem? hc), fun _ => (hb c (List.mem_of_getElem? hc)).up (by omega)⟩⟩)
  have HM := hid hM
  have HBB := hid hB
  clear h hb hnn hM hB
  go_enter Try.func9, Try.ntmps9
  go_wp2_with fail
  go_loopg [2] n (fun q v2 wr => ∃ (i : Nat) (t : Nat → Tg) (xs : List Rw) (cs : List Cn), i + q = n ∧ v2 = .int .i64 (i : Int) ∧ Spz t0 w B (.slice (some ⟨gO, 0, none⟩) n ca) n i M 0 wr t xs cs)
  case atStart => exact ⟨0, t0, xs0, cs0, by omega, rfl, S0.out⟩
  case round =>
    obtain ⟨i, t, xs, cs, hiq, rfl, hsx⟩ := hrel
    have SX := hid hsx
    clear hsx S0
    by_cases hi : i < n
    · have i0 : (0 : Int) ≤ (i : Int) := by omega
      have i1 : (i : Int) < (n : Int) := by omega
      obtain ⟨c, hc⟩ : ∃ c, cs[i]? = some c := ⟨_, List.getElem?_eq_getElem (by rw [SX.out.n]; exact hi)⟩
      obtain ⟨gO', ca', x, ev, -, hx, ho, h5⟩ := SX.out.nl.at hc
      have CI := hid hc
      have HX := hid hx
      obtain ⟨vo, vk, ex⟩ := ho.v.form
      obtain ⟨so, sk, ey⟩ := ho.s.form
      obtain ⟨ro, rk, ez⟩ := ho.r.form
      obtain ⟨vn, evn⟩ : ∃ m, m = c.vs.length := ⟨_, rfl⟩
      obtain ⟨sn, esn⟩ : ∃ m, m = c.ss.length := ⟨_, rfl⟩
      obtain ⟨rn, ern⟩ : ∃ m, m = c.rs.length := ⟨_, rfl⟩
      rw [← evn] at ex
      rw [← esn] at ey
      rw [← ern] at ez
      have Ev := hid ex
      have Es := hid ey
      have Er := hid ez
      have VN := hid evn.symm
      have SN := hid esn.symm
      have RN := hid ern.symm
      have hbd := (SX.out.bd i c hc).2 rfl
      have HBv := hid (show vn ≤ 4194304 from by have := hbd.1; have := HM.out; omega)
      have HBs := hid (show sn ≤ 4194304 from by have := hbd.2.1; have := HM.out; omega)
      have HBr := hid (show rn ≤ 4194304 from by have := hbd.2.2; have := HM.out; omega)
      clear hbd ev h5 ho hc hx ex ey ez evn esn ern
      go_wp2_with fail
      go_loopg [3] vn (fun q vk wq => ∃ (kk : Nat) (cs : List Cn) (c : Cn), kk + q = vn ∧ vk = .int .i64 (kk : Int) ∧ cs[i]? = some c ∧ c.vs.length = vn ∧ c.ss.length = sn ∧ c.rs.length = rn ∧ Spz t0 w B (.slice (some ⟨gO, 0, none⟩) n ca) n i M 0 wq t xs cs)
      case atStart => exact ⟨0, cs, c, by omega, rfl, CI.out, VN.out, SN.out, RN.out, SX.out⟩
      case round =>
        obtain ⟨kk, cs, c, hkq, rfl, hci, hvn, hsn, hrn, hsx⟩ := hrel
        have CI := hid hci
        have SX := hid hsx
        have VN := hid hvn
        have SN := hid hsn
        have RN := hid hrn
        clear hci hsx hvn hsn hrn
        obtain ⟨gO', ca', x', ev, -, hx', ho, h5⟩ := SX.out.nl.at CI.out
        injection ev with ev ev2 ev3
        injection ev with ev
        injection ev with ev ev4 ev5
        subst ev
        clear ev2 ev3
        rw [HX.out] at hx'
        injection hx' with hx'
        subst hx'
        have q1 := h5.c1
        have l1 := h5.lt
        rw [Ev.out] at q1
        clear ho h5
        by_cases hk : kk < vn
        · obtain ⟨g, cz, eg, hg, ⟨u0, hu0⟩, hf0, us, hus, hsx'⟩ := SX.out.stv HX.out CI.out (j := kk) (by rw [VN.out]; exact hk) (-77)
          rw [Ev.out] at eg
          injection eg with eg eg2 eg3
          subst eg
          clear eg2 eg3
          have SX' := hid hsx'
          have HUS := hid hus
          have k0 : (0 : Int) ≤ (kk : Int) := by omega
          have k1 : (kk : Int) < (vn : Int) := by omega
          have HKW := hid (show wrap64 ((kk : Int) + 1) = ((kk + 1 : Nat) : Int) from by have := HBv.out; unfold wrap64; omega)
          clear hsx' hus
          go_wp2_with fail
          go_roundg (gk - 1)
          case measure => omega
          case rel =>
            refine ⟨kk + 1, cs.set i ⟨c.cap, us, c.ss, c.rs, c.cl⟩, ⟨c.cap, us, c.ss, c.rs, c.cl⟩, by omega, ?_, set_same CI.out, HUS.out.trans VN.out, SN.out, RN.out, SX'.out⟩
            first | exact congrArg _ HKW.out | simp
        · have kn : ¬ (kk : Int) < (vn : Int) := by omega
          go_wp2_with fail
          clear q1 l1 kn hk hkq
          go_loopg [4] sn (fun q vk wq => ∃ (kk : Nat) (cs : List Cn) (c : Cn), kk + q = sn ∧ vk = .int .i64 (kk : Int) ∧ cs[i]? = some c ∧ c.vs.length = vn ∧ c.ss.length = sn ∧ c.rs.length = rn ∧ Spz t0 w B (.slice (some ⟨gO, 0, none⟩) n ca) n i M 0 wq t xs cs)
          case atStart => exact ⟨0, cs, c, by omega, rfl, CI.out, VN.out, SN.out, RN.out, SX.out⟩
          case round =>
            obtain ⟨kk, cs, c, hkq, rfl, hci, hvn, hsn, hrn, hsx⟩ := hrel
            have CI := hid hci
            have SX := hid hsx
            have VN := hid hvn
            have SN := hid hsn
            have RN := hid hrn
            clear hci hsx hvn hsn hrn
            obtain ⟨gO', ca', x', ev, -, hx', ho, h5⟩ := SX.out.nl.at CI.out
            injection ev with ev ev2 ev3
            injection ev with ev
            injection ev with ev ev4 ev5
            subst ev
            clear ev2 ev3
            rw [HX.out] at hx'
            injection hx' with hx'
            subst hx'
            have q1 := h5.c2
            have l1 := h5.lt
            rw [Es.out] at q1
            clear ho h5
            by_cases hk : kk < sn
            · obtain ⟨g, cz, eg, hg, ⟨u0, hu0⟩, hf0, us, hus, hsx'⟩ := SX.out.sts HX.out CI.out (j := kk) (by rw [SN.out]; exact hk) (-77)
              rw [Es.out] at eg
              injection eg with eg eg2 eg3
              subst eg
              clear eg2 eg3
              have SX' := hid hsx'
              have HUS := hid hus
              have k0 : (0 : Int) ≤ (kk : Int) := by omega
              have k1 : (kk : Int) < (sn : Int) := by omega
              have HKW := hid (show wrap64 ((kk : Int) + 1) = ((kk + 1 : Nat) : Int) from by have := HBs.out; unfold wrap64; omega)
              clear hsx' hus
              go_wp2_with fail
              go_roundg (gk - 1)
              case measure => omega
              case rel =>
                refine ⟨kk + 1, cs.set i ⟨c.cap, c.vs, us, c.rs, c.cl⟩, ⟨c.cap, c.vs, us, c.rs, c.cl⟩, by omega, ?_, set_same CI.out, VN.out, HUS.out.trans SN.out, RN.out, SX'.out⟩
                first | exact congrArg _ HKW.out | simp
            · have kn : ¬ (kk : Int) < (sn : Int) := by omega
              go_wp2_with fail
              clear q1 l1 kn hk hkq
              go_loopg [5] rn (fun q vk wq => ∃ (kk : Nat) (cs : List Cn) (c : Cn), kk + q = rn ∧ vk = .int .i64 (kk : Int) ∧ cs[i]? = some c ∧ c.vs.length = vn ∧ c.ss.length = sn ∧ c.rs.length = rn ∧ Spz t0 w B (.slice (some ⟨gO, 0, none⟩) n ca) n i M 0 wq t xs cs)
              case atStart => exact ⟨0, cs, c, by omega, rfl, CI.out, VN.out, SN.out, RN.out, SX.out⟩
              case round =>
                obtain ⟨kk, cs, c, hkq, rfl, hci, hvn, hsn, hrn, hsx⟩ := hrel
                have CI := hid hci
                have SX := hid hsx
                have VN := hid hvn
                have SN := hid hsn
                have RN := hid hrn
                clear hci hsx hvn hsn hrn
                obtain ⟨gO', ca', x', ev, -, hx', ho, h5⟩ := SX.out.nl.at CI.out
                injection ev with ev ev2 ev3
                injection ev with ev
                injection ev with ev ev4 ev5
                subst ev
                clear ev2 ev3
                rw [HX.out] at hx'
                injection hx' with hx'
                subst hx'
                have q1 := h5.c3
                have l1 := h5.lt
                rw [Er.out] at q1
                clear ho h5
                by_cases hk : kk < rn
                · obtain ⟨g, cz, eg, hg, ⟨u0, hu0⟩, hf0, us, hus, hsx'⟩ := SX.out.str HX.out CI.out (j := kk) (by rw [RN.out]; exact hk) (-77)
                  rw [Er.out] at eg
                  injection eg with eg eg2 eg3
                  subst eg
                  clear eg2 eg3
                  have SX' := hid hsx'
                  have HUS := hid hus
                  have k0 : (0 : Int) ≤ (kk : Int) := by omega
                  have k1 : (kk : Int) < (rn : Int) := by omega
                  have HKW := hid (show wrap64 ((kk : Int) + 1) = ((kk + 1 : Nat) : Int) from by have := HBr.out; unfold wrap64; omega)
                  clear hsx' hus
                  go_wp2_with fail
                  go_roundg (gk - 1)
                  case measure => omega
                  case rel =>
                    refine ⟨kk + 1, cs.set i ⟨c.cap, c.vs, c.ss, us, c.cl⟩, ⟨c.cap, c.vs, c.ss, us, c.cl⟩, by omega, ?_, set_same CI.out, VN.out, SN.out, HUS.out.trans RN.out, SX'.out⟩
                    first | exact congrArg _ HKW.out | simp
                · have kn : ¬ (kk : Int) < (rn : Int) := by omega
                  go_wp2_with fail
                  clear q1 l1 kn hk hkq
                  clear HBv HBs HBr Ev Es Er VN SN RN
                  have SY := hid (show ∃ (t : Nat → Tg) (xs : List Rw) (cs : List Cn), Spz t0 w B (.slice (some ⟨gO, 0, none⟩) n ca) n i M (3 * 0) wr t xs cs from ⟨t, xs, cs, SX.out⟩)
                  clear SX CI HX
                  go_loopg [6] 8 (fun q v6 wq => ∃ (kk : Nat), kk + q = 8 ∧ v6 = .int .i64 (kk : Int) ∧ ∃ (t : Nat → Tg) (xs : List Rw) (cs : List Cn), Spz t0 w B (.slice (some ⟨gO, 0, none⟩) n ca) n i M (3 * kk) wq t xs cs)
                  case atStart => exact ⟨0, by omega, rfl, SY.out⟩
                  case round =>
                    obtain ⟨kk, hkq, rfl, t, xs, cs, hsx⟩ := hrel
                    clear SY
                    by_cases hk : kk < 8
                    · have k1 : (kk : Int) < 8 := by omega
                      have SX0 := hid hsx
                      clear hsx
                      obtain ⟨c1, hc⟩ : ∃ c, cs[i]? = some c := ⟨_, List.getElem?_eq_getElem (by rw [SX0.out.n]; exact hi)⟩
                      obtain ⟨gO1, ca1, x1, ev, -, hx, ho, h5⟩ := SX0.out.nl.at hc
                      injection ev with ev ev2 ev3
                      injection ev with ev
                      injection ev with ev ev4 ev5
                      subst ev
                      clear ev2 ev3
                      have CI1 := hid hc
                      have HX1 := hid hx
                      have OW1 := hid ho.v
                      have q1 := h5.c1
                      have l1 := h5.lt
                      have LB1 := hid (show c1.vs.length ≤ 4194328 from by have h1 := ((SX0.out.bd i c1 hc).2 rfl).1; have := HM.out; omega)
                      have BS1 := hid (show B ≤ wr.heap.size from Nat.le_trans HBB.out SX0.out.ch.size)
                      have GA1 := hid (show Gr wr (wr.alloc (.cells #[.int .i64 (-78)] 2)) from Ch.alloc (Gr.refl _) _)
                      clear ho h5 hc hx
                      go_upto_region 19 with (at_builtin; refine wpList_append_ow eI_len rfl (.tmp 76) (.tmp 77) _ 2 8 _ Try.underlying42 i64_info rfl (by omega) rfl B _ c1.vs rfl (OW1.out.alloc _) _ _ [(-78)] rfl (Ls.single wr (-78) 2 #[.int .i64 (-78)] rfl) (eI_one _) (c1.vs.length + 1) rfl (by have := LB1.out; omega) (by unfold maxLen; have := LB1.out; omega) (by simp; have := BS1.out; omega) (c1.vs ++ [(-78)]) rfl ?_; intro a9 c9 w9 ow9 cw9 bl9; obtain ⟨gz, cz, ez, lz, pz, fz, tz, sz⟩ := SX0.out.apv HX1.out CI1.out GA1.out (by rw [List.length_append]; rfl) ow9 cw9 bl9; injection ez with ez ez2 ez3; clear ez2 ez3; injection ez with ez; injection ez with ez ez4 ez5; subst ez; have SZ1 := hid sz; clear ow9 cw9 bl9 sz)
                      clear q1 l1 pz fz lz
                      have SX2 := SZ1
                      clear SZ1 SX0
                      generalize hW2 : w9.setCell ⟨gO, i * 5 + 1, none⟩ (.slice a9 (c1.vs.length + 1) c9) = W2 at SX2 ⊢
                      clear hW2
                      generalize (cs.set i ⟨c1.cap, c1.vs ++ [(-78 : Int)], c1.ss, c1.rs, c1.cl⟩) = cs2 at SX2
                      generalize (xs.set i ⟨x1.cap, .slice a9 (c1.vs.length + 1) c9, x1.s, x1.r, x1.cl⟩) = xs2 at SX2
                      obtain ⟨c3, hc⟩ : ∃ c, cs2[i]? = some c := ⟨_, List.getElem?_eq_getElem (by rw [SX2.out.n]; exact hi)⟩
                      obtain ⟨gO3, ca3, x3, ev, -, hx, ho, h5⟩ := SX2.out.nl.at hc
                      injection ev with ev ev2 ev3
                      injection ev with ev
                      injection ev with ev ev4 ev5
                      subst ev
                      clear ev2 ev3
                      have CI3 := hid hc
                      have HX3 := hid hx
                      have OW3 := hid ho.s
                      have q1 := h5.c2
                      have l1 := h5.lt
                      have LB3 := hid (show c3.ss.length ≤ 4194328 from by have h1 := ((SX2.out.bd i c3 hc).2 rfl).2.1; have := HM.out; omega)
                      have BS3 := hid (show B ≤ W2.heap.size from Nat.le_trans HBB.out SX2.out.ch.size)
                      have GA3 := hid (show Gr W2 (W2.alloc (.cells #[.int .i64 0, .int .i64 0, .int .i64 (-78), .int .i64 0] 65)) from Ch.alloc (Gr.refl _) _)
                      clear ho h5 hc hx
                      go_upto_region 20 with (at_builtin; refine wpList_append_ow eW_len rfl (.tmp 87) (.tmp 89) _ 65 32 _ Try.underlying43 wtr_info rfl (by omega) rfl B _ c3.ss rfl (OW3.out.alloc _) _ _ [(Wt.mk 0 0 (-78) 0)] rfl (Ls.single W2 (Wt.mk 0 0 (-78) 0) 65 #[.int .i64 0, .int .i64 0, .int .i64 (-78), .int .i64 0] rfl) (eW_one _) (c3.ss.length + 1) rfl (by have := LB3.out; omega) (by unfold maxLen; have := LB3.out; omega) (by simp; have := BS3.out; omega) (c3.ss ++ [(Wt.mk 0 0 (-78) 0)]) rfl ?_; intro a9 c9 w9 ow9 cw9 bl9; obtain ⟨gz, cz, ez, lz, pz, fz, tz, sz⟩ := SX2.out.aps HX3.out CI3.out GA3.out (by rw [List.length_append]; rfl) ow9 cw9 bl9; injection ez with ez ez2 ez3; clear ez2 ez3; injection ez with ez; injection ez with ez ez4 ez5; subst ez; have SZ3 := hid sz; clear ow9 cw9 bl9 sz)
                      clear q1 l1 pz fz lz
                      have SX4 := SZ3
                      clear SZ3 SX2
                      generalize hW4 : w9.setCell ⟨gO, i * 5 + 2, none⟩ (.slice a9 (c3.ss.length + 1) c9) = W4 at SX4 ⊢
                      clear hW4
                      generalize (cs2.set i ⟨c3.cap, c3.vs, c3.ss ++ [(Wt.mk 0 0 (-78) 0)], c3.rs, c3.cl⟩) = cs4 at SX4
                      generalize (xs2.set i ⟨x3.cap, x3.v, .slice a9 (c3.ss.length + 1) c9, x3.r, x3.cl⟩) = xs4 at SX4
                      obtain ⟨c5, hc⟩ : ∃ c, cs4[i]? = some c := ⟨_, List.getElem?_eq_getElem (by rw [SX4.out.n]; exact hi)⟩
                      obtain ⟨gO5, ca5, x5, ev, -, hx, ho, h5⟩ := SX4.out.nl.at hc
                      injection ev with ev ev2 ev3
                      injection ev with ev
                      injection ev with ev ev4 ev5
                      subst ev
                      clear ev2 ev3
                      have CI5 := hid hc
                      have HX5 := hid hx
                      have OW5 := hid ho.r
                      have q1 := h5.c3
                      have l1 := h5.lt
                      have LB5 := hid (show c5.rs.length ≤ 4194328 from by have h1 := ((SX4.out.bd i c5 hc).2 rfl).2.2; have := HM.out; omega)
                      have BS5 := hid (show B ≤ W4.heap.size from Nat.le_trans HBB.out SX4.out.ch.size)
                      have GA5 := hid (show Gr W4 (W4.alloc (.cells #[.int .i64 0, .int .i64 0, .int .i64 (-78), .int .i64 0] 65)) from Ch.alloc (Gr.refl _) _)
                      clear ho h5 hc hx
                      go_wp2_with (at_builtin; refine wpList_append_ow eW_len rfl (.tmp 99) (.tmp 101) _ 65 32 _ Try.underlying43 wtr_info rfl (by omega) rfl B _ c5.rs rfl (OW5.out.alloc _) _ _ [(Wt.mk 0 0 (-78) 0)] rfl (Ls.single W4 (Wt.mk 0 0 (-78) 0) 65 #[.int .i64 0, .int .i64 0, .int .i64 (-78), .int .i64 0] rfl) (eW_one _) (c5.rs.length + 1) rfl (by have := LB5.out; omega) (by unfold maxLen; have := LB5.out; omega) (by simp; have := BS5.out; omega) (c5.rs ++ [(Wt.mk 0 0 (-78) 0)]) rfl ?_; intro a9 c9 w9 ow9 cw9 bl9; obtain ⟨gz, cz, ez, lz, pz, fz, tz, sz⟩ := SX4.out.apr HX5.out CI5.out GA5.out (by rw [List.length_append]; rfl) ow9 cw9 bl9; injection ez with ez ez2 ez3; clear ez2 ez3; injection ez with ez; injection ez with ez ez4 ez5; subst ez; have SZ5 := hid sz; clear ow9 cw9 bl9 sz)
                      clear q1 l1 pz fz lz
                      go_roundg (gk - 1)
                      case measure => omega
                      case rel =>
                        refine ⟨kk + 1, by omega, ?_, _, _, _, show Spz t0 w B _ n i M (3 * (kk + 1)) _ _ _ _ from SZ5.out⟩
                        first | with_reducible rfl | simp
                    · have kn : ¬ (kk : Int) < 8 := by omega
                      have SX0 := hid (show Spz t0 w B (.slice (some ⟨gO, 0, none⟩) n ca) n (i + 1) M 0 wr t xs cs from ⟨hsx.nl, hsx.n, hsx.tg, hsx.ch, fun j c hc => ⟨fun q => (hsx.bd j c hc).1 (by omega), fun q => ((hsx.bd j c hc).1 (by omega)).up (by omega)⟩⟩)
                      have HIW := hid (show wrap64 ((i : Int) + 1) = ((i + 1 : Nat) : Int) from by unfold wrap64; omega)
                      clear hsx
                      go_wp2_with fail
                      go_roundg (n - (i + 1))
                      case measure => omega
                      case rel =>
                        refine ⟨i + 1, t, xs, cs, by omega, ?_, SX0.out⟩
                        first | exact congrArg _ HIW.out | simp
    · have jn : ¬ (i : Int) < (n : Int) := by omega
      go_wp2
      go_end0
      exact ⟨rfl, SX.out.ch⟩
set_option maxRecDepth 40000 in
set_option maxHeartbeats 4000000 in
theorem spoil_zero (w : World) (ao : Option Addr) (ca : Nat) : Calls Try.prog 9 #[.slice ao 0 ca] w fun e w' => e = .returned (.tuple #[]) ∧ w' = w := by
  go_enter Try.func9, Try.ntmps9
  go_wp2_with fail
  go_loopg [2] 0 (fun q v2 wr => q = 0 ∧ v2 = .int .i64 0 ∧ wr = w)
  case atStart => exact ⟨rfl, rfl, rfl⟩
  case round =>
    obtain ⟨_, rfl, hw⟩ := hrel
    have HW := hid hw
    clear hw
    go_wp2
    go_end0
    exact ⟨rfl, HW.out⟩
theorem spoil_any {t0 : Nat → Tg} {w : World} {B M : Nat} {v : Value} {xs0 : List Rw} {cs0 : List Cn} (h : NL t0 B w v xs0 cs0) (hb : ∀ c ∈ cs0, bnd c M) (hM : M ≤ 4194304) (hn : cs0.length ≤ 1048576) (hB : B ≤ w.heap.size) :
    Calls Try.prog 9 #[v] w fun e w' => e = .returned (.tuple #[]) ∧ Ch (InT t0) w w' := by
  obtain ⟨ao, ca, e⟩ := h.o.form
  rw [h.n] at e
  subst e
  cases hc : cs0 with
  | nil =>
    refine (spoil_zero w ao ca).mono (fun e w' q => ⟨q.1, ?_⟩)
    rw [q.2]
    exact Ch.refl _ _
  | cons d r =>
    have h0 : cs0[0]? = some d := by rw [hc]; rfl
    obtain ⟨gO, ca', x, ev, -, -, -, -⟩ := h.at h0
    injection ev with ev _ _
    subst ev
    rw [← hc]
    exact spoil_walk t0 w B cs0.length ca gO M xs0 cs0 h hb hM hn hB
/-- the channels' blocks alone, of those that are new since a world -/
theorem NL.cut {t : Nat → Tg} {B : Nat} {w : World} {v : Value} {xs : List Rw} {cs : List Cn} (h : NL t B w v xs cs) : ∃ t', NL t' B w v xs cs ∧ ∀ q, InT t' q → B ≤ q ∧ q < w.heap.size := by
  refine ⟨fun q => if B ≤ q ∧ q < w.heap.size then t q else .no, h.retag (fun q hq => if_pos ?_), fun q hq => ?_⟩
  · rcases hq with hq | ⟨i, x, hx, hq⟩
    · exact h.o.blk hq
    · obtain ⟨c, hc⟩ : ∃ c, cs[i]? = some c := ⟨_, List.getElem?_eq_getElem (by rw [← h.n]; exact (List.getElem?_eq_some_iff.1 hx).1)⟩
      have y := h.f i x c hx hc
      rcases hq with hq | hq | hq
      · exact y.v.blk hq
      · exact y.s.blk hq
      · exact y.r.blk hq
  · unfold InT at hq
    by_cases e : B ≤ q ∧ q < w.heap.size
    · exact e
    · have hq' : (if B ≤ q ∧ q < w.heap.size then t q else Tg.no).in_ := hq
      rw [if_neg e] at hq'
      exact absurd hq' (by decide)
theorem gd_bnd {N M : Nat} {cs : List Cn} (h : Gd N cs) (hN : N ≤ M) (h1 : 1024 ≤ M) : ∀ c ∈ cs, bnd c M := fun c hc => by
  have e1 := h.wl_le hc
  have e2 := h.v c hc
  have e3 := (h.cap c hc).2
  exact ⟨by omega, by omega, by omega⟩
end Go.Proofs.Ytpkbgfneebjnjab.Lt

namespace Go.Proofs.Ytpkbgfneebjnjab.Lt
open Go.RowKit Wd
attribute [local go_sem ↓] Go.wp_at_zero Go.wp_at_succ

set_option maxRecDepth 20000 in
set_option maxHeartbeats 8000000 in
theorem own_walk (P Q : Nat → Prop) (w : World) (lo ao : Option Addr) (n cap m ca : Nat) (cs : List Cn) (acts : List Ac) (h : Rds P w (.slice lo n cap) cs) (hb : Bd cs) (ht : tot cs ≤ 1048576) (hg : ∀ c ∈ cs, ∀ x, x ∈ c.ss ∨ x ∈ c.rs → Gok x.s x.g) (ha : Ls eA Q w (.slice ao m ca) acts) (hk : ∀ a ∈ acts, Gok a.s a.g) (hm : m ≤ 1048576) :
    Calls Try.prog 3 #[.slice lo n cap, .slice ao m ca] w fun e w' => e = .returned (.bool true) ∧ Gr w w' := by
  have HCY := hid (copy_any P w _ cs h hb)
  have HLD := hid (fun (W : World) (P' : Nat → Prop) (v : Value) (r : Rds P' W v cs) => load_any r hb (by omega) hg)
  have HRL := hid (fun (W : World) (p : Gr w W) => rload_any (h.gr p) hb)
  have HSM := hid (fun (W : World) (p : Gr w W) (P' : Nat → Prop) (v : Value) (r : Rds P' W v cs) => rsame_any P' P W v _ cs r (h.gr p) hb)
  have HLV := hid lives_any
  have HLS := hid ha
  have HLL := hid ha.len.1
  have HK := hid hk
  have HGO := hid hg
  have HTO := hid ht
  clear h hb ht hg ha hk
  cases hz : ldB cs with
  | false =>
    have HZ := hid hz
    clear hz
    go_enter Try.func3, Try.ntmps3
    go_wp2_with (first
      | (go_at_call 4; refine HCY.out.mono ?_; rintro e w1 ⟨v5, t5, x5, rfl, n1, g1⟩; have R1 := hid (show Rds (w.heap.size ≤ ·) w1 v5 cs from n1.rds); have G1 := hid g1; clear n1 g1)
      | (go_at_call 5; refine (HLD.out _ _ _ R1.out).mono ?_; rintro e w2 ⟨-, no2, g2⟩; obtain rfl := no2 HZ.out; have R2 := hid (R1.out.gr g2); have G2 := hid (Gr.trans G1.out g2); clear no2 g2)
      | (go_at_call 6; refine (HRL.out _ G2.out).mono ?_; rintro e w3 ⟨-, no3, g3⟩; obtain rfl := no3 HZ.out; have R3 := hid (R2.out.gr g3); have G3 := hid (Gr.trans G2.out g3); clear no3 g3)
      | (go_at_call 7; refine (HSM.out _ G3.out _ _ R3.out).mono ?_; rintro e w4 ⟨rfl, g4⟩; have G4 := hid (Gr.trans G3.out g4); clear g4)
      | (go_at_call 8; refine (HLV.out _).mono ?_; rintro e w5 ⟨rfl, g5⟩; have G5 := hid (Gr.trans G4.out g5); clear g5))
    go_ret
    exact ⟨rfl, G5.out⟩
  | true =>
    have HZ := hid hz
    clear hz
    have HG0 := hid (ldB_gd HZ.out HTO.out HGO.out)
    go_enter Try.func3, Try.ntmps3
    go_upto_region 8 with (first
      | (go_at_call 4; refine HCY.out.mono ?_; rintro e w1 ⟨v5, t5, x5, rfl, n1, g1⟩; obtain ⟨t5', n1', i5⟩ := n1.cut; have N1 := hid n1'; have I5 := hid i5; have G1 := hid g1; clear n1 n1' i5 g1)
      | (go_at_call 5; refine (HLD.out _ _ _ N1.out.rds).mono ?_; rintro e w2 ⟨yes2, -, g2⟩; obtain ⟨b, tC, rfl, c2, z2⟩ := yes2 HZ.out; have C2 := hid c2; have Z2 := hid z2; have N2 := hid (N1.out.gr g2); have S2 := hid g2.size; have G2 := hid (Gr.trans G1.out g2); clear yes2 g2 c2 z2)
      | (go_at_call 6; refine (HRL.out _ G2.out).mono ?_; rintro e w3 ⟨yes3, -, g3⟩; obtain ⟨v8, rfl, x3⟩ := yes3 HZ.out; have R3 := hid x3.rds; have C3 := hid (C2.out.gr g3); have N3 := hid (N2.out.gr g3); have G3 := hid (Gr.trans G2.out g3); clear yes3 x3 g3)
      | (go_at_call 7; refine (HSM.out _ G3.out _ _ N3.out.rds).mono ?_; rintro e w4 ⟨rfl, g4⟩; have R4 := hid (R3.out.gr g4); have C4 := hid (C3.out.gr g4); have N4 := hid (N3.out.gr g4); have G4 := hid (Gr.trans G3.out g4); clear g4)
      | (go_at_call 8; refine (HLV.out _).mono ?_; rintro e w5 ⟨rfl, g5⟩; have R5 := hid (R4.out.gr g5); have C5 := hid (C4.out.gr g5); have N5 := hid (N4.out.gr g5); have G5 := hid (Gr.trans G4.out g5); clear g5))
    have HSP := hid (spoil_any N5.out (gd_bnd HG0.out (M := 4194304) (by omega) (by omega)) (by omega) (by have := HG0.out.n; omega) G5.out.size)
    have HHI := hid (cs_hi C2.out)
    clear R3 R4 C2 C3 C4 N2 N3 N4 N5 G2 G3 G4 HCY HLD HRL HSM
    go_upto_region 9 with (go_at_call 9; refine HSP.out.mono ?_; rintro e w6 ⟨rfl, k6⟩; have K6 := hid k6; clear k6)
    have C6 := hid (C5.out.ch K6.out (fun q hq => Z2.out q (I5.out q hq).2))
    have R6 := hid (show Rds (fun q => tC q = .no) w6 v8 cs from (R5.out.ch K6.out (fun q _ h1 h2 => by have h3 := (I5.out q h2).2; have := S2.out; omega)).mono (fun q _ hq => HHI.out q hq))
    have G6 := hid (show Gr w w6 from Ch.trans G5.out K6.out (fun q hq => .inr (I5.out q hq).1))
    have Z6 := hid (show ∀ q, q < w.heap.size → tC q = .no from fun q hq => Z2.out q (Nat.lt_of_lt_of_le hq G1.out.size))
    clear C5 R5 G5 K6 Z2 S2 N1 I5 G1 HSP HHI
    go_wp2_with fail
    go_loopg [8, 10, 11] m (fun q v8 v10 v11 wr => ∃ (j : Nat) (t : Nat → Tg), j + q = m ∧ v11 = .int .i64 (j : Int) ∧ v10 = .bool true ∧ Cs t wr b (runR cs (acts.take j)) ∧ Rds (fun q => t q = .no) wr v8 (runR cs (acts.take j)) ∧ (∀ q, q < w.heap.size → t q = .no) ∧ Gr w wr)
    case atStart => exact ⟨0, tC, by omega, rfl, rfl, C6.out, R6.out, Z6.out, G6.out⟩
    case round =>
      obtain ⟨j, t, hjq, rfl, rfl, hC, hR, hZ, hG⟩ := hrel
      have CJ := hid hC
      have RJ := hid hR
      have ZJ := hid hZ
      have GJ := hid hG
      clear hC hR hZ hG C6 R6 G6 Z6
      have HGD := hid (show Gd (1048576 + j) (runR cs (acts.take j)) from by
        have := gr_run HG0.out (acts.take j) (fun a ha => HK.out a (List.mem_of_mem_take ha))
        rw [List.length_take] at this
        exact this.up (by omega))
      by_cases hj : j < m
      · obtain ⟨⟨k, ch, s, g, v, c, sd⟩, hx⟩ : ∃ x, acts[j]? = some x := ⟨_, List.getElem?_eq_getElem (by rw [← HLL.out]; exact hj)⟩
        obtain ⟨gg, oo, cap', hv, _, hgl, _, hcs⟩ := (HLS.out.gr GJ.out).get eA_len hx
        injection hv with hv1 hv2 hv3
        subst hv1
        clear hv2 hv3
        have c0 := hcs 0 _ rfl
        have c1 := hcs 1 _ rfl
        have c2 := hcs 2 _ rfl
        have c3 := hcs 3 _ rfl
        have c4 := hcs 4 _ rfl
        have c5 := hcs 5 _ rfl
        have c6 := hcs 6 _ rfl
        simp only [Nat.add_zero] at c0
        have j0 : (0 : Int) ≤ (j : Int) := by omega
        have j1 : (j : Int) < (m : Int) := by omega
        have HD := hid (does_any CJ.out RJ.out (fun q hq => hq) HGD.out (by omega) ⟨k, ch, s, g, v, c, sd⟩ (HK.out _ (List.mem_of_getElem? hx)))
        dsimp only [Ac.row] at HD
        rw [← runR_snoc, ← take_one hx] at HD
        clear hcs hx hgl
        go_wp2_with (go_at_call 10; refine HD.out.mono ?_; rintro e w3 ⟨l3, rfl, t3, c3', r3, n3⟩; have C3 := hid c3'; have R3 := hid (r3.mono (Q := fun q => t3 q = .no) (fun q _ hq => hq.2)); obtain ⟨g3, z3⟩ := Tn.base ZJ.out GJ.out n3; have G3 := hid g3; have Z3 := hid z3; clear c3' r3 n3 g3 z3)
        go_roundg (gk - 1)
        case measure => omega
        case rel =>
          refine ⟨j + 1, t3, by omega, ?_, rfl, C3.out, R3.out, Z3.out, G3.out⟩
          first | with_reducible rfl | simp
      · have jn : ¬ (j : Int) < (m : Int) := by omega
        generalize runR cs (acts.take j) = ds at CJ RJ HGD
        have HNO := hid (cs_hi CJ.out)
        have HBD := hid (HGD.out.bd (by omega))
        have RL := hid (RJ.out.mono (Q := fun q => q < wr.heap.size) (fun q h1 _ => h1))
        have HST := hid (fun (W : World) (c : Cs t W b ds) => state_any c HGD.out.n HBD.out)
        have HSM := hid (fun (W : World) (P1 P2 : Nat → Prop) (va vb : Value) (r1 : Rds P1 W va ds) (r2 : Rds P2 W vb ds) => rsame_any P1 P2 W va vb ds r1 r2 HBD.out)
        go_upto_region 17 with (first
          | (go_at_call 11; refine (HST.out _ C7.out).mono ?_; rintro e w8 ⟨vy, rfl, n8, g8⟩; have Y8 := hid n8.rds; have N8 := hid (N7.out.gr g8); have G8 := hid (Gr.trans G7.out g8); have C8 := hid (C7.out.gr g8); clear n8 g8)
          | (go_at_call 11; refine (HST.out _ CJ.out).mono ?_; rintro e w7 ⟨vx, rfl, ⟨tx, xx, n7⟩, g7⟩; obtain ⟨tx', n7', ix⟩ := n7.cut; have N7 := hid n7'; have IX := hid ix; have G7 := hid g7; have C7 := hid (CJ.out.gr g7); clear n7 n7' ix g7))
        have S87 := hid G7.out.size
        clear C7 G7 N7 jn
        go_upto_region 19 with (first
          | (go_at_call 7; refine (HSM.out _ _ _ _ _ Y9.out (RL.out.gr G9.out)).mono ?_; rintro e w10 ⟨rfl, g10⟩; have Y10 := hid (Y9.out.gr g10); have N10 := hid (N9.out.gr g10); have G10 := hid (Gr.trans G9.out g10); have C10 := hid (C9.out.gr g10); clear g10)
          | (go_at_call 7; refine (HSM.out _ _ _ _ _ N8.out.rds (RL.out.gr G8.out)).mono ?_; rintro e w9 ⟨rfl, g9⟩; have Y9 := hid (Y8.out.gr g9); have N9 := hid (N8.out.gr g9); have G9 := hid (Gr.trans G8.out g9); have C9 := hid (C8.out.gr g9); clear g9))
        have HSP := hid (spoil_any N10.out (gd_bnd HGD.out (M := 4194304) (by omega) (by omega)) (by omega) (by have := HGD.out.n; omega) G10.out.size)
        clear N8 N9 N10 Y8 Y9 C8 C9 G8 G9
        go_upto_region 20 with (go_at_call 9; refine HSP.out.mono ?_; rintro e w11 ⟨rfl, k11⟩; have K11 := hid k11; clear k11)
        have C11 := hid (C10.out.ch K11.out (fun q hq => HNO.out q (IX.out q hq).1))
        have Y11 := hid (Y10.out.ch K11.out (fun q _ h1 h2 => by have h3 := (IX.out q h2).2; omega))
        have M11 := hid ((RL.out.gr G10.out).ch K11.out (fun q _ h1 h2 => by have h3 := (IX.out q h2).1; omega))
        have G11 := hid (show Gr w w11 from Ch.trans (show Ch NoB w _ from Gr.trans GJ.out G10.out) K11.out (fun q hq => .inr (Nat.le_trans GJ.out.size (IX.out q hq).1)))
        clear C10 Y10 G10 K11 RL RJ CJ HSP
        go_wp2_with (first
          | (go_at_call 7; refine (HSM.out _ _ _ _ _ S13.out (M12.out.gr g13'.out)).mono ?_; rintro e w14 ⟨rfl, g14⟩; have G14 := hid (Gr.trans G13.out g14); clear g14)
          | (go_at_call 11; refine (HST.out _ C12.out).mono ?_; rintro e w13 ⟨vz, rfl, n13, g13⟩; have S13 := hid n13.rds; have g13' := hid g13; have G13 := hid (Gr.trans G12.out g13); clear n13 g13)
          | (go_at_call 7; refine (HSM.out _ _ _ _ _ Y11.out M11.out).mono ?_; rintro e w12 ⟨rfl, g12⟩; have M12 := hid (M11.out.gr g12); have C12 := hid (C11.out.gr g12); have G12 := hid (Gr.trans G11.out g12); clear g12))
        go_ret
        exact ⟨rfl, G14.out⟩
theorem ownch_any (P : Nat → Prop) (v0 : Value) (cs : List Cn) (Q : Nat → Prop) (v1 : Value) (acts : List Ac) (w : World) (h : Rds P w v0 cs) (hb : Bd cs) (ht : tot cs ≤ 1048576) (hg : ∀ c ∈ cs, ∀ x, x ∈ c.ss ∨ x ∈ c.rs → Gok x.s x.g) (ha : Ls eA Q w v1 acts) (hm : acts.length ≤ 1048576) (hk : ∀ a ∈ acts, Gok a.s a.g) :
    Calls Try.prog 3 #[v0, v1] w fun e w' => e = .returned (.bool true) ∧ Gr w w' := by
  obtain ⟨lo, cap, rfl⟩ := h.form
  obtain ⟨ao, ca, rfl⟩ := ha.form
  exact own_walk P Q w lo ao _ cap _ ca cs acts h hb ht hg ha hk hm
end Go.Proofs.Ytpkbgfneebjnjab.Lt

namespace Go.Proofs.Ytpkbgfneebjnjab.Lt
open Go.ChangeShapes Go.WideShapes Go.ChangeAt Go.RowKit Go.Deep Go.Joins Wd
set_option maxRecDepth 100000

theorem cellsWtr : Try.prog.cellsOf 65 = 4 := by kernel_rfl
theorem cellsChn : Try.prog.cellsOf 45 = 5 := by kernel_rfl
theorem cellsLJ : Try.prog.cellsOf 42 = 1 := by kernel_rfl
theorem cellsLW : Try.prog.cellsOf 43 = 1 := by kernel_rfl
/-- channels, one for each row -/
theorem pick_cs {H : Type} {K : Rw → Cn → Prop} : ∀ (xs : List Rw) (el : List (DataW H)), el.length = xs.length → (∀ (i : Nat) (x : Rw), xs[i]? = some x → ∃ d, el[i]? = some d ∧ ∃ c : Cn, K x c ∧ c.vs.length ≤ Rows.uptoBulk d ∧ wl c ≤ Rows.uptoBulk d) →
    ∃ cs : List Cn, xs.length = cs.length ∧ (∀ (i : Nat) (x : Rw) (c : Cn), xs[i]? = some x → cs[i]? = some c → K x c) ∧ tot cs ≤ Rows.uptoBulkAll el ∧ ∀ c ∈ cs, c.vs.length ≤ Rows.uptoBulkAll el := by
  intro xs
  induction xs with
  | nil => intro el _ _; exact ⟨[], rfl, fun i x c hx => by simp at hx, Nat.zero_le _, fun c hc => by cases hc⟩
  | cons x r ih =>
    intro el hl h
    cases el with
    | nil => simp at hl
    | cons d er =>
      obtain ⟨d0, e0, c, kc, h1, h2⟩ := h 0 x rfl
      rw [List.getElem?_cons_zero] at e0
      injection e0 with e0
      subst e0
      obtain ⟨cs, q1, q2, q3, q4⟩ := ih er (by simpa using hl) (fun i y hy => by
        obtain ⟨d1, e1, r1⟩ := h (i + 1) y (by rw [List.getElem?_cons_succ]; exact hy)
        rw [List.getElem?_cons_succ] at e1
        exact ⟨d1, e1, r1⟩)
      refine ⟨c :: cs, by rw [List.length_cons, List.length_cons, q1], ?_, ?_, ?_⟩
      · intro i y e hy he
        cases i with
        | zero =>
          rw [List.getElem?_cons_zero] at hy he
          injection hy with hy
          injection he with he
          subst hy he
          exact kc
        | succ i =>
          rw [List.getElem?_cons_succ] at hy he
          exact q2 i y e hy he
      · unfold tot at q3 ⊢
        rw [List.map_cons, List.sum_cons]
        simp only [Rows.uptoBulkAll]
        omega
      · intro e he
        simp only [Rows.uptoBulkAll]
        rcases List.mem_cons.1 he with q | q
        · subst q; omega
        · have := q4 e q; omega
section
variable {H : Type} {enc : TypeId × Value → H} {w : World} {base : Nat} {spare : Nat → Bool} {held : Bool}
theorem el_wt (n : Nat) (cs : List Value) (z : DataW H × List MemPlace) (hl : cs.length = 4) (h : DataW.trod enc Try.prog w base spare held n 65 cs = some z) : ∃ x : Wt, cs = eW x ∧ Gok x.s x.g := by
  obtain ⟨c0, c1, c2, c3, rfl⟩ : ∃ a b c d, cs = [a, b, c, d] := by
    match cs, hl with
    | [a, b, c, d], _ => exact ⟨a, b, c, d, rfl⟩
  obtain ⟨xs, n, _, _, _, hlen, hfs⟩ := DataW.trod_struct Try.underlying65 h
  match xs, hlen with
  | [y0, y1, y2], _ =>
    have h0 := hfs 0 _ rfl
    have h1 := hfs 1 _ rfl
    have h2 := hfs 2 _ rfl
    have h0' : DataW.trod enc Try.prog w base spare held n 37 [c0, c1] = some y0 := by simpa [Value.cells, cellsI, cellsJ, cellsGd] using h0
    have h1' : DataW.trod enc Try.prog w base spare held n 3 [c2] = some y1 := by simpa [Value.cells, cellsI, cellsJ, cellsGd] using h1
    have h2' : DataW.trod enc Try.prog w base spare held n 2 [c3] = some y2 := by simpa [Value.cells, cellsI, cellsJ, cellsGd] using h2
    obtain ⟨x2, e2, _, _⟩ := DataW.trod_int Try.underlying3 h1'
    obtain ⟨x3, e3, _, _⟩ := DataW.trod_int Try.underlying2 h2'
    obtain ⟨zs, m, _, _, _, hlen2, hgs⟩ := DataW.trod_struct Try.underlying37 h0'
    match zs, hlen2 with
    | [z0, z1], _ =>
      have k0 := hgs 0 _ rfl
      have k1 := hgs 1 _ rfl
      have k0' : DataW.trod enc Try.prog w base spare held m 3 [c0] = some z0 := by simpa [Value.cells, cellsI] using k0
      have k1' : DataW.trod enc Try.prog w base spare held m 3 [c1] = some z1 := by simpa [Value.cells, cellsI] using k1
      obtain ⟨x0, e0, _, w0⟩ := DataW.trod_int Try.underlying3 k0'
      obtain ⟨x1, e1, _, w1⟩ := DataW.trod_int Try.underlying3 k1'
      simp at e0 e1 e2 e3
      exact ⟨⟨x0, x1, x2, x3⟩, by rw [e0, e1, e2, e3]; rfl, wf_i64c w0, wf_i64c w1⟩
theorem len_bulk {α : Type} {xs : List α} {d : DataW H} {Q : α → DataW H → Prop} (h : (xs = [] ∧ d = .nil) ∨ ∃ el sp, d = .slice el sp ∧ el.length = xs.length ∧ ∀ (i : Nat) (x : α), xs[i]? = some x → ∃ d', el[i]? = some d' ∧ Q x d') : xs.length ≤ Rows.uptoBulk d ∧ ∀ x ∈ xs, ∃ d', Q x d' := by
  rcases h with ⟨e1, _⟩ | ⟨el, sp, e1, hle, hq⟩
  · rw [e1]; exact ⟨Nat.zero_le _, fun x hx => by cases hx⟩
  · rw [e1]
    have := bulk_slice el sp
    refine ⟨by omega, fun x hx => ?_⟩
    obtain ⟨i, hi⟩ := List.mem_iff_getElem?.1 hx
    obtain ⟨d', _, q⟩ := hq i x hi
    exact ⟨d', q⟩
theorem el_chan (n : Nat) (cs : List Value) (z : DataW H × List MemPlace) (hl : cs.length = 5) (h : DataW.trod enc Try.prog w base spare held n 45 cs = some z) :
    ∃ x : Rw, cs = eR x ∧ ∃ c : Cn, (Rd (· < w.heap.size) w x c ∧ ∀ y, y ∈ c.ss ∨ y ∈ c.rs → Gok y.s y.g) ∧ c.vs.length ≤ Rows.uptoBulk z.1 ∧ wl c ≤ Rows.uptoBulk z.1 := by
  have : Inhabited Wt := ⟨⟨0, 0, 0, 0⟩⟩
  obtain ⟨c0, c1, c2, c3, c4, rfl⟩ : ∃ a b c d e, cs = [a, b, c, d, e] := by
    match cs, hl with
    | [a, b, c, d, e], _ => exact ⟨a, b, c, d, e, rfl⟩
  obtain ⟨xs, n, _, hz, _, hlen, hfs⟩ := DataW.trod_struct Try.underlying45 h
  match xs, hlen with
  | [y0, y1, y2, y3, y4], _ =>
    have h0 := hfs 0 _ rfl
    have h1 := hfs 1 _ rfl
    have h2 := hfs 2 _ rfl
    have h3 := hfs 3 _ rfl
    have h4 := hfs 4 _ rfl
    have h0' : DataW.trod enc Try.prog w base spare held n 3 [c0] = some y0 := by simpa [Value.cells, cellsI, cellsLJ, cellsLW, cellsB] using h0
    have h1' : DataW.trod enc Try.prog w base spare held n 42 [c1] = some y1 := by simpa [Value.cells, cellsI, cellsLJ, cellsLW, cellsB] using h1
    have h2' : DataW.trod enc Try.prog w base spare held n 43 [c2] = some y2 := by simpa [Value.cells, cellsI, cellsLJ, cellsLW, cellsB] using h2
    have h3' : DataW.trod enc Try.prog w base spare held n 43 [c3] = some y3 := by simpa [Value.cells, cellsI, cellsLJ, cellsLW, cellsB] using h3
    have h4' : DataW.trod enc Try.prog w base spare held n 4 [c4] = some y4 := by simpa [Value.cells, cellsI, cellsLJ, cellsLW, cellsB] using h4
    obtain ⟨x0, e0, _, _⟩ := DataW.trod_int Try.underlying3 h0'
    obtain ⟨x4, e4, _⟩ := DataW.trod_bool Try.underlying4 h4'
    obtain ⟨vs, lv, sv⟩ := open_gen eI Try.underlying42 cellsJ eI_len (by omega) (fun _ _ => True) (fun n cs z hl h => el_num n cs z hl h) h1'
    obtain ⟨ss, ls, ts⟩ := open_gen eW Try.underlying43 cellsWtr eW_len (by omega) (fun x _ => Gok x.s x.g) (fun n cs z hl h => el_wt n cs z hl h) h2'
    obtain ⟨rs, lr, tr⟩ := open_gen eW Try.underlying43 cellsWtr eW_len (by omega) (fun x _ => Gok x.s x.g) (fun n cs z hl h => el_wt n cs z hl h) h3'
    have b1 := (len_bulk sv).1
    obtain ⟨b2, g2⟩ := len_bulk ts
    obtain ⟨b3, g3⟩ := len_bulk tr
    simp at e0 e4
    refine ⟨⟨x0, c1, c2, c3, x4⟩, by rw [e0, e4]; rfl, ⟨x0, vs, ss, rs, x4⟩, ⟨⟨rfl, rfl, lv, ls, lr⟩, ?_⟩, ?_, ?_⟩
    · intro y hy
      rcases hy with hy | hy
      · exact (g2 y hy).elim (fun _ q => q)
      · exact (g3 y hy).elim (fun _ q => q)
    · rw [hz]
      simp only [List.map_cons, List.map_nil, Rows.uptoBulk, Rows.uptoBulkAll]
      omega
    · rw [hz]
      unfold wl
      simp only [List.map_cons, List.map_nil, Rows.uptoBulk, Rows.uptoBulkAll]
      omega
/-- states that are handed in -/
theorem open_states {r : Reach} {b0 : Nat} {v : Value} {d : DataW H} {p : List MemPlace} {ds : List (DataW H)}
    (hv : Value.okWide Try.prog w r b0 22 v) (h : DataW.Trod enc Try.prog w base spare held 22 v d p) (hk : Rows.uptoSmall H ds = true) (hd : d ∈ ds) :
    ∃ cs : List Cn, Rds (· < w.heap.size) w v cs ∧ Bd cs ∧ tot cs ≤ 1048576 ∧ ∀ c ∈ cs, ∀ x, x ∈ c.ss ∨ x ∈ c.rs → Gok x.s x.g := by
  have : Inhabited Rw := ⟨⟨0, .slice none 0 0, .slice none 0 0, .slice none 0 0, false⟩⟩
  have hb : Rows.uptoBulkAll ds ≤ 1048576 := of_decide_eq_true hk
  have hb1 := Nat.le_trans (bulk_part hd) hb
  obtain ⟨va, vl, vc, rfl⟩ := okWide_slice Try.underlying22 hv
  obtain ⟨fuel, hf⟩ := h
  have hf' : DataW.trod enc Try.prog w base spare held fuel 22 [.slice va vl vc] = some (d, p) := hf
  obtain ⟨xs, lx, sx⟩ := open_gen eR Try.underlying22 cellsChn eR_len (by omega) (fun x d => ∃ c : Cn, (Rd (· < w.heap.size) w x c ∧ ∀ y, y ∈ c.ss ∨ y ∈ c.rs → Gok y.s y.g) ∧ c.vs.length ≤ Rows.uptoBulk d ∧ wl c ≤ Rows.uptoBulk d) (fun n cs z hl h => el_chan n cs z hl h) hf'
  have hx : ∃ (el : List (DataW H)), el.length = xs.length ∧ Rows.uptoBulkAll el ≤ 1048576 ∧ ∀ (i : Nat) (x : Rw), xs[i]? = some x → ∃ d, el[i]? = some d ∧ ∃ c : Cn, (Rd (· < w.heap.size) w x c ∧ ∀ y, y ∈ c.ss ∨ y ∈ c.rs → Gok y.s y.g) ∧ c.vs.length ≤ Rows.uptoBulk d ∧ wl c ≤ Rows.uptoBulk d := by
    rcases sx with ⟨e1, _⟩ | ⟨el, sp, e1, hle, hq⟩
    · exact ⟨[], by rw [e1]; rfl, by simp [Rows.uptoBulkAll], fun i x hx => by rw [e1] at hx; simp at hx⟩
    · have e9 : d = .slice el sp := e1
      subst e9
      refine ⟨el, hle, ?_, hq⟩
      simp only [Rows.uptoBulk] at hb1
      omega
  obtain ⟨el, hle, hel, hq⟩ := hx
  obtain ⟨cs, q1, q2, q3, q4⟩ := pick_cs (K := fun x c => Rd (· < w.heap.size) w x c ∧ ∀ y, y ∈ c.ss ∨ y ∈ c.rs → Gok y.s y.g) xs el hle hq
  have hln : cs.length ≤ 1048576 := by
    have := bulk_len el
    omega
  have hgk : ∀ c ∈ cs, ∀ x, x ∈ c.ss ∨ x ∈ c.rs → Gok x.s x.g := by
    intro c hc x hx
    obtain ⟨i, hi⟩ := List.mem_iff_getElem?.1 hc
    obtain ⟨y, hy⟩ : ∃ y, xs[i]? = some y := ⟨_, List.getElem?_eq_getElem (by rw [q1]; exact (List.getElem?_eq_some_iff.1 hi).1)⟩
    exact (q2 i y c hy hi).2 x hx
  have hwl : ∀ c ∈ cs, wl c ≤ 1048576 := fun c hc => Nat.le_trans (sum_mem (f := wl) hc) (Nat.le_trans q3 hel)
  refine ⟨cs, ⟨xs, lx, q1, fun i x c hx hc => (q2 i x c hx hc).1⟩, ⟨by omega, fun c hc => by have := q4 c hc; omega, fun c hc => by have := hwl c hc; unfold wl at this; omega, fun c hc => by have := hwl c hc; unfold wl at this; omega⟩, Nat.le_trans q3 hel, hgk⟩
/-- acts that are handed in, where all is small -/
theorem open_actsU {r : Reach} {b0 : Nat} {v : Value} {d : DataW H} {p : List MemPlace} {ds : List (DataW H)}
    (hv : Value.okWide Try.prog w r b0 23 v) (h : DataW.Trod enc Try.prog w base spare held 23 v d p) (hk : Rows.uptoSmall H ds = true) (hd : d ∈ ds) :
    ∃ xs : List Ac, Ls eA (· < w.heap.size) w v xs ∧ xs.length ≤ 1048576 ∧ ∀ x ∈ xs, Gok x.s x.g := by
  have : Inhabited Ac := ⟨⟨0, 0, 0, 0, 0, 0, false⟩⟩
  have hb : Rows.uptoBulkAll ds ≤ 1048576 := of_decide_eq_true hk
  have hb1 := Nat.le_trans (bulk_part hd) hb
  obtain ⟨va, vl, vc, rfl⟩ := okWide_slice Try.underlying23 hv
  obtain ⟨fuel, hf⟩ := h
  have hf' : DataW.trod enc Try.prog w base spare held fuel 23 [.slice va vl vc] = some (d, p) := hf
  obtain ⟨xs, lx, sx⟩ := open_gen eA Try.underlying23 cellsAc eA_len (by omega) (fun x _ => Gok x.s x.g) (fun n cs z hl h => el_act n cs z hl h) hf'
  obtain ⟨b, g⟩ := len_bulk sx
  have b' : xs.length ≤ Rows.uptoBulk d := b
  exact ⟨xs, lx, by omega, fun x hx => (g x hx).elim (fun _ q => q)⟩
end
end Go.Proofs.Ytpkbgfneebjnjab.Lt

namespace Go.Proofs.Ytpkbgfneebjnjab.Lt
open Go.ChangeShapes Go.WideShapes Go.ChangeAt Go.RowKit Wd

set_option maxRecDepth 100000 in
theorem ownch_lifted (os : Os) (started : os.Started) (H : Type) (enc : TypeId × Value → H) (F : Stop.Interp) :
    ReturnsInHanded {} Try.checked os 3 .any ((Rows.OpenSpec.upto Rows.channelOwnSpec).pre6 enc Try.prog Try.f3 Rows.channelOwnUptoRow.domain false) (((Rows.OpenSpec.upto Rows.channelOwnSpec).at F).post enc Try.prog Try.f3 false true false false) := by
  refine returnsInHanded_of_cond (C := Try.checked) (s := Rows.OpenSpec.upto Rows.channelOwnSpec) (k := Rows.uptoSmall) rfl own started (by kernel_rfl) Try.func3
    (OpenSpec.witness (enc := enc) (C := Try.checked) (s := Rows.OpenSpec.upto Rows.channelOwnSpec) (k := Rows.uptoSmall) rfl false ⟨#[], #[.slice none 0 0, .slice none 0 0], []⟩ 8 (by kernel_rfl) (by kernel_rfl) (by kernel_rfl)
      (x := ([.nil, .nil], [], [])) (by kernel_rfl) rfl (by kernel_rfl)) ?_
  intro W base args ds gs before hval0 hW _ hk _
  have hval : ∀ (j : Nat) t v, Try.f3.params[j]? = some t → args[j]? = some v → Value.okWide Try.prog W .any base t v := hval0
  have hW' := hW
  obtain ⟨p, q, hA0, hV, rfl, hfz, hnd⟩ := hW
  have hA : DataW.TrodAll enc Try.prog W 0 (fun _ => true) true Try.f3.params.toList args.toList ds p := hA0
  rw [Try.params3] at hA hval
  obtain ⟨v0, v1, d0, d1, p0, p1, rfl, rfl, rfl, h0, h1⟩ := trodAll_two hA
  obtain ⟨rfl, rfl⟩ := trodVars_none hV
  obtain ⟨cs0, rx0, bd0, tt0, gg0⟩ := open_states (hval 0 22 v0 rfl rfl) h0 hk (by simp)
  obtain ⟨xs1, lx1, bx1, kx1⟩ := open_actsU (hval 1 23 v1 rfl rfl) h1 hk (by simp)
  clear hA0 hval0
  simp only [List.append_nil] at hW'
  refine (ownch_any (· < W.heap.size) v0 cs0 (· < W.heap.size) v1 xs1 W rx0 bd0 tt0 gg0 lx1 bx1 kx1).mono fun e W' ⟨he, hg⟩ => ?_
  subst he
  exact ⟨_, rfl, post_law2 hW' (by rw [Try.params3]) rfl Try.underlying4 rfl rfl (by kernel_rfl) (of_decide_eq_true (by kernel_rfl)) (by kernel_rfl) (of_decide_eq_true (by kernel_rfl)) h0 h1 (hg.below (fun _ x => x.elim) (Nat.le_refl _))⟩

theorem ownch_holds : Rows.ChannelOwnUptoSaid :=
  OpenClaim.holds_of_cond 3 Try.f3 rfl rfl rfl rfl rfl rfl rfl ⟨rfl, rfl, rfl, rfl, rfl⟩ rfl rfl rfl rfl rfl (by kernel_rfl) Try.func3 (by kernel_rfl)
    (of_decide_eq_true (by kernel_rfl)) (by unfold Func.isWrapper; first | (rw [if_pos (by decide +kernel)]; kernel_rfl) | (rw [if_neg (by decide +kernel)]; exact ⟨rfl, rfl⟩))
    (fun os started H enc _ F => ownch_lifted os started H enc F)
end Go.Proofs.Ytpkbgfneebjnjab.Lt
