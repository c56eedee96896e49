/-
  ChannelLoads holds, where what it reads is small (the second form): for any states and any script of calls the call returns true, and its arguments read afterwards as they read before.
-/
import Derived.Test.YtpkbgfneebjnjaaCpLdm
import Derived.Deep.Cut
import Derived.Test.YtpkbgfneebjnjaaCpFrameE
import Derived.Test.YtpkbgfneebjnjaaCpAny
namespace Go.Proofs.Ytpkbgfneebjnjaa.Lt
open Go.RowKit Wd
attribute [local go_sem ↓] Go.wp_at_zero Go.wp_at_succ

set_option maxHeartbeats 4000000 in
set_option maxRecDepth 20000 in
theorem rmay_all (P : Nat → Prop) (w : World) (cp : Int) (vo so ro : Option Addr) (vn vc sn sc rn rc : Nat) (cl : Bool) (vs : List Int) (ss rs : List Wt) (hvl : vn = vs.length) (hs : Ls eW P w (.slice so sn sc) ss) (hr : Ls eW P w (.slice ro rn rc) rs) (hb : sn ≤ 4398046511104 ∧ rn ≤ 4398046511104) :
    Calls Try.prog 43 #[.agg #[.int .i64 cp, .slice vo vn vc, .slice so sn sc, .slice ro rn rc, .bool cl]] w fun e w' => e = .returned (.bool (mayT cp vs ss rs cl)) ∧ Gr w w' := by
  by_cases hc : 0 ≤ cp ∧ cp ≤ 1024 ∧ (vs.length : Int) ≤ cp
  · have := may_any P w cp vo so ro vn vc sn sc rn rc cl vs ss rs hvl hs hr hc.1 hc.2.1 (by rw [hvl]; exact hc.2.2) hb
    unfold mayT
    rw [decide_eq_true hc, Bool.true_and]
    exact this
  · have HT := hid (show mayT cp vs ss rs cl = false from by unfold mayT; rw [decide_eq_false hc, Bool.false_and])
    have G1 := hid (show Gr w (w.alloc (.cells #[.int .i64 cp, .slice vo vn vc, .slice so sn sc, .slice ro rn rc, .bool cl] 64)) from Ch.alloc (Gr.refl w) _)
    by_cases a1 : cp < 0
    · have a1' : decide (cp < 0) = true := decide_eq_true a1
      clear hvl hs hr hc hb
      go_enter Try.func43, Try.ntmps43
      go_wp2_with fail
      go_ret
      exact ⟨by rw [HT.out]; try rfl, G1.out⟩
    · have a1' : decide (cp < 0) = false := decide_eq_false a1
      by_cases a2 : (1024 : Int) < cp
      · have a2' : decide ((1024 : Int) < cp) = true := decide_eq_true a2
        clear hvl hs hr hc hb
        go_enter Try.func43, Try.ntmps43
        go_wp2_with fail
        go_ret
        exact ⟨by rw [HT.out]; try rfl, G1.out⟩
      · have a2' : decide ((1024 : Int) < cp) = false := decide_eq_false a2
        have a3 : cp < (vn : Int) := by omega
        have a3' : decide (cp < (vn : Int)) = true := decide_eq_true a3
        clear hvl hs hr hc hb
        go_enter Try.func43, Try.ntmps43
        go_wp2_with fail
        go_ret
        exact ⟨by rw [HT.out]; try rfl, G1.out⟩
/-- what Load of the document tells -/
def RlR (w : World) (cs : List Cn) (e : Ending) (w' : World) : Prop := (ldB cs = true → ∃ v, e = .returned (.tuple #[v, .int .i64 0]) ∧ Nx w.heap.size w' v cs) ∧ (ldB cs = false → e = .returned (.tuple #[.slice none 0 0, .int .i64 110])) ∧ Gr w w'
set_option maxRecDepth 20000 in
set_option maxHeartbeats 4000000 in
theorem rload_walk (P : Nat → Prop) (w : World) (ao : Option Addr) (n cap : Nat) (cs : List Cn) (h : Rds P w (.slice ao n cap) cs) (hb : Bd cs) :
    Calls Try.prog 14 #[.slice ao n cap] w (RlR w cs) := by
  have hnl : n = cs.length := by
    obtain ⟨a, c, e⟩ := h.form
    injection e
  have HNL := hid hnl
  have HBD := hid hb
  have HR := hid h
  clear h hb hnl
  by_cases h1 : n ≤ 1024
  · have h1' : ¬ (1024 : Int) < (n : Int) := by omega
    have J24 := hid h1
    go_enter Try.func14, Try.ntmps14
    go_wp2_with fail
    clear h1'
    go_loopg [4] n (fun q v4 wr => ∃ (j : Nat), j + q = n ∧ v4 = .int .i64 (j : Int) ∧ Gr w wr ∧ (∀ c ∈ cs.take j, mayT c.cap c.vs c.ss c.rs c.cl = true))
    case atStart => exact ⟨0, by omega, rfl, Gr.refl w, fun c hc => by simp at hc⟩
    case round =>
      obtain ⟨j, hjq, rfl, hG, hA⟩ := hrel
      have GJ := hid hG
      have AJ := hid hA
      clear hG hA
      by_cases hj : j < n
      · obtain ⟨c, hc⟩ : ∃ c, cs[j]? = some c := ⟨_, List.getElem?_eq_getElem (by rw [← HNL.out]; exact hj)⟩
        obtain ⟨rows, hl, hrn, hf⟩ := HR.out
        obtain ⟨x, hx⟩ : ∃ x, rows[j]? = some x := ⟨_, List.getElem?_eq_getElem (by rw [hrn, ← HNL.out]; exact hj)⟩
        have hrd := hf j x c hx hc
        obtain ⟨gg, oo, cap', hv, _, hgl, _, hcs⟩ := (hl.gr GJ.out).get eR_len hx
        injection hv with hv1 hv2 hv3
        subst hv1
        clear hv2 hv3
        obtain ⟨vo, vk, ex⟩ := hrd.v.form
        obtain ⟨so, sk, ey⟩ := hrd.s.form
        obtain ⟨ro, rk, ez⟩ := hrd.r.form
        have c0 := hcs 0 _ rfl
        have c1 := hcs 1 _ rfl
        have c2 := hcs 2 _ rfl
        have c3 := hcs 3 _ rfl
        have c4 := hcs 4 _ rfl
        simp only [Nat.add_zero] at c0
        obtain ⟨xcap, xv, xs', xr, xcl⟩ := x
        dsimp only at ex ey ez c0 c1 c2 c3 c4
        subst ex ey ez
        have mem := List.mem_of_getElem? hc
        obtain ⟨vn, evn⟩ : ∃ m, m = c.vs.length := ⟨_, rfl⟩
        obtain ⟨sn, esn⟩ : ∃ m, m = c.ss.length := ⟨_, rfl⟩
        obtain ⟨rn, ern⟩ : ∃ m, m = c.rs.length := ⟨_, rfl⟩
        rw [← evn] at c1 hrd
        rw [← esn] at c2 hrd
        rw [← ern] at c3 hrd
        have bds := HBD.out.s c mem
        have bdr := HBD.out.r c mem
        have HMB := hid (rmay_all P wr xcap vo so ro vn vk sn sk rn rk xcl c.vs c.ss c.rs evn (hrd.s.gr GJ.out) (hrd.r.gr GJ.out) ⟨by omega, by omega⟩)
        have ecap : xcap = c.cap := hrd.cap
        have ecl : xcl = c.cl := hrd.cl
        have HZZ := hid (show mayT xcap c.vs c.ss c.rs xcl = mayT c.cap c.vs c.ss c.rs c.cl from by rw [ecap, ecl])
        have HC := hid hc
        have j0 : (0 : Int) ≤ (j : Int) := by omega
        have j1 : (j : Int) < (n : Int) := by omega
        clear hrd hf hl hrn hx hc mem evn esn ern ecap ecl hcs hgl bds bdr
        obtain ⟨z, hz⟩ : ∃ z, z = mayT xcap c.vs c.ss c.rs xcl := ⟨_, rfl⟩
        rw [← hz] at HMB HZZ
        clear hz
        cases z with
        | false =>
          go_wp2_with (go_at_call 43; refine HMB.out.mono ?_; rintro e w5 ⟨rfl, g5⟩; have G5 := hid g5; clear g5)
          refine bodyPost_ret (v := .tuple #[.slice none 0 0, .int .i64 110]) (by simp [results, Try.results14, go_sem]) rfl ⟨fun e => ?_, fun _ => rfl, Gr.trans GJ.out G5.out⟩
          rw [ldB_no HC.out HZZ.out.symm] at e
          cases e
        | true =>
          go_wp2_with (go_at_call 43; refine HMB.out.mono ?_; rintro e w5 ⟨rfl, g5⟩; have G5 := hid g5; clear g5)
          go_roundg (gk - 1)
          case measure => omega
          case rel =>
            refine ⟨j + 1, by omega, ?_, Gr.trans GJ.out G5.out, ?_⟩
            · first | with_reducible rfl | simp
            · intro d hd
              rw [take_one HC.out] at hd
              rcases List.mem_append.1 hd with q | q
              · exact AJ.out d q
              · rw [List.mem_singleton] at q
                rw [q]
                exact HZZ.out.symm
      · have jn : ¬ (j : Int) < (n : Int) := by omega
        have hta : cs.take j = cs := List.take_of_length_le (by rw [← HNL.out]; omega)
        rw [hta] at AJ
        clear hta
        have HCY := hid (copy_any P wr _ cs (HR.out.gr GJ.out) HBD.out)
        go_wp2_with (go_at_call 44; refine HCY.out.mono ?_; rintro e w5 ⟨v5, t5, xs5, rfl, n5, g5⟩; have N5 := hid (show Nx wr.heap.size w5 v5 cs from ⟨t5, xs5, n5⟩); have G5 := hid g5; clear n5 g5)
        refine bodyPost_ret (v := .tuple #[v5, .int .i64 0]) (by simp [results, Try.results14, go_sem]) rfl ⟨fun _ => ⟨v5, rfl, N5.out.lower GJ.out.size⟩, fun e => ?_, Gr.trans GJ.out G5.out⟩
        rw [show ldB cs = true from by unfold ldB; rw [decide_eq_true (by rw [← HNL.out]; exact J24.out), Bool.true_and]; exact List.all_eq_true.2 (fun c hc => AJ.out c hc)] at e
        cases e
  · have h1' : (1024 : Int) < (n : Int) := by omega
    have HLB := hid (show ldB cs = false from by unfold ldB; rw [decide_eq_false (by rw [← HNL.out]; exact h1), Bool.false_and])
    go_enter Try.func14, Try.ntmps14
    go_wp2_with fail
    refine bodyPost_ret (v := .tuple #[.slice none 0 0, .int .i64 110]) (by simp [results, Try.results14, go_sem]) rfl ⟨fun e => ?_, fun _ => rfl, Gr.refl w⟩
    rw [HLB.out] at e
    cases e
theorem rload_any {P : Nat → Prop} {w : World} {v : Value} {cs : List Cn} (h : Rds P w v cs) (hb : Bd cs) :
    Calls Try.prog 14 #[v] w (RlR w cs) := by
  obtain ⟨ao, cap, rfl⟩ := h.form
  exact rload_walk P w ao _ cap cs h hb
/-- channels that Load takes are good -/
theorem ldB_gd {N : Nat} {cs : List Cn} (h : ldB cs = true) (hw : tot cs ≤ N) (hg : ∀ c ∈ cs, ∀ x, x ∈ c.ss ∨ x ∈ c.rs → Gok x.s x.g) : Gd N cs := by
  unfold ldB at h
  rw [Bool.and_eq_true] at h
  have h1 := of_decide_eq_true h.1
  have h2 : ∀ c ∈ cs, 0 ≤ c.cap ∧ c.cap ≤ 1024 ∧ (c.vs.length : Int) ≤ c.cap := by
    intro c hc
    have := List.all_eq_true.1 h.2 c hc
    unfold mayT at this
    rw [Bool.and_eq_true] at this
    exact of_decide_eq_true this.1
  exact ⟨h1, fun c hc => ⟨(h2 c hc).1, (h2 c hc).2.1⟩, fun c hc => (h2 c hc).2.2, hw, hg⟩
end Go.Proofs.Ytpkbgfneebjnjaa.Lt

namespace Go.Proofs.Ytpkbgfneebjnjaa.Lt
open Go.RowKit Wd
attribute [local go_sem ↓] Go.wp_at_zero Go.wp_at_succ

set_option maxRecDepth 20000 in
set_option maxHeartbeats 4000000 in
theorem loads_walk (P Q : Nat → Prop) (w : World) (lo ao : Option Addr) (n cap m ca : Nat) (cs : List Cn) (acts : List Ac) (h : Rds P w (.slice lo n cap) cs) (hb : Bd cs) (ht : tot cs ≤ 1048576) (hg : ∀ c ∈ cs, ∀ x, x ∈ c.ss ∨ x ∈ c.rs → Gok x.s x.g) (ha : Ls eA Q w (.slice ao m ca) acts) (hk : ∀ a ∈ acts, Gok a.s a.g) (hm : m ≤ 1048576) :
    Calls Try.prog 4 #[.slice lo n cap, .slice ao m ca] w fun e w' => e = .returned (.bool true) ∧ Gr w w' := by
  have HLD := hid (load_any h hb (by omega) hg)
  have HRL := hid (fun (W : World) (p : Gr w W) => rload_any (h.gr p) hb)
  have HLV := hid lives_any
  have HLS := hid ha
  have HLL := hid ha.len.1
  have HK := hid hk
  have HGO := hid hg
  have HTO := hid ht
  clear h hb ht hg ha hk
  cases hz : ldB cs with
  | false =>
    have HZ := hid hz
    clear hz
    go_enter Try.func4, Try.ntmps4
    go_wp2_with (first
      | (go_at_call 13; refine HLD.out.mono ?_; rintro e w1 ⟨-, no1, g1⟩; obtain rfl := no1 HZ.out; have G1 := hid g1; clear no1 g1)
      | (go_at_call 14; refine (HRL.out _ G1.out).mono ?_; rintro e w2 ⟨-, no2, g2⟩; obtain rfl := no2 HZ.out; have G2 := hid (Gr.trans G1.out g2); clear no2 g2)
      | (go_at_call 10; refine (HLV.out _).mono ?_; rintro e w3 ⟨rfl, g3⟩; have G3 := hid (Gr.trans G2.out g3); clear g3))
    go_ret
    exact ⟨rfl, G3.out⟩
  | true =>
    have HZ := hid hz
    clear hz
    have HG0 := hid (ldB_gd HZ.out HTO.out HGO.out)
    go_enter Try.func4, Try.ntmps4
    go_upto_region 7 with (first
      | (go_at_call 13; refine HLD.out.mono ?_; rintro e w1 ⟨yes1, -, g1⟩; obtain ⟨b, t1, rfl, c1, z1⟩ := yes1 HZ.out; have G1 := hid g1; have C1 := hid c1; have Z1 := hid z1; clear yes1 g1 c1 z1)
      | (go_at_call 14; refine (HRL.out _ G1.out).mono ?_; rintro e w2 ⟨yes2, -, g2⟩; obtain ⟨v2, rfl, n2⟩ := yes2 HZ.out; have R2 := hid (n2.rds.mono (Q := fun q => t1 q = .no) (fun q _ hq => cs_hi C1.out q hq)); have C2 := hid (C1.out.gr g2); have G2 := hid (Gr.trans G1.out g2); clear yes2 n2 g2)
      | (go_at_call 10; refine (HLV.out _).mono ?_; rintro e w3 ⟨rfl, g3⟩; have C3 := hid (C2.out.gr g3); have R3 := hid (R2.out.gr g3); have G3 := hid (Gr.trans G2.out g3); clear g3))
    clear C1 C2 R2 G1 G2
    have HST := hid (state_any C3.out HG0.out.n (HG0.out.bd (by omega)))
    go_wp2_with (first
      | (go_at_call 15; refine (rsame_any _ _ _ _ _ cs N4.out.rds (R3.out.gr G4.out) (HG0.out.bd (by omega))).mono ?_; rintro e w5 ⟨rfl, g5⟩; have G5 := hid (Gr.trans G4.out g5); clear g5)
      | (go_at_call 16; refine HST.out.mono ?_; rintro e w4 ⟨v4, rfl, nx4, g4⟩; have N4 := hid nx4; have G4 := hid g4; clear nx4 g4))
    go_loopg [7, 9, 10] m (fun q v7 v9 v10 wr => ∃ (j : Nat) (t : Nat → Tg), j + q = m ∧ v10 = .int .i64 (j : Int) ∧ v9 = .bool true ∧ Cs t wr b (runR cs (acts.take j)) ∧ Rds (fun q => t q = .no) wr v7 (runR cs (acts.take j)) ∧ (∀ q, q < w.heap.size → t q = .no) ∧ Gr w wr)
    case atStart => exact ⟨0, t1, by omega, rfl, rfl, C3.out.gr G5.out, R3.out.gr G5.out, Z1.out, Gr.trans G3.out G5.out⟩
    case round =>
      obtain ⟨j, t, hjq, rfl, rfl, hC, hR, hZ, hG⟩ := hrel
      have CJ := hid hC
      have RJ := hid hR
      have ZJ := hid hZ
      have GJ := hid hG
      clear hC hR hZ hG C3 R3 G3 G5 G4 N4 Z1 HST
      have HGD := hid (show Gd (1048576 + j) (runR cs (acts.take j)) from by
        have := gr_run HG0.out (acts.take j) (fun a ha => HK.out a (List.mem_of_mem_take ha))
        rw [List.length_take] at this
        exact this.up (by omega))
      by_cases hj : j < m
      · obtain ⟨⟨k, ch, s, g, v, c, sd⟩, hx⟩ : ∃ x, acts[j]? = some x := ⟨_, List.getElem?_eq_getElem (by rw [← HLL.out]; exact hj)⟩
        obtain ⟨gg, oo, cap', hv, _, hgl, _, hcs⟩ := (HLS.out.gr GJ.out).get eA_len hx
        injection hv with hv1 hv2 hv3
        subst hv1
        clear hv2 hv3
        have c0 := hcs 0 _ rfl
        have c1 := hcs 1 _ rfl
        have c2 := hcs 2 _ rfl
        have c3 := hcs 3 _ rfl
        have c4 := hcs 4 _ rfl
        have c5 := hcs 5 _ rfl
        have c6 := hcs 6 _ rfl
        simp only [Nat.add_zero] at c0
        have j0 : (0 : Int) ≤ (j : Int) := by omega
        have j1 : (j : Int) < (m : Int) := by omega
        have HD := hid (does_any CJ.out RJ.out (fun q hq => hq) HGD.out (by omega) ⟨k, ch, s, g, v, c, sd⟩ (HK.out _ (List.mem_of_getElem? hx)))
        dsimp only [Ac.row] at HD
        rw [← runR_snoc, ← take_one hx] at HD
        clear hcs hx hgl
        go_wp2_with (go_at_call 11; refine HD.out.mono ?_; rintro e w3 ⟨l3, rfl, t3, c3', r3, n3⟩; have C3 := hid c3'; have R3 := hid (r3.mono (Q := fun q => t3 q = .no) (fun q _ hq => hq.2)); obtain ⟨g3, z3⟩ := Tn.base ZJ.out GJ.out n3; have G3 := hid g3; have Z3 := hid z3; clear c3' r3 n3 g3 z3)
        go_roundg (gk - 1)
        case measure => omega
        case rel =>
          refine ⟨j + 1, t3, by omega, ?_, rfl, C3.out, R3.out, Z3.out, G3.out⟩
          first | with_reducible rfl | simp
      · have jn : ¬ (j : Int) < (m : Int) := by omega
        have HST := hid (state_any CJ.out HGD.out.n (HGD.out.bd (by omega)))
        have HSM := hid (fun (W : World) (p : Gr wr W) (va : Value) (r : Rds (0 ≤ ·) W va (runR cs (acts.take j))) => rsame_any (0 ≤ ·) _ W va _ _ r (RJ.out.gr p) (HGD.out.bd (by omega)))
        go_wp2_with (first
          | (go_at_call 15; refine (HSM.out _ G4.out _ (N4.out.rds.mono (fun _ _ _ => Nat.zero_le _))).mono ?_; rintro e w5 ⟨rfl, g5⟩; have G5 := hid (Gr.trans G4.out g5); clear g5)
          | (go_at_call 16; refine HST.out.mono ?_; rintro e w4 ⟨v4, rfl, nx4, g4⟩; have N4 := hid nx4; have G4 := hid g4; clear nx4 g4))
        go_ret
        exact ⟨rfl, Gr.trans GJ.out G5.out⟩
theorem loads_any (P : Nat → Prop) (v0 : Value) (cs : List Cn) (Q : Nat → Prop) (v1 : Value) (acts : List Ac) (w : World) (h : Rds P w v0 cs) (hb : Bd cs) (ht : tot cs ≤ 1048576) (hg : ∀ c ∈ cs, ∀ x, x ∈ c.ss ∨ x ∈ c.rs → Gok x.s x.g) (ha : Ls eA Q w v1 acts) (hm : acts.length ≤ 1048576) (hk : ∀ a ∈ acts, Gok a.s a.g) :
    Calls Try.prog 4 #[v0, v1] w fun e w' => e = .returned (.bool true) ∧ Gr w w' := by
  obtain ⟨lo, cap, rfl⟩ := h.form
  obtain ⟨ao, ca, rfl⟩ := ha.form
  exact loads_walk P Q w lo ao _ cap _ ca cs acts h hb ht hg ha hk hm
end Go.Proofs.Ytpkbgfneebjnjaa.Lt

namespace Go.Proofs.Ytpkbgfneebjnjaa.Lt
open Go.ChangeShapes Go.WideShapes Go.ChangeAt Go.RowKit Go.Deep Go.Joins Wd
set_option maxRecDepth 100000

theorem cellsWtr : Try.prog.cellsOf 79 = 4 := by kernel_rfl
theorem cellsChn : Try.prog.cellsOf 64 = 5 := by kernel_rfl
theorem cellsLJ : Try.prog.cellsOf 43 = 1 := by kernel_rfl
theorem cellsLW : Try.prog.cellsOf 62 = 1 := by kernel_rfl
/-- channels, one for each row -/
theorem pick_cs {H : Type} {K : Rw → Cn → Prop} : ∀ (xs : List Rw) (el : List (DataW H)), el.length = xs.length → (∀ (i : Nat) (x : Rw), xs[i]? = some x → ∃ d, el[i]? = some d ∧ ∃ c : Cn, K x c ∧ c.vs.length ≤ Rows.uptoBulk d ∧ wl c ≤ Rows.uptoBulk d) →
    ∃ cs : List Cn, xs.length = cs.length ∧ (∀ (i : Nat) (x : Rw) (c : Cn), xs[i]? = some x → cs[i]? = some c → K x c) ∧ tot cs ≤ Rows.uptoBulkAll el ∧ ∀ c ∈ cs, c.vs.length ≤ Rows.uptoBulkAll el := by
  intro xs
  induction xs with
  | nil => intro el _ _; exact ⟨[], rfl, fun i x c hx => by simp at hx, Nat.zero_le _, fun c hc => by cases hc⟩
  | cons x r ih =>
    intro el hl h
    cases el with
    | nil => simp at hl
    | cons d er =>
      obtain ⟨d0, e0, c, kc, h1, h2⟩ := h 0 x rfl
      rw [List.getElem?_cons_zero] at e0
      injection e0 with e0
      subst e0
      obtain ⟨cs, q1, q2, q3, q4⟩ := ih er (by simpa using hl) (fun i y hy => by
        obtain ⟨d1, e1, r1⟩ := h (i + 1) y (by rw [List.getElem?_cons_succ]; exact hy)
        rw [List.getElem?_cons_succ] at e1
        exact ⟨d1, e1, r1⟩)
      refine ⟨c :: cs, by rw [List.length_cons, List.length_cons, q1], ?_, ?_, ?_⟩
      · intro i y e hy he
        cases i with
        | zero =>
          rw [List.getElem?_cons_zero] at hy he
          injection hy with hy
          injection he with he
          subst hy he
          exact kc
        | succ i =>
          rw [List.getElem?_cons_succ] at hy he
          exact q2 i y e hy he
      · unfold tot at q3 ⊢
        rw [List.map_cons, List.sum_cons]
        simp only [Rows.uptoBulkAll]
        omega
      · intro e he
        simp only [Rows.uptoBulkAll]
        rcases List.mem_cons.1 he with q | q
        · subst q; omega
        · have := q4 e q; omega
section
variable {H : Type} {enc : TypeId × Value → H} {w : World} {base : Nat} {spare : Nat → Bool} {held : Bool}
theorem el_wt (n : Nat) (cs : List Value) (z : DataW H × List MemPlace) (hl : cs.length = 4) (h : DataW.trod enc Try.prog w base spare held n 79 cs = some z) : ∃ x : Wt, cs = eW x ∧ Gok x.s x.g := by
  obtain ⟨c0, c1, c2, c3, rfl⟩ : ∃ a b c d, cs = [a, b, c, d] := by
    match cs, hl with
    | [a, b, c, d], _ => exact ⟨a, b, c, d, rfl⟩
  obtain ⟨xs, n, _, _, _, hlen, hfs⟩ := DataW.trod_struct Try.underlying79 h
  match xs, hlen with
  | [y0, y1, y2], _ =>
    have h0 := hfs 0 _ rfl
    have h1 := hfs 1 _ rfl
    have h2 := hfs 2 _ rfl
    have h0' : DataW.trod enc Try.prog w base spare held n 30 [c0, c1] = some y0 := by simpa [Value.cells, cellsI, cellsJ, cellsGd] using h0
    have h1' : DataW.trod enc Try.prog w base spare held n 3 [c2] = some y1 := by simpa [Value.cells, cellsI, cellsJ, cellsGd] using h1
    have h2' : DataW.trod enc Try.prog w base spare held n 2 [c3] = some y2 := by simpa [Value.cells, cellsI, cellsJ, cellsGd] using h2
    obtain ⟨x2, e2, _, _⟩ := DataW.trod_int Try.underlying3 h1'
    obtain ⟨x3, e3, _, _⟩ := DataW.trod_int Try.underlying2 h2'
    obtain ⟨zs, m, _, _, _, hlen2, hgs⟩ := DataW.trod_struct Try.underlying30 h0'
    match zs, hlen2 with
    | [z0, z1], _ =>
      have k0 := hgs 0 _ rfl
      have k1 := hgs 1 _ rfl
      have k0' : DataW.trod enc Try.prog w base spare held m 3 [c0] = some z0 := by simpa [Value.cells, cellsI] using k0
      have k1' : DataW.trod enc Try.prog w base spare held m 3 [c1] = some z1 := by simpa [Value.cells, cellsI] using k1
      obtain ⟨x0, e0, _, w0⟩ := DataW.trod_int Try.underlying3 k0'
      obtain ⟨x1, e1, _, w1⟩ := DataW.trod_int Try.underlying3 k1'
      simp at e0 e1 e2 e3
      exact ⟨⟨x0, x1, x2, x3⟩, by rw [e0, e1, e2, e3]; rfl, wf_i64c w0, wf_i64c w1⟩
theorem len_bulk {α : Type} {xs : List α} {d : DataW H} {Q : α → DataW H → Prop} (h : (xs = [] ∧ d = .nil) ∨ ∃ el sp, d = .slice el sp ∧ el.length = xs.length ∧ ∀ (i : Nat) (x : α), xs[i]? = some x → ∃ d', el[i]? = some d' ∧ Q x d') : xs.length ≤ Rows.uptoBulk d ∧ ∀ x ∈ xs, ∃ d', Q x d' := by
  rcases h with ⟨e1, _⟩ | ⟨el, sp, e1, hle, hq⟩
  · rw [e1]; exact ⟨Nat.zero_le _, fun x hx => by cases hx⟩
  · rw [e1]
    have := bulk_slice el sp
    refine ⟨by omega, fun x hx => ?_⟩
    obtain ⟨i, hi⟩ := List.mem_iff_getElem?.1 hx
    obtain ⟨d', _, q⟩ := hq i x hi
    exact ⟨d', q⟩
theorem el_chan (n : Nat) (cs : List Value) (z : DataW H × List MemPlace) (hl : cs.length = 5) (h : DataW.trod enc Try.prog w base spare held n 64 cs = some z) :
    ∃ x : Rw, cs = eR x ∧ ∃ c : Cn, (Rd (· < w.heap.size) w x c ∧ ∀ y, y ∈ c.ss ∨ y ∈ c.rs → Gok y.s y.g) ∧ c.vs.length ≤ Rows.uptoBulk z.1 ∧ wl c ≤ Rows.uptoBulk z.1 := by
  have : Inhabited Wt := ⟨⟨0, 0, 0, 0⟩⟩
  obtain ⟨c0, c1, c2, c3, c4, rfl⟩ : ∃ a b c d e, cs = [a, b, c, d, e] := by
    match cs, hl with
    | [a, b, c, d, e], _ => exact ⟨a, b, c, d, e, rfl⟩
  obtain ⟨xs, n, _, hz, _, hlen, hfs⟩ := DataW.trod_struct Try.underlying64 h
  match xs, hlen with
  | [y0, y1, y2, y3, y4], _ =>
    have h0 := hfs 0 _ rfl
    have h1 := hfs 1 _ rfl
    have h2 := hfs 2 _ rfl
    have h3 := hfs 3 _ rfl
    have h4 := hfs 4 _ rfl
    have h0' : DataW.trod enc Try.prog w base spare held n 3 [c0] = some y0 := by simpa [Value.cells, cellsI, cellsLJ, cellsLW, cellsB] using h0
    have h1' : DataW.trod enc Try.prog w base spare held n 43 [c1] = some y1 := by simpa [Value.cells, cellsI, cellsLJ, cellsLW, cellsB] using h1
    have h2' : DataW.trod enc Try.prog w base spare held n 62 [c2] = some y2 := by simpa [Value.cells, cellsI, cellsLJ, cellsLW, cellsB] using h2
    have h3' : DataW.trod enc Try.prog w base spare held n 62 [c3] = some y3 := by simpa [Value.cells, cellsI, cellsLJ, cellsLW, cellsB] using h3
    have h4' : DataW.trod enc Try.prog w base spare held n 4 [c4] = some y4 := by simpa [Value.cells, cellsI, cellsLJ, cellsLW, cellsB] using h4
    obtain ⟨x0, e0, _, _⟩ := DataW.trod_int Try.underlying3 h0'
    obtain ⟨x4, e4, _⟩ := DataW.trod_bool Try.underlying4 h4'
    obtain ⟨vs, lv, sv⟩ := open_gen eI Try.underlying43 cellsJ eI_len (by omega) (fun _ _ => True) (fun n cs z hl h => el_num n cs z hl h) h1'
    obtain ⟨ss, ls, ts⟩ := open_gen eW Try.underlying62 cellsWtr eW_len (by omega) (fun x _ => Gok x.s x.g) (fun n cs z hl h => el_wt n cs z hl h) h2'
    obtain ⟨rs, lr, tr⟩ := open_gen eW Try.underlying62 cellsWtr eW_len (by omega) (fun x _ => Gok x.s x.g) (fun n cs z hl h => el_wt n cs z hl h) h3'
    have b1 := (len_bulk sv).1
    obtain ⟨b2, g2⟩ := len_bulk ts
    obtain ⟨b3, g3⟩ := len_bulk tr
    simp at e0 e4
    refine ⟨⟨x0, c1, c2, c3, x4⟩, by rw [e0, e4]; rfl, ⟨x0, vs, ss, rs, x4⟩, ⟨⟨rfl, rfl, lv, ls, lr⟩, ?_⟩, ?_, ?_⟩
    · intro y hy
      rcases hy with hy | hy
      · exact (g2 y hy).elim (fun _ q => q)
      · exact (g3 y hy).elim (fun _ q => q)
    · rw [hz]
      simp only [List.map_cons, List.map_nil, Rows.uptoBulk, Rows.uptoBulkAll]
      omega
    · rw [hz]
      unfold wl
      simp only [List.map_cons, List.map_nil, Rows.uptoBulk, Rows.uptoBulkAll]
      omega
/-- states that are handed in -/
theorem open_states {r : Reach} {b0 : Nat} {v : Value} {d : DataW H} {p : List MemPlace} {ds : List (DataW H)}
    (hv : Value.okWide Try.prog w r b0 26 v) (h : DataW.Trod enc Try.prog w base spare held 26 v d p) (hk : Rows.uptoSmall H ds = true) (hd : d ∈ ds) :
    ∃ cs : List Cn, Rds (· < w.heap.size) w v cs ∧ Bd cs ∧ tot cs ≤ 1048576 ∧ ∀ c ∈ cs, ∀ x, x ∈ c.ss ∨ x ∈ c.rs → Gok x.s x.g := by
  have : Inhabited Rw := ⟨⟨0, .slice none 0 0, .slice none 0 0, .slice none 0 0, false⟩⟩
  have hb : Rows.uptoBulkAll ds ≤ 1048576 := of_decide_eq_true hk
  have hb1 := Nat.le_trans (bulk_part hd) hb
  obtain ⟨va, vl, vc, rfl⟩ := okWide_slice Try.underlying26 hv
  obtain ⟨fuel, hf⟩ := h
  have hf' : DataW.trod enc Try.prog w base spare held fuel 26 [.slice va vl vc] = some (d, p) := hf
  obtain ⟨xs, lx, sx⟩ := open_gen eR Try.underlying26 cellsChn eR_len (by omega) (fun x d => ∃ c : Cn, (Rd (· < w.heap.size) w x c ∧ ∀ y, y ∈ c.ss ∨ y ∈ c.rs → Gok y.s y.g) ∧ c.vs.length ≤ Rows.uptoBulk d ∧ wl c ≤ Rows.uptoBulk d) (fun n cs z hl h => el_chan n cs z hl h) hf'
  have hx : ∃ (el : List (DataW H)), el.length = xs.length ∧ Rows.uptoBulkAll el ≤ 1048576 ∧ ∀ (i : Nat) (x : Rw), xs[i]? = some x → ∃ d, el[i]? = some d ∧ ∃ c : Cn, (Rd (· < w.heap.size) w x c ∧ ∀ y, y ∈ c.ss ∨ y ∈ c.rs → Gok y.s y.g) ∧ c.vs.length ≤ Rows.uptoBulk d ∧ wl c ≤ Rows.uptoBulk d := by
    rcases sx with ⟨e1, _⟩ | ⟨el, sp, e1, hle, hq⟩
    · exact ⟨[], by rw [e1]; rfl, by simp [Rows.uptoBulkAll], fun i x hx => by rw [e1] at hx; simp at hx⟩
    · have e9 : d = .slice el sp := e1
      subst e9
      refine ⟨el, hle, ?_, hq⟩
      simp only [Rows.uptoBulk] at hb1
      omega
  obtain ⟨el, hle, hel, hq⟩ := hx
  obtain ⟨cs, q1, q2, q3, q4⟩ := pick_cs (K := fun x c => Rd (· < w.heap.size) w x c ∧ ∀ y, y ∈ c.ss ∨ y ∈ c.rs → Gok y.s y.g) xs el hle hq
  have hln : cs.length ≤ 1048576 := by
    have := bulk_len el
    omega
  have hgk : ∀ c ∈ cs, ∀ x, x ∈ c.ss ∨ x ∈ c.rs → Gok x.s x.g := by
    intro c hc x hx
    obtain ⟨i, hi⟩ := List.mem_iff_getElem?.1 hc
    obtain ⟨y, hy⟩ : ∃ y, xs[i]? = some y := ⟨_, List.getElem?_eq_getElem (by rw [q1]; exact (List.getElem?_eq_some_iff.1 hi).1)⟩
    exact (q2 i y c hy hi).2 x hx
  have hwl : ∀ c ∈ cs, wl c ≤ 1048576 := fun c hc => Nat.le_trans (sum_mem (f := wl) hc) (Nat.le_trans q3 hel)
  refine ⟨cs, ⟨xs, lx, q1, fun i x c hx hc => (q2 i x c hx hc).1⟩, ⟨by omega, fun c hc => by have := q4 c hc; omega, fun c hc => by have := hwl c hc; unfold wl at this; omega, fun c hc => by have := hwl c hc; unfold wl at this; omega⟩, Nat.le_trans q3 hel, hgk⟩
/-- acts that are handed in, where all is small -/
theorem open_actsU {r : Reach} {b0 : Nat} {v : Value} {d : DataW H} {p : List MemPlace} {ds : List (DataW H)}
    (hv : Value.okWide Try.prog w r b0 22 v) (h : DataW.Trod enc Try.prog w base spare held 22 v d p) (hk : Rows.uptoSmall H ds = true) (hd : d ∈ ds) :
    ∃ xs : List Ac, Ls eA (· < w.heap.size) w v xs ∧ xs.length ≤ 1048576 ∧ ∀ x ∈ xs, Gok x.s x.g := by
  have : Inhabited Ac := ⟨⟨0, 0, 0, 0, 0, 0, false⟩⟩
  have hb : Rows.uptoBulkAll ds ≤ 1048576 := of_decide_eq_true hk
  have hb1 := Nat.le_trans (bulk_part hd) hb
  obtain ⟨va, vl, vc, rfl⟩ := okWide_slice Try.underlying22 hv
  obtain ⟨fuel, hf⟩ := h
  have hf' : DataW.trod enc Try.prog w base spare held fuel 22 [.slice va vl vc] = some (d, p) := hf
  obtain ⟨xs, lx, sx⟩ := open_gen eA Try.underlying22 cellsAc eA_len (by omega) (fun x _ => Gok x.s x.g) (fun n cs z hl h => el_act n cs z hl h) hf'
  obtain ⟨b, g⟩ := len_bulk sx
  have b' : xs.length ≤ Rows.uptoBulk d := b
  exact ⟨xs, lx, by omega, fun x hx => (g x hx).elim (fun _ q => q)⟩
end
end Go.Proofs.Ytpkbgfneebjnjaa.Lt

namespace Go.Proofs.Ytpkbgfneebjnjaa.Lt
open Go.ChangeShapes Go.WideShapes Go.ChangeAt Go.RowKit Wd

set_option maxRecDepth 100000 in
theorem loads_lifted (os : Os) (started : os.Started) (H : Type) (enc : TypeId × Value → H) (F : Stop.Interp) :
    ReturnsInHanded {} Try.checked os 4 .any ((Rows.OpenSpec.upto Rows.channelLoadsSpec).pre6 enc Try.prog Try.f4 Rows.channelLoadsUptoRow.domain false) (((Rows.OpenSpec.upto Rows.channelLoadsSpec).at F).post enc Try.prog Try.f4 false true false false) := by
  refine returnsInHanded_of_cond (C := Try.checked) (s := Rows.OpenSpec.upto Rows.channelLoadsSpec) (k := Rows.uptoSmall) rfl own started (by kernel_rfl) Try.func4
    (OpenSpec.witness (enc := enc) (C := Try.checked) (s := Rows.OpenSpec.upto Rows.channelLoadsSpec) (k := Rows.uptoSmall) rfl false ⟨#[], #[.slice none 0 0, .slice none 0 0], []⟩ 8 (by kernel_rfl) (by kernel_rfl) (by kernel_rfl)
      (x := ([.nil, .nil], [], [])) (by kernel_rfl) rfl (by kernel_rfl)) ?_
  intro W base args ds gs before hval0 hW _ hk _
  have hval : ∀ (j : Nat) t v, Try.f4.params[j]? = some t → args[j]? = some v → Value.okWide Try.prog W .any base t v := hval0
  have hW' := hW
  obtain ⟨p, q, hA0, hV, rfl, hfz, hnd⟩ := hW
  have hA : DataW.TrodAll enc Try.prog W 0 (fun _ => true) true Try.f4.params.toList args.toList ds p := hA0
  rw [Try.params4] at hA hval
  obtain ⟨v0, v1, d0, d1, p0, p1, rfl, rfl, rfl, h0, h1⟩ := trodAll_two hA
  obtain ⟨rfl, rfl⟩ := trodVars_none hV
  obtain ⟨cs0, rx0, bd0, tt0, gg0⟩ := open_states (hval 0 26 v0 rfl rfl) h0 hk (by simp)
  obtain ⟨xs1, lx1, bx1, kx1⟩ := open_actsU (hval 1 22 v1 rfl rfl) h1 hk (by simp)
  clear hA0 hval0
  simp only [List.append_nil] at hW'
  refine (loads_any (· < W.heap.size) v0 cs0 (· < W.heap.size) v1 xs1 W rx0 bd0 tt0 gg0 lx1 bx1 kx1).mono fun e W' ⟨he, hg⟩ => ?_
  subst he
  exact ⟨_, rfl, post_law2 hW' (by rw [Try.params4]) rfl Try.underlying4 rfl rfl (by kernel_rfl) (of_decide_eq_true (by kernel_rfl)) (by kernel_rfl) (of_decide_eq_true (by kernel_rfl)) h0 h1 (hg.below (fun _ x => x.elim) (Nat.le_refl _))⟩

theorem loads_holds : Rows.ChannelLoadsUptoSaid :=
  OpenClaim.holds_of_cond 4 Try.f4 rfl rfl rfl rfl rfl rfl rfl ⟨rfl, rfl, rfl, rfl, rfl⟩ rfl rfl rfl rfl rfl (by kernel_rfl) Try.func4 (by kernel_rfl)
    (of_decide_eq_true (by kernel_rfl)) (by unfold Func.isWrapper; first | (rw [if_pos (by decide +kernel)]; kernel_rfl) | (rw [if_neg (by decide +kernel)]; exact ⟨rfl, rfl⟩))
    (fun os started H enc _ F => loads_lifted os started H enc F)
end Go.Proofs.Ytpkbgfneebjnjaa.Lt
