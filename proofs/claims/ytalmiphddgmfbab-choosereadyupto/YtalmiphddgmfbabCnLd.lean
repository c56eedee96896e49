/-
  What the document's may and Load of layer 11 answer. Condition: lists are not too long.
-/
import Derived.Test.YtalmiphddgmfbabCpLdm
import Derived.Deep.Cut
namespace Go.Proofs.Ytalmiphddgmfbab.Lt
open Go.RowKit Wd
attribute [local go_sem ↓] Go.wp_at_zero Go.wp_at_succ

set_option maxHeartbeats 4000000 in
set_option maxRecDepth 20000 in
theorem rmay_all (P : Nat → Prop) (w : World) (cp : Int) (vo so ro : Option Addr) (vn vc sn sc rn rc : Nat) (cl : Bool) (vs : List Int) (ss rs : List Wt) (hvl : vn = vs.length) (hs : Ls eW P w (.slice so sn sc) ss) (hr : Ls eW P w (.slice ro rn rc) rs) (hb : sn ≤ 4398046511104 ∧ rn ≤ 4398046511104) :
    Calls Try.prog 35 #[.agg #[.int .i64 cp, .slice vo vn vc, .slice so sn sc, .slice ro rn rc, .bool cl]] w fun e w' => e = .returned (.bool (mayT cp vs ss rs cl)) ∧ Gr w w' := by
  by_cases hc : 0 ≤ cp ∧ cp ≤ 1024 ∧ (vs.length : Int) ≤ cp
  · have := may_any P w cp vo so ro vn vc sn sc rn rc cl vs ss rs hvl hs hr hc.1 hc.2.1 (by rw [hvl]; exact hc.2.2) hb
    unfold mayT
    rw [decide_eq_true hc, Bool.true_and]
    exact this
  · have HT := hid (show mayT cp vs ss rs cl = false from by unfold mayT; rw [decide_eq_false hc, Bool.false_and])
    have G1 := hid (show Gr w (w.alloc (.cells #[.int .i64 cp, .slice vo vn vc, .slice so sn sc, .slice ro rn rc, .bool cl] 70)) from Ch.alloc (Gr.refl w) _)
    by_cases a1 : cp < 0
    · have a1' : decide (cp < 0) = true := decide_eq_true a1
      clear hvl hs hr hc hb
      go_enter Try.func35, Try.ntmps35
      go_wp2_with fail
      go_ret
      exact ⟨by rw [HT.out]; try rfl, G1.out⟩
    · have a1' : decide (cp < 0) = false := decide_eq_false a1
      by_cases a2 : (1024 : Int) < cp
      · have a2' : decide ((1024 : Int) < cp) = true := decide_eq_true a2
        clear hvl hs hr hc hb
        go_enter Try.func35, Try.ntmps35
        go_wp2_with fail
        go_ret
        exact ⟨by rw [HT.out]; try rfl, G1.out⟩
      · have a2' : decide ((1024 : Int) < cp) = false := decide_eq_false a2
        have a3 : cp < (vn : Int) := by omega
        have a3' : decide (cp < (vn : Int)) = true := decide_eq_true a3
        clear hvl hs hr hc hb
        go_enter Try.func35, Try.ntmps35
        go_wp2_with fail
        go_ret
        exact ⟨by rw [HT.out]; try rfl, G1.out⟩
/-- what Load of the document tells -/
def RlR (w : World) (cs : List Cn) (e : Ending) (w' : World) : Prop := (ldB cs = true → ∃ v, e = .returned (.tuple #[v, .int .i64 0]) ∧ Nx w.heap.size w' v cs) ∧ (ldB cs = false → e = .returned (.tuple #[.slice none 0 0, .int .i64 110])) ∧ Gr w w'
set_option maxRecDepth 20000 in
set_option maxHeartbeats 4000000 in
theorem rload_walk (P : Nat → Prop) (w : World) (ao : Option Addr) (n cap : Nat) (cs : List Cn) (h : Rds P w (.slice ao n cap) cs) (hb : Bd cs) :
    Calls Try.prog 15 #[.slice ao n cap] w (RlR w cs) := by
  have hnl : n = cs.length := by
    obtain ⟨a, c, e⟩ := h.form
    injection e
  have HNL := hid hnl
  have HBD := hid hb
  have HR := hid h
  clear h hb hnl
  by_cases h1 : n ≤ 1024
  · have h1' : ¬ (1024 : Int) < (n : Int) := by omega
    have J24 := hid h1
    go_enter Try.func15, Try.ntmps15
    go_wp2_with fail
    clear h1'
    go_loopg [4] n (fun q v4 wr => ∃ (j : Nat), j + q = n ∧ v4 = .int .i64 (j : Int) ∧ Gr w wr ∧ (∀ c ∈ cs.take j, mayT c.cap c.vs c.ss c.rs c.cl = true))
    case atStart => exact ⟨0, by omega, rfl, Gr.refl w, fun c hc => by simp at hc⟩
    case round =>
      obtain ⟨j, hjq, rfl, hG, hA⟩ := hrel
      have GJ := hid hG
      have AJ := hid hA
      clear hG hA
      by_cases hj : j < n
      · obtain ⟨c, hc⟩ : ∃ c, cs[j]? = some c := ⟨_, List.getElem?_eq_getElem (by rw [← HNL.out]; exact hj)⟩
        obtain ⟨rows, hl, hrn, hf⟩ := HR.out
        obtain ⟨x, hx⟩ : ∃ x, rows[j]? = some x := ⟨_, List.getElem?_eq_getElem (by rw [hrn, ← HNL.out]; exact hj)⟩
        have hrd := hf j x c hx hc
        obtain ⟨gg, oo, cap', hv, _, hgl, _, hcs⟩ := (hl.gr GJ.out).get eR_len hx
        injection hv with hv1 hv2 hv3
        subst hv1
        clear hv2 hv3
        obtain ⟨vo, vk, ex⟩ := hrd.v.form
        obtain ⟨so, sk, ey⟩ := hrd.s.form
        obtain ⟨ro, rk, ez⟩ := hrd.r.form
        have c0 := hcs 0 _ rfl
        have c1 := hcs 1 _ rfl
        have c2 := hcs 2 _ rfl
        have c3 := hcs 3 _ rfl
        have c4 := hcs 4 _ rfl
        simp only [Nat.add_zero] at c0
        obtain ⟨xcap, xv, xs', xr, xcl⟩ := x
        dsimp only at ex ey ez c0 c1 c2 c3 c4
        subst ex ey ez
        have mem := List.mem_of_getElem? hc
        obtain ⟨vn, evn⟩ : ∃ m, m = c.vs.length := ⟨_, rfl⟩
        obtain ⟨sn, esn⟩ : ∃ m, m = c.ss.length := ⟨_, rfl⟩
        obtain ⟨rn, ern⟩ : ∃ m, m = c.rs.length := ⟨_, rfl⟩
        rw [← evn] at c1 hrd
        rw [← esn] at c2 hrd
        rw [← ern] at c3 hrd
        have bds := HBD.out.s c mem
        have bdr := HBD.out.r c mem
        have HMB := hid (rmay_all P wr xcap vo so ro vn vk sn sk rn rk xcl c.vs c.ss c.rs evn (hrd.s.gr GJ.out) (hrd.r.gr GJ.out) ⟨by omega, by omega⟩)
        have ecap : xcap = c.cap := hrd.cap
        have ecl : xcl = c.cl := hrd.cl
        have HZZ := hid (show mayT xcap c.vs c.ss c.rs xcl = mayT c.cap c.vs c.ss c.rs c.cl from by rw [ecap, ecl])
        have HC := hid hc
        have j0 : (0 : Int) ≤ (j : Int) := by omega
        have j1 : (j : Int) < (n : Int) := by omega
        clear hrd hf hl hrn hx hc mem evn esn ern ecap ecl hcs hgl bds bdr
        obtain ⟨z, hz⟩ : ∃ z, z = mayT xcap c.vs c.ss c.rs xcl := ⟨_, rfl⟩
        rw [← hz] at HMB HZZ
        clear hz
        cases z with
        | false =>
          go_wp2_with (go_at_call 35; refine HMB.out.mono ?_; rintro e w5 ⟨rfl, g5⟩; have G5 := hid g5; clear g5)
          refine bodyPost_ret (v := .tuple #[.slice none 0 0, .int .i64 110]) (by simp [results, Try.results15, go_sem]) rfl ⟨fun e => ?_, fun _ => rfl, Gr.trans GJ.out G5.out⟩
          rw [ldB_no HC.out HZZ.out.symm] at e
          cases e
        | true =>
          go_wp2_with (go_at_call 35; refine HMB.out.mono ?_; rintro e w5 ⟨rfl, g5⟩; have G5 := hid g5; clear g5)
          go_roundg (gk - 1)
          case measure => omega
          case rel =>
            refine ⟨j + 1, by omega, ?_, Gr.trans GJ.out G5.out, ?_⟩
            · first | with_reducible rfl | simp
            · intro d hd
              rw [take_one HC.out] at hd
              rcases List.mem_append.1 hd with q | q
              · exact AJ.out d q
              · rw [List.mem_singleton] at q
                rw [q]
                exact HZZ.out.symm
      · have jn : ¬ (j : Int) < (n : Int) := by omega
        have hta : cs.take j = cs := List.take_of_length_le (by rw [← HNL.out]; omega)
        rw [hta] at AJ
        clear hta
        have HCY := hid (copy_any P wr _ cs (HR.out.gr GJ.out) HBD.out)
        go_wp2_with (go_at_call 36; refine HCY.out.mono ?_; rintro e w5 ⟨v5, t5, xs5, rfl, n5, g5⟩; have N5 := hid (show Nx wr.heap.size w5 v5 cs from ⟨t5, xs5, n5⟩); have G5 := hid g5; clear n5 g5)
        refine bodyPost_ret (v := .tuple #[v5, .int .i64 0]) (by simp [results, Try.results15, go_sem]) rfl ⟨fun _ => ⟨v5, rfl, N5.out.lower GJ.out.size⟩, fun e => ?_, Gr.trans GJ.out G5.out⟩
        rw [show ldB cs = true from by unfold ldB; rw [decide_eq_true (by rw [← HNL.out]; exact J24.out), Bool.true_and]; exact List.all_eq_true.2 (fun c hc => AJ.out c hc)] at e
        cases e
  · have h1' : (1024 : Int) < (n : Int) := by omega
    have HLB := hid (show ldB cs = false from by unfold ldB; rw [decide_eq_false (by rw [← HNL.out]; exact h1), Bool.false_and])
    go_enter Try.func15, Try.ntmps15
    go_wp2_with fail
    refine bodyPost_ret (v := .tuple #[.slice none 0 0, .int .i64 110]) (by simp [results, Try.results15, go_sem]) rfl ⟨fun e => ?_, fun _ => rfl, Gr.refl w⟩
    rw [HLB.out] at e
    cases e
theorem rload_any {P : Nat → Prop} {w : World} {v : Value} {cs : List Cn} (h : Rds P w v cs) (hb : Bd cs) :
    Calls Try.prog 15 #[v] w (RlR w cs) := by
  obtain ⟨ao, cap, rfl⟩ := h.form
  exact rload_walk P w ao _ cap cs h hb
/-- channels that Load takes are good -/
theorem ldB_gd {N : Nat} {cs : List Cn} (h : ldB cs = true) (hw : tot cs ≤ N) (hg : ∀ c ∈ cs, ∀ x, x ∈ c.ss ∨ x ∈ c.rs → Gok x.s x.g) : Gd N cs := by
  unfold ldB at h
  rw [Bool.and_eq_true] at h
  have h1 := of_decide_eq_true h.1
  have h2 : ∀ c ∈ cs, 0 ≤ c.cap ∧ c.cap ≤ 1024 ∧ (c.vs.length : Int) ≤ c.cap := by
    intro c hc
    have := List.all_eq_true.1 h.2 c hc
    unfold mayT at this
    rw [Bool.and_eq_true] at this
    exact of_decide_eq_true this.1
  exact ⟨h1, fun c hc => ⟨(h2 c hc).1, (h2 c hc).2.1⟩, fun c hc => (h2 c hc).2.2, hw, hg⟩
end Go.Proofs.Ytalmiphddgmfbab.Lt
