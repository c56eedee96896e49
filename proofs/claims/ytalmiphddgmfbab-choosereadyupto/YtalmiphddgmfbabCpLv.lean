/-
  What the program's Leave of layer 11 answers and leaves: walked. Conditions: a goroutine's numbers are ints, lists are not too long.
-/
import Derived.Test.YtalmiphddgmfbabCpLv0
import Derived.Test.YtalmiphddgmfbabCpSnd
import Derived.Deep.Cut
namespace Go.Proofs.Ytalmiphddgmfbab.Lt
open Go.RowKit Wd
attribute [local go_sem ↓] Go.wp_at_zero Go.wp_at_succ

theorem Prt.next {cs ds : List Cn} {s g : Int} {hs : List Int} {j i : Nat} {c d : Cn} (h : Prt cs ds s g (hs.take j)) (hj : hs[j]? = some ((i : Int) + 1)) (hc : cs[i]? = some c) (hd : ds[i]? = some d) : Prt cs (ds.set i (d.wo s g)) s g (hs.take (j + 1)) ∧ d.ss.length ≤ c.ss.length ∧ d.rs.length ≤ c.rs.length := by
  have e := h.2 i c hc
  rw [hd] at e
  injection e with e
  have hw : ∀ ws : List Wt, (wo ws s g).length ≤ ws.length := fun ws => List.length_filter_le _ _
  have hdw : d.wo s g = c.wo s g := by
    rw [e]
    split
    · unfold Cn.wo
      dsimp only
      rw [wo_same, wo_same]
    · rfl
  refine ⟨⟨by rw [List.length_set]; exact h.1, fun k x hx => ?_⟩, ?_, ?_⟩
  · by_cases ek : i = k
    · subst ek
      rw [hc] at hx
      injection hx with hx
      subst hx
      rw [List.getElem?_set_self (List.getElem?_eq_some_iff.1 hd).1, hdw, if_pos]
      rw [take_one hj]
      exact List.mem_append_right _ (by simp)
    · rw [List.getElem?_set_ne ek, h.2 k x hx]
      congr 1
      have : (((k + 1 : Nat) : Int) ∈ hs.take (j + 1)) ↔ (((k + 1 : Nat) : Int) ∈ hs.take j) := by
        rw [take_one hj, List.mem_append]
        constructor
        · rintro (h1 | h1)
          · exact h1
          · simp at h1; omega
        · exact .inl
      simp only [this]
  · rw [e]; split
    · exact hw _
    · exact Nat.le_refl _
  · rw [e]; split
    · exact hw _
    · exact Nat.le_refl _
structure Sv (w : World) (b : Nat) (v : Value) (s g : Int) (k : Nat) (W : World) : Prop where
  me : W.heap[b]? = some (.cells #[v, .map (some k)] 74 (0, 0))
  bx : W.heap[w.heap.size]? = some (.cells #[.int .i64 s, .int .i64 g] 24 (0, 0))
structure Sg (w : World) (s g : Int) (W : World) : Prop where
  bx : W.heap[w.heap.size]? = some (.cells #[.int .i64 s, .int .i64 g] 24 (0, 0))
theorem Sg.ch {w W W' : World} {s g : Int} {S : Nat → Prop} (h : Sg w s g W) (c : Ch S W W') (hn : ¬ S w.heap.size) : Sg w s g W' := ⟨(c.block _ (lt_of_block h.bx) hn).trans h.bx⟩
theorem Prt.end2 {cs ds : List Cn} {s g : Int} {hs : List Int} (h : Prt cs ds s g hs) (hp : ∀ (i : Nat) (c : Cn), cs[i]? = some c → 0 < c.pl s g → ((i + 1 : Nat) : Int) ∈ hs) : ds = lvs cs s g := by
  apply List.ext_getElem?
  intro i
  unfold lvs
  rw [List.getElem?_map]
  cases hc : cs[i]? with
  | none => rw [List.getElem?_eq_none (by rw [h.1]; exact List.getElem?_eq_none_iff.1 hc)]; rfl
  | some c =>
    rw [h.2 i c hc]
    show some _ = some (c.wo s g)
    congr 1
    by_cases e : ((i + 1 : Nat) : Int) ∈ hs
    · rw [if_pos e]
    · rw [if_neg e]
      have hz : c.pl s g = 0 := by
        rcases Nat.eq_zero_or_pos (c.pl s g) with z | z
        · exact z
        · exact (e (hp i c hc z)).elim
      unfold Cn.pl at hz
      unfold Cn.wo
      have f1 : wo c.ss s g = c.ss := by
        have l := List.length_filter_le (fun x : Wt => !(x.s == s && x.g == g)) c.ss
        have : (c.ss.filter (fun x : Wt => !(x.s == s && x.g == g))).length = c.ss.length := by unfold wo at hz; omega
        exact List.filter_eq_self.2 (List.length_filter_eq_length_iff.1 this)
      have f2 : wo c.rs s g = c.rs := by
        have l := List.length_filter_le (fun x : Wt => !(x.s == s && x.g == g)) c.rs
        have : (c.rs.filter (fun x : Wt => !(x.s == s && x.g == g))).length = c.rs.length := by unfold wo at hz; omega
        exact List.filter_eq_self.2 (List.length_filter_eq_length_iff.1 this)
      rw [f1, f2]
/-- what Leave tells and leaves, where the map speaks of other channels -/
def LeB (t : Nat → Tg) (w : World) (b : Nat) (v : Value) (cs fs : List Cn) (s g : Int) (e : Ending) (w' : World) : Prop := e = .returned (.int .i64 (pls fs s g : Nat)) ∧ ∃ t', Ct t' w' b v (lvs cs s g) (lvs fs s g) ∧ Tn t t' w w'
set_option maxRecDepth 40000 in
set_option maxHeartbeats 8000000 in
theorem leaveB_any {t : Nat → Tg} {w : World} {b : Nat} {v : Value} {cs fs : List Cn} {s g : Int} (h : Ct t w b v cs fs) (hle : fs.length = cs.length) (hcv : ∀ (i : Nat) (c f : Cn), cs[i]? = some c → fs[i]? = some f → 0 < c.pl s g → 0 < f.pl s g) (hk : Gok s g) (hn : cs.length ≤ 1024) (hb : Bw cs) (hp : pls fs s g ≤ 4398046511104) : Calls Try.prog 68 #[.pointer (some ⟨b, 0, none⟩), .agg #[.int .i64 s, .int .i64 g]] w (LeB t w b v cs fs s g) := by
  have HLE := hid hle
  have HCV := hid hcv
  clear hle hcv
  obtain ⟨k, xs, M, clock, h⟩ := h
  obtain ⟨ao, n, cap, hs, hnn, hperm, hol, htl, hL⟩ := h.mp.lookL hk
  obtain ⟨w1, hw1⟩ : ∃ W, W = w.alloc (.cells #[.int .i64 s, .int .i64 g] 24) := ⟨_, rfl⟩
  have g1 : Gr w w1 := by rw [hw1]; exact Ch.alloc (Gr.refl w) _
  have hno : t w.heap.size = .no := by
    rcases Classical.em (t w.heap.size = .no) with e | e
    · exact e
    · have := h.hi _ e; omega
  have LK := hid hL
  have HG := hid (given_any (gr_blk h.me g1))
  have hS0 : Sw w b v k M clock s g (World.drew w1) := ⟨gr_blk h.me (Ch.drew g1), (h.mp.at_.ch (Ch.drew g1) (noB _)), by rw [hw1]; exact (MapKept.heap_alloc w _).1, Ch.drew g1⟩
  have HCA := hid h
  have HK := hid hk
  have HN := hid hn
  have HBW := hid hb
  have HPM := hid hperm
  have HOL := hid hol
  have HTL := hid htl
  have HNO := hid hno
  have HNN := hid hnn
  unfold LeB
  rw [← hnn]
  rw [← hnn] at hp
  rw [hw1] at HG
  clear h hL hk hn hb hperm hol htl hno hnn g1
  go_enter Try.func68, Try.ntmps68
  go_wp2_with (go_at_call 27; refine HG.out.mono ?_; rintro e w2 ⟨rfl, hw2⟩; rw [← hw1] at hw2; subst hw2; clear hw1)
  refine wp_region_held_drew (S := Sw w b v k M clock s g) (by kernel_rfl) (by exact hS0) (fun _ => ?_)
  generalize World.drew w2 = V0 at hS0 ⊢
  refine takeS_on (i := 0) 12 (v := ?v1) rfl rfl (by kernel_rfl) (by kernel_rfl) (by kernel_rfl) (fun _ _ _ h => h) (by kernel_rfl) ?hy1 (by exact hS0) ?_
  case hy1 => (intro w' hSw; go_simp; try (with_reducible rfl))
  simp only [Act.put, List.setIfInBounds_toArray, List.set_cons_zero, List.set_cons_succ]
  refine takeS_on (i := 1) 13 (v := ?v2) rfl rfl (by kernel_rfl) (by kernel_rfl) (by kernel_rfl) (fun _ _ _ h => h) (by kernel_rfl) ?hy2 (by exact hS0) ?_
  case hy2 => (intro w' hSw; go_simp; try (with_reducible rfl))
  simp only [Act.put, List.setIfInBounds_toArray, List.set_cons_zero, List.set_cons_succ]
  refine takeS_on (i := 2) 14 (v := ?v3) rfl rfl (by kernel_rfl) (by kernel_rfl) (by kernel_rfl) (fun _ _ _ h => h) (by kernel_rfl) ?hy3 (by exact hS0) ?_
  case hy3 => (intro w' hSw; go_simp; try (with_reducible rfl))
  simp only [Act.put, List.setIfInBounds_toArray, List.set_cons_zero, List.set_cons_succ]
  refine takeS_on (i := 3) 15 (v := ?v4) rfl rfl (by kernel_rfl) (by kernel_rfl) (by kernel_rfl) (fun _ _ _ h => h) (by kernel_rfl) ?hy4 (by exact hS0) ?_
  case hy4 => (intro w' hSw; have c1 := cell_of hSw.me 1; simp at c1; go_simp; try (with_reducible rfl))
  simp only [Act.put, List.setIfInBounds_toArray, List.set_cons_zero, List.set_cons_succ]
  refine takeS_on (i := 4) 16 (v := ?v5) rfl rfl (by kernel_rfl) (by kernel_rfl) (by kernel_rfl) (fun _ _ _ h => h) (by kernel_rfl) ?hy5 (by exact hS0) ?_
  case hy5 => (intro w' hSw; refine Eq.trans (exec_row 24 (.tmp 3) rfl _ rfl _ _ _ _ hSw.bx Try.underlying24 rfl gid_size) ?_; with_reducible rfl)
  simp only [Act.put, List.setIfInBounds_toArray, List.set_cons_zero, List.set_cons_succ]
  refine takeS_on (i := 5) 17 (v := ?v6) rfl rfl (by kernel_rfl) (by kernel_rfl) (by kernel_rfl) (fun _ _ _ h => h) (by kernel_rfl) ?hy6 (by exact hS0) ?_
  case hy6 => (intro w' hSw; have hl := LK.out w' hSw.m; go_simp; try (with_reducible rfl))
  simp only [Act.put, List.setIfInBounds_toArray, List.set_cons_zero, List.set_cons_succ]
  refine takeS_on (i := 6) 5 (v := ?v7) rfl rfl (by kernel_rfl) (by kernel_rfl) (by kernel_rfl) (fun _ _ _ h => h) (by kernel_rfl) ?hy7 (by exact hS0) ?_
  case hy7 => (intro w' hSw; go_simp; try (with_reducible rfl))
  simp only [Act.put, List.setIfInBounds_toArray, List.set_cons_zero, List.set_cons_succ]
  refine wpAnyH_done (by kernel_rfl) ?_ _
  go_wp2_with fail
  have hS1 : Sv w b v s g k (World.drew V0) := ⟨hS0.me, hS0.bx⟩
  have GV : Gr w (World.drew V0) := Ch.drew hS0.g
  have HMV : MAt (World.drew V0) k M clock := hS0.m
  clear hS0
  obtain ⟨M', hrun, hsub, hnoG, hmem⟩ := delG (s := s) (g := g) HMV HCA.out.mp.ok HK.out HCA.out.mp.one 0
  unfold kG at hrun
  have NBK := hid (show b ≠ k from fun e => by have e1 := HCA.out.tb; rw [e, HCA.out.tk] at e1; cases e1)
  have NSK := hid (show w.heap.size ≠ k from by have := HCA.out.mp.at_.lt; omega)
  refine wp_region_held_drew (S := Sv w b v s g k) (by kernel_rfl) (by exact hS1) (fun _ => ?_)
  generalize World.drew V0 = V1 at hS1 GV HMV hrun ⊢
  have KP := putM_ch V1 k M' clock
  have hS2 : Sv w b v s g k (putM V1 k M' clock) := ⟨(KP.block b (lt_of_block hS1.me) (fun e => NBK.out e)).trans hS1.me, (KP.block _ (lt_of_block hS1.bx) (fun e => NSK.out e)).trans hS1.bx⟩
  refine takeS_on (i := 0) 18 (v := ?v8) rfl rfl (by kernel_rfl) (by kernel_rfl) (by kernel_rfl) (fun _ _ _ h => h) (by kernel_rfl) ?hy8 (by exact hS1) ?_
  case hy8 => (intro w' hSw; go_simp; try (with_reducible rfl))
  simp only [Act.put, List.setIfInBounds_toArray, List.set_cons_zero, List.set_cons_succ]
  refine takeS_on (i := 1) 19 (v := ?v9) rfl rfl (by kernel_rfl) (by kernel_rfl) (by kernel_rfl) (fun _ _ _ h => h) (by kernel_rfl) ?hy9 (by exact hS1) ?_
  case hy9 => (intro w' hSw; go_simp; try (with_reducible rfl))
  simp only [Act.put, List.setIfInBounds_toArray, List.set_cons_zero, List.set_cons_succ]
  refine takeS_on (i := 2) 20 (v := ?v10) rfl rfl (by kernel_rfl) (by kernel_rfl) (by kernel_rfl) (fun _ _ _ h => h) (by kernel_rfl) ?hy10 (by exact hS1) ?_
  case hy10 => (intro w' hSw; go_simp; try (with_reducible rfl))
  simp only [Act.put, List.setIfInBounds_toArray, List.set_cons_zero, List.set_cons_succ]
  refine takeS_on (i := 3) 21 (v := ?v11) rfl rfl (by kernel_rfl) (by kernel_rfl) (by kernel_rfl) (fun _ _ _ h => h) (by kernel_rfl) ?hy11 (by exact hS1) ?_
  case hy11 => (intro w' hSw; have c1 := cell_of hSw.me 1; simp at c1; go_simp; try (with_reducible rfl))
  simp only [Act.put, List.setIfInBounds_toArray, List.set_cons_zero, List.set_cons_succ]
  refine takeS_on (i := 4) 22 (v := ?v12) rfl rfl (by kernel_rfl) (by kernel_rfl) (by kernel_rfl) (fun _ _ _ h => h) (by kernel_rfl) ?hy12 (by exact hS1) ?_
  case hy12 => (intro w' hSw; refine Eq.trans (exec_row 24 (.tmp 3) rfl _ rfl _ _ _ _ hSw.bx Try.underlying24 rfl gid_size) ?_; with_reducible rfl)
  simp only [Act.put, List.setIfInBounds_toArray, List.set_cons_zero, List.set_cons_succ]
  refine wpAnyH_ready (rs := [5]) (by kernel_rfl) (by simp) (AllReadyH.cons rfl (fun K hK => ?_) AllReadyH.nil)
  go_simp
  refine hK.out _ _ (by exact hS2) (fun _ => ?_)
  clear hK K
  refine wpAnyH_done (by kernel_rfl) ?_ _
  have hCB : Cb t (putM V1 k M' clock) b k v xs M' clock cs (lvs fs s g) := ⟨hS2.me, HCA.out.tb, HCA.out.tk, ((HCA.out.nl.gr GV).ch KP (fun q e => by have e1 : q = k := e; rw [e1, HCA.out.tk]; decide)), (((HCA.out.mp.ch HCA.out.tk GV (fun _ q => q.elim)).del HCA.out.tk hsub hnoG hmem)), fun q hq => Nat.lt_of_lt_of_le (HCA.out.hi q hq) (Nat.le_trans GV.size KP.size)⟩
  have hTN : Tn t t w (putM V1 k M' clock) := ⟨(GV.any).trans KP (fun q e => .inl (by have e1 : q = k := e; rw [e1, HCA.out.tk]; exact fun e => by cases e)), fun _ _ h => h⟩
  have hOL : Ow eI 1 2 0 (putM V1 k M' clock) (.slice ao n cap) hs := (HOL.out.gr GV).ch KP (fun q hq e => by have e1 : q = k := e; have e2 := HTL.out q hq; rw [e1, HCA.out.tk] at e2; cases e2)
  have hGB : Sg w s g (putM V1 k M' clock) := ⟨hS2.bx⟩
  have CB := hid hCB
  have TN := hid hTN
  have OL := hid hOL
  have GB := hid hGB
  clear hCB hTN hOL hGB hS1 hS2 KP hrun hsub hnoG hmem GV HMV
  go_wp2_with fail
  generalize putM V1 k M' clock = V2 at CB TN OL GB ⊢
  go_loopg [25] n (fun q v25 wr => ∃ (j : Nat) (t1 : Nat → Tg) (xs1 : List Rw) (ds : List Cn), j + q = n ∧ v25 = .int .i64 (j : Int) ∧ Prt cs ds s g (hs.take j) ∧ Cb t1 wr b k v xs1 M' clock ds (lvs fs s g) ∧ Tn t t1 w wr ∧ Ow eI 1 2 0 wr (.slice ao n cap) hs ∧ (∀ q, Blk (.slice ao n cap) q → t1 q = .pl s g) ∧ Sg w s g wr ∧ t1 w.heap.size = .no)
  case atStart => exact ⟨0, t, xs, cs, by omega, rfl, ⟨rfl, fun i c hc => by rw [hc]; simp⟩, CB.out, TN.out, OL.out, HTL.out, GB.out, HNO.out⟩
  case round =>
    clear CB TN OL GB
    obtain ⟨j, t1, xs1, ds, hjq, rfl, hP, hC, hT, hO, hB, hS, hz⟩ := hrel
    have RP := hid hP
    have RC := hid hC
    have RT := hid hT
    have RO := hid hO
    have RB := hid hB
    have RS := hid hS
    have RZ := hid hz
    have HHL := hid hO.len.1
    clear hP hC hT hO hB hS hz
    by_cases hj : j < n
    · obtain ⟨x, hx⟩ : ∃ x, hs[j]? = some x := ⟨_, List.getElem?_eq_getElem (by have := HHL.out; omega)⟩
      obtain ⟨i, cf, hcf, hpos, hxe⟩ := plA_mem.1 (HPM.out.mem_iff.1 (List.mem_of_getElem? hx))
      obtain ⟨c, hc⟩ : ∃ c, cs[i]? = some c := ⟨_, List.getElem?_eq_getElem (by rw [← HLE.out]; exact (List.getElem?_eq_some_iff.1 hcf).1)⟩
      clear hcf
      rw [Nat.zero_add] at hxe
      obtain rfl : x = (i : Int) + 1 := by rw [hxe]; simp
      have hil := (List.getElem?_eq_some_iff.1 hc).1
      obtain ⟨d, hd⟩ : ∃ d, ds[i]? = some d := ⟨_, List.getElem?_eq_getElem (by rw [RP.out.1]; exact hil)⟩
      obtain ⟨gn, ls, lr⟩ := RP.out.next hx hc hd
      have GN := hid gn
      have hbc := HBW.out c (List.mem_of_getElem? hc)
      obtain ⟨gl, cl, el, -, hgl, -, hcl, -, -⟩ := RO.out.get eI_len hx
      injection el with el eln elc
      subst el
      clear eln elc
      have c0 := hcl 0 _ rfl
      simp only [Nat.mul_one, Nat.add_zero] at c0
      obtain ⟨gO, ca, y, ev, tO, hy, hone, h5⟩ := RC.out.nl.at hd
      obtain ⟨so, sk, es⟩ := hone.s.form
      have me0 := cell_of RC.out.me 0
      rw [ev, RP.out.1] at me0
      simp at me0
      have j0 : (0 : Int) ≤ (j : Int) := by omega
      have j1 : (j : Int) < (n : Int) := by omega
      have i0 : (0 : Int) ≤ (i : Int) := by omega
      have i1 : (i : Int) < (cs.length : Int) := by omega
      have hcn := HN.out
      have c2 : (World.drew wr).cell? ⟨gO, i * 5 + 2, none⟩ = some (.slice so d.ss.length sk) := by rw [← es]; exact h5.c2
      have HA := hid (RC.out.gr (Ch.drew (Gr.refl wr)))
      have HAO := hid (show Ow eW 4 95 0 (World.drew wr) (.slice so d.ss.length sk) d.ss from es ▸ hone.s)
      have HAT := hid (show Tn t t1 w (World.drew wr) from RT.out.then (Ch.drew (Gr.refl wr)))
      have HAL := hid (show Ow eI 1 2 0 (World.drew wr) (.slice (some ⟨gl, 0, none⟩) n cap) hs from RO.out.gr (Ch.drew (Gr.refl wr)))
      have HAN := hid (show d.ss.length ≤ 4398046511104 from Nat.le_trans ls hbc.1)
      have HAX := hid hy
      have HAC := hid hd
      have HAV := hid es
      have HAB := hid (show ¬ Blk (.slice so d.ss.length sk) w.heap.size from fun hq => by have e1 := hone.ts _ (by rw [es]; exact hq); rw [RZ.out] at e1; cases e1)
      have HAG := hid (show ¬ (w.heap.size = gO) from fun e => by have e1 := RZ.out; rw [e, tO] at e1; cases e1)
      have HLR := hid (Nat.le_trans lr hbc.2)
      have hSa : Sg w s g (World.drew wr) := ⟨RS.out.bx⟩
      have HVV := hid ev
      have HX := hid hx
      generalize d.ss.length = sn at c2 HAO HAN HAV HAB
      clear hx hc hpos hxe hd gn ls lr hbc hcl hgl ev hone h5 es tO hy hil
      go_wp2_with fail
      refine wp_region_held_drew (S := Sg w s g) (by kernel_rfl) (by exact hSa) (fun _ => ?_)
      generalize World.drew wr = a0 at hSa HA HAO HAT HAL c2 ⊢
      refine takeS_on (i := 0) 36 (v := ?v13) rfl rfl (by kernel_rfl) (by kernel_rfl) (by kernel_rfl) (fun _ _ _ h => h) (by kernel_rfl) ?hy13 (by exact hSa) ?_
      case hy13 => (intro w' hSw; go_simp; try (with_reducible rfl))
      simp only [Act.put, List.setIfInBounds_toArray, List.set_cons_zero, List.set_cons_succ]
      refine takeS_on (i := 1) 37 (v := ?v14) rfl rfl (by kernel_rfl) (by kernel_rfl) (by kernel_rfl) (fun _ _ _ h => h) (by kernel_rfl) ?hy14 (by exact hSa) ?_
      case hy14 => (intro w' hSw; go_simp; try (with_reducible rfl))
      simp only [Act.put, List.setIfInBounds_toArray, List.set_cons_zero, List.set_cons_succ]
      refine takeS_on (i := 2) 38 (v := ?v15) rfl rfl (by kernel_rfl) (by kernel_rfl) (by kernel_rfl) (fun _ _ _ h => h) (by kernel_rfl) ?hy15 (by exact hSa) ?_
      case hy15 => (intro w' hSw; go_simp; try (with_reducible rfl))
      simp only [Act.put, List.setIfInBounds_toArray, List.set_cons_zero, List.set_cons_succ]
      refine takeS_on (i := 3) 39 (v := ?v16) rfl rfl (by kernel_rfl) (by kernel_rfl) (by kernel_rfl) (fun _ _ _ h => h) (by kernel_rfl) ?hy16 (by exact hSa) ?_
      case hy16 => (intro w' hSw; go_simp; try (with_reducible rfl))
      simp only [Act.put, List.setIfInBounds_toArray, List.set_cons_zero, List.set_cons_succ]
      refine takeS_on (i := 5) 41 (v := ?v17) rfl rfl (by kernel_rfl) (by kernel_rfl) (by kernel_rfl) (fun _ _ _ h => h) (by kernel_rfl) ?hy17 (by exact hSa) ?_
      case hy17 => (intro w' hSw; refine Eq.trans (exec_row 24 (.tmp 3) rfl _ rfl _ _ _ _ hSw.bx Try.underlying24 rfl gid_size) ?_; with_reducible rfl)
      simp only [Act.put, List.setIfInBounds_toArray, List.set_cons_zero, List.set_cons_succ]
      refine wpAnyH_ready (rs := [4]) (by kernel_rfl) (by simp) (AllReadyH.cons rfl (fun K hK => ?_) AllReadyH.nil)
      go_simp
      refine hK.out _ _ (by exact hSa) (fun _ => ?_)
      clear hK K
      refine wpAnyH_ready (rs := [6]) (by kernel_rfl) (by simp) (AllReadyH.cons rfl (fun K hK => ?_) AllReadyH.nil)
      go_simp
      refine (without_any 0 _ _ _ _ _ s g HAO.out HAN.out).mono ?_
      rintro e a5 ⟨ma, rfl, o5, k5⟩
      obtain ⟨gOa, caa, ta, e5, l5, p5, f5, b5, n5, q5, h5⟩ := HA.out.sets HAX.out HAC.out (by rw [HAV.out]; exact k5) o5 (by rw [HAV.out]; exact fun q hq => .inl (hq.len _))
      rw [HVV.out] at e5
      injection e5 with e5 _ _
      injection e5 with e5
      injection e5 with e5 _ _
      subst e5
      rw [HAV.out] at p5
      have HZA := hid (show w.heap.size < a0.heap.size from lt_of_block hSa.bx)
      have hS1 : Sg w s g a5 := hSa.ch k5 (fun hq => HAB.out hq)
      have hS2 : Sg w s g ((a5).setCell ⟨gO, i * 5 + 2, none⟩ (.slice so ma sk)) := hS1.ch (Ch.own (Ch.refl (Only gO) _) _ _) (fun e => HAG.out e)
      have aB := hid b5
      have aN := hid n5
      have aQ := hid q5
      have aH := hid h5
      clear o5 k5 b5 n5 q5 h5
      refine hK.out _ _ (by exact hS1) (fun _ => ?_)
      clear hK K
      refine takeS_on (i := 7) 43 (v := ?v18) rfl rfl (by kernel_rfl) (by kernel_rfl) (by kernel_rfl) (fun _ _ _ h => h) (by kernel_rfl) ?hy18 (by exact hS1) ?_
      case hy18 => (intro w' hSw; go_simp; try (with_reducible rfl))
      simp only [Act.put, List.setIfInBounds_toArray, List.set_cons_zero, List.set_cons_succ]
      refine takeS_on (i := 8) 44 (v := ?v19) rfl rfl (by kernel_rfl) (by kernel_rfl) (by kernel_rfl) (fun _ _ _ h => h) (by kernel_rfl) ?hy19 (by exact hS1) ?_
      case hy19 => (intro w' hSw; go_simp; try (with_reducible rfl))
      simp only [Act.put, List.setIfInBounds_toArray, List.set_cons_zero, List.set_cons_succ]
      refine wpAnyH_ready (rs := [9]) (by kernel_rfl) (by simp) (AllReadyH.cons rfl (fun K hK => ?_) AllReadyH.nil)
      go_simp
      refine hK.out _ _ (by exact hS2) (fun _ => ?_)
      clear hK K
      refine wpAnyH_done (by kernel_rfl) ?_ _
      generalize World.setCell a5 _ _ = wb at aB aN aQ hS2 ⊢
      clear hSa hS1 p5 f5 l5 c2 c0 me0 HA HAO HAX HAV HAB
      have NT2 := hid (Tn.trans HAT.out aN.out)
      have NL2 := hid (HAL.out.ch aQ.out (fun q hq hin => by rw [RB.out q hq] at hin; cases hin))
      have NB2 := hid (show ∀ q, Blk (.slice (some ⟨gl, 0, none⟩) n cap) q → ta q = .pl s g from fun q hq => (aH.out q (HAL.out.blk hq).2).trans (RB.out q hq))
      have NZ2 := hid (show ta w.heap.size = .no from aN.out.o _ HZA.out RZ.out)
      have hd2 : (ds.set i ⟨d.cap, d.vs, wo d.ss s g, d.rs, d.cl⟩)[i]? = some ⟨d.cap, d.vs, wo d.ss s g, d.rs, d.cl⟩ := List.getElem?_set_self (List.getElem?_eq_some_iff.1 HAC.out).1
      obtain ⟨gO2, ca2, y2, ev2, tO2, hy2, hone2, h52⟩ := aB.out.nl.at hd2
      rw [HVV.out] at ev2
      injection ev2 with ev2 ev3 ev4
      injection ev2 with ev2
      injection ev2 with ev2 _ _
      subst ev2
      clear ev3 ev4
      obtain ⟨ro, rk, er⟩ := hone2.r.form
      dsimp only at er
      have c3 : (World.drew wb).cell? ⟨gO, i * 5 + 3, none⟩ = some (.slice ro d.rs.length rk) := by rw [← er]; exact h52.c3
      have HE := hid (aB.out.gr (Ch.drew (Gr.refl wb)))
      have HEO := hid (show Ow eW 4 95 0 (World.drew wb) (.slice ro d.rs.length rk) d.rs from er ▸ hone2.r)
      have HET := hid (show Tn t ta w (World.drew wb) from NT2.out.then (Ch.drew (Gr.refl wb)))
      have HEL := hid (show Ow eI 1 2 0 (World.drew wb) (.slice (some ⟨gl, 0, none⟩) n cap) hs from NL2.out.gr (Ch.drew (Gr.refl wb)))
      have HEN := hid HLR.out
      have HEX := hid hy2
      have HEC := hid hd2
      have HEV := hid er
      have HEB := hid (show ¬ Blk (.slice ro d.rs.length rk) w.heap.size from fun hq => by have e1 := hone2.tr _ (by rw [er]; exact hq); rw [NZ2.out] at e1; cases e1)
      have HEG := hid (show ¬ (w.heap.size = gO) from HAG.out)
      have hSa : Sg w s g (World.drew wb) := ⟨hS2.bx⟩
      have HDD := hid (show (ds.set i ⟨d.cap, d.vs, wo d.ss s g, d.rs, d.cl⟩).set i ⟨d.cap, d.vs, wo d.ss s g, wo d.rs s g, d.cl⟩ = ds.set i (d.wo s g) from List.set_set ..)
      generalize d.rs.length = rn at c3 HEO HEN HEV HEB
      clear hd2 hy2 hone2 h52 er tO2 aB aN aQ aH hS2 NT2 NL2 HAT HAL
      go_wp2_with fail
      refine wp_region_held_drew (S := Sg w s g) (by kernel_rfl) (by exact hSa) (fun _ => ?_)
      generalize World.drew wb = c0 at hSa HE HEO HET HEL c3 ⊢
      refine takeS_on (i := 0) 45 (v := ?v20) rfl rfl (by kernel_rfl) (by kernel_rfl) (by kernel_rfl) (fun _ _ _ h => h) (by kernel_rfl) ?hy20 (by exact hSa) ?_
      case hy20 => (intro w' hSw; go_simp; try (with_reducible rfl))
      simp only [Act.put, List.setIfInBounds_toArray, List.set_cons_zero, List.set_cons_succ]
      refine takeS_on (i := 1) 46 (v := ?v21) rfl rfl (by kernel_rfl) (by kernel_rfl) (by kernel_rfl) (fun _ _ _ h => h) (by kernel_rfl) ?hy21 (by exact hSa) ?_
      case hy21 => (intro w' hSw; go_simp; try (with_reducible rfl))
      simp only [Act.put, List.setIfInBounds_toArray, List.set_cons_zero, List.set_cons_succ]
      refine takeS_on (i := 2) 47 (v := ?v22) rfl rfl (by kernel_rfl) (by kernel_rfl) (by kernel_rfl) (fun _ _ _ h => h) (by kernel_rfl) ?hy22 (by exact hSa) ?_
      case hy22 => (intro w' hSw; go_simp; try (with_reducible rfl))
      simp only [Act.put, List.setIfInBounds_toArray, List.set_cons_zero, List.set_cons_succ]
      refine takeS_on (i := 3) 48 (v := ?v23) rfl rfl (by kernel_rfl) (by kernel_rfl) (by kernel_rfl) (fun _ _ _ h => h) (by kernel_rfl) ?hy23 (by exact hSa) ?_
      case hy23 => (intro w' hSw; go_simp; try (with_reducible rfl))
      simp only [Act.put, List.setIfInBounds_toArray, List.set_cons_zero, List.set_cons_succ]
      refine takeS_on (i := 5) 50 (v := ?v24) rfl rfl (by kernel_rfl) (by kernel_rfl) (by kernel_rfl) (fun _ _ _ h => h) (by kernel_rfl) ?hy24 (by exact hSa) ?_
      case hy24 => (intro w' hSw; refine Eq.trans (exec_row 24 (.tmp 3) rfl _ rfl _ _ _ _ hSw.bx Try.underlying24 rfl gid_size) ?_; with_reducible rfl)
      simp only [Act.put, List.setIfInBounds_toArray, List.set_cons_zero, List.set_cons_succ]
      refine wpAnyH_ready (rs := [4]) (by kernel_rfl) (by simp) (AllReadyH.cons rfl (fun K hK => ?_) AllReadyH.nil)
      go_simp
      refine hK.out _ _ (by exact hSa) (fun _ => ?_)
      clear hK K
      refine wpAnyH_ready (rs := [6]) (by kernel_rfl) (by simp) (AllReadyH.cons rfl (fun K hK => ?_) AllReadyH.nil)
      go_simp
      refine (without_any 0 _ _ _ _ _ s g HEO.out HEN.out).mono ?_
      rintro e c5 ⟨mc, rfl, o5, k5⟩
      obtain ⟨gOc, cac, tc, e5, l5, p5, f5, b5, n5, q5, h5⟩ := HE.out.setr HEX.out HEC.out (by rw [HEV.out]; exact k5) o5 (by rw [HEV.out]; exact fun q hq => .inl (hq.len _))
      rw [HVV.out] at e5
      injection e5 with e5 _ _
      injection e5 with e5
      injection e5 with e5 _ _
      subst e5
      rw [HEV.out] at p5
      have HZC := hid (show w.heap.size < c0.heap.size from lt_of_block hSa.bx)
      have hS1 : Sg w s g c5 := hSa.ch k5 (fun hq => HEB.out hq)
      have hS2 : Sg w s g ((c5).setCell ⟨gO, i * 5 + 3, none⟩ (.slice ro mc rk)) := hS1.ch (Ch.own (Ch.refl (Only gO) _) _ _) (fun e => HEG.out e)
      have cB := hid b5
      have cN := hid n5
      have cQ := hid q5
      have cH := hid h5
      clear o5 k5 b5 n5 q5 h5
      refine hK.out _ _ (by exact hS1) (fun _ => ?_)
      clear hK K
      refine takeS_on (i := 7) 52 (v := ?v25) rfl rfl (by kernel_rfl) (by kernel_rfl) (by kernel_rfl) (fun _ _ _ h => h) (by kernel_rfl) ?hy25 (by exact hS1) ?_
      case hy25 => (intro w' hSw; go_simp; try (with_reducible rfl))
      simp only [Act.put, List.setIfInBounds_toArray, List.set_cons_zero, List.set_cons_succ]
      refine takeS_on (i := 8) 53 (v := ?v26) rfl rfl (by kernel_rfl) (by kernel_rfl) (by kernel_rfl) (fun _ _ _ h => h) (by kernel_rfl) ?hy26 (by exact hS1) ?_
      case hy26 => (intro w' hSw; go_simp; try (with_reducible rfl))
      simp only [Act.put, List.setIfInBounds_toArray, List.set_cons_zero, List.set_cons_succ]
      refine wpAnyH_ready (rs := [9]) (by kernel_rfl) (by simp) (AllReadyH.cons rfl (fun K hK => ?_) AllReadyH.nil)
      go_simp
      refine hK.out _ _ (by exact hS2) (fun _ => ?_)
      clear hK K
      refine wpAnyH_done (by kernel_rfl) ?_ _
      generalize World.setCell c5 _ _ = wd at cB cN cQ hS2 ⊢
      clear hSa hS1 p5 f5 l5 c3
      go_wp2_with fail
      go_roundg (gk - 1)
      case measure => omega
      case rel => exact ⟨j + 1, tc, _, _, by omega, by simp, GN.out, by have := cB.out; rw [HDD.out] at this; exact this, Tn.trans HET.out cN.out, HEL.out.ch cQ.out (fun q hq hin => by rw [NB2.out q hq] at hin; cases hin), (fun q hq => (cH.out q (HEL.out.blk hq).2).trans (NB2.out q hq)), hS2, cN.out.o _ HZC.out NZ2.out⟩
    · have jn : ¬ (j : Int) < (n : Int) := by omega
      have HE := hid (RP.out.end2 (fun i c hc hz => by
        rw [List.take_of_length_le (by have := HHL.out; omega)]
        obtain ⟨f, hf⟩ : ∃ f, fs[i]? = some f := ⟨_, List.getElem?_eq_getElem (by rw [HLE.out]; exact (List.getElem?_eq_some_iff.1 hc).1)⟩
        exact HPM.out.mem_iff.2 (plA_mem.2 ⟨i, f, hf, HCV.out i c f hc hf hz, by rw [Nat.zero_add]⟩)))
      go_wp2
      go_ret
      refine ⟨rfl, t1, ⟨k, xs1, M', clock, ?_⟩, RT.out⟩
      have := RC.out
      rw [HE.out] at this
      exact this
/-- what Leave tells and leaves -/
def LeR (t : Nat → Tg) (w : World) (b : Nat) (cs : List Cn) (s g : Int) (e : Ending) (w' : World) : Prop := e = .returned (.int .i64 (pls cs s g : Nat)) ∧ ∃ t', Cs t' w' b (lvs cs s g) ∧ Tn t t' w w'
theorem leave_any {t : Nat → Tg} {w : World} {b : Nat} {cs : List Cn} {s g : Int} (h : Cs t w b cs) (hk : Gok s g) (hn : cs.length ≤ 1024) (hb : Bw cs) (hp : pls cs s g ≤ 4398046511104) : Calls Try.prog 68 #[.pointer (some ⟨b, 0, none⟩), .agg #[.int .i64 s, .int .i64 g]] w (LeR t w b cs s g) := by
  obtain ⟨v, h⟩ := h.t
  refine (leaveB_any h rfl (fun i c f hc hf hz => by rw [hc] at hf; injection hf with hf; rw [← hf]; exact hz) hk hn hb hp).mono ?_
  rintro e w' ⟨h1, t', h2, h3⟩
  exact ⟨h1, t', h2.s (fun _ _ => rfl), h3⟩
end Go.Proofs.Ytalmiphddgmfbab.Lt
