/-
  ChannelWakes holds: for any script of calls and any call the call returns true, and its arguments read afterwards as they read before. No condition but that of every argument.
-/
import Derived.Test.YtpkbgfneebjnjaaCpPl
import Derived.Deep.Cut
import Derived.Deep.CutBlock
import Derived.Deep.DeepCutAuto
import Derived.Test.YtpkbgfneebjnjaaCpFrameE
namespace Go.Proofs.Ytpkbgfneebjnjaa.Lt
open Go.RowKit Wd
attribute [local go_sem ↓] Go.wp_at_zero Go.wp_at_succ

set_option maxHeartbeats 1000000 in
set_option maxRecDepth 20000 in
theorem begins_walk (P Q : Nat → Prop) (w : World) (ao bo : Option Addr) (n m ca cb : Nat) (l ws : List Wt) (h : Ls eW P w (.slice ao n ca) l) (k : Ls eW Q w (.slice bo m cb) ws) (hb : Bg l ws) (hm : m ≤ 4398046511104) :
    Calls Try.prog 24 #[.slice ao n ca, .slice bo m cb] w fun e w' => e = .returned (.bool true) ∧ Gr w w' := by
  have HL := hid h.len.1
  have HM := hid k.len.1
  have HA := hid h
  have HK := hid k
  have HX := hid (show ∀ (j : Nat) (x : Wt), ws[j]? = some x → l[j]? = some x from by
    intro j x hx
    obtain ⟨r, e, _⟩ := hb
    rw [e, List.getElem?_append_left (List.getElem?_eq_some_iff.1 hx).1]
    exact hx)
  have nm : m ≤ n ∧ n ≤ m + 1 := by
    obtain ⟨r, e, hr⟩ := hb
    have := congrArg List.length e
    rw [List.length_append] at this
    have h1 := HL.out
    have h2 := HM.out
    omega
  have d1 : decide ((n : Int) < (m : Int)) = false := decide_eq_false (by omega)
  have d2 : ¬ (n : Int) < (m : Int) := by omega
  have d3 : wrap64 ((m : Int) + 1) = (m : Int) + 1 := by unfold wrap64; omega
  have d4 : decide ((m : Int) + 1 < (n : Int)) = false := decide_eq_false (by omega)
  have d5 : ¬ (m : Int) + 1 < (n : Int) := by omega
  clear h k hb
  go_enter Try.func24, Try.ntmps24
  go_wp2_with fail
  clear d1 d2 d3 d4 d5
  go_loopg [5] m (fun q i wq => ∃ j : Nat, j + q = m ∧ i = .int .i64 ((j : Nat) : Int) ∧ Gr w wq)
  case atStart => exact ⟨0, by omega, rfl, Gr.refl w⟩
  case round =>
    obtain ⟨j, hjm, rfl, hG⟩ := hrel
    have HG := hid hG
    clear hG
    by_cases hj : j < m
    · obtain ⟨⟨x0, x1, x2, x3⟩, hx⟩ : ∃ x, ws[j]? = some x := ⟨_, List.getElem?_eq_getElem (by rw [← HM.out]; exact hj)⟩
      obtain ⟨gg, oo, cap', hv, _, hgl, _, hcs⟩ := (HA.out.gr HG.out).get eW_len (HX.out _ _ hx)
      obtain ⟨gk, ok, capk, hvk, _, hglk, _, hck⟩ := (HK.out.gr HG.out).get eW_len hx
      injection hv with hv1 hv2 hv3
      injection hvk with hk1 hk2 hk3
      subst hv1 hk1
      have c0 := hcs 0 _ rfl
      have c1 := hcs 1 _ rfl
      have c2 := hcs 2 _ rfl
      have c3 := hcs 3 _ rfl
      have d0 := hck 0 _ rfl
      have d1 := hck 1 _ rfl
      have d2 := hck 2 _ rfl
      have d3 := hck 3 _ rfl
      dsimp only [Nat.add_zero] at c0 c1 c2 c3 d0 d1 d2 d3
      have j0 : (0 : Int) ≤ (j : Int) := by omega
      have j1 : (j : Int) < (m : Int) := by omega
      have j2 : (j : Int) < (n : Int) := by omega
      clear hcs hck hv2 hv3 hk2 hk3 hx hgl hglk
      go_wp2_with fail
      go_region
      all_goals go_wp2
      all_goals go_roundg (m - (j + 1))
      all_goals first | omega | skip
      all_goals exact ⟨j + 1, by omega, by simp, HG.out.drew⟩
    · have jn : ¬ (j : Int) < (m : Int) := by omega
      go_wp2
      go_ret
      exact ⟨rfl, HG.out⟩
theorem begins_any {P Q : Nat → Prop} {w : World} {u v : Value} {l ws : List Wt} (h : Ls eW P w u l) (k : Ls eW Q w v ws) (hb : Bg l ws) (hm : ws.length ≤ 4398046511104) :
    Calls Try.prog 24 #[u, v] w fun e w' => e = .returned (.bool true) ∧ Gr w w' := by
  obtain ⟨ao, ca, rfl⟩ := h.form
  obtain ⟨bo, cb, rfl⟩ := k.form
  exact begins_walk P Q w ao bo _ _ ca cb l ws h k hb hm
/-- behind the call that may wake -/
def WkM (w : World) (b A : Nat) (cs : List Cn) (o : Ot) (v9 : Value) (W : World) : Prop := ∃ mo mn mc m0 m1 m2 m3 t, W.heap[A]? = some (.cells #[m0, m1, m2, m3, .slice mo mn mc] 50 (0, 0)) ∧ Ls eK (fun _ => True) W (.slice mo mn mc) o.ks ∧ Cs t W b o.cs ∧ Rds (fun _ => True) W v9 cs ∧ Gr w W
theorem wkm_of {t t6 : Nat → Tg} {w W5 W6 w7 : World} {b A : Nat} {cs : List Cn} {o : Ot} {v9 : Value} {mo : Option Addr} {mn mc : Nat} {m0 m1 m2 m3 : Value} (hZ : ∀ q, q < w.heap.size → t q = .no) (hG : Gr w W5) (hA : t A = .no) (hAl : A < W5.heap.size) (hAw : w.heap.size ≤ A) (hR : Rds (fun q => t q = .no ∧ q ≠ A) W5 v9 cs) (n6 : Tn t t6 W5 W6) (c6 : Cs t6 W6 b o.cs) (k6 : Ow eK 6 54 W5.heap.size W6 (.slice mo mn mc) o.ks) (b7 : w7.heap[A]? = some (.cells #[m0, m1, m2, m3, .slice mo mn mc] 50 (0, 0))) (c7 : Ch (Only A) W6 w7) : WkM w b A cs o v9 w7 :=
  ⟨mo, mn, mc, m0, m1, m2, m3, t6, b7,
    (k6.ch c7 (fun q hq e => by have h1 := (k6.blk hq).1; have h2 : q = A := e; omega)).lst.mono (fun _ _ _ => trivial),
    c6.ch c7 (fun q e => by have h2 : q = A := e; rw [h2]; exact n6.o A hAl hA),
    ((hR.ch n6.c (fun q _ hq hs => hs hq.1)).ch c7 (fun q _ hq e => hq.2 e)).mono (fun _ _ _ => trivial),
    Ch.trans (Tn.base hZ hG n6).1 c7 (fun q hq => .inr (by have h2 : q = A := hq; omega))⟩
set_option maxRecDepth 20000 in
set_option maxHeartbeats 8000000 in
theorem wakes_walk (P : Nat → Prop) (w : World) (ao : Option Addr) (n cap : Nat) (acts : List Ac) (h : Ls eA P w (.slice ao n cap) acts) (hk : ∀ a ∈ acts, Gok a.s a.g) (hn : n ≤ 2513169434843) (ak ach as_ ag av ac : Int) (asd : Bool) (ha : Gok as_ ag) :
    Calls Try.prog 7 #[.slice ao n cap, .agg #[.int .i64 ak, .int .i64 ach, .int .i64 as_, .int .i64 ag, .int .i64 av, .int .i64 ac, .bool asd]] w fun e w' => e = .returned (.bool true) ∧ Gr w w' := by
  obtain ⟨W0, hW0⟩ : ∃ W, W = w.alloc (.cells #[.int .i64 ak, .int .i64 ach, .int .i64 as_, .int .i64 ag, .int .i64 av, .int .i64 ac, .bool asd] 32) := ⟨_, rfl⟩
  have G0 := hid (show Gr w W0 from by rw [hW0]; exact Ch.alloc (Gr.refl w) _)
  have BX := hid (show W0.heap[w.heap.size]? = some (.cells #[.int .i64 ak, .int .i64 ach, .int .i64 as_, .int .i64 ag, .int .i64 av, .int .i64 ac, .bool asd] 32 (0, 0)) from by rw [hW0]; exact (MapKept.heap_alloc w _).1)
  have HLS := hid (h.gr G0.out)
  have HLL := hid h.len.1
  have HK := hid hk
  have HGA := hid ha
  have HNW := hid (new_any W0)
  have HLV := hid lives_any
  clear h hk ha
  go_enter Try.func7, Try.ntmps7
  go_upto_region 1 with fail
  rw [← hW0]
  clear hW0
  generalize w.heap.size = AB at BX ⊢
  go_upto_region 6 with (first
    | (go_at_call 9; refine HNW.out.mono ?_; rintro e w1 ⟨b, t1, rfl, c1, g1, z1⟩; have C1 := hid c1; have G1 := hid g1; have Z1 := hid z1; clear c1 g1 z1)
    | (go_at_call 10; refine (HLV.out _).mono ?_; rintro e w2 ⟨rfl, g2⟩; have C2 := hid (C1.out.gr g2); have G2 := hid (Gr.trans G1.out g2); clear g2))
  have GE := hid (show Gr w2 (w2.alloc (.cells #[] 64)) from Ch.alloc (Gr.refl _) _)
  have RE := hid (rdr_empty w2 64 (fun q => t1 q = .no))
  go_wp2_with fail
  go_loopg [6, 8] n (fun q v4 v6 wr => ∃ (j : Nat) (t : Nat → Tg), j + q = n ∧ v6 = .int .i64 (j : Int) ∧ Cs t wr b (runR [] (acts.take j)) ∧ Rds (fun q => t q = .no) wr v4 (runR [] (acts.take j)) ∧ (∀ q, q < W0.heap.size → t q = .no) ∧ Gr W0 wr)
  case atStart => exact ⟨0, t1, by omega, rfl, C2.out.gr GE.out, RE.out, Z1.out, Gr.trans G2.out GE.out⟩
  case round =>
    obtain ⟨j, t, hjq, rfl, hC, hR, hZ, hG⟩ := hrel
    have CJ := hid hC
    have RJ := hid hR
    have ZJ := hid hZ
    have GJ := hid hG
    clear hC hR hZ hG C1 C2 G1 G2 Z1 GE RE
    have HGD := hid (show Gd j (runR [] (acts.take j)) from by
      have := gr_run gr_nil (acts.take j) (fun a ha => HK.out a (List.mem_of_mem_take ha))
      rw [List.length_take] at this
      exact this.up (by omega))
    by_cases hj : j < n
    · obtain ⟨⟨k, ch, s, g, v, c, sd⟩, hx⟩ : ∃ x, acts[j]? = some x := ⟨_, List.getElem?_eq_getElem (by rw [← HLL.out]; exact hj)⟩
      obtain ⟨gg, oo, cap', hv, _, hgl, _, hcs⟩ := (HLS.out.gr GJ.out).get eA_len hx
      injection hv with hv1 hv2 hv3
      subst hv1
      clear hv2 hv3
      have c0 := hcs 0 _ rfl
      have c1 := hcs 1 _ rfl
      have c2 := hcs 2 _ rfl
      have c3 := hcs 3 _ rfl
      have c4 := hcs 4 _ rfl
      have c5 := hcs 5 _ rfl
      have c6 := hcs 6 _ rfl
      simp only [Nat.add_zero] at c0
      have j0 : (0 : Int) ≤ (j : Int) := by omega
      have j1 : (j : Int) < (n : Int) := by omega
      have HD := hid (does_any CJ.out RJ.out (fun q hq => hq) HGD.out (by omega) ⟨k, ch, s, g, v, c, sd⟩ (HK.out _ (List.mem_of_getElem? hx)))
      dsimp only [Ac.row] at HD
      rw [← runR_snoc, ← take_one hx] at HD
      clear hcs hx hgl
      go_wp2_with (go_at_call 11; refine HD.out.mono ?_; rintro e w3 ⟨l3, rfl, t3, c3', r3, n3⟩; have C3 := hid c3'; have R3 := hid (r3.mono (Q := fun q => t3 q = .no) (fun q _ hq => hq.2)); obtain ⟨g3, z3⟩ := Tn.base ZJ.out GJ.out n3; have G3 := hid g3; have Z3 := hid z3; clear c3' r3 n3 g3 z3)
      go_roundg (gk - 1)
      case measure => omega
      case rel =>
        refine ⟨j + 1, t3, ?_, ?_, C3.out, R3.out, Z3.out, G3.out⟩
        · omega
        · first | with_reducible rfl | simp
    · have jn : ¬ (j : Int) < (n : Int) := by omega
      generalize runR [] (acts.take j) = cs at CJ RJ HGD
      have HST := hid (state_any CJ.out HGD.out.n (HGD.out.bd (by omega)))
      have HNO := hid (cs_hi CJ.out)
      go_upto_region 13 with (go_at_call 16; refine HST.out.mono ?_; rintro e w4 ⟨v9, rfl, nx4, g4⟩; have R4 := hid (nx4.rds.mono (Q := fun q => wr.heap.size ≤ q ∧ q < w4.heap.size) (fun q h1 h2 => ⟨h2, h1⟩)); have G4 := hid g4; clear nx4 g4)
      obtain ⟨a9, k9, rfl⟩ := R4.out.form
      clear jn RJ HST HLS HLL
      go_upto_region 14 with fail
      obtain ⟨W5, hW5⟩ : ∃ W, W = w4.alloc (.cells mz 50) := ⟨_, rfl⟩
      have hW5' := hW5
      unfold mz at hW5'
      rw [← hW5']
      have MX5 := hid (show W5.heap[w4.heap.size]? = some (.cells mz 50 (0, 0)) from by rw [hW5]; exact (MapKept.heap_alloc w4 _).1)
      have G45 := hid (show Gr w4 W5 from by rw [hW5]; exact Ch.alloc (Gr.refl w4) _)
      clear hW5 hW5'
      have G5 := hid (Gr.trans GJ.out (Gr.trans G4.out G45.out))
      have R5 := hid (show Rds (fun q => t q = .no ∧ q ≠ w4.heap.size) W5 (.slice a9 cs.length k9) cs from (R4.out.gr G45.out).mono (fun q _ hq => ⟨HNO.out q hq.1, by omega⟩))
      have C5 := hid (CJ.out.gr (Gr.trans G4.out G45.out))
      have A1 := hid (show t w4.heap.size = .no from HNO.out _ G4.out.size)
      have A2 := hid (lt_of_block MX5.out)
      have A3 := hid (show W0.heap.size ≤ w4.heap.size from (Gr.trans GJ.out G4.out).size)
      have B5 := hid (gr_blk BX.out G5.out)
      clear R4 G45 G4 CJ BX HNO GJ
      generalize w4.heap.size = A at MX5 R5 A1 A2 A3 ⊢
      have c0 := cell_of B5.out 0
      have c1 := cell_of B5.out 1
      have c2 := cell_of B5.out 2
      have c3 := cell_of B5.out 3
      have c4 := cell_of B5.out 4
      simp at c0 c1 c2 c3 c4
      have HWO := hid (wakO_ok HGD.out ⟨ak, ach, as_, ag, av, ac, asd⟩ HGA.out)
      go_upto_block 2 with fail
      go_cut [10] (fun v10 wc => v10 = .pointer (some ⟨A, 0, none⟩) ∧ WkM W0 b A cs (wakO cs ⟨ak, ach, as_, ag, av, ac, asd⟩) (.slice a9 cs.length k9) wc)
      case first =>
        by_cases h1 : ak = 1
        · subst h1
          have HS := hid (send_any C5.out HGD.out (by omega) HGA.out ach av)
          go_wp2_with (first
            | (go_at_call 18; refine HS.out.mono ?_; rintro e w6 ⟨mo, mn, mc, rfl, ok6, t6, c6, n6, b6⟩; have K6 := hid ok6; have C6 := hid c6; have N6 := hid n6; have MX6 := hid ((n6.c.block A A2.out (fun q => q A1.out)).trans MX5.out); clear ok6 c6 n6 b6)
            | (refine st_row rfl 50 (.tmp 10) (.tmp 60) rfl A _ rfl rfl _ _ MX6.out mov_size rfl (by simp [Value.oneCell']) ?_; intro w7 b7 c7; have B7 := hid b7; have C7 := hid c7; clear b7 c7))
          go_meet
          exact ⟨rfl, wkm_of ZJ.out G5.out A1.out A2.out A3.out R5.out N6.out C6.out K6.out B7.out C7.out⟩
        · by_cases h2 : ak = 2
          · subst h2
            have HS := hid (recv_any C5.out HGD.out (by omega) HGA.out ach)
            go_wp2_with (first
              | (go_at_call 19; refine HS.out.mono ?_; rintro e w6 ⟨mo, mn, mc, rfl, ok6, t6, c6, n6, b6⟩; have K6 := hid ok6; have C6 := hid c6; have N6 := hid n6; have MX6 := hid ((n6.c.block A A2.out (fun q => q A1.out)).trans MX5.out); clear ok6 c6 n6 b6)
              | (refine st_row rfl 50 (.tmp 10) (.tmp 71) rfl A _ rfl rfl _ _ MX6.out mov_size rfl (by simp [Value.oneCell']) ?_; intro w7 b7 c7; have B7 := hid b7; have C7 := hid c7; clear b7 c7))
            go_meet
            exact ⟨rfl, wkm_of ZJ.out G5.out A1.out A2.out A3.out R5.out N6.out C6.out K6.out B7.out C7.out⟩
          · have HS := hid (close_any C5.out HGD.out (by omega) ach)
            have HO := hid (show wakO cs ⟨ak, ach, as_, ag, av, ac, asd⟩ = clsF cs ach from by unfold wakO; rw [if_neg h1, if_neg h2])
            go_wp2_with (first
              | (go_at_call 21; refine HS.out.mono ?_; rintro e w6 ⟨mo, mn, mc, rfl, ok6, t6, c6, n6, b6⟩; have K6 := hid ok6; have C6 := hid c6; have N6 := hid n6; have MX6 := hid ((n6.c.block A A2.out (fun q => q A1.out)).trans MX5.out); clear ok6 c6 n6 b6)
              | (refine st_row rfl 50 (.tmp 10) (.tmp 48) rfl A _ rfl rfl _ _ MX6.out mov_size rfl (by simp [Value.oneCell']) ?_; intro w7 b7 c7; have B7 := hid b7; have C7 := hid c7; clear b7 c7))
            go_meet
            rw [HO.out]
            exact ⟨rfl, wkm_of ZJ.out G5.out A1.out A2.out A3.out R5.out N6.out C6.out K6.out B7.out C7.out⟩
      case rest =>
        obtain ⟨rfl, mo, mn, mc, m0, m1, m2, m3, t6, hb6, hk6, hc6, hr6, hg6⟩ := hcut
        have B6 := hid hb6
        have K6 := hid hk6
        have C6 := hid hc6
        have R6 := hid hr6
        have G6 := hid hg6
        clear hb6 hk6 hc6 hr6 hg6 c0 c1 c2 c3 c4 MX5 R5 C5 A1 A2 A3 B5 G5
        obtain ⟨o, ho⟩ : ∃ o, o = wakO cs ⟨ak, ach, as_, ag, av, ac, asd⟩ := ⟨_, rfl⟩
        rw [← ho] at HWO K6 C6
        clear ho
        have HST := hid (state_any C6.out HWO.out.2.1.n (HWO.out.2.1.bd (by omega)))
        have HCN := hid HWO.out.1.n
        obtain ⟨nn, hnn⟩ : ∃ nn : Nat, nn = cs.length := ⟨_, rfl⟩
        rw [← hnn] at HCN
        rw [← hnn] at R6
        rw [← hnn]
        have HNN := hid hnn
        clear hnn
        go_upto_region 21 with (go_at_call 16; refine HST.out.mono ?_; rintro e w8 ⟨v11, rfl, nx8, g8⟩; have R11 := hid (nx8.rds.mono (Q := fun _ => True) (fun _ _ _ => trivial)); have G8 := hid g8; clear nx8 g8)
        have e11 := R11.out.form
        rw [HCN.out] at e11
        obtain ⟨a11, k11, rfl⟩ := e11
        have B8 := hid (gr_blk B6.out G8.out)
        have K8 := hid (K6.out.gr G8.out)
        have C8 := hid (C6.out.gr G8.out)
        have R8 := hid (R6.out.gr G8.out)
        have GG8 := hid (Gr.trans G6.out G8.out)
        have HMN := hid K6.out.len.1
        clear B6 K6 C6 R6 G6 G8 HST
        go_upto_region 23 with fail
        go_wp2_with fail
        go_loopg [9, 12] mn (fun q v9 v12 wq => ∃ (k a c : Nat) (ao9 : Option Addr), k + q = mn ∧ v12 = .int .i64 (k : Int) ∧ v9 = .slice ao9 nn c ∧ a = 0 ∧ Rds (fun _ => True) wq (.slice ao9 nn c) (lvK (o.ks.take k) cs) ∧ Gr w8 wq)
        case atStart => exact ⟨0, 0, k9, a9, by omega, rfl, rfl, rfl, R8.out, Gr.refl _⟩
        case round =>
          obtain ⟨k, a, c, ao9, hkq, rfl, rfl, -, hR, hG⟩ := hrel
          have RQ := hid hR
          have GQ := hid hG
          clear hR hG R8
          have q4 := cell_of (gr_blk B8.out GQ.out) 4
          have lM := lt_of_block (gr_blk B8.out GQ.out)
          simp at q4
          by_cases hk : k < mn
          · obtain ⟨⟨x0, x1, x2, x3, x4, x5⟩, hx⟩ : ∃ x, o.ks[k]? = some x := ⟨_, List.getElem?_eq_getElem (by rw [← HMN.out]; exact hk)⟩
            have hmx := List.mem_of_getElem? hx
            obtain ⟨gk', ok', kc, ek, -, hgk, -, hck⟩ := (K8.out.gr GQ.out).get eK_len hx
            injection ek with ek e1 e2
            subst ek
            clear e1 e2
            have d0 := hck 0 _ rfl
            have d1 := hck 1 _ rfl
            simp only [Nat.add_zero] at d0
            have k0 : (0 : Int) ≤ (k : Int) := by omega
            have k1 : (k : Int) < (mn : Int) := by omega
            have HWT := hid (waits_any (C8.out.gr GQ.out) (HWO.out.1.g _ hmx))
            dsimp only at HWT
            rw [show pls o.cs x0 x1 = 0 from HWO.out.1.w _ hmx, show decide (0 < 0) = false from rfl] at HWT
            have HLV := hid (fun (W : World) (p : Gr wr W) => rleave_any _ W _ _ x0 x1 (RQ.out.gr p) ((HGD.out.lvK _).bd (by omega)) (HGD.out.lvK _).n)
            have HTK := hid (show lvs (lvK (o.ks.take k) cs) x0 x1 = lvK (o.ks.take (k + 1)) cs from by rw [take_one hx, lvK_snoc])
            have HLN := hid (show (lvs (lvK (o.ks.take k) cs) x0 x1).length = nn from by rw [lvs_len, lvK_len]; exact HNN.out.symm)
            have HWK := hid (show wrap64 ((k : Int) + 1) = ((k + 1 : Nat) : Int) from by have := HWO.out.2.2; have := HMN.out; unfold wrap64; omega)
            have LGK := hid hgk
            clear hck hx hgk hmx
            go_wp2_with (first
              | (go_at_call 23; refine (HLV.out _ G10.out).mono ?_; rintro e w11 ⟨v', rfl, nx11, g11⟩; have e9 := nx11.form; rw [HLN.out] at e9; obtain ⟨a', c', rfl⟩ := e9; have R11' := hid (nx11.rds.mono (Q := fun _ => True) (fun _ _ _ => trivial)); have G11 := hid (Gr.trans G10.out g11); clear nx11 g11)
              | (go_at_call 22; refine HWT.out.mono ?_; rintro e w10 ⟨rfl, g10⟩; have G10 := hid g10; clear g10; have d0' := (Gr.cell G10.out LGK.out).trans d0; have d1' := (Gr.cell G10.out LGK.out).trans d1; have q4' := (Gr.cell G10.out lM).trans q4; have lM' := Nat.lt_of_lt_of_le lM G10.out.size))
            go_roundg (gk - 1)
            case measure => omega
            case rel =>
              refine ⟨k + 1, 0, c', a', by omega, ?_, rfl, rfl, ?_, Gr.trans GQ.out G11.out⟩
              · first | exact congrArg _ HWK.out | simp
              · rw [← HTK.out]; exact R11'.out
          · have kn : ¬ (k : Int) < (mn : Int) := by omega
            have hTA : o.ks.take k = o.ks := List.take_of_length_le (by rw [← HMN.out]; omega)
            rw [hTA] at RQ
            clear hTA
            go_wp2_with fail
            clear q4 lM kn
            have R12 := hid (R11.out.gr GQ.out)
            have G12 := hid (Gr.trans GG8.out GQ.out)
            clear R11 GG8 B8 K8 C8 GQ
            obtain ⟨W9, hW9⟩ : ∃ x, x = wr := ⟨_, rfl⟩
            subst hW9
            go_loopg [13] nn (fun q v13 wq => ∃ j : Nat, j + q = nn ∧ v13 = .int .i64 (j : Int) ∧ Gr W9 wq)
            case atStart => exact ⟨0, by omega, rfl, Gr.refl _⟩
            case round =>
              obtain ⟨j, hjq, rfl, hG⟩ := hrel
              have GQ := hid hG
              clear hG
              by_cases hj : j < nn
              · have hjc : j < cs.length := by rw [← HNN.out]; exact hj
                obtain ⟨xs, lx, nx, fx⟩ := R12.out.gr GQ.out
                obtain ⟨ys, ly, ny, fy⟩ := RQ.out.gr GQ.out
                have hxl : j < xs.length := by rw [nx, HCN.out]; exact hj
                have hyl : j < ys.length := by rw [ny, lvK_len]; exact hjc
                obtain ⟨x, hx⟩ : ∃ x, xs[j]? = some x := ⟨_, List.getElem?_eq_getElem hxl⟩
                obtain ⟨y, hy⟩ : ∃ y, ys[j]? = some y := ⟨_, List.getElem?_eq_getElem hyl⟩
                obtain ⟨c1, hc1⟩ : ∃ c1, o.cs[j]? = some c1 := ⟨_, List.getElem?_eq_getElem (by rw [HCN.out]; exact hj)⟩
                obtain ⟨d1, hd1⟩ : ∃ d1, (lvK o.ks cs)[j]? = some d1 := ⟨_, List.getElem?_eq_getElem (by rw [lvK_len]; exact hjc)⟩
                have fx1 := fx j x c1 hx hc1
                have fy1 := fy j y d1 hy hd1
                obtain ⟨b1, b2⟩ := HWO.out.1.b j c1 d1 hc1 hd1
                have bd := (HGD.out.lvK o.ks).bd (by omega)
                have hm := List.mem_of_getElem? hd1
                have HB1 := hid (fun (W : World) (p : Gr wr W) => begins_any (fx1.s.gr p) (fy1.s.gr p) b1 (bd.s _ hm))
                have HB2 := hid (fun (W : World) (p : Gr wr W) => begins_any (fx1.r.gr p) (fy1.r.gr p) b2 (bd.r _ hm))
                obtain ⟨gn, on, kn, en, -, Ln, -, hcn⟩ := lx.get eR_len hx
                obtain ⟨gp, op, kp, ep, -, Lp, -, hcp⟩ := ly.get eR_len hy
                injection en with en en2 en3
                injection ep with ep ep2 ep3
                subst en ep
                clear en2 en3 ep2 ep3
                have n2 := hcn 2 _ rfl
                have n3 := hcn 3 _ rfl
                have p2 := hcp 2 _ rfl
                have p3 := hcp 3 _ rfl
                clear hcn hcp hx hy hc1 hd1 fx fy nx ny lx ly fx1 fy1 b1 b2 bd hm hxl hyl hjc
                generalize x.s = xs_ at n2 HB1
                generalize x.r = xr_ at n3 HB2
                generalize y.s = ys_ at p2 HB1
                generalize y.r = yr_ at p3 HB2
                have j0 : (0 : Int) ≤ (j : Int) := by omega
                have j1 : (j : Int) < (nn : Int) := by omega
                have HJW := hid (show wrap64 ((j : Int) + 1) = ((j + 1 : Nat) : Int) from by have := HGD.out.n; have := HNN.out; unfold wrap64; omega)
                go_upto_region 32 with fail
                have hS0 : Gr wr (World.drew wr) := Ch.drew (Gr.refl wr)
                refine wp_region_held_drew (S := Gr wr) (by kernel_rfl) (by exact hS0) (fun _ => ?_)
                refine takeS_on (i := 0) 112 (v := ?v1) rfl rfl (by kernel_rfl) (by kernel_rfl) (by kernel_rfl) (fun _ _ _ h => h) (by kernel_rfl) ?hy1 (by exact hS0) ?_
                case hy1 => (intro w' hSw; go_simp; try (with_reducible rfl))
                simp only [Act.put, List.setIfInBounds_toArray, List.set_cons_zero, List.set_cons_succ]
                refine takeS_on (i := 1) 113 (v := ?v2) rfl rfl (by kernel_rfl) (by kernel_rfl) (by kernel_rfl) (fun _ _ _ h => h) (by kernel_rfl) ?hy2 (by exact hS0) ?_
                case hy2 => (intro w' hSw; go_simp; try (with_reducible rfl))
                simp only [Act.put, List.setIfInBounds_toArray, List.set_cons_zero, List.set_cons_succ]
                refine takeS_on (i := 2) 114 (v := ?v3) rfl rfl (by kernel_rfl) (by kernel_rfl) (by kernel_rfl) (fun _ _ _ h => h) (by kernel_rfl) ?hy3 (by exact hS0) ?_
                case hy3 => (intro w' hSw; go_simp; try (with_reducible rfl))
                simp only [Act.put, List.setIfInBounds_toArray, List.set_cons_zero, List.set_cons_succ]
                refine takeS_on (i := 3) 115 (v := ?v4) rfl rfl (by kernel_rfl) (by kernel_rfl) (by kernel_rfl) (fun _ _ _ h => h) (by kernel_rfl) ?hy4 (by exact hS0) ?_
                case hy4 => (intro w' hSw; go_simp; try (with_reducible rfl))
                simp only [Act.put, List.setIfInBounds_toArray, List.set_cons_zero, List.set_cons_succ]
                refine takeS_on (i := 4) 116 (v := ?v5) rfl rfl (by kernel_rfl) (by kernel_rfl) (by kernel_rfl) (fun _ _ _ h => h) (by kernel_rfl) ?hy5 (by exact hS0) ?_
                case hy5 => (intro w' hSw; have c1 := (Gr.cell hSw Ln).trans n2; go_simp; try (with_reducible rfl))
                simp only [Act.put, List.setIfInBounds_toArray, List.set_cons_zero, List.set_cons_succ]
                refine takeS_on (i := 5) 117 (v := ?v6) rfl rfl (by kernel_rfl) (by kernel_rfl) (by kernel_rfl) (fun _ _ _ h => h) (by kernel_rfl) ?hy6 (by exact hS0) ?_
                case hy6 => (intro w' hSw; go_simp; try (with_reducible rfl))
                simp only [Act.put, List.setIfInBounds_toArray, List.set_cons_zero, List.set_cons_succ]
                refine takeS_on (i := 6) 118 (v := ?v7) rfl rfl (by kernel_rfl) (by kernel_rfl) (by kernel_rfl) (fun _ _ _ h => h) (by kernel_rfl) ?hy7 (by exact hS0) ?_
                case hy7 => (intro w' hSw; go_simp; try (with_reducible rfl))
                simp only [Act.put, List.setIfInBounds_toArray, List.set_cons_zero, List.set_cons_succ]
                refine takeS_on (i := 7) 119 (v := ?v8) rfl rfl (by kernel_rfl) (by kernel_rfl) (by kernel_rfl) (fun _ _ _ h => h) (by kernel_rfl) ?hy8 (by exact hS0) ?_
                case hy8 => (intro w' hSw; go_simp; try (with_reducible rfl))
                simp only [Act.put, List.setIfInBounds_toArray, List.set_cons_zero, List.set_cons_succ]
                refine takeS_on (i := 8) 120 (v := ?v9) rfl rfl (by kernel_rfl) (by kernel_rfl) (by kernel_rfl) (fun _ _ _ h => h) (by kernel_rfl) ?hy9 (by exact hS0) ?_
                case hy9 => (intro w' hSw; go_simp; try (with_reducible rfl))
                simp only [Act.put, List.setIfInBounds_toArray, List.set_cons_zero, List.set_cons_succ]
                refine takeS_on (i := 9) 121 (v := ?v10) rfl rfl (by kernel_rfl) (by kernel_rfl) (by kernel_rfl) (fun _ _ _ h => h) (by kernel_rfl) ?hy10 (by exact hS0) ?_
                case hy10 => (intro w' hSw; have c1 := (Gr.cell hSw Lp).trans p2; go_simp; try (with_reducible rfl))
                simp only [Act.put, List.setIfInBounds_toArray, List.set_cons_zero, List.set_cons_succ]
                refine wpAnyH_ready (rs := [10]) (by kernel_rfl) (by simp) (AllReadyH.cons rfl (fun K hK => ?_) AllReadyH.nil)
                go_simp
                refine (HB1.out _ hS0).mono ?_
                rintro e w2 ⟨rfl, g2⟩
                have hS1 := Gr.trans hS0 g2
                clear g2
                refine hK.out _ _ (by exact hS1) (fun _ => ?_)
                clear hK K
                refine takeS_on (i := 11) 123 (v := ?v11) rfl rfl (by kernel_rfl) (by kernel_rfl) (by kernel_rfl) (fun _ _ _ h => h) (by kernel_rfl) ?hy11 (by exact hS1) ?_
                case hy11 => (intro w' hSw; go_simp; try (with_reducible rfl))
                simp only [Act.put, List.setIfInBounds_toArray, List.set_cons_zero, List.set_cons_succ]
                refine takeS_on (i := 12) 124 (v := ?v12) rfl rfl (by kernel_rfl) (by kernel_rfl) (by kernel_rfl) (fun _ _ _ h => h) (by kernel_rfl) ?hy12 (by exact hS1) ?_
                case hy12 => (intro w' hSw; go_simp; try (with_reducible rfl))
                simp only [Act.put, List.setIfInBounds_toArray, List.set_cons_zero, List.set_cons_succ]
                refine takeS_on (i := 13) 125 (v := ?v13) rfl rfl (by kernel_rfl) (by kernel_rfl) (by kernel_rfl) (fun _ _ _ h => h) (by kernel_rfl) ?hy13 (by exact hS1) ?_
                case hy13 => (intro w' hSw; go_simp; try (with_reducible rfl))
                simp only [Act.put, List.setIfInBounds_toArray, List.set_cons_zero, List.set_cons_succ]
                refine takeS_on (i := 14) 126 (v := ?v14) rfl rfl (by kernel_rfl) (by kernel_rfl) (by kernel_rfl) (fun _ _ _ h => h) (by kernel_rfl) ?hy14 (by exact hS1) ?_
                case hy14 => (intro w' hSw; go_simp; try (with_reducible rfl))
                simp only [Act.put, List.setIfInBounds_toArray, List.set_cons_zero, List.set_cons_succ]
                refine takeS_on (i := 15) 127 (v := ?v15) rfl rfl (by kernel_rfl) (by kernel_rfl) (by kernel_rfl) (fun _ _ _ h => h) (by kernel_rfl) ?hy15 (by exact hS1) ?_
                case hy15 => (intro w' hSw; go_simp; try (with_reducible rfl))
                simp only [Act.put, List.setIfInBounds_toArray, List.set_cons_zero, List.set_cons_succ]
                refine takeS_on (i := 16) 128 (v := ?v16) rfl rfl (by kernel_rfl) (by kernel_rfl) (by kernel_rfl) (fun _ _ _ h => h) (by kernel_rfl) ?hy16 (by exact hS1) ?_
                case hy16 => (intro w' hSw; go_simp; try (with_reducible rfl))
                simp only [Act.put, List.setIfInBounds_toArray, List.set_cons_zero, List.set_cons_succ]
                refine takeS_on (i := 17) 129 (v := ?v17) rfl rfl (by kernel_rfl) (by kernel_rfl) (by kernel_rfl) (fun _ _ _ h => h) (by kernel_rfl) ?hy17 (by exact hS1) ?_
                case hy17 => (intro w' hSw; have c1 := (Gr.cell hSw Ln).trans n3; go_simp; try (with_reducible rfl))
                simp only [Act.put, List.setIfInBounds_toArray, List.set_cons_zero, List.set_cons_succ]
                refine takeS_on (i := 18) 130 (v := ?v18) rfl rfl (by kernel_rfl) (by kernel_rfl) (by kernel_rfl) (fun _ _ _ h => h) (by kernel_rfl) ?hy18 (by exact hS1) ?_
                case hy18 => (intro w' hSw; go_simp; try (with_reducible rfl))
                simp only [Act.put, List.setIfInBounds_toArray, List.set_cons_zero, List.set_cons_succ]
                refine takeS_on (i := 19) 131 (v := ?v19) rfl rfl (by kernel_rfl) (by kernel_rfl) (by kernel_rfl) (fun _ _ _ h => h) (by kernel_rfl) ?hy19 (by exact hS1) ?_
                case hy19 => (intro w' hSw; go_simp; try (with_reducible rfl))
                simp only [Act.put, List.setIfInBounds_toArray, List.set_cons_zero, List.set_cons_succ]
                refine takeS_on (i := 20) 132 (v := ?v20) rfl rfl (by kernel_rfl) (by kernel_rfl) (by kernel_rfl) (fun _ _ _ h => h) (by kernel_rfl) ?hy20 (by exact hS1) ?_
                case hy20 => (intro w' hSw; go_simp; try (with_reducible rfl))
                simp only [Act.put, List.setIfInBounds_toArray, List.set_cons_zero, List.set_cons_succ]
                refine takeS_on (i := 21) 133 (v := ?v21) rfl rfl (by kernel_rfl) (by kernel_rfl) (by kernel_rfl) (fun _ _ _ h => h) (by kernel_rfl) ?hy21 (by exact hS1) ?_
                case hy21 => (intro w' hSw; go_simp; try (with_reducible rfl))
                simp only [Act.put, List.setIfInBounds_toArray, List.set_cons_zero, List.set_cons_succ]
                refine takeS_on (i := 22) 134 (v := ?v22) rfl rfl (by kernel_rfl) (by kernel_rfl) (by kernel_rfl) (fun _ _ _ h => h) (by kernel_rfl) ?hy22 (by exact hS1) ?_
                case hy22 => (intro w' hSw; have c1 := (Gr.cell hSw Lp).trans p3; go_simp; try (with_reducible rfl))
                simp only [Act.put, List.setIfInBounds_toArray, List.set_cons_zero, List.set_cons_succ]
                refine wpAnyH_ready (rs := [23]) (by kernel_rfl) (by simp) (AllReadyH.cons rfl (fun K hK => ?_) AllReadyH.nil)
                go_simp
                refine (HB2.out _ hS1).mono ?_
                rintro e w3 ⟨rfl, g3⟩
                have hS2 := Gr.trans hS1 g3
                clear g3
                refine hK.out _ _ (by exact hS2) (fun _ => ?_)
                clear hK K
                refine takeS_on (i := 24) 136 (v := ?v23) rfl rfl (by kernel_rfl) (by kernel_rfl) (by kernel_rfl) (fun _ _ _ h => h) (by kernel_rfl) ?hy23 (by exact hS2) ?_
                case hy23 => (intro w' hSw; go_simp; try (with_reducible rfl))
                simp only [Act.put, List.setIfInBounds_toArray, List.set_cons_zero, List.set_cons_succ]
                refine takeS_on (i := 25) 137 (v := ?v24) rfl rfl (by kernel_rfl) (by kernel_rfl) (by kernel_rfl) (fun _ _ _ h => h) (by kernel_rfl) ?hy24 (by exact hS2) ?_
                case hy24 => (intro w' hSw; go_simp; try (with_reducible rfl))
                simp only [Act.put, List.setIfInBounds_toArray, List.set_cons_zero, List.set_cons_succ]
                refine wpAnyH_done (by kernel_rfl) ?_ _
                go_wp2_with fail
                go_roundg (gk - 1)
                case measure => omega
                case rel =>
                  refine ⟨j + 1, by omega, ?_, Gr.trans GQ.out hS2⟩
                  exact congrArg _ HJW.out
              · have jn : ¬ (j : Int) < (nn : Int) := by omega
                go_wp2_with fail
                go_ret
                exact ⟨rfl, Gr.trans G0.out (Gr.trans G12.out GQ.out)⟩
theorem wakes_any (P : Nat → Prop) (v : Value) (acts : List Ac) (a : Ac) (ha : Gok a.s a.g) (w : World) (h : Ls eA P w v acts) (hb : acts.length * 56 ≤ 140737488351232) (hk : ∀ a ∈ acts, Gok a.s a.g) :
    Calls Try.prog 7 #[v, .agg a.row] w fun e w' => e = .returned (.bool true) ∧ Gr w w' := by
  obtain ⟨ao, cap, rfl⟩ := h.form
  exact wakes_walk P w ao acts.length cap acts h hk (by omega) a.k a.ch a.s a.g a.v a.c a.sd ha
end Go.Proofs.Ytpkbgfneebjnjaa.Lt

namespace Go.Proofs.Ytpkbgfneebjnjaa.Lt
open Go.ChangeShapes Go.WideShapes Go.ChangeAt Go.RowKit Wd

set_option maxRecDepth 100000 in
theorem open_act {H : Type} {enc : TypeId × Value → H} {w : World} {base : Nat} {spare : Nat → Bool} {held : Bool} {r : Reach} {b0 : Nat} {v : Value} {d : DataW H} {p : List MemPlace}
    (hv : Value.okWide Try.prog w r b0 32 v) (h : DataW.Trod enc Try.prog w base spare held 32 v d p) : ∃ x : Ac, v = .agg x.row ∧ Gok x.s x.g := by
  obtain ⟨vs, rfl, hsz⟩ := okWide_struct Try.underlying32 hv
  rw [cellsAc] at hsz
  obtain ⟨fuel, hf⟩ := h
  obtain ⟨l⟩ := vs
  obtain ⟨x, e, ok⟩ := el_act fuel l (d, p) hsz hf
  exact ⟨x, by rw [e]; rfl, ok⟩
set_option maxRecDepth 100000 in
theorem wakes_lifted (os : Os) (started : os.Started) (H : Type) (enc : TypeId × Value → H) :
    ReturnsInHanded {} Try.checked os 7 .any (Rows.channelWakesSpec.pre6 enc Try.prog Try.f7 Rows.channelWakesRow.domain false) (Rows.channelWakesSpec.post enc Try.prog Try.f7 false true false false) := by
  refine returnsInHanded_of_change_sized (C := Try.checked) own started (by kernel_rfl) Try.func7
    (ChangeSpec.witness6 (enc := enc) (C := Try.checked) false ⟨#[], #[.slice none 0 0, .agg #[.int .i64 0, .int .i64 0, .int .i64 0, .int .i64 0, .int .i64 0, .int .i64 0, .bool false]], []⟩ 8 (by kernel_rfl) (by kernel_rfl) (by kernel_rfl) (by kernel_rfl)) ?_
  intro W base args ds gs before hval0 hW hcnd hsz _
  have hval : ∀ (j : Nat) t v, Try.f7.params[j]? = some t → args[j]? = some v → Value.okWide Try.prog W .any base t v := hval0
  have hW' := hW
  obtain ⟨p, q, hA0, hV, rfl, hfz, hnd⟩ := hW
  have hA : DataW.TrodAll enc Try.prog W 0 (fun _ => true) true Try.f7.params.toList args.toList ds p := hA0
  have hsz' : (DataW.weightsEach Try.prog (Try.f7.params.toList ++ Rows.channelWakesSpec.plain.varTypes Try.prog) (ds ++ gs)).all (· ≤ reachBytes) = true := hsz
  rw [Try.params7] at hA hval hsz'
  obtain ⟨v0, v1, d0, d1, p0, p1, rfl, rfl, rfl, h0, h1⟩ := trodAll_two hA
  obtain ⟨rfl, rfl⟩ := trodVars_none hV
  obtain ⟨xs0, lx0, bx0, kx0⟩ := open_acts (j := 0) (hval 0 22 v0 rfl rfl) h0 hsz' rfl rfl
  obtain ⟨o1, rfl, ok1⟩ := open_act (hval 1 32 v1 rfl rfl) h1
  clear hA0 hval0
  simp only [List.append_nil] at hW'
  refine (wakes_any (· < W.heap.size) v0 xs0 o1 ok1 W lx0 bx0 kx0).mono fun e W' ⟨he, hg⟩ => ?_
  subst he
  exact ⟨_, rfl, post_law2 hW' (by rw [Try.params7]) rfl Try.underlying4 rfl rfl (by kernel_rfl) (of_decide_eq_true (by kernel_rfl)) (by kernel_rfl) (of_decide_eq_true (by kernel_rfl)) h0 h1 (hg.below (fun _ x => x.elim) (Nat.le_refl _))⟩

theorem wakes_holds : Rows.ChannelWakesSaid :=
  OpenClaim.holds_of_wide 7 Try.f7 rfl rfl rfl rfl rfl rfl rfl ⟨rfl, rfl, rfl, rfl, rfl⟩ rfl rfl rfl rfl rfl (by kernel_rfl) Try.func7 (by kernel_rfl)
    (of_decide_eq_true (by kernel_rfl)) (by unfold Func.isWrapper; first | (rw [if_pos (by decide +kernel)]; kernel_rfl) | (rw [if_neg (by decide +kernel)]; exact ⟨rfl, rfl⟩))
    (fun os started H enc _ => wakes_lifted os started H enc)
end Go.Proofs.Ytpkbgfneebjnjaa.Lt
