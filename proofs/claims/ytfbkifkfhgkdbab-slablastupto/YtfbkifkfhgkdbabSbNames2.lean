/-
  What names answers: each call is as it must be; the book that it keeps is the slab's. Conditions: slab and list of calls are there, apart from one another, the slab is new, and there are at most 1048576 calls.
-/
import Derived.Test.YtfbkifkfhgkdbabSbNames1
import Derived.Handy
import Derived.Deep.DeepCutAuto
import Derived.Deep.CutBlock
namespace Go.Proofs.Ytfbkifkfhgkdbab.Sb
open Go.RowKit
open Classical
attribute [local go_sem ↓] Go.wp_at_zero Go.wp_at_succ

set_option maxRecDepth 100000 in
set_option maxHeartbeats 8000000 in
theorem names_any (S0 : Nat → Prop) (base b : Nat) (L : Int) (n N : Nat) (vo : Value) (w : World) (hs : SlabIn S0 base w b L (newSl n)) (hbase : base ≤ w.heap.size) (hS : Sized L n) (ho : OpA S0 w vo N) (hN : N ≤ 1048576) :
    Calls Try.prog 9 #[.pointer (some ⟨b, 0, none⟩), .agg #[.int .i64 L, .int .i64 (n : Int), vo]] w fun e w' => Named S0 base w b L n N e w' := by
  obtain ⟨ao, cap, rfl, hel⟩ := ho
  have HE := hid hel
  have HLT := hid hs.lt
  have HI0 := hid (Nm.new (vo := .slice ao N cap) hs hbase hS)
  obtain ⟨W0, hW0⟩ : ∃ W, W = w.alloc (.cells #[.int .i64 L, .int .i64 (n : Int), .slice ao N cap] 24) := ⟨_, rfl⟩
  rw [← hW0] at HI0
  clear hel hs hS
  go_enter Try.func9, Try.ntmps9
  go_wp2_with fail
  rw [← hW0]
  clear hW0
  go_loopg [7, 8, 9] N (fun k vh va i wr => ∃ j ha nh hc aa na ac, j + k = N ∧ i = .int .i64 ((j : Nat) : Int) ∧ vh = .slice ha nh hc ∧ va = .slice aa na ac ∧ Nm S0 base w b L n (.slice ao N cap) j (.slice ha nh hc) (.slice aa na ac) wr)
  case atStart => exact ⟨0, _, _, _, _, _, _, by omega, rfl, rfl, rfl, HI0.out⟩
  case round =>
    obtain ⟨j, ha, nh, hc, aa, na, ac, hjk, rfl, rfl, rfl, hI⟩ := hrel
    obtain ⟨V, hV⟩ : ∃ W, W = wr := ⟨_, rfl⟩
    subst hV
    obtain ⟨K1, hK1⟩ : ∃ k, k = gk := ⟨_, rfl⟩
    obtain ⟨S, x, gs, al, hB, hgl, hg, hSS, hbx⟩ := hI
    have lw : w.heap.size < V.heap.size := lt_of_block hbx
    have x0 : V.cell? ⟨w.heap.size, 0, none⟩ = some (.int .i64 L) := (cell_of hbx 0).trans rfl
    have x1 : V.cell? ⟨w.heap.size, 1, none⟩ = some (.int .i64 (n : Int)) := (cell_of hbx 1).trans rfl
    have x2 : V.cell? ⟨w.heap.size, 2, none⟩ = some (.slice ao N cap) := (cell_of hbx 2).trans rfl
    have HB := hid hB
    have HGL := hid hgl
    have HG := hid hg
    have HSS := hid hSS
    have HBX := hid hbx
    clear hB hgl hSS hbx HI0
    by_cases hj : j < N
    · obtain ⟨g, p, rfl, hgw, hgS, hx⟩ := HE.out.resolve_left (by omega)
      obtain ⟨d, pp, pk, s0, gn, k0, k1, k2, k3, k4⟩ := hx j hj
      have u0 := (hg.cell hgw hgS).trans k0
      have u1 := (hg.cell hgw hgS).trans k1
      have u2 := (hg.cell hgw hgS).trans k2
      have u3 := (hg.cell hgw hgS).trans k3
      have u4 := (hg.cell hgw hgS).trans k4
      have gV : g < V.heap.size := Nat.lt_of_lt_of_le hgw hg.size
      have j0 : (0 : Int) ≤ (j : Int) := by omega
      have j1 : (j : Int) < (N : Int) := by omega
      obtain ⟨W1, hW1⟩ : ∃ W, W = V.alloc (.cells #[.int .i64 d, .int .i64 pp, .int .i64 pk, .int .i64 s0, .int .i64 gn] 49) := ⟨_, rfl⟩
      clear hx k0 k1 k2 k3 k4 hg
      go_upto_region 7 with fail
      rw [← hW1]
      clear u0 u1 u2 u3 u4 x0 x1 x2
      have g1 : Ch NoB V W1 := by rw [hW1]; exact (Ch.refl _ _).alloc _
      have f1 : Fv 49 W1 V.heap.size (.int .i64 d) (.int .i64 pp) (.int .i64 pk) (.int .i64 s0) (.int .i64 gn) := by rw [hW1]; exact Fv.new _ V _ _ _ _ _
      have b1 := (g1.block _ lw (noB _)).trans HBX.out
      have x0 : W1.cell? ⟨w.heap.size, 0, none⟩ = some (.int .i64 L) := (cell_of b1 0).trans rfl
      have x1 : W1.cell? ⟨w.heap.size, 1, none⟩ = some (.int .i64 (n : Int)) := (cell_of b1 1).trans rfl
      obtain ⟨o0, o1, o2, o3, o4⟩ := f1.cells
      have l1 := f1.lt
      have lw1 : w.heap.size < W1.heap.size := by omega
      have HG1 := hid g1
      have HF1 := hid f1
      have HB1 := hid (HB.out.still g1)
      have HX1 := hid b1
      have hcn : x.C.length = n := HB.out.k.c
      have HCN := hid hcn
      clear g1 f1 b1 hW1 hcn
      go_cut [11] (fun t wc => t = .bool (decide (HasP x pp)) ∧ wc = W1)
      case first =>
        by_cases h0 : 0 ≤ pp
        · by_cases h1 : pp < (n : Int)
          · have e : decide (HasP x pp) = true := decide_eq_true ⟨h0, by rw [HCN.out]; exact h1⟩
            have d1 : decide (0 ≤ pp) = true := decide_eq_true h0
            have d2 : decide (pp < (n : Int)) = true := decide_eq_true h1
            go_wp2_with fail
            go_meet
            exact ⟨by rw [e], rfl⟩
          · have e : decide (HasP x pp) = false := decide_eq_false (fun h => h1 (by have := h.2; rw [HCN.out] at this; exact this))
            have d1 : decide (0 ≤ pp) = true := decide_eq_true h0
            have d2 : decide (pp < (n : Int)) = false := decide_eq_false h1
            go_wp2_with fail
            go_meet
            exact ⟨by rw [e], rfl⟩
        · have e : decide (HasP x pp) = false := decide_eq_false (fun h => h0 h.1)
          have d1 : decide (0 ≤ pp) = false := decide_eq_false h0
          go_wp2_with fail
          go_meet
          exact ⟨by rw [e], rfl⟩
      case rest =>
        obtain ⟨rfl, rfl⟩ := hcut
        obtain ⟨t, ht⟩ : ∃ t, t = decide (HasP x pp) := ⟨_, rfl⟩
        rw [← ht]
        have HT := hid ht
        clear ht
        have HnS : ¬ S w.heap.size := fun a => (HSS.out _ a).elim (fun a => Nat.lt_irrefl _ (HLT.out _ a)) (fun a => Nat.lt_irrefl _ a)
        have HnV : ¬ S V.heap.size := fun a => Nat.lt_irrefl _ (HB.out.s.lt _ a)
        have h64 := HB1.out.sb
        by_cases hd0 : d = 0
        · subst hd0
          go_wp2_with fail
          refine (take_may S base b pp L x wc HB1.out.s h64 HB1.out.k.m).mono ?_
          rintro e w1 ⟨r, x', hT, rfl, ⟨S1, i1, g1, n1⟩⟩
          have tl := tells_of HB1.out.k hT
          have gw : Ch S V w1 := (HG1.out.any (S := S)).trans' g1
          have bx := (gw.block _ lw HnS).trans HBX.out
          have y0 : w1.cell? ⟨w.heap.size, 0, none⟩ = some (.int .i64 L) := (cell_of bx 0).trans rfl
          have lw2 : w.heap.size < w1.heap.size := lt_of_block bx
          have nS1 : ∀ q, S1 q → S q ∨ V.heap.size ≤ q := fun q a => (n1 q a).imp id (fun e => Nat.le_trans HG1.out.size e)
          have HGW := hid gw
          have HNS := hid nS1
          have HI1 := hid i1
          have HG2 := hid g1
          have HN2 := hid n1
          clear hT i1 g1 n1 gw bx nS1 x0 x1 o0 o1 o2 o3 o4
          cases tl using Tells.elim with
          | bad hp =>
            have et : t = false := by rw [HT.out]; exact decide_eq_false hp
            subst et
            have HN1 := hid (Nm.of (j := j + 1) HLT.out HG.out HSS.out HBX.out (HGW.out.alloc (.cells #[.int .i64 0, .int .i64 0] 34)) (fun q a => .inl a) HNS.out ((HB1.out.left HI1.out HG2.out HN2.out rfl rfl HB1.out.k).still ((Ch.refl _ _).alloc _)) (by have := HGL.out; omega))
            clear hp
            go_wp2
            go_roundg (K1 - 1)
            case measure => omega
            case rel => exact ⟨j + 1, _, _, _, _, _, _, by omega, by simp, rfl, rfl, HN1.out⟩
          | full hp hl bk hf =>
            have et : t = true := by rw [HT.out]; exact decide_eq_true hp
            subst et
            have dl : decide ((na : Int) < L) = false := decide_eq_false (by have := HB.out.a.len.1; omega)
            have HN1 := hid (Nm.of (j := j + 1) HLT.out HG.out HSS.out HBX.out (HGW.out.alloc (.cells #[.int .i64 0, .int .i64 0] 34)) (fun q a => .inl a) HNS.out ((HB1.out.left HI1.out HG2.out HN2.out rfl rfl bk).still ((Ch.refl _ _).alloc _)) (by have := HGL.out; omega))
            clear hp hl bk hf
            go_wp2
            go_roundg (K1 - 1)
            case measure => omega
            case rel => exact ⟨j + 1, _, _, _, _, _, _, by omega, by simp, rfl, rfl, HN1.out⟩
          | @name x' s gg hp hn bk =>
            have et : t = true := by rw [HT.out]; exact decide_eq_true hp
            subst et
            obtain ⟨W2, hW2⟩ : ∃ W, W = w1.alloc (.cells #[.int .i64 s, .int .i64 gg] 34) := ⟨_, rfl⟩
            obtain ⟨kg, hkg⟩ : ∃ k, k = w1.heap.size := ⟨_, rfl⟩
            have g2 : Ch S V W2 := by rw [hW2]; exact HGW.out.alloc _
            have bg : W2.heap[kg]? = some (.cells #[.int .i64 s, .int .i64 gg] 34 (0, 0)) := by rw [hW2, hkg]; exact (MapKept.heap_alloc w1 _).1
            have e0 : W2.cell? ⟨kg, 0, none⟩ = some (.int .i64 s) := (cell_of bg 0).trans rfl
            have e1 : W2.cell? ⟨kg, 1, none⟩ = some (.int .i64 gg) := (cell_of bg 1).trans rfl
            have lg : kg < W2.heap.size := lt_of_block bg
            have lkg : V.heap.size ≤ kg := by rw [hkg]; exact HGW.out.size
            have i2 : SlabIn S1 base W2 b L x' := HI1.out.ch (w' := W2) (by rw [hW2]; exact (Ch.refl NoB _).alloc _) (fun _ _ => noB _)
            have HP := hid (HB.out.h.ch g2 HB.out.hs)
            have HA := hid (HB.out.a.ch g2 HB.out.sa)
            have enh := HB.out.h.len.1
            have ena := HB.out.a.len.1
            have nhN : nh ≤ 1048576 := by have := HGL.out; omega
            have naB : na ≤ 4096 := by have := HB.out.k.few; omega
            have HN0 := hid hn
            have HK := hid bk
            have HI2 := hid i2
            have HBG := hid bg
            have HV2 := hid g2
            have HENH := hid enh
            have HENA := hid ena
            clear hp hn bk i2 bg g2 enh ena
            go_wp2_with fail
            rw [← hW2, ← hkg]
            clear hW2 hkg y0
            go_loopg [14] nh (fun k i wq => ∃ m c : Nat, m + k = nh ∧ i = .int .i64 ((m : Nat) : Int) ∧ wq = W2.drewN c)
            case atStart => exact ⟨0, 0, by omega, rfl, rfl⟩
            case round =>
              obtain ⟨m, c, hmk, rfl, rfl⟩ := hrel
              by_cases hm : m < nh
              · obtain ⟨y, hy⟩ : ∃ y, gs[m]? = some y := ⟨_, List.getElem?_eq_getElem (by rw [← HENH.out]; exact hm)⟩
                obtain ⟨hbk, rfl, -, hbl, t0, t1⟩ := HP.out.get hy
                have hne : decide ((y.1, y.2) = (s, gg)) = false := decide_eq_false (fun e => HN0.out (by rw [← e]; exact List.mem_of_getElem? hy))
                have heq := fun w => eql_gid y.1 y.2 s gg w
                rw [hne] at heq
                have m0 : (0 : Int) ≤ (m : Int) := by omega
                have m1 : (m : Int) < (nh : Int) := by omega
                clear hy hne
                go_wp2
                go_quiet (fail)
                go_wp2
                go_roundg (gk - 1)
                case measure => omega
                case rel => exact ⟨m + 1, _, by omega, by simp, rfl⟩
              · have nhj : nh ≤ j := by rw [HENH.out]; exact HGL.out
                obtain ⟨W3, hW3⟩ : ∃ W, W = W2.drewN c := ⟨_, rfl⟩
                rw [← hW3]
                have g3 : Ch NoB W2 W3 := by rw [hW3]; exact (Ch.refl _ _).drewN _
                have e0' : W3.cell? ⟨kg, 0, none⟩ = some (.int .i64 s) := (g3.cell lg (noB _)).trans e0
                have e1' : W3.cell? ⟨kg, 1, none⟩ = some (.int .i64 gg) := (g3.cell lg (noB _)).trans e1
                have lg3 : kg < W3.heap.size := Nat.lt_of_lt_of_le lg g3.size
                have HP3 := hid (HP.out.ch g3 (fun _ _ => noB _))
                have HG3 := hid g3
                have hb3 : w.heap.size + 1 ≤ W3.heap.size := by omega
                clear g3 hW3
                have HA3 := hid (HA.out.ch HG3.out (fun _ _ => noB _))
                have nk : ¬ Blk (.slice ha nh hc) kg := fun e => by have := (HB.out.h.blk e).2; omega
                go_wp2_with (first
                  | (at_builtin; refine wpList_append_pr (g := (s, gg)) rfl (.tmp 84) (.tmp 86) rfl (w.heap.size + 1) _ gs rfl (HP3.out.alloc _) W3.heap.size rfl rfl (nh + 1) (by rw [HENH.out]) (by omega) hb3 ?_; intro ao5 cap5 w5 p5 g5 b5; have gC5 : Ch (Blk (.slice ha nh hc)) W3 w5 := ((Ch.refl _ W3).alloc _).trans' g5; have v0 : w5.cell? ⟨kg, 0, none⟩ = some (.int .i64 s) := (gC5.cell lg3 nk).trans e0'; have v1 : w5.cell? ⟨kg, 1, none⟩ = some (.int .i64 gg) := (gC5.cell lg3 nk).trans e1'; have lg5 : kg < w5.heap.size := Nat.lt_of_lt_of_le lg3 gC5.size; have HP5 := hid p5; have HB5 := hid b5; have HC5 := hid gC5; have HA5 := hid (HA3.out.ch gC5 (fun q a e => HB.out.d q e a)); have hb5 : w.heap.size + 1 ≤ w5.heap.size := Nat.le_trans hb3 gC5.size; clear p5 g5 b5 gC5)
                  | (at_builtin; refine wpList_append_pr (g := (s, gg)) rfl (.tmp 88) (.tmp 90) rfl (w.heap.size + 1) _ al rfl (HA5.out.alloc _) w5.heap.size rfl rfl (na + 1) (by rw [HENA.out]) (by omega) hb5 ?_; intro ao6 cap6 w6 p6 g6 b6; have gC6 : Ch (Blk (.slice aa na ac)) w5 w6 := ((Ch.refl _ w5).alloc _).trans' g6; have HP6 := hid p6; have HB6 := hid b6; have HC6 := hid gC6; clear p6 g6 b6 gC6))
                have HN6 := HB.out.named HV2.out HI2.out HNS.out HG3.out HC5.out HP5.out HB5.out HC6.out HP6.out HB6.out HK.out
                have HNm := hid (Nm.of (j := j + 1) HLT.out HG.out HSS.out HBX.out HN6.2 (fun q a => a.imp id (fun a => a.elim (fun a => (HB.out.h.blk a).1) (fun a => (HB.out.a.blk a).1))) HNS.out HN6.1 (by have := HGL.out; rw [List.length_append]; simp; omega))
                clear HN6
                go_roundg (K1 - 1)
                case measure => omega
                case rel => exact ⟨j + 1, _, _, _, _, _, _, by omega, by simp, rfl, rfl, HNm.out⟩
        by_cases hd1 : d = 1
        · subst hd1
          have lv : V.heap.size < wc.heap.size := l1
          go_wp2_with fail
          refine (name_any (w.heap.size + 1) 1 pp pk s0 gn _ gs wc HB1.out.h).mono ?_
          rintro e wn ⟨rfl, gN⟩
          obtain ⟨y, hy⟩ : ∃ y, y = nameP gs pk (s0, gn) := ⟨_, rfl⟩
          rw [← hy]
          clear hy
          obtain ⟨y1, y2⟩ := y
          obtain ⟨Wn, hWn⟩ : ∃ W, W = wn.alloc (.cells #[.int .i64 y1, .int .i64 y2] 34) := ⟨_, rfl⟩
          obtain ⟨kg, hkg⟩ : ∃ k, k = wn.heap.size := ⟨_, rfl⟩
          have gA : Ch NoB wc Wn := by rw [hWn]; exact gN.alloc _
          have bg : Wn.heap[kg]? = some (.cells #[.int .i64 y1, .int .i64 y2] 34 (0, 0)) := by rw [hWn, hkg]; exact (MapKept.heap_alloc wn _).1
          have e0 : Wn.cell? ⟨kg, 0, none⟩ = some (.int .i64 y1) := (cell_of bg 0).trans rfl
          have e1 : Wn.cell? ⟨kg, 1, none⟩ = some (.int .i64 y2) := (cell_of bg 1).trans rfl
          have lg : kg < Wn.heap.size := lt_of_block bg
          have fN := HF1.out.ch gA (noB _)
          obtain ⟨z0, z1, z2, z3, z4⟩ := fN.cells
          have lN := fN.lt
          have HBn := hid (HB1.out.still gA)
          have HGA := hid (HG1.out.trans' gA)
          have ena := HB.out.a.len.1
          have HENA := hid ena
          have na4 := HB.out.k.few
          have naB : na ≤ 4096 := by omega
          have hsl : gs.length < 2147483647 := by have := HGL.out; omega
          have HSL := hid hsl
          clear gN gA bg fN ena hsl na4 x0 x1 o0 o1 o2 o3 o4
          go_wp2_with fail
          rw [← hWn, ← hkg]
          clear hWn hkg
          go_loopg [16, 17] na (fun k at_ i wq => ∃ (m c : Nat) (ai : Int), m + k = na ∧ i = .int .i64 ((m : Nat) : Int) ∧ wq = Wn.drewN c ∧ at_ = .int .i64 ai ∧ ((ai = -1 ∧ ∀ q, q < m → al[q]? ≠ some (y1, y2)) ∨ ∃ a : Nat, a < m ∧ ai = (a : Int) ∧ al[a]? = some (y1, y2)))
          case atStart => exact ⟨0, 0, -1, by omega, rfl, rfl, rfl, .inl ⟨rfl, fun q hq => by omega⟩⟩
          case round =>
            obtain ⟨m, c, ai, hmk, rfl, rfl, rfl, hai⟩ := hrel
            have HAI := hid hai
            clear hai
            by_cases hm : m < na
            · obtain ⟨y, hy⟩ : ∃ y, al[m]? = some y := ⟨_, List.getElem?_eq_getElem (by rw [← HENA.out]; exact hm)⟩
              obtain ⟨abk, rfl, -, abl, t0, t1⟩ := HBn.out.a.get hy
              have heq := fun w => eql_gid y.1 y.2 y1 y2 w
              have m0 : (0 : Int) ≤ (m : Int) := by omega
              have m1 : (m : Int) < (na : Int) := by omega
              have HY := hid hy
              clear hy
              by_cases hyy : y = (y1, y2)
              · rw [decide_eq_true (p := (y.1, y.2) = (y1, y2)) hyy] at heq
                have HYY := hid hyy
                clear hyy
                go_wp2
                go_quiet (fail)
                go_wp2
                go_roundg (gk - 1)
                case measure => omega
                case rel => exact ⟨m + 1, _, (m : Int), by omega, by simp, rfl, rfl, .inr ⟨m, by omega, rfl, by rw [HY.out, HYY.out]⟩⟩
              · rw [decide_eq_false (p := (y.1, y.2) = (y1, y2)) hyy] at heq
                have HYY := hid hyy
                clear hyy
                go_wp2
                go_quiet (fail)
                go_wp2
                go_roundg (gk - 1)
                case measure => omega
                case rel =>
                  refine ⟨m + 1, _, ai, by omega, by simp, rfl, rfl, HAI.out.imp (fun h => ⟨h.1, fun q hq e => ?_⟩) (fun ⟨a, h1, h2⟩ => ⟨a, by omega, h2⟩)⟩
                  by_cases eq : q = m
                  · subst eq
                    rw [HY.out] at e
                    injection e with e
                    exact HYY.out e
                  · exact h.2 q (by omega) e
            · have em : m = na := by omega
              obtain ⟨W3, hW3⟩ : ∃ W, W = Wn.drewN c := ⟨_, rfl⟩
              rw [← hW3]
              have g3 : Ch NoB Wn W3 := by rw [hW3]; exact (Ch.refl _ _).drewN _
              have e0' : W3.cell? ⟨kg, 0, none⟩ = some (.int .i64 y1) := (g3.cell lg (noB _)).trans e0
              have e1' : W3.cell? ⟨kg, 1, none⟩ = some (.int .i64 y2) := (g3.cell lg (noB _)).trans e1
              have z1' : W3.cell? ⟨V.heap.size, 1, none⟩ = some (.int .i64 pp) := (g3.cell lN (noB _)).trans z1
              have lg3 : kg < W3.heap.size := Nat.lt_of_lt_of_le lg g3.size
              have lN3 : V.heap.size < W3.heap.size := Nat.lt_of_lt_of_le lN g3.size
              have HB3 := hid (HBn.out.still g3)
              have HG3 := hid (HGA.out.trans' g3)
              have h643 := HB3.out.sb
              have HM := hid em
              clear g3 hW3 em z0 z1 z2 z3 z4 e0 e1 lg lN
              go_wp2_with fail
              refine (give_may S base b pp y1 y2 L x W3 HB3.out.s h643 HB3.out.k.m).mono ?_
              rintro e w1 ⟨rfl, ⟨S1, i1, g1, n1⟩⟩
              have gw : Ch S V w1 := (HG3.out.any (S := S)).trans' g1
              have nS1 : ∀ q, S1 q → S q ∨ V.heap.size ≤ q := fun q a => (n1 q a).imp id (fun e => Nat.le_trans HG3.out.size e)
              have HGW := hid gw
              have HNS := hid nS1
              have HI1 := hid i1
              clear gw nS1 i1 g1 n1
              rcases HAI.out with ⟨rfl, hno⟩ | ⟨a, ha', rfl, hat⟩
              · have hno' : (y1, y2) ∉ al := fun hin => by
                  obtain ⟨q, hq⟩ := List.mem_iff_getElem?.1 hin
                  exact hno q (by have := (List.getElem?_eq_some_iff.1 hq).1; have := HENA.out; have := HM.out; omega) hq
                obtain ⟨r1, r2⟩ := giveR_not (p := pp) HB.out.k hno'
                have HN1 := hid (Nm.of (j := j + 1) HLT.out HG.out HSS.out HBX.out HGW.out (fun q a => .inl a) HNS.out (HB.out.left HI1.out HGW.out HNS.out rfl rfl (by rw [r2]; exact HB.out.k)) (by have := HGL.out; omega))
                obtain ⟨E, hE⟩ : ∃ E, E = (giveR x pp y1 y2).1 := ⟨_, rfl⟩
                rw [← hE] at r1 ⊢
                clear hno hno' r2 hE
                cases t with
                | true =>
                  go_wp2
                  go_roundg (K1 - 1)
                  case measure => omega
                  case rel => exact ⟨j + 1, _, _, _, _, _, _, by omega, by simp, rfl, rfl, HN1.out⟩
                | false =>
                  go_wp2
                  go_roundg (K1 - 1)
                  case measure => omega
                  case rel => exact ⟨j + 1, _, _, _, _, _, _, by omega, by simp, rfl, rfl, HN1.out⟩
              · have a0 : (0 : Int) ≤ (a : Int) := by omega
                have da : decide ((0 : Int) ≤ (a : Int)) = true := decide_eq_true a0
                by_cases hp : HasP x pp
                · have et : t = true := by rw [HT.out]; exact decide_eq_true hp
                  subst et
                  obtain ⟨k, hk⟩ : ∃ k, na = k + 1 := ⟨na - 1, by omega⟩
                  subst hk
                  have hkl : al.length - 1 = k := by have := HENA.out; omega
                  obtain ⟨z, hz⟩ : ∃ z, al[al.length - 1]? = some z := ⟨_, List.getElem?_eq_getElem (by have := HENA.out; omega)⟩
                  obtain ⟨r1, r2⟩ := giveR_in HB.out.k hp hat hz HSL.out
                  rw [r1]
                  have ha3 : a < k + 1 := by have := HM.out; omega
                  have PA := HB.out.a.ch HGW.out HB.out.sa
                  rw [hkl] at hz
                  obtain ⟨abk, rfl, -, abl, t0, t1⟩ := PA.get hz
                  have hw : IntKind.i64.wrap ((k : Int) + 1 - 1) = (k : Int) := by rw [IntKind.wrap_i64]; omega
                  have fz0 := PA.fz (a * 2)
                  have fz1 := PA.fz (a * 2 + 1)
                  obtain ⟨b', eb, -, -, t2, t3⟩ := PA.get hat
                  injection eb with eb
                  injection eb with eb
                  subst eb
                  have k0 : (0 : Int) ≤ (k : Int) := by omega
                  have k1 : (k : Int) < (k : Int) + 1 := by omega
                  have a1 : (a : Int) < (k : Int) + 1 := by omega
                  have cap1 := PA.len.2.1
                  have cap2 : (k : Int) ≤ (ac : Int) := by omega
                  have HPA := hid PA
                  have HR2 := hid r2
                  have HKL := hid hkl
                  clear hz hat hp r1 r2 PA hkl
                  have CC := ((Ch.refl (Blk (.slice (some ⟨abk, 0, none⟩) (k + 1) ac)) w1).setCell (p := ⟨abk, a * 2, none⟩) (.inl rfl) (.int .i64 z.1)).setCell (p := ⟨abk, a * 2 + 1, none⟩) (.inl rfl) (.int .i64 z.2)
                  have P2 := (HPA.out.set ha3 z).take (k := k) (by omega)
                  have eo : (al.set a z).take k = outL al a z := by unfold outL; rw [HKL.out]
                  rw [eo] at P2
                  have HN2 := HB.out.gave HGW.out HI1.out HNS.out CC P2 (fun q e => Blk.len e _) HR2.out
                  have HNm := hid (Nm.of (j := j + 1) HLT.out HG.out HSS.out HBX.out HN2.2 (fun q e => e.imp id (fun e => (HB.out.a.blk e).1)) HNS.out HN2.1 (by have := HGL.out; omega))
                  clear HN2 P2 CC eo
                  go_wp2
                  go_roundg (K1 - 1)
                  case measure => omega
                  case rel => exact ⟨j + 1, _, _, _, _, _, _, by omega, by simp, rfl, rfl, HNm.out⟩
                · have et : t = false := by rw [HT.out]; exact decide_eq_false hp
                  subst et
                  rw [giveR_out hp]
                  have HN1 := hid (Nm.of (j := j + 1) HLT.out HG.out HSS.out HBX.out HGW.out (fun q a => .inl a) HNS.out (HB.out.left HI1.out HGW.out HNS.out rfl rfl (by rw [giveR_out hp]; exact HB.out.k)) (by have := HGL.out; omega))
                  clear hp hat
                  go_wp2
                  go_roundg (K1 - 1)
                  case measure => omega
                  case rel => exact ⟨j + 1, _, _, _, _, _, _, by omega, by simp, rfl, rfl, HN1.out⟩
        by_cases hd2 : d = 2
        · subst hd2
          go_wp2_with fail
          refine (flush_may S base b pp L x wc HB1.out.s h64 HB1.out.k.m).mono ?_
          rintro e w1 ⟨rfl, ⟨S1, i1, g1, n1⟩⟩
          have HN1 := hid (Nm.of (j := j + 1) HLT.out HG.out HSS.out HBX.out ((HG1.out.any (S := S)).trans' g1) (fun q a => .inl a) (fun q a => (n1 q a).imp id (fun e => Nat.le_trans HG1.out.size e)) (HB1.out.left i1 g1 n1 rfl rfl (flushR_book HB1.out.k)) (by have := HGL.out; omega))
          rw [flushR_fst]
          by_cases hp : HasP x pp
          · have et : t = true := by rw [HT.out]; exact decide_eq_true hp
            subst et
            rw [if_pos hp]
            clear i1 g1 n1 hp
            go_wp2
            go_roundg (K1 - 1)
            case measure => omega
            case rel => exact ⟨j + 1, _, _, _, _, _, _, by omega, by simp, rfl, rfl, HN1.out⟩
          · have et : t = false := by rw [HT.out]; exact decide_eq_false hp
            subst et
            rw [if_neg hp]
            clear i1 g1 n1 hp
            go_wp2
            go_roundg (K1 - 1)
            case measure => omega
            case rel => exact ⟨j + 1, _, _, _, _, _, _, by omega, by simp, rfl, rfl, HN1.out⟩
        have q0 : (d == 0) = false := by simpa using hd0
        have q1 : (d == 1) = false := by simpa using hd1
        have q2 : (d == 2) = false := by simpa using hd2
        have HN1 := hid (Nm.of (j := j + 1) HLT.out HG.out HSS.out HBX.out HG1.out (fun q a => a.elim) (fun q a => .inl a) HB1.out (by have := HGL.out; omega))
        go_wp2
        go_roundg (K1 - 1)
        case measure => omega
        case rel => exact ⟨j + 1, _, _, _, _, _, _, by omega, by simp, rfl, rfl, HN1.out⟩
    · have e : j = N := by omega
      subst e
      obtain rfl := HB.out.h.len.1
      obtain rfl := HB.out.a.len.1
      go_wp2_with fail
      exact bodyPost_ret (v := .tuple #[.slice ha gs.length hc, .slice aa al.length ac, .bool true]) (by simp [results, Try.results9, go_sem]) rfl ⟨S, x, gs, al, ha, hc, aa, ac, rfl, HB.out.low (by omega), HGL.out, HG.out, fun q a => (HSS.out q a).imp id Nat.le_of_lt⟩
end Go.Proofs.Ytfbkifkfhgkdbab.Sb
