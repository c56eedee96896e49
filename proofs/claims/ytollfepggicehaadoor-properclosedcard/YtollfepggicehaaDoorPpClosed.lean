/-
  What the law's has answers, and ProperClosed of any program and function. Conditions: the tables lie where they lie; words are words.
-/
import Derived.Test.YtollfepggicehaaDoorPpNamed
import Derived.Test.YtollfepggicehaaDoorPpAwake
import Derived.Deep.DeepCutAuto
namespace Go.Proofs.YtollfepggicehaaDoor.Lt
open Go.RowKit Wd

set_option maxRecDepth 20000 in
theorem has_any (P : Nat → Prop) (w : World) (ao : Option Addr) (n ca : Nat) (xs : List Int) (h : Ls eI P w (.slice ao n ca) xs) (hn : n ≤ 4096) (x : Int) (hx : x ∈ xs) :
    Calls Tryd.prog 23 #[.slice ao n ca, .int .i64 x] w fun e w' => e = .returned (.bool true) ∧ Gr w w' := by
  have HL := hid h.len.1
  have HA := hid h
  have HX := hid hx
  clear h hx
  go_enter Tryd.func23, Tryd.ntmps23
  go_wp2_with fail
  go_loopg [5] n (fun q i wq => ∃ j : Nat, j + q = n ∧ i = .int .i64 ((j : Nat) : Int) ∧ (∀ l, l < j → xs[l]? ≠ some x) ∧ Gr w wq)
  case atStart => exact ⟨0, by omega, rfl, fun l q => by omega, Gr.refl w⟩
  case round =>
    obtain ⟨j, hjm, rfl, hN, hG⟩ := hrel
    have HG := hid hG
    have HN := hid hN
    clear hG hN
    by_cases hj : j < n
    · obtain ⟨y, hy⟩ : ∃ y, xs[j]? = some y := ⟨_, List.getElem?_eq_getElem (by rw [← HL.out]; exact hj)⟩
      obtain ⟨g, o, cap', hv, _, hgl, _, hcs⟩ := HA.out.get eI_len hy
      injection hv with hv1 hv2 hv3
      subst hv1
      have c0 := (HG.out.cell hgl).trans (hcs 0 _ rfl)
      rw [Nat.mul_one, Nat.add_zero] at c0
      have lg : g < wr.heap.size := Nat.lt_of_lt_of_le hgl HG.out.size
      have j0 : (0 : Int) ≤ (j : Int) := by omega
      have j1 : (j : Int) < (n : Int) := by omega
      by_cases e : y = x
      · subst e
        clear hcs hv2 hv3 hy hgl
        go_wp2
        go_ret
        exact ⟨rfl, HG.out⟩
      · have e' : (y == x) = false := by simpa using e
        have HN' := hid (show ∀ l, l < j + 1 → xs[l]? ≠ some x from fun l q => by
          by_cases z : l = j
          · subst z; rw [hy]; intro k; injection k with k; exact e k
          · exact HN.out l (by omega))
        clear hcs hv2 hv3 hy hgl
        go_wp2
        go_roundg (gk - 1)
        case measure => omega
        case rel => exact ⟨j + 1, by omega, by simp, HN'.out, HG.out⟩
    · exfalso
      obtain ⟨l, hl⟩ := List.mem_iff_getElem?.1 HX.out
      exact HN.out l (by have := (List.getElem?_eq_some_iff.1 hl).1; have := HL.out; omega) hl
theorem Rs.lt {xs : List Int} (h : Rs xs) {i j : Nat} {x y : Int} (hij : i < j) (hx : xs[i]? = some x) (hy : xs[j]? = some y) : x < y := by
  obtain ⟨h1, e1⟩ := List.getElem?_eq_some_iff.1 hx
  obtain ⟨h2, e2⟩ := List.getElem?_eq_some_iff.1 hy
  have := List.pairwise_iff_getElem.1 h i j h1 h2 hij
  rw [e1, e2] at this
  exact this
set_option maxHeartbeats 4000000 in
set_option maxRecDepth 20000 in
theorem closed_any (P : Nat → Prop) (w : World) (ia ib ic : Value) (cs : List Int) (fs : List (Int × Int)) (ts : List Tb) (f : Int) (h : Pin P w ia ib ic cs fs ts) (_hc : cs.length ≤ 35184372088832) (_hf : fs.length ≤ 8796093022208) (_ht : ts.length ≤ 4398046511104) (_hq : ∀ t ∈ ts, t.cs.length ≤ 4398046511104) (hu : U32s cs) (hg : Glb w) :
    Calls Tryd.prog 8 #[.agg #[ia, ib, ic], .int .i64 f] w fun e w' => e = .returned (.bool true) ∧ Gr w w' := by
  obtain ⟨rch, hr⟩ := rcs_ex cs fs
  have HRE := hid (fun (W : World) (p : Gr w W) => pReach_any P W ia ib ic cs fs ts (h.gr p) hu (hg.gr p) rch hr f)
  have HNX := hid (fun (a : Int) (W : World) (p : Gr w W) => pNext_any P W ia ib ic cs fs ts (h.gr p) hu (hg.gr p) a)
  have HV := hid (fun (W : World) (q : Glb W) => awake_any W q)
  have HG := hid hg
  have HYES := hid (fun (q : ask cs fs ts f (fs.length : Int) = 0) => ask_may q)
  have HCK := hid (fun (q : ask cs fs ts f (fs.length : Int) = 0) (a k : Int) (h0 : 0 ≤ a) (h1 : a < k) => show ask cs fs ts a k = 0 from by
    unfold ask at q ⊢
    split at q
    · rename_i z; exact absurd q z
    · rename_i z
      rw [if_neg z, if_neg (by omega)])
  have HF := hid h.f
  obtain ⟨aoc, cac, hia⟩ := h.c.form
  obtain ⟨aof, caf, hib⟩ := h.f.form
  obtain ⟨aot, cat, hic⟩ := h.t.form
  unfold rcN at HRE
  obtain ⟨nf, hnf⟩ : ∃ n, n = fs.length := ⟨_, rfl⟩
  rw [← hnf] at hib HRE HYES HCK
  generalize hnc : cs.length = nc at hia
  generalize ts.length = nt at hic HYES
  obtain ⟨E, hE⟩ : ∃ E, E = ask cs fs ts f (nf : Int) := ⟨_, rfl⟩
  rw [← hE] at HRE HYES HCK
  subst hia hib hic
  by_cases hE0 : E = 0
  · subst hE0
    obtain ⟨hm, f0, f1⟩ := HYES.out (by first | rfl | trivial)
    obtain ⟨j, rfl⟩ : ∃ j : Nat, f = (j : Int) := ⟨f.toNat, by omega⟩
    obtain ⟨⟨fb, fe⟩, hff⟩ : ∃ x, fs[j]? = some x := ⟨_, List.getElem?_eq_getElem (by rw [← hnf]; omega)⟩
    have hi := hm.p.i _ (List.mem_of_getElem? hff)
    simp only at hi
    have hrj := hr j
    rw [hff] at hrj
    simp only [Option.getD_some] at hrj
    simp only [if_true, Int.toNat_natCast] at HRE
    have HX := hid (show ∀ (a : Int) W, 0 ≤ a → a < (nc : Int) → Gr w W → Calls Tryd.prog 14 #[.agg #[.slice aoc nc cac, .slice aof nf caf, .slice aot nt cat], .int .i64 a] W (TxR W (wN cs a) 0) from fun a W q1 q2 p => by
      have e1 := HNX.out a W p
      have e2 : ask cs fs ts a (cs.length : Int) = 0 := HCK.out (by first | rfl | trivial) a _ q1 (by omega)
      have e3 : nxN cs fs ts a = wN cs a := by unfold nxN; rw [if_pos e2]
      rw [e2, e3] at e1
      exact e1)
    have hfirst : fb ∈ rch j := (hrj.2 fb).2 ⟨⟨by omega, by omega⟩, Rc.self _ _⟩
    have HFI := hid hfirst
    have HRG := hid (fun (x : Int) (q : x ∈ rch j) => (show 0 ≤ x ∧ x < (nc : Int) from by have := ((hrj.2 x).1 q).1; omega))
    have HCL := hid (show ∀ x, x ∈ rch j → ∀ y, y ∈ wN cs x → y ∈ rch j from fun x hx y hy => by
      have h1 := (hrj.2 x).1 hx
      have h2 := h1.2.next hy
      have h3 := hm.rc hff h2
      simp only at h3
      exact (hrj.2 y).2 ⟨⟨by omega, by omega⟩, h2⟩)
    have HRS := hid hrj.1
    have hll : (rch j).length ≤ 4096 := Nat.le_trans hrj.len hm.nc
    have HWL := hid (fun (a : Int) => wN_len cs a)
    obtain ⟨g, o, cap', hv, _, hgl, _, hcs⟩ := HF.out.get eG_len hff
    injection hv with hv1 hv2 hv3
    subst hv1
    have HT0 := hid (show ∀ W, Gr w W → W.cell? ⟨g, o + j * 2, none⟩ = some (.int .i64 fb) from fun W k => (k.cell hgl).trans (by have := hcs 0 _ rfl; rw [Nat.add_zero] at this; exact this))
    have HLF := hid (show ∀ W, Gr w W → g < W.heap.size from fun W k => Nat.lt_of_lt_of_le hgl k.size)
    have j0 : (0 : Int) ≤ (j : Int) := by omega
    have j1 : (j : Int) < (nf : Int) := by omega
    generalize rch j = L at HRE HFI HRG HCL HRS hll
    generalize wN cs = wy at HX HCL HWL
    have K1 := hid (Gr.alloc (Gr.refl w) #[.slice aoc nc cac, .slice (some ⟨g, o, none⟩) nf caf, .slice aot nt cat] 26)
    have B1 := hid (MapKept.heap_alloc w (.cells #[.slice aoc nc cac, .slice (some ⟨g, o, none⟩) nf caf, .slice aot nt cat] 26)).1
    obtain ⟨n, hn⟩ : ∃ k, k = L.length := ⟨_, rfl⟩
    have HNL := hid hn
    rw [← hn] at hll
    clear h hu hg hr hm hff hcs hv2 hv3 hgl hi HNX HF hnf hnc _hc _hf _ht _hq hE HYES HCK hfirst hrj hn
    go_enter Tryd.func8, Tryd.ntmps8
    go_wp2_with (first | (go_at_call 17; refine (HRE.out _ K1.out).mono ?_; rintro e w1 ⟨v1, rfl, o1, g1⟩; obtain ⟨ao1, cap1, hv1⟩ := o1.form; rw [← HNL.out] at hv1; subst hv1; have O1 := hid o1; have G1 := hid (Gr.trans K1.out g1); have J1 := hid (gr_blk B1.out g1); obtain ⟨p0, p1, p2, pl⟩ := p_cells J1.out; have t0 := HT0.out _ G1.out; have lf := HLF.out _ G1.out; clear o1 g1) | (go_at_call 23; refine (has_any _ _ _ _ _ L O1.out.lst hll fb HFI.out).mono ?_; rintro e w2 ⟨rfl, g2⟩; have G2 := hid (Gr.trans G1.out g2); have J2 := hid (gr_blk J1.out g2); have O2 := hid ((O1.out.gr g2).lower (show w.heap.size ≤ _ by simp)); clear g2))
    clear p0 p1 p2 pl t0 lf
    rename World => V0
    rename World => V1
    go_loopg [7] n (fun m i wq => ∃ (k : Nat), k + m = n ∧ i = .int .i64 ((k : Nat) : Int) ∧ Ow eI 1 3 w.heap.size wq (.slice ao1 n cap1) L ∧ wq.heap[w.heap.size]? = some (.cells #[.slice aoc nc cac, .slice (some ⟨g, o, none⟩) nf caf, .slice aot nt cat] 26 (0, 0)) ∧ Gr w wq)
    case atStart => exact ⟨0, by omega, rfl, O2.out, J2.out, G2.out⟩
    case round =>
      obtain ⟨k, hkm, rfl, hO, hP, hGr⟩ := hrel
      have HO := hid hO
      have HP := hid hP
      have HGr := hid hGr
      obtain ⟨p0, p1, p2, pl⟩ := p_cells hP
      clear hO hP hGr
      by_cases hk : k < n
      · obtain ⟨x, hx⟩ : ∃ x, L[k]? = some x := ⟨_, List.getElem?_eq_getElem (by rw [← HNL.out]; exact hk)⟩
        have hxm := List.mem_of_getElem? hx
        obtain ⟨x0, x1⟩ := HRG.out x hxm
        have HXx := hid (fun (W : World) (p : Gr w W) => HX.out x W x0 x1 p)
        have HCx := hid (fun (y : Int) (q : y ∈ wy x) => HCL.out x hxm y q)
        have hwl := HWL.out x
        generalize wy x = ws at HXx HCx hwl
        obtain ⟨gx, cap', hv, _, hgx, _, hcs, _, _⟩ := HO.out.get eI_len hx
        injection hv with hv1 hv2 hv3
        subst hv1
        have c0 := hcs 0 _ rfl
        rw [Nat.mul_one, Nat.add_zero] at c0
        have k0 : (0 : Int) ≤ (k : Int) := by omega
        have k1 : (k : Int) < (n : Int) := by omega
        have HXK := hid hx
        clear hcs hv2 hv3 hx
        go_upto_region 9 with fail
        go_cut [8, 9] from 41 to 50 (fun s8 s9 wx => ∃ (ao2 : Option Addr) (n2 cap2 : Nat), s8 = .slice ao2 n2 cap2 ∧ s9 = .int .i64 0 ∧ n2 = ws.length ∧ Ow eI 1 3 w.heap.size wx (.slice ao2 n2 cap2) ws ∧ Ow eI 1 3 w.heap.size wx (.slice (some ⟨gx, 0, none⟩) n cap1) L ∧ wx.heap[w.heap.size]? = some (.cells #[.slice aoc nc cac, .slice (some ⟨g, o, none⟩) nf caf, .slice aot nt cat] 26 (0, 0)) ∧ Gr w wx)
        case first =>
          go_region_with (go_at_call 14; refine (HXx.out _ (by first | exact HGr.out | exact Ch.drew HGr.out | exact Ch.drewN HGr.out _)).mono ?_; rintro e w2 ⟨v2, rfl, o2, g2⟩; obtain ⟨ao2, cap2, hv2⟩ := o2.form; subst hv2; have O2 := hid (o2.lower (show w.heap.size ≤ _ from HGr.out.size)); have G2 := hid (show Gr w w2 from Gr.trans (by first | exact HGr.out | exact Ch.drew HGr.out | exact Ch.drewN HGr.out _) g2); have OL := hid (show Ow eI 1 3 w.heap.size w2 (.slice (some ⟨gx, 0, none⟩) n cap1) L from Ow.gr (by first | exact HO.out | exact HO.out.drew) g2); have J2 := hid (show w2.heap[w.heap.size]? = some (.cells #[.slice aoc nc cac, .slice (some ⟨g, o, none⟩) nf caf, .slice aot nt cat] 26 (0, 0)) from gr_blk (by first | exact HP.out | exact HP.out) g2); clear o2 g2)
          all_goals go_wp2_with fail
          all_goals go_meet
          all_goals exact ⟨_, _, _, rfl, rfl, rfl, O2.out, OL.out, J2.out, G2.out⟩
        case rest =>
          obtain ⟨ao2, n2, cap2, rfl, rfl, hn2, hO2, hOL, hJ2, hG2⟩ := hcut
          have HN2 := hid hn2
          have O3 := hid hO2
          have O4 := hid hOL
          have J3 := hid hJ2
          have G3 := hid hG2
          rw [← hn2] at hwl
          clear hO2 hOL hJ2 hG2 hn2 c0 p0 p1 p2 pl hgx
          go_upto_region 10 with fail
          go_cut [67] from 50 to 67 (fun s67 wx => s67 = .bool false ∧ Ow eI 1 3 w.heap.size wx (.slice ao2 n2 cap2) ws ∧ Ow eI 1 3 w.heap.size wx (.slice (some ⟨gx, 0, none⟩) n cap1) L ∧ wx.heap[w.heap.size]? = some (.cells #[.slice aoc nc cac, .slice (some ⟨g, o, none⟩) nf caf, .slice aot nt cat] 26 (0, 0)) ∧ Gr w wx)
          case first =>
            by_cases hk0 : k = 0
            · subst hk0
              refine wp_region_any (by kernel_rfl) ?_
              change wpAny _ _ _ _ _ _ _ (World.drew _)
              refine take_on (i := 0) 50 (v := ?v1) rfl rfl (by kernel_rfl) (by kernel_rfl) (by kernel_rfl) (fun _ _ _ h => h) (by kernel_rfl) ?hy1 ?_
              case hy1 => (intro w; go_simp; try (with_reducible rfl))
              simp only [Act.put, List.setIfInBounds_toArray, List.set_cons_zero, List.set_cons_succ]
              refine take_on (i := 1) 51 (v := ?v2) rfl rfl (by kernel_rfl) (by kernel_rfl) (by kernel_rfl) (fun _ _ _ h => h) (by kernel_rfl) ?hy2 ?_
              case hy2 => (intro w; go_simp; try (with_reducible rfl))
              simp only [Act.put, List.setIfInBounds_toArray, List.set_cons_zero, List.set_cons_succ]
              refine take_on (i := 2) 52 (v := ?v3) rfl rfl (by kernel_rfl) (by kernel_rfl) (by kernel_rfl) (fun _ _ _ h => h) (by kernel_rfl) ?hy3 ?_
              case hy3 => (intro w; go_simp; try (with_reducible rfl))
              simp only [Act.put, List.setIfInBounds_toArray, List.set_cons_zero, List.set_cons_succ]
              refine take_on (i := 3) 53 (v := ?v4) rfl rfl (by kernel_rfl) (by kernel_rfl) (by kernel_rfl) (fun _ _ _ h => h) (by kernel_rfl) ?hy4 ?_
              case hy4 => (intro w; go_simp; try (with_reducible rfl))
              simp only [Act.put, List.setIfInBounds_toArray, List.set_cons_zero, List.set_cons_succ]
              refine take_on (i := 4) 54 (v := ?v5) rfl rfl (by kernel_rfl) (by kernel_rfl) (by kernel_rfl) (fun _ _ _ h => h) (by kernel_rfl) ?hy5 ?_
              case hy5 => (intro w; go_simp; try (with_reducible rfl))
              simp only [Act.put, List.setIfInBounds_toArray, List.set_cons_zero, List.set_cons_succ]
              refine take_on (i := 5) 55 (v := ?v6) rfl rfl (by kernel_rfl) (by kernel_rfl) (by kernel_rfl) (fun _ _ _ h => h) (by kernel_rfl) ?hy6 ?_
              case hy6 => (intro w; go_simp; try (with_reducible rfl))
              simp only [Act.put, List.setIfInBounds_toArray, List.set_cons_zero, List.set_cons_succ]
              refine skip_on (i := 6) 56 rfl rfl (by kernel_rfl) (by kernel_rfl) (by kernel_rfl) (fun _ _ _ h => h) (by kernel_rfl) ?_
              simp only [Act.put, List.setIfInBounds_toArray, List.set_cons_zero, List.set_cons_succ]
              refine skip_on (i := 7) 57 rfl rfl (by kernel_rfl) (by kernel_rfl) (by kernel_rfl) (fun _ _ _ h => h) (by kernel_rfl) ?_
              simp only [Act.put, List.setIfInBounds_toArray, List.set_cons_zero, List.set_cons_succ]
              refine skip_on (i := 8) 58 rfl rfl (by kernel_rfl) (by kernel_rfl) (by kernel_rfl) (fun _ _ _ h => h) (by kernel_rfl) ?_
              simp only [Act.put, List.setIfInBounds_toArray, List.set_cons_zero, List.set_cons_succ]
              refine skip_on (i := 9) 59 rfl rfl (by kernel_rfl) (by kernel_rfl) (by kernel_rfl) (fun _ _ _ h => h) (by kernel_rfl) ?_
              simp only [Act.put, List.setIfInBounds_toArray, List.set_cons_zero, List.set_cons_succ]
              refine skip_on (i := 10) 60 rfl rfl (by kernel_rfl) (by kernel_rfl) (by kernel_rfl) (fun _ _ _ h => h) (by kernel_rfl) ?_
              simp only [Act.put, List.setIfInBounds_toArray, List.set_cons_zero, List.set_cons_succ]
              refine skip_on (i := 11) 61 rfl rfl (by kernel_rfl) (by kernel_rfl) (by kernel_rfl) (fun _ _ _ h => h) (by kernel_rfl) ?_
              simp only [Act.put, List.setIfInBounds_toArray, List.set_cons_zero, List.set_cons_succ]
              refine skip_on (i := 12) 62 rfl rfl (by kernel_rfl) (by kernel_rfl) (by kernel_rfl) (fun _ _ _ h => h) (by kernel_rfl) ?_
              simp only [Act.put, List.setIfInBounds_toArray, List.set_cons_zero, List.set_cons_succ]
              refine skip_on (i := 13) 63 rfl rfl (by kernel_rfl) (by kernel_rfl) (by kernel_rfl) (fun _ _ _ h => h) (by kernel_rfl) ?_
              simp only [Act.put, List.setIfInBounds_toArray, List.set_cons_zero, List.set_cons_succ]
              refine skip_on (i := 14) 64 rfl rfl (by kernel_rfl) (by kernel_rfl) (by kernel_rfl) (fun _ _ _ h => h) (by kernel_rfl) ?_
              simp only [Act.put, List.setIfInBounds_toArray, List.set_cons_zero, List.set_cons_succ]
              refine skip_on (i := 15) 65 rfl rfl (by kernel_rfl) (by kernel_rfl) (by kernel_rfl) (fun _ _ _ h => h) (by kernel_rfl) ?_
              simp only [Act.put, List.setIfInBounds_toArray, List.set_cons_zero, List.set_cons_succ]
              refine take_on (i := 16) 66 (v := ?v17) rfl rfl (by kernel_rfl) (by kernel_rfl) (by kernel_rfl) (fun _ _ _ h => h) (by kernel_rfl) ?hy17 ?_
              case hy17 => (intro w; go_simp; try (with_reducible rfl))
              simp only [Act.put, List.setIfInBounds_toArray, List.set_cons_zero, List.set_cons_succ]
              refine take_on (i := 17) 67 (v := ?v18) rfl rfl (by kernel_rfl) (by kernel_rfl) (by kernel_rfl) (fun _ _ _ h => h) (by kernel_rfl) ?hy18 ?_
              case hy18 => (intro w; go_simp; try (with_reducible rfl))
              simp only [Act.put, List.setIfInBounds_toArray, List.set_cons_zero, List.set_cons_succ]
              refine wpAny_done (by kernel_rfl) ?_ _
              go_wp2_with fail
              go_meet
              exact ⟨rfl, O3.out, O4.out, J3.out, Ch.drew G3.out⟩
            · obtain ⟨y, hy⟩ : ∃ y, L[k - 1]? = some y := ⟨_, List.getElem?_eq_getElem (by rw [← HNL.out]; omega)⟩
              have hlt := HRS.out.lt (show k - 1 < k by omega) hy HXK.out
              obtain ⟨g5, cap5, hv5, _, hl5, _, hc5, _, _⟩ := O4.out.get eI_len HXK.out
              injection hv5 with a1 a2 a3
              injection a1 with a1
              injection a1 with a1
              subst a1
              obtain ⟨g6, cap6, hv6, _, hl6, _, hc6, _, _⟩ := O4.out.get eI_len hy
              injection hv6 with b1 b2 b3
              injection b1 with b1
              injection b1 with b1
              subst b1
              have c5 := hc5 0 _ rfl
              rw [Nat.mul_one, Nat.add_zero] at c5
              have c6 := hc6 0 _ rfl
              rw [Nat.mul_one, Nat.add_zero] at c6
              have kp : decide ((k : Int) > 0) = true := decide_eq_true (by omega)
              have kp2 : decide (0 < (k : Int)) = true := decide_eq_true (by omega)
              have kp3 : decide (0 < k) = true := decide_eq_true (by omega)
              have k2 : (k : Int) - 1 = ((k - 1 : Nat) : Int) := by omega
              have k3 : (0 : Int) ≤ ((k - 1 : Nat) : Int) := by omega
              have k4 : ((k - 1 : Nat) : Int) < (n : Int) := by omega
              have k5 : IntKind.i64.wrap ((k : Int) - 1) = ((k - 1 : Nat) : Int) := by rw [k2, IntKind.wrap_i64]; omega
              have xy : decide (x ≤ y) = false := decide_eq_false (by omega)
              clear hc5 hc6 a2 a3 b2 b3 hy hlt
              go_region
              all_goals go_wp2_with fail
              all_goals go_meet
              all_goals exact ⟨rfl, O3.out, O4.out, J3.out, by first | exact G3.out | exact Ch.drew G3.out⟩
          case rest =>
            obtain ⟨rfl, hO2, hOL, hJ2, hG2⟩ := hcut
            have O5 := hid hO2
            have O6 := hid hOL
            have J5 := hid hJ2
            have G5 := hid hG2
            clear hO2 hOL hJ2 hG2
            go_wp2_with fail
            rename World => V9
            go_loopg [10, 11] n2 (fun m i s wq => ∃ (l : Nat), l + m = n2 ∧ i = .int .i64 ((l : Nat) : Int) ∧ Ow eI 1 3 w.heap.size wq (.slice ao2 n2 cap2) ws ∧ Ow eI 1 3 w.heap.size wq (.slice (some ⟨gx, 0, none⟩) n cap1) L ∧ wq.heap[w.heap.size]? = some (.cells #[.slice aoc nc cac, .slice (some ⟨g, o, none⟩) nf caf, .slice aot nt cat] 26 (0, 0)) ∧ Gr w wq)
            case atStart => exact ⟨0, by omega, rfl, O5.out, O6.out, J5.out, G5.out⟩
            case round =>
              obtain ⟨l, hlm, rfl, hA, hB, hJ, hG⟩ := hrel
              have HA7 := hid hA
              have HB7 := hid hB
              have HJ7 := hid hJ
              have HG7 := hid hG
              clear hA hB hJ hG
              by_cases hl : l < n2
              · obtain ⟨z, hz⟩ : ∃ z, ws[l]? = some z := ⟨_, List.getElem?_eq_getElem (by rw [← HN2.out]; exact hl)⟩
                have HZ := hid (HCx.out z (List.mem_of_getElem? hz))
                obtain ⟨g7, cap7, hv7, _, hl7, _, hc7, _, _⟩ := HA7.out.get eI_len hz
                injection hv7 with hv1 hv2 hv3
                subst hv1
                have c7 := hc7 0 _ rfl
                rw [Nat.mul_one, Nat.add_zero] at c7
                have l0 : (0 : Int) ≤ (l : Int) := by omega
                have l1 : (l : Int) < (n2 : Int) := by omega
                clear hc7 hv2 hv3 hz
                go_wp2_with (go_at_call 23; refine (has_any _ _ _ _ _ L HB7.out.lst hll z HZ.out).mono ?_; rintro e w8 ⟨rfl, g8⟩; have A8 := hid (HA7.out.gr g8); have B8 := hid (HB7.out.gr g8); have J8 := hid (gr_blk HJ7.out g8); have G8 := hid (Gr.trans HG7.out g8); clear g8)
                clear c7
                go_roundg (gk - 1)
                case measure => omega
                case rel => exact ⟨l + 1, by omega, by simp, A8.out, B8.out, J8.out, G8.out⟩
              · have ln : ¬ (l : Int) < (n2 : Int) := by omega
                go_wp2
                go_roundg (n - (k + 1))
                case measure => omega
                case rel => exact ⟨k + 1, by omega, by simp, HB7.out, HJ7.out, HG7.out⟩
      · have kn : ¬ (k : Int) < (n : Int) := by omega
        go_wp2
        go_ret
        exact ⟨rfl, HGr.out⟩
  · have hE' : (E == 0) = false := by simpa using hE0
    rw [if_neg hE0] at HRE
    have K1 := hid (Gr.alloc (Gr.refl w) #[.slice aoc nc cac, .slice aof nf caf, .slice aot nt cat] 26)
    clear h hu hg hr HNX HF hnf hnc _hc _hf _ht _hq hE HYES HCK
    go_enter Tryd.func8, Tryd.ntmps8
    go_wp2_with (first | (go_at_call 17; refine (HRE.out _ K1.out).mono ?_; rintro e w1 ⟨v1, rfl, o1, g1⟩; obtain ⟨ao1, cap1, hv1⟩ := o1.form; subst hv1; have G1 := hid (Gr.trans K1.out g1); clear o1 g1) | (go_at_call 11; refine (HV.out _ (HG.out.gr G1.out)).mono ?_; rintro e w4 ⟨rfl, g4⟩; have G4 := hid (Gr.trans G1.out g4); clear g4))
    go_ret
    exact ⟨rfl, G4.out⟩
end Go.Proofs.YtollfepggicehaaDoor.Lt
