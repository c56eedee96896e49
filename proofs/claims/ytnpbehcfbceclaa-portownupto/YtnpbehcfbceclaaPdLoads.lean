/-
  The statement PortLoads, walked: it returns true. Condition: the lists are there, and have no more than 1048576 elements.
-/
import Derived.Test.YtnpbehcfbceclaaPdLoadB
import Derived.Test.YtnpbehcfbceclaaPdPlays
namespace Go.Proofs.Ytnpbehcfbceclaa.Lt
open Go.RowKit Wd
attribute [local go_sem ↓] Go.wp_at_zero Go.wp_at_succ
set_option maxRecDepth 20000

theorem rload_no {P Q : Nat → Prop} (w : World) (q : Bool) (c l : Int) (a1 a2 : Option Addr) (n1 n2 c1 c2 : Nat) (xs : List Int) (ys : List Ag) (h1 : Ls eI P w (.slice a1 n1 c1) xs) (h2 : Ls eG Q w (.slice a2 n2 c2) ys) (hn1 : n1 ≤ 1048576) (hn2 : n2 ≤ 1048576) (hb : mayB q c n1 n2 ys l = false) :
    Calls Try.prog 17 #[.agg #[.bool q, .int .i64 c, .slice a1 n1 c1, .slice a2 n2 c2, .int .i64 l]] w fun e w' => e = .returned (.tuple #[.agg #[.bool false, .int .i64 0, .slice none 0 0, .slice none 0 0, .int .i64 0], .int .i64 150]) ∧ Gr w w' := by
  cases hh : hdB q c n1 n2 l
  · exact rload_hd w q c l a1 a2 n1 n2 c1 c2 hh
  · rw [mayB_eq, hh, Bool.true_and] at hb
    have hk := hh
    unfold hdB at hk
    have hk1 : ((capB q c = true ∧ (n1 : Int) ≤ c) ∧ (n2 : Int) ≤ c) ∧ lostB q l = true := by simpa using hk
    obtain ⟨cN, rfl, _⟩ := cap_nat hk1.1.1.1
    obtain ⟨lN, rfl⟩ : ∃ lN : Nat, l = (lN : Int) := ⟨l.toNat, by
      have h3 := hk1.2
      unfold lostB at h3
      cases q <;> simp at h3 <;> omega⟩
    refine (rload_tl w q cN lN a1 a2 n1 n2 c1 c2 xs ys h1 h2 hn1 hn2 hh).mono ?_
    rintro e w' (⟨-, h4, h5⟩ | ⟨h4, -⟩)
    · exact ⟨h4, h5⟩
    · rw [hb] at h4
      cases h4
theorem may_ok {q : Bool} {c l : Int} {xs : List Int} {ys : List Ag} (hb : mayB q c xs.length ys.length ys l = true) : ∃ cN lN : Nat, c = (cN : Int) ∧ l = (lN : Int) ∧ (⟨q, cN, xs, ys, lN⟩ : Pt).ok ∧ hdB q c xs.length ys.length l = true ∧ agesB ys 2147483647 = true := by
  rw [mayB_eq] at hb
  have hb2 : hdB q c xs.length ys.length l = true ∧ agesB ys 2147483647 = true := by simpa using hb
  obtain ⟨hh, ha⟩ := hb2
  have hk := hh
  unfold hdB at hk
  have hk1 : ((capB q c = true ∧ (xs.length : Int) ≤ c) ∧ (ys.length : Int) ≤ c) ∧ lostB q l = true := by simpa using hk
  obtain ⟨⟨⟨h1, h2⟩, h3⟩, h4⟩ := hk1
  obtain ⟨cN, rfl, hc⟩ := cap_nat h1
  obtain ⟨lN, rfl, h5, h6⟩ : ∃ lN : Nat, l = (lN : Int) ∧ lN ≤ 2147483647 ∧ (q = false → lN = 0) := by
    unfold lostB at h4
    cases q
    · have e : l = 0 := by simpa using h4
      exact ⟨0, by rw [e]; rfl, by omega, fun _ => rfl⟩
    · have e : 0 ≤ l ∧ l ≤ 2147483647 := by simpa using h4
      exact ⟨l.toNat, by omega, by omega, fun e => by cases e⟩
  have hnew := new_ok h1
  have hag : ∀ (ys : List Ag) (b : Int), b ≤ 2147483647 → agesB ys b = true → ∀ g ∈ ys, 0 ≤ g.a ∧ g.a ≤ 2147483647 := by
    intro ys
    induction ys with
    | nil => intro b _ _ g hg; cases hg
    | cons u r ih =>
      intro b hb h g hg
      have h9 : (0 ≤ u.a ∧ u.a ≤ b) ∧ agesB r u.a = true := by simpa [agesB] using h
      rcases List.mem_cons.1 hg with rfl | hg
      · exact ⟨h9.1.1, by omega⟩
      · exact ih u.a (by omega) h9.2 g hg
  exact ⟨cN, lN, rfl, rfl, ⟨hnew.c1, hc, by show xs.length ≤ cN; omega, by show ys.length ≤ cN; omega, h5, hag ys _ (Int.le_refl _) ha, hnew.s1, h6⟩, hh, ha⟩
/-- the box of the state that was handed in -/
def Bs (w : World) (z : Array Value) (W : World) : Prop := W.heap[w.heap.size]? = some (.cells z 32 (0, 0))
set_option maxHeartbeats 8000000 in
theorem loads_walk {P Q R : Nat → Prop} (w : World) (q : Bool) (c : Int) (p1 : Option Addr) (m1 d1 : Nat) (p2 : Option Addr) (m2 d2 : Nat) (l : Int) (xs : List Int) (ys : List Ag) (ao : Option Addr) (n ca : Nat) (axs : List Ac) (h1 : Ls eI P w (.slice p1 m1 d1) xs) (h2 : Ls eG Q w (.slice p2 m2 d2) ys) (hm1 : m1 ≤ 1048576) (hm2 : m2 ≤ 1048576) (hx : Ls eC R w (.slice ao n ca) axs) (hn : n ≤ 1048576) :
    Calls Try.prog 4 #[.agg #[.bool q, .int .i64 c, .slice p1 m1 d1, .slice p2 m2 d2, .int .i64 l], .slice ao n ca] w fun e w' => e = .returned (.bool true) ∧ Gr w w' := by
  have e1 : m1 = xs.length := h1.len.1
  have e2 : m2 = ys.length := h2.len.1
  subst e1 e2
  obtain ⟨A, hA⟩ : ∃ A, A = w.alloc (.cells #[.bool q, .int .i64 c, .slice p1 xs.length d1, .slice p2 ys.length d2, .int .i64 l] 32) := ⟨_, rfl⟩
  have GA := hid (show Gr w A by rw [hA]; exact Ch.alloc (Gr.refl w) _)
  have XB := hid (show A.heap[w.heap.size]? = some (.cells #[.bool q, .int .i64 c, .slice p1 xs.length d1, .slice p2 ys.length d2, .int .i64 l] 32 (0, 0)) by rw [hA]; exact al_at _ rfl)
  have HC := hid (fun W (g : Gr w W) => copyi_any W q c l p1 p2 xs.length ys.length d1 d2 xs ys (h1.gr g) (h2.gr g) hm1 hm2)
  have HX := hid hx
  have HXL := hid hx.len.1
  have hx1 : xs.length ≤ 1048576 := hm1
  have hy1 : ys.length ≤ 1048576 := hm2
  cases hb : mayB q c xs.length ys.length ys l
  · have HR := hid (fun W (g : Gr w W) => rload_no W q c l p1 p2 xs.length ys.length d1 d2 xs ys (h1.gr g) (h2.gr g) hm1 hm2 hb)
    have HL := hid (fun (S : Nat → Prop) (W : World) (b1 b2 : Option Addr) (k1 k2 : Nat) (g : Ls eG S W (.slice b2 ys.length k2) ys) => load_no W q c l b1 b2 xs.length ys.length k1 k2 ys g hy1 hb)
    clear h1 h2 hx hb
    go_enter Try.func4, Try.ntmps4
    go_wp2_with (rw [← hA]; refine wpList_load_row rfl 32 (.tmp 2) rfl w.heap.size rfl _ _ _ _ XB.out Try.underlying32 rfl pst_size ?_)
    rw [← hA]
    clear hA
    refine (HC.out _ GA.out).mono ?_
    rintro e w1 ⟨v1, v2, rfl, o1, o2, g1⟩
    obtain ⟨b1, k1, rfl⟩ := o1.form
    obtain ⟨b2, k2, rfl⟩ := o2.form
    have G1 := hid (Gr.trans GA.out g1)
    have XB1 := hid (gr_blk XB.out g1)
    have O2 := hid o2.lst
    clear o1 o2 g1
    go_wp2_with fail
    refine (HL.out _ _ b1 b2 k1 k2 O2.out).mono ?_
    rintro e w2 ⟨rfl, g2⟩
    have G2 := hid (Gr.trans G1.out g2)
    have XB2 := hid (gr_blk XB1.out g2)
    clear g2
    go_wp2_with (refine wpList_load_row rfl 32 (.tmp 2) rfl w.heap.size rfl _ _ _ _ XB2.out Try.underlying32 rfl pst_size ?_)
    refine (HR.out _ G2.out).mono ?_
    rintro e w3 ⟨rfl, g3⟩
    have G3 := hid (Gr.trans G2.out g3)
    clear g3
    go_wp2_with fail
    refine (lives_any _).mono ?_
    rintro e w4 ⟨rfl, g4⟩
    have G4 := hid (Gr.trans (Ch.alloc G3.out _) g4)
    clear g4
    go_wp2
    go_ret
    exact ⟨rfl, G4.out⟩
  · obtain ⟨cN, lN, rfl, rfl, hok, hh, hag⟩ := may_ok hb
    have HK := hid hok
    have HR := hid (fun W (g : Gr w W) => rload_tl W q cN lN p1 p2 xs.length ys.length d1 d2 xs ys (h1.gr g) (h2.gr g) hm1 hm2 hh)
    rw [hag] at HR
    have HL := hid (fun (S S' : Nat → Prop) (W : World) (b1 b2 : Option Addr) (k1 k2 : Nat) (f : Ls eI S' W (.slice b1 xs.length k1) xs) (g : Ls eG S W (.slice b2 ys.length k2) ys) => load_yes W q cN lN b1 b2 xs.length ys.length k1 k2 xs ys f g hx1 hy1 hb)
    clear h1 h2 hx hb hok hh hag
    go_enter Try.func4, Try.ntmps4
    go_wp2_with (rw [← hA]; refine wpList_load_row rfl 32 (.tmp 2) rfl w.heap.size rfl _ _ _ _ XB.out Try.underlying32 rfl pst_size ?_)
    rw [← hA]
    clear hA
    refine (HC.out _ GA.out).mono ?_
    rintro e w1 ⟨v1, v2, rfl, o1, o2, g1⟩
    obtain ⟨b1, k1, rfl⟩ := o1.form
    obtain ⟨b2, k2, rfl⟩ := o2.form
    have G1 := hid (Gr.trans GA.out g1)
    have XB1 := hid (gr_blk XB.out g1)
    have O1 := hid o1.lst
    have O2 := hid o2.lst
    clear o1 o2 g1
    go_wp2_with fail
    refine (HL.out _ _ _ b1 b2 k1 k2 O1.out O2.out).mono ?_
    rintro e w2 ⟨p, rfl, md2⟩
    have MD := hid md2
    have G2 := hid (Gr.trans G1.out md2.2)
    have XB2 := hid (gr_blk XB1.out md2.2)
    clear md2
    go_wp2_with (refine wpList_load_row rfl 32 (.tmp 2) rfl w.heap.size rfl _ _ _ _ XB2.out Try.underlying32 rfl pst_size ?_)
    refine (HR.out _ G2.out).mono ?_
    rintro e w3 (⟨h9, -⟩ | ⟨-, u1, u2, rfl, l1, l2, g3⟩)
    · cases h9
    obtain ⟨x, hx⟩ : ∃ x : Pt, x = ⟨q, cN, xs, ys, lN⟩ := ⟨_, rfl⟩
    have ND := hid (show Nd w w3 p x u1 u2 x from by
      rw [hx]
      exact ⟨Gr.trans G2.out g3, HK.out, HK.out, _, MD.out.1.gr g3, fun g e => Nat.le_trans G1.out.size e.1, l1.mono (fun g _ e e' => by have := e'.2; omega), l2.mono (fun g _ e e' => by have := e'.2; omega)⟩)
    obtain ⟨a1, n1, c1, rfl⟩ : ∃ a n c, u1 = .slice a n c := by
      obtain ⟨a, c, e⟩ := l1.form
      exact ⟨a, _, c, e⟩
    obtain ⟨a2, n2, c2, rfl⟩ : ∃ a n c, u2 = .slice a n c := by
      obtain ⟨a, c, e⟩ := l2.form
      exact ⟨a, _, c, e⟩
    have hv : stV (⟨q, cN, xs, ys, lN⟩ : Pt) (.slice a1 n1 c1) (.slice a2 n2 c2) = .agg #[.bool x.q, .int .i64 (x.cap : Nat), .slice a1 n1 c1, .slice a2 n2 c2, .int .i64 (x.lost : Nat)] := by rw [← hx]; rfl
    rw [hv]
    have HT7 := hid (show w.heap.size ≤ w3.heap.size from ND.out.1.size)
    have NB2 := hid (show Nb (Only w3.heap.size) w (w3.alloc (.cells #[.bool x.q, .int .i64 (x.cap : Nat), .slice a1 n1 c1, .slice a2 n2 c2, .int .i64 (x.lost : Nat)] 32)) p x (.slice a1 n1 c1) (.slice a2 n2 c2) x from (ND.out.nb (fun g e => by have e1 : g = w3.heap.size := e; omega)).gr (Ch.alloc (Gr.refl w3) _))
    have BT2 := hid (show (w3.alloc (.cells #[.bool x.q, .int .i64 (x.cap : Nat), .slice a1 n1 c1, .slice a2 n2 c2, .int .i64 (x.lost : Nat)] 32)).heap[w3.heap.size]? = some (.cells #[.bool x.q, .int .i64 (x.cap : Nat), .slice a1 n1 c1, .slice a2 n2 c2, .int .i64 (x.lost : Nat)] 32 (0, 0)) from al_at _ rfl)
    clear l1 l2 g3 hv hx
    go_wp2_with fail
    refine (lives_any _).mono ?_
    rintro e w3a ⟨rfl, g4⟩
    have NB3 := hid (NB2.out.gr g4)
    have BT3 := hid (gr_blk BT2.out g4)
    obtain ⟨t7, ht7⟩ : ∃ t, t = w3.heap.size := ⟨_, rfl⟩
    rw [← ht7] at HT7 NB3 BT3 ⊢
    clear g4 NB2 BT2 ht7
    have hS0 : w3a.drew.heap[t7]? = some (.cells #[.bool x.q, .int .i64 (x.cap : Nat), .slice a1 n1 c1, .slice a2 n2 c2, .int .i64 (x.lost : Nat)] 32 (0, 0)) := BT3.out
    have NB0 := hid (show Nb (Only t7) w w3a.drew p x (.slice a1 n1 c1) (.slice a2 n2 c2) x from NB3.out.gr (Ch.drew (Gr.refl w3a)))
    go_wp2_with fail
    refine wp_region_held_drew (S := fun V => V.heap[t7]? = some (.cells #[.bool x.q, .int .i64 (x.cap : Nat), .slice a1 n1 c1, .slice a2 n2 c2, .int .i64 (x.lost : Nat)] 32 (0, 0))) (by kernel_rfl) (by exact hS0) (fun _ => ?_)
    generalize World.drew w3a = V0 at hS0 NB0 ⊢
    refine takeS_on (i := 0) 38 (v := ?hv10) rfl rfl (by kernel_rfl) (by kernel_rfl) (by kernel_rfl) (fun _ _ _ h => h) (by kernel_rfl) ?hh10 (by exact hS0) ?_
    case hh10 => (intro w' hSw; go_simp; try (with_reducible rfl))
    simp only [Act.put, List.setIfInBounds_toArray, List.set_cons_zero, List.set_cons_succ]
    refine takeS_on (i := 2) 40 (v := ?hv11) rfl rfl (by kernel_rfl) (by kernel_rfl) (by kernel_rfl) (fun _ _ _ h => h) (by kernel_rfl) ?hh11 (by exact hS0) ?_
    case hh11 => (intro w' hSw; have z0 := cell_of hSw 0; have z1 := cell_of hSw 1; have z2 := cell_of hSw 2; have z3 := cell_of hSw 3; have z4 := cell_of hSw 4; have zl := lt_of_block hSw; simp at z0 z1 z2 z3 z4; go_simp; try (with_reducible rfl))
    simp only [Act.put, List.setIfInBounds_toArray, List.set_cons_zero, List.set_cons_succ]
    refine wpAnyH_ready (rs := [1]) (by kernel_rfl) (by simp) (AllReadyH.cons rfl (fun K hK => ?_) AllReadyH.nil)
    go_simp
    refine (bstate NB0.out).mono ?_
    rintro e w3 ⟨u1, u2, rfl, o1, o2, nb3, g3⟩
    obtain ⟨a3, c3, rfl⟩ := o1.form
    obtain ⟨a4, c4, rfl⟩ := o2.form
    have hS3 := gr_blk hS0 g3
    have CSM := hid (bsame nb3 o1.lst o2.lst)
    unfold stV at CSM
    clear o1 o2 nb3 g3
    refine hK.out _ _ (by exact hS3) (fun _ => ?_)
    clear hK K
    refine wpAnyH_ready (rs := [3]) (by kernel_rfl) (by simp) (AllReadyH.cons rfl (fun K hK => ?_) AllReadyH.nil)
    go_simp
    refine CSM.out.mono ?_
    rintro e w4 ⟨rfl, nb4, g4⟩
    have hS4 := gr_blk hS3 g4
    have NB4 := hid nb4
    clear nb4 g4
    refine hK.out _ _ (by exact hS4) (fun _ => ?_)
    clear hK K
    refine takeS_on (i := 4) 9 (v := ?hv12) rfl rfl (by kernel_rfl) (by kernel_rfl) (by kernel_rfl) (fun _ _ _ h => h) (by kernel_rfl) ?hh12 (by exact hS4) ?_
    case hh12 => (intro w' hSw; go_simp; try (with_reducible rfl))
    simp only [Act.put, List.setIfInBounds_toArray, List.set_cons_zero, List.set_cons_succ]
    refine wpAnyH_done (by kernel_rfl) ?_ _
    have BT4 := hid hS4
    clear hS0 hS3 hS4
    go_wp2_with fail
    go_loopg [9, 10] n (fun k ov i wr => ∃ (j : Nat) (x : Pt) (a1 : Option Addr) (n1 c1 : Nat) (a2 : Option Addr) (n2 c2 : Nat), j + k = n ∧ i = .int .i64 (j : Int) ∧ ov = .bool true ∧ Nb (Only t7) w wr p x (.slice a1 n1 c1) (.slice a2 n2 c2) x ∧ wr.heap[t7]? = some (.cells #[.bool x.q, .int .i64 (x.cap : Nat), .slice a1 n1 c1, .slice a2 n2 c2, .int .i64 (x.lost : Nat)] 32 (0, 0)))
    case atStart => exact ⟨0, x, a1, n1, c1, a2, n2, c2, by omega, rfl, rfl, NB4.out, BT4.out⟩
    case round =>
      clear NB4 BT4
      obtain ⟨j, x, a1, n1, c1, a2, n2, c2, hjk, rfl, rfl, hnb, hbt⟩ := hrel
      obtain ⟨Z, hZ⟩ : ∃ W, W = wr := ⟨_, rfl⟩
      subst hZ
      by_cases hj : j < n
      · have hj' : (j : Int) < (n : Int) := by omega
        have hj0 : (0 : Int) ≤ (j : Int) := by omega
        have hjl : j < axs.length := by rw [← HXL.out]; exact hj
        have hjx : axs[j]? = some axs[j] := List.getElem?_eq_getElem hjl
        generalize axs[j] = aj at hjx
        obtain ⟨g, o, cp, e1, _, hgl, hcap, hcx⟩ := HX.out.get eC_len hjx
        injection e1 with e1 e2 e3
        subst e1 e3
        have HJ := hid (show ∀ W, Gr w W → W.cell? ⟨g, o + j * 2, none⟩ = some (.int .i64 aj.k) ∧ W.cell? ⟨g, o + j * 2 + 1, none⟩ = some (.int .i64 aj.v) ∧ g < W.heap.size from fun W k => ⟨(k.cell hgl).trans (hcx 0 _ rfl), (k.cell hgl).trans (hcx 1 _ rfl), Nat.lt_of_lt_of_le hgl k.size⟩)
        have hcn : n ≤ ca := by rw [HXL.out]; exact hcap
        have hS0 : Gr w Z.drew := hnb.1.drew
        have BT0 := hid (show Z.drew.heap[t7]? = some (.cells #[.bool x.q, .int .i64 (x.cap : Nat), .slice a1 n1 c1, .slice a2 n2 c2, .int .i64 (x.lost : Nat)] 32 (0, 0)) from hbt)
        have NB0 := hid (show Nb (Only t7) w Z.drew p x (.slice a1 n1 c1) (.slice a2 n2 c2) x from hnb.gr (Ch.drew (Gr.refl Z)))
        have HT0 := hid (show ∀ g, Only t7 g → g < Z.drew.heap.size from fun g e => by have e1 : g = t7 := e; rw [e1]; exact lt_of_block hbt)
        clear hjx hgl hcap hcx e2 hnb hbt
        go_wp2_with fail
        refine wp_region_held_drew (S := Gr w) (by kernel_rfl) (by exact hS0) (fun _ => ?_)
        generalize World.drew Z = V0 at hS0 BT0 NB0 HT0 ⊢
        refine takeS_on (i := 0) 52 (v := ?hv1) rfl rfl (by kernel_rfl) (by kernel_rfl) (by kernel_rfl) (fun _ _ _ h => h) (by kernel_rfl) ?hh1 (by exact hS0) ?_
        case hh1 => (intro w' hSw; go_simp; try (with_reducible rfl))
        simp only [Act.put, List.setIfInBounds_toArray, List.set_cons_zero, List.set_cons_succ]
        refine takeS_on (i := 2) 54 (v := ?hv2) rfl rfl (by kernel_rfl) (by kernel_rfl) (by kernel_rfl) (fun _ _ _ h => h) (by kernel_rfl) ?hh2 (by exact hS0) ?_
        case hh2 => (intro w' hSw; go_simp; try (with_reducible rfl))
        simp only [Act.put, List.setIfInBounds_toArray, List.set_cons_zero, List.set_cons_succ]
        refine takeS_on (i := 3) 55 (v := ?hv3) rfl rfl (by kernel_rfl) (by kernel_rfl) (by kernel_rfl) (fun _ _ _ h => h) (by kernel_rfl) ?hh3 (by exact hS0) ?_
        case hh3 => (intro w' hSw; go_simp; try (with_reducible rfl))
        simp only [Act.put, List.setIfInBounds_toArray, List.set_cons_zero, List.set_cons_succ]
        refine takeS_on (i := 4) 56 (v := ?hv4) rfl rfl (by kernel_rfl) (by kernel_rfl) (by kernel_rfl) (fun _ _ _ h => h) (by kernel_rfl) ?hh4 (by exact hS0) ?_
        case hh4 => (intro w' hSw; go_simp; try (with_reducible rfl))
        simp only [Act.put, List.setIfInBounds_toArray, List.set_cons_zero, List.set_cons_succ]
        refine takeS_on (i := 5) 57 (v := ?hv5) rfl rfl (by kernel_rfl) (by kernel_rfl) (by kernel_rfl) (fun _ _ _ h => h) (by kernel_rfl) ?hh5 (by exact hS0) ?_
        case hh5 => (intro w' hSw; obtain ⟨q0, q1, ql⟩ := HJ.out _ hSw; go_simp; try (with_reducible rfl))
        simp only [Act.put, List.setIfInBounds_toArray, List.set_cons_zero, List.set_cons_succ]
        refine wpAnyH_ready (rs := [1]) (by kernel_rfl) (by simp) (AllReadyH.cons rfl (fun K hK => ?_) AllReadyH.nil)
        have z0 := cell_of BT0.out 0
        have z1 := cell_of BT0.out 1
        have z2 := cell_of BT0.out 2
        have z3 := cell_of BT0.out 3
        have z4 := cell_of BT0.out 4
        have zl := lt_of_block BT0.out
        simp at z0 z1 z2 z3 z4
        go_simp
        refine hK.out _ _ (by exact hS0) (fun _ => ?_)
        clear hK K
        refine wpAnyH_ready (rs := [6]) (by kernel_rfl) (by simp) (AllReadyH.cons rfl (fun K hK => ?_) AllReadyH.nil)
        go_simp
        refine (does_any aj NB0.out HT0.out).mono ?_
        rintro e w5 ⟨y1, y2, rfl, nb5, c5'⟩
        obtain ⟨y, hy⟩ : ∃ y, y = actP x aj := ⟨_, rfl⟩
        rw [← hy] at nb5 ⊢
        clear hy
        obtain ⟨a3, n3, c3, rfl⟩ : ∃ a n c, y1 = .slice a n c := by
          obtain ⟨_, _, _, T, _, _, l3, _⟩ := nb5
          obtain ⟨a, c, e⟩ := l3.form
          exact ⟨a, _, c, e⟩
        obtain ⟨a4, n4, c4, rfl⟩ : ∃ a n c, y2 = .slice a n c := by
          obtain ⟨_, _, _, T, _, _, _, l4⟩ := nb5
          obtain ⟨a, c, e⟩ := l4.form
          exact ⟨a, _, c, e⟩
        have hS5 := nb5.1
        have BT5 := hid (ch_blk BT0.out c5' (fun e => e rfl))
        have NB5 := hid nb5
        unfold stV
        clear nb5 c5'
        refine hK.out _ _ (by exact hS5) (fun _ => ?_)
        clear hK K
        refine takeS_on (i := 7) 51 (v := ?hv6) rfl rfl (by kernel_rfl) (by kernel_rfl) (by kernel_rfl) (fun _ _ _ h => h) (by kernel_rfl) ?hh6 (by exact hS5) ?_
        case hh6 => (intro w' hSw; go_simp; try (with_reducible rfl))
        simp only [Act.put, List.setIfInBounds_toArray, List.set_cons_zero, List.set_cons_succ]
        refine takeS_on (i := 8) 59 (v := ?hv7) rfl rfl (by kernel_rfl) (by kernel_rfl) (by kernel_rfl) (fun _ _ _ h => h) (by kernel_rfl) ?hh7 (by exact hS5) ?_
        case hh7 => (intro w' hSw; go_simp; try (with_reducible rfl))
        simp only [Act.put, List.setIfInBounds_toArray, List.set_cons_zero, List.set_cons_succ]
        refine takeS_on (i := 9) 60 (v := ?hv8) rfl rfl (by kernel_rfl) (by kernel_rfl) (by kernel_rfl) (fun _ _ _ h => h) (by kernel_rfl) ?hh8 (by exact hS5) ?_
        case hh8 => (intro w' hSw; go_simp; try (with_reducible rfl))
        simp only [Act.put, List.setIfInBounds_toArray, List.set_cons_zero, List.set_cons_succ]
        refine wpAnyH_ready (rs := [10]) (by kernel_rfl) (by simp) (AllReadyH.cons rfl (fun K hK => ?_) AllReadyH.nil)
        refine step_st_row rfl 32 (.tmp 7) (.tmp 59) rfl t7 #[.bool y.q, .int .i64 (y.cap : Nat), .slice a3 n3 c3, .slice a4 n4 c4, .int .i64 (y.lost : Nat)] rfl rfl _ _ BT5.out pst_size rfl (by simp [Value.oneCell']) ?_
        intro w8 b8 k8
        have BT8 := hid b8
        have NB8 := hid (NB5.out.st k8 (fun g e => e) (fun g e => by have e1 : g = t7 := e; have := HT7.out; omega))
        have hS8 := NB8.out.1
        clear b8 k8
        refine hK.out _ _ (by exact hS8) (fun _ => ?_)
        change wpAnyH _ _ _ _ _ _ _ (Act.put _ none _) _
        simp only [Act.put]
        clear hK K
        refine takeS_on (i := 11) 9 (v := ?hv9) rfl rfl (by kernel_rfl) (by kernel_rfl) (by kernel_rfl) (fun _ _ _ h => h) (by kernel_rfl) ?hh9 (by exact hS8) ?_
        case hh9 => (intro w' hSw; go_simp; try (with_reducible rfl))
        simp only [Act.put, List.setIfInBounds_toArray, List.set_cons_zero, List.set_cons_succ]
        refine wpAnyH_done (by kernel_rfl) ?_ _
        clear hS0 hS5 hS8
        go_wp2
        go_roundg (gk - 1)
        case measure => omega
        case rel =>
          refine ⟨j + 1, y, a3, n3, c3, a4, n4, c4, by omega, ?_, rfl, NB8.out, BT8.out⟩
          first | with_reducible rfl | simp
      · have hj' : ¬ ((j : Int) < (n : Int)) := by omega
        have hS0 : Z.drew.heap[t7]? = some (.cells #[.bool x.q, .int .i64 (x.cap : Nat), .slice a1 n1 c1, .slice a2 n2 c2, .int .i64 (x.lost : Nat)] 32 (0, 0)) := hbt
        have NB0 := hid (show Nb (Only t7) w Z.drew p x (.slice a1 n1 c1) (.slice a2 n2 c2) x from hnb.gr (Ch.drew (Gr.refl Z)))
        clear hnb hbt
        go_wp2_with fail
        refine wp_region_held_drew (S := fun V => V.heap[t7]? = some (.cells #[.bool x.q, .int .i64 (x.cap : Nat), .slice a1 n1 c1, .slice a2 n2 c2, .int .i64 (x.lost : Nat)] 32 (0, 0))) (by kernel_rfl) (by exact hS0) (fun _ => ?_)
        generalize World.drew Z = V0 at hS0 NB0 ⊢
        refine takeS_on (i := 0) 61 (v := ?hv13) rfl rfl (by kernel_rfl) (by kernel_rfl) (by kernel_rfl) (fun _ _ _ h => h) (by kernel_rfl) ?hh13 (by exact hS0) ?_
        case hh13 => (intro w' hSw; go_simp; try (with_reducible rfl))
        simp only [Act.put, List.setIfInBounds_toArray, List.set_cons_zero, List.set_cons_succ]
        refine takeS_on (i := 1) 62 (v := ?hv14) rfl rfl (by kernel_rfl) (by kernel_rfl) (by kernel_rfl) (fun _ _ _ h => h) (by kernel_rfl) ?hh14 (by exact hS0) ?_
        case hh14 => (intro w' hSw; go_simp; try (with_reducible rfl))
        simp only [Act.put, List.setIfInBounds_toArray, List.set_cons_zero, List.set_cons_succ]
        refine takeS_on (i := 2) 63 (v := ?hv15) rfl rfl (by kernel_rfl) (by kernel_rfl) (by kernel_rfl) (fun _ _ _ h => h) (by kernel_rfl) ?hh15 (by exact hS0) ?_
        case hh15 => (intro w' hSw; go_simp; try (with_reducible rfl))
        simp only [Act.put, List.setIfInBounds_toArray, List.set_cons_zero, List.set_cons_succ]
        refine takeS_on (i := 4) 65 (v := ?hv16) rfl rfl (by kernel_rfl) (by kernel_rfl) (by kernel_rfl) (fun _ _ _ h => h) (by kernel_rfl) ?hh16 (by exact hS0) ?_
        case hh16 => (intro w' hSw; have z0 := cell_of hSw 0; have z1 := cell_of hSw 1; have z2 := cell_of hSw 2; have z3 := cell_of hSw 3; have z4 := cell_of hSw 4; have zl := lt_of_block hSw; simp at z0 z1 z2 z3 z4; go_simp; try (with_reducible rfl))
        simp only [Act.put, List.setIfInBounds_toArray, List.set_cons_zero, List.set_cons_succ]
        refine wpAnyH_ready (rs := [3]) (by kernel_rfl) (by simp) (AllReadyH.cons rfl (fun K hK => ?_) AllReadyH.nil)
        go_simp
        refine (bstate NB0.out).mono ?_
        rintro e w3 ⟨u1, u2, rfl, o1, o2, nb3, g3⟩
        obtain ⟨a3, c3, rfl⟩ := o1.form
        obtain ⟨a4, c4, rfl⟩ := o2.form
        have hS3 := gr_blk hS0 g3
        have CSM := hid (bsame nb3 o1.lst o2.lst)
        unfold stV at CSM
        clear o1 o2 nb3 g3
        refine hK.out _ _ (by exact hS3) (fun _ => ?_)
        clear hK K
        refine wpAnyH_ready (rs := [5]) (by kernel_rfl) (by simp) (AllReadyH.cons rfl (fun K hK => ?_) AllReadyH.nil)
        go_simp
        refine CSM.out.mono ?_
        rintro e w4 ⟨rfl, nb4, g4⟩
        have hS4 := gr_blk hS3 g4
        have NB4 := hid nb4
        clear nb4 g4
        refine hK.out _ _ (by exact hS4) (fun _ => ?_)
        clear hK K
        refine takeS_on (i := 6) 67 (v := ?hv17) rfl rfl (by kernel_rfl) (by kernel_rfl) (by kernel_rfl) (fun _ _ _ h => h) (by kernel_rfl) ?hh17 (by exact hS4) ?_
        case hh17 => (intro w' hSw; go_simp; try (with_reducible rfl))
        simp only [Act.put, List.setIfInBounds_toArray, List.set_cons_zero, List.set_cons_succ]
        refine takeS_on (i := 7) 4 (v := ?hv18) rfl rfl (by kernel_rfl) (by kernel_rfl) (by kernel_rfl) (fun _ _ _ h => h) (by kernel_rfl) ?hh18 (by exact hS4) ?_
        case hh18 => (intro w' hSw; go_simp; try (with_reducible rfl))
        simp only [Act.put, List.setIfInBounds_toArray, List.set_cons_zero, List.set_cons_succ]
        refine wpAnyH_done (by kernel_rfl) ?_ _
        have GW4 := hid NB4.out.1
        clear hS0 hS3 hS4
        go_wp2
        go_ret
        exact ⟨rfl, GW4.out⟩
end Go.Proofs.Ytnpbehcfbceclaa.Lt
