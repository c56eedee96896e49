/-
  What the program's check answers. Conditions: lists are no longer than the reach lets be; words are words; the tables lie where they lie.
-/
import Derived.Test.YtbehlhnnfdkmaaaGreatDoorLtCases
import Derived.Test.YtbehlhnnfdkmaaaGreatDoorLtLine
namespace Go.Proofs.YtbehlhnnfdkmaaaGreatDoor.Lt
open Go.RowKit Wd

/-- a function's words: the first error beside one before, or none where something named is not there -/
def ckW (nf nt : Nat) (f : Int × Int) : List Int → Int → Option Int
  | [], u => some u
  | x :: r, u => if dE x = 0 ∧ thr nf nt f (dI x) = false then none else ckW nf nt f r (if u = 0 then dE x else u)
/-- the words of one function -/
def wf (cs : List Int) (f : Int × Int) : List Int := (cs.drop f.1.toNat).take (f.2 - f.1).toNat
def ckF (nf nt : Nat) (cs : List Int) : List (Int × Int) → Int → Option Int
  | [], u => some u
  | f :: r, u => (ckW nf nt f (wf cs f) u).bind (ckF nf nt cs r)
/-- why a program has no text, but its length -/
def chk (cs : List Int) (fs : List (Int × Int)) (ts : List Tb) : Int := if ptd fs cs.length = true ∧ cfs ts = true then (ckF fs.length ts.length cs fs 0).getD 1 else 1
theorem pr_le : ∀ (fs : List (Int × Int)) (a n : Int), pr fs a = some n → a ≤ n := by
  intro fs
  induction fs with
  | nil => intro a n h; injection h with h; omega
  | cons f r ih =>
    intro a n h
    unfold pr at h
    split at h
    · rename_i q
      have := ih _ _ h
      omega
    · cases h
theorem slice_mid (g o n cap a b : Nat) (h1 : a < b) (h2 : b ≤ n) (h3 : n ≤ cap) (W : World) : (Instr.slice 22 (.slice (some ⟨g, o, none⟩) n cap) (some (.int .i64 (a : Nat))) (some (.int .i64 (b : Nat))) none).run Tryz.prog W = .ok (.slice (some ⟨g, o + a, none⟩) (b - a) (cap - a)) W := by
  have e1 : (a : Int) ≤ (b : Int) := by omega
  have e2 : (b : Int) ≤ (cap : Int) := by omega
  have e3 : ¬ cap - a = 0 := by omega
  have e4 : (0 : Int) ≤ (a : Int) := by omega
  have e5 : ¬ cap ≤ a := by omega
  have e6 : ¬ (a : Int) < 0 := by omega
  have e7 : (a : Int) ≤ (cap : Int) := by omega
  go_simp
  omega
theorem wf_get {cs : List Int} {a b k : Nat} (hk : k < b - a) : (wf cs ((a : Nat), (b : Nat)))[k]? = cs[a + k]? := by
  unfold wf
  have e1 : ((a : Nat) : Int).toNat = a := by omega
  have e2 : (((b : Nat) : Int) - ((a : Nat) : Int)).toNat = b - a := by omega
  simp only [e1, e2]
  rw [List.getElem?_take, if_pos hk, List.getElem?_drop]
theorem wf_len {cs : List Int} {a b : Nat} (h : a ≤ b) (hb : b ≤ cs.length) : (wf cs ((a : Nat), (b : Nat))).length = b - a := by
  unfold wf
  have e1 : ((a : Nat) : Int).toNat = a := by omega
  have e2 : (((b : Nat) : Int) - ((a : Nat) : Int)).toNat = b - a := by omega
  simp only [e1, e2, List.length_take, List.length_drop]
  omega
theorem ckW_cons {nf nt : Nat} {f : Int × Int} {ws : List Int} {k : Nat} {x : Int} (h : ws[k]? = some x) (u : Int) : ckW nf nt f (ws.drop k) u = if dE x = 0 ∧ thr nf nt f (dI x) = false then none else ckW nf nt f (ws.drop (k + 1)) (if u = 0 then dE x else u) := by
  obtain ⟨h1, h2⟩ := List.getElem?_eq_some_iff.1 h
  rw [List.drop_eq_getElem_cons h1, h2]
  rfl
theorem ckF_cons {nf nt : Nat} {cs : List Int} {fs : List (Int × Int)} {j : Nat} {f : Int × Int} (h : fs[j]? = some f) (u : Int) : ckF nf nt cs (fs.drop j) u = (ckW nf nt f (wf cs f) u).bind (ckF nf nt cs (fs.drop (j + 1))) := by
  obtain ⟨h1, h2⟩ := List.getElem?_eq_some_iff.1 h
  rw [List.drop_eq_getElem_cons h1, h2]
  rfl

set_option maxHeartbeats 2000000 in
set_option maxRecDepth 20000 in
theorem check_any (P : Nat → Prop) (w : World) (vc vf vt : Value) (cs : List Int) (fs : List (Int × Int)) (ts : List Tb) (h : Pin P w vc vf vt cs fs ts) (hcl : cs.length ≤ 35184372088832) (hfl : fs.length ≤ 8796093022208) (htl : ts.length ≤ 4398046511104) (hq : ∀ t ∈ ts, t.cs.length ≤ 4398046511104) (hu : U32s cs) (hg : Glb w) :
    Calls Tryz.prog 38 #[.agg #[vc, vf, vt]] w fun e w' => e = .returned (.int .i64 (chk cs fs ts)) ∧ Gr w w' := by
  have HIN := hid h
  have HG := hid hg
  have HU := hid hu
  have HPT := hid (fun (W : World) (p : Gr w W) => parted_any P W vc vf vt cs fs ts (h.gr p) hfl)
  have HCF := hid (fun (W : World) (p : Gr w W) => casesFit_any P W vt ts (h.t.gr p) (fun t hm => (h.cs t hm).gr p) htl hq (hg.gr p))
  obtain ⟨aoc, cac, hia⟩ := h.c.form
  obtain ⟨aof, caf, hib⟩ := h.f.form
  obtain ⟨aot, cat, hic⟩ := h.t.form
  have hcap : cs.length ≤ cac := by rw [hia] at h; exact h.c.len.2.1
  obtain ⟨R, hR⟩ : ∃ b, b = chk cs fs ts := ⟨_, rfl⟩
  rw [← hR]
  unfold chk at hR
  obtain ⟨b1, hb1⟩ : ∃ b, b = ptd fs cs.length := ⟨_, rfl⟩
  obtain ⟨b2, hb2⟩ : ∃ b, b = cfs ts := ⟨_, rfl⟩
  rw [← hb1] at HPT hR
  rw [← hb2] at HCF hR
  have HB1 := hid hb1
  obtain ⟨nc, hnc⟩ : ∃ n, n = cs.length := ⟨_, rfl⟩
  obtain ⟨nf, hnf⟩ : ∃ n, n = fs.length := ⟨_, rfl⟩
  obtain ⟨nt, hnt⟩ : ∃ n, n = ts.length := ⟨_, rfl⟩
  rw [← hnc] at hia hcl hcap HB1
  rw [← hnf] at hib hfl hR
  rw [← hnt] at hic htl hR
  have HNC := hid hnc
  have HNF := hid hnf
  subst hia hib hic
  have K1 := hid (Gr.alloc (Gr.refl w) #[.slice aoc nc cac, .slice aof nf caf, .slice aot nt cat] 26)
  have B1 := hid (MapKept.heap_alloc w (.cells #[.slice aoc nc cac, .slice aof nf caf, .slice aot nt cat] 26)).1
  have HR := hid hR
  clear h hg hu hq hb1 hb2 hnc hnf hnt hR
  cases b1 with
  | false =>
    have hr : R = 1 := by rw [HR.out]; simp
    subst hr
    go_enter Tryz.func38, Tryz.ntmps38
    go_wp2_with (go_at_call 81; refine (HPT.out _ K1.out).mono ?_; rintro e w1 ⟨rfl, g1⟩; have G1 := hid (Gr.trans K1.out g1); clear g1)
    go_ret
    exact ⟨rfl, G1.out⟩
  | true =>
    cases b2 with
    | false =>
      have hr : R = 1 := by rw [HR.out]; simp
      subst hr
      go_enter Tryz.func38, Tryz.ntmps38
      go_wp2_with (first | (go_at_call 81; refine (HPT.out _ K1.out).mono ?_; rintro e w1 ⟨rfl, g1⟩; have G1 := hid (Gr.trans K1.out g1); have i2 : w1.cell? ⟨w.heap.size, 2, none⟩ = some (.slice aot nt cat) := (cell_of (gr_blk B1.out g1) 2).trans rfl; clear g1) | (go_at_call 82; refine (HCF.out _ G1.out).mono ?_; rintro e w2 ⟨rfl, g2⟩; have G2 := hid (Gr.trans G1.out g2); clear g2))
      go_ret
      exact ⟨rfl, G2.out⟩
    | true =>
      have HR2 := hid (show R = (ckF nf nt cs fs 0).getD 1 by rw [HR.out]; simp)
      have HPR := hid (show pr fs 0 = some (nc : Int) by
        have := HB1.out
        unfold ptd at this
        exact (of_decide_eq_true this.symm).2)
      clear HR HB1
      go_enter Tryz.func38, Tryz.ntmps38
      go_wp2_with (first | (go_at_call 81; refine (HPT.out _ K1.out).mono ?_; rintro e w1 ⟨rfl, g1⟩; have G1 := hid (Gr.trans K1.out g1); have B2 := hid (gr_blk B1.out g1); have i2 : w1.cell? ⟨w.heap.size, 2, none⟩ = some (.slice aot nt cat) := (cell_of B2.out 2).trans rfl; clear g1) | (go_at_call 82; refine (HCF.out _ G1.out).mono ?_; rintro e w2 ⟨rfl, g2⟩; have G2 := hid (Gr.trans G1.out g2); have B3 := hid (gr_blk B2.out g2); have i1 : w2.cell? ⟨w.heap.size, 1, none⟩ = some (.slice aof nf caf) := (cell_of B3.out 1).trans rfl; clear g2 i2))
      clear i1
      go_loopg [3, 22] nf (fun m a i wq => ∃ (j x : Nat) (u : Int), j + m = nf ∧ a = .int .i64 u ∧ i = .int .i64 ((j : Nat) : Int) ∧ pr (fs.drop j) (x : Int) = some (nc : Int) ∧ R = (ckF nf nt cs (fs.drop j) u).getD 1 ∧ Gr w wq ∧ wq.heap[w.heap.size]? = some (.cells #[.slice aoc nc cac, .slice aof nf caf, .slice aot nt cat] 26 (0, 0)))
      case atStart => exact ⟨0, 0, 0, by omega, rfl, rfl, HPR.out, HR2.out, G2.out, B3.out⟩
      case round =>
        obtain ⟨j, x, u, hjk, rfl, rfl, hpr, hres, hgr, hbk⟩ := hrel
        have HP := hid hpr
        have HRS0 := hid hres
        have HG2 := hid hgr
        have HK2 := hid hbk
        have lk := lt_of_block hbk
        obtain ⟨GK, hGK⟩ : ∃ n, n = gk - 1 := ⟨_, rfl⟩
        have HGK := hid hGK
        have HJ := hid hjk
        clear hpr hres hgr hbk hGK
        by_cases hj : j < nf
        · obtain ⟨⟨x1, x2⟩, hx⟩ : ∃ f, fs[j]? = some f := ⟨_, List.getElem?_eq_getElem (by rw [← HNF.out]; exact hj)⟩
          have hp := HP.out
          rw [pr_cons hx] at hp
          by_cases hcnd : x1 = (x : Int) ∧ ¬ x2 ≤ (x : Int)
          · rw [if_pos hcnd] at hp
            obtain ⟨rfl, hx2⟩ := hcnd
            have hle := pr_le _ _ _ hp
            obtain ⟨b, rfl⟩ : ∃ b : Nat, x2 = (b : Nat) := ⟨x2.toNat, by omega⟩
            have HP2 := hid hp
            have hxb : x < b := by omega
            have hbn : b ≤ nc := by omega
            have HRS1 := hid (HRS0.out.trans (by rw [ckF_cons hx]))
            obtain ⟨g, o, cap', hv, _, hgl, hcp, hcs⟩ := HIN.out.f.get eG_len hx
            injection hv with hv1 hv2 hv3
            subst hv1
            have c0 := (HG2.out.cell hgl).trans (hcs 0 _ rfl)
            have c1 := (HG2.out.cell hgl).trans (hcs 1 _ rfl)
            rw [Nat.add_zero] at c0
            obtain ⟨gc, oc, cap'', hv, _, hgc, _, hcc⟩ := HIN.out.c.at eU_len (by rw [← HNC.out]; omega)
            injection hv with hv1 hv4 hv5
            subst hv1
            have HCC := hid hcc
            have HGC := hid hgc
            have gs := HG2.out.size
            have lg : g < wr.heap.size := by omega
            have n0 : wr.cell? ⟨w.heap.size, 0, none⟩ = some (.slice (some ⟨gc, oc, none⟩) nc cac) := (cell_of HK2.out 0).trans rfl
            have j0 : (0 : Int) ≤ (j : Int) := by omega
            have j1 : (j : Int) < (nf : Int) := by omega
            have hsm := slice_mid gc oc nc cac x b hxb hbn hcap
            have HFB := hid (MapKept.heap_alloc wr (.cells #[.int .i64 (x : Nat), .int .i64 (b : Nat)] 41)).1
            have HWL := hid (wf_len (cs := cs) (Nat.le_of_lt hxb) (by rw [← HNC.out]; exact hbn))
            clear hv2 hv3 hv4 hv5 hcs hcc hx hgl hgc hcp hp hle hjk
            go_wp2_with fail
            clear c0 c1 n0 lg gs hsm lk
            rename World => V
            go_loopg [3, 34] (b - x) (fun m a i wq => ∃ (k : Nat) (u : Int), k + m = b - x ∧ a = .int .i64 u ∧ i = .int .i64 ((k : Nat) : Int) ∧ R = ((ckW nf nt ((x : Nat), (b : Nat)) ((wf cs ((x : Nat), (b : Nat))).drop k) u).bind (ckF nf nt cs (fs.drop (j + 1)))).getD 1 ∧ Gr w wq ∧ wq.heap[w.heap.size]? = some (.cells #[.slice (some ⟨gc, oc, none⟩) nc cac, .slice (some ⟨g, o, none⟩) nf caf, .slice aot nt cat] 26 (0, 0)) ∧ wq.heap[V.heap.size]? = some (.cells #[.int .i64 (x : Nat), .int .i64 (b : Nat)] 41 (0, 0)))
            case atStart => exact ⟨0, u, by omega, rfl, rfl, HRS1.out, Ch.alloc HG2.out _, al_blk HK2.out _, HFB.out⟩
            case round =>
              obtain ⟨k, u, hkk, rfl, rfl, hres, hgr, hbk, hfb⟩ := hrel
              have HRS := hid hres
              have HR3 := hid hgr
              have HK3 := hid hbk
              have HF3 := hid hfb
              have lk := lt_of_block hbk
              clear hres hgr hbk hfb
              by_cases hk : k < b - x
              · obtain ⟨y, hy⟩ : ∃ y, cs[x + k]? = some y := ⟨_, List.getElem?_eq_getElem (by rw [← HNC.out]; omega)⟩
                have hyu := HU.out y (List.mem_of_getElem? hy)
                have HCK := hid (ckW_cons (nf := nf) (nt := nt) (f := ((x : Nat), (b : Nat))) ((wf_get (cs := cs) hk).trans hy) u)
                have HD := hid (fun (W : World) (q : Glb W) => decode_all y hyu.1 hyu.2 W q)
                have HTH := hid (fun (W : World) => there_any W (some ⟨gc, oc, none⟩) (some ⟨g, o, none⟩) aot nc nf nt cac caf cat ((x : Nat), (b : Nat)) (dI y))
                have q0 := (HR3.out.cell HGC.out).trans (HCC.out (x + k) y hy 0 _ rfl)
                rw [Nat.mul_one, Nat.add_zero, ← Nat.add_assoc] at q0
                have gs := HR3.out.size
                have lgc : gc < wr.heap.size := by have := HGC.out; omega
                have k0 : (0 : Int) ≤ (k : Int) := by omega
                have k1 : (k : Int) < ((b - x : Nat) : Int) := by omega
                unfold iV at HD HTH
                generalize dI y = I at HD HTH HCK
                generalize dE y = E at HD HCK
                generalize thr nf nt ((x : Nat), (b : Nat)) I = TH at HTH HCK
                clear hy hyu
                by_cases hE : E = 0
                · subst hE
                  cases TH with
                  | true =>
                    have hck := HCK.out
                    simp only [reduceCtorEq, and_false, if_false] at hck
                    by_cases hu0 : u = 0
                    · subst hu0
                      go_wp2_with (first | (go_at_call 30; refine (HD.out _ (HG.out.gr HR3.out)).mono ?_; rintro e w3 ⟨rfl, g3⟩; have G3 := hid (Gr.trans HR3.out g3); have B4 := hid (gr_blk HK3.out g3); have F4 := hid (gr_blk HF3.out g3); have m0 : w3.cell? ⟨w.heap.size, 0, none⟩ = some (.slice (some ⟨gc, oc, none⟩) nc cac) := (cell_of B4.out 0).trans rfl; have m1 : w3.cell? ⟨w.heap.size, 1, none⟩ = some (.slice (some ⟨g, o, none⟩) nf caf) := (cell_of B4.out 1).trans rfl; have m2 : w3.cell? ⟨w.heap.size, 2, none⟩ = some (.slice aot nt cat) := (cell_of B4.out 2).trans rfl; have f0 : w3.cell? ⟨V.heap.size, 0, none⟩ = some (.int .i64 (x : Nat)) := (cell_of F4.out 0).trans rfl; have f1 : w3.cell? ⟨V.heap.size, 1, none⟩ = some (.int .i64 (b : Nat)) := (cell_of F4.out 1).trans rfl; have lm := lt_of_block B4.out; have lf := lt_of_block F4.out; clear g3) | (go_at_call 83; refine (HTH.out _).mono ?_; rintro e w4 ⟨rfl, g4⟩; have G4 := hid (Gr.trans (Ch.alloc G3.out _) g4); have B5 := hid (gr_blk (al_blk B4.out _) g4); have F5 := hid (gr_blk (al_blk F4.out _) g4); clear g4))
                      go_roundg (gk - 1)
                      case measure => omega
                      case rel => exact ⟨k + 1, _, by omega, rfl, by simp, by rw [HRS.out, hck]; rfl, G4.out, B5.out, F5.out⟩
                    · go_wp2_with (first | (go_at_call 30; refine (HD.out _ (HG.out.gr HR3.out)).mono ?_; rintro e w3 ⟨rfl, g3⟩; have G3 := hid (Gr.trans HR3.out g3); have B4 := hid (gr_blk HK3.out g3); have F4 := hid (gr_blk HF3.out g3); have m0 : w3.cell? ⟨w.heap.size, 0, none⟩ = some (.slice (some ⟨gc, oc, none⟩) nc cac) := (cell_of B4.out 0).trans rfl; have m1 : w3.cell? ⟨w.heap.size, 1, none⟩ = some (.slice (some ⟨g, o, none⟩) nf caf) := (cell_of B4.out 1).trans rfl; have m2 : w3.cell? ⟨w.heap.size, 2, none⟩ = some (.slice aot nt cat) := (cell_of B4.out 2).trans rfl; have f0 : w3.cell? ⟨V.heap.size, 0, none⟩ = some (.int .i64 (x : Nat)) := (cell_of F4.out 0).trans rfl; have f1 : w3.cell? ⟨V.heap.size, 1, none⟩ = some (.int .i64 (b : Nat)) := (cell_of F4.out 1).trans rfl; have lm := lt_of_block B4.out; have lf := lt_of_block F4.out; clear g3) | (go_at_call 83; refine (HTH.out _).mono ?_; rintro e w4 ⟨rfl, g4⟩; have G4 := hid (Gr.trans (Ch.alloc G3.out _) g4); have B5 := hid (gr_blk (al_blk B4.out _) g4); have F5 := hid (gr_blk (al_blk F4.out _) g4); clear g4))
                      go_roundg (gk - 1)
                      case measure => omega
                      case rel => exact ⟨k + 1, _, by omega, rfl, by simp, by rw [HRS.out, hck, if_neg hu0], G4.out, B5.out, F5.out⟩
                  | false =>
                    have hr : R = 1 := by rw [HRS.out, HCK.out]; simp
                    clear HRS HRS0 HRS1 HR2
                    subst hr
                    go_wp2_with (first | (go_at_call 30; refine (HD.out _ (HG.out.gr HR3.out)).mono ?_; rintro e w3 ⟨rfl, g3⟩; have G3 := hid (Gr.trans HR3.out g3); have B4 := hid (gr_blk HK3.out g3); have F4 := hid (gr_blk HF3.out g3); have m0 : w3.cell? ⟨w.heap.size, 0, none⟩ = some (.slice (some ⟨gc, oc, none⟩) nc cac) := (cell_of B4.out 0).trans rfl; have m1 : w3.cell? ⟨w.heap.size, 1, none⟩ = some (.slice (some ⟨g, o, none⟩) nf caf) := (cell_of B4.out 1).trans rfl; have m2 : w3.cell? ⟨w.heap.size, 2, none⟩ = some (.slice aot nt cat) := (cell_of B4.out 2).trans rfl; have f0 : w3.cell? ⟨V.heap.size, 0, none⟩ = some (.int .i64 (x : Nat)) := (cell_of F4.out 0).trans rfl; have f1 : w3.cell? ⟨V.heap.size, 1, none⟩ = some (.int .i64 (b : Nat)) := (cell_of F4.out 1).trans rfl; have lm := lt_of_block B4.out; have lf := lt_of_block F4.out; clear g3) | (go_at_call 83; refine (HTH.out _).mono ?_; rintro e w4 ⟨rfl, g4⟩; have G4 := hid (Gr.trans (Ch.alloc G3.out _) g4); have B5 := hid (gr_blk (al_blk B4.out _) g4); have F5 := hid (gr_blk (al_blk F4.out _) g4); clear g4))
                    go_ret
                    exact ⟨rfl, G4.out⟩
                · have hck := HCK.out
                  simp only [hE, false_and, if_false] at hck
                  have hE' : (E == 0) = false := by simpa using hE
                  by_cases hu0 : u = 0
                  · subst hu0
                    go_wp2_with (first | (go_at_call 30; refine (HD.out _ (HG.out.gr HR3.out)).mono ?_; rintro e w3 ⟨rfl, g3⟩; have G3 := hid (Gr.trans HR3.out g3); have B4 := hid (gr_blk HK3.out g3); have F4 := hid (gr_blk HF3.out g3); have m0 : w3.cell? ⟨w.heap.size, 0, none⟩ = some (.slice (some ⟨gc, oc, none⟩) nc cac) := (cell_of B4.out 0).trans rfl; have m1 : w3.cell? ⟨w.heap.size, 1, none⟩ = some (.slice (some ⟨g, o, none⟩) nf caf) := (cell_of B4.out 1).trans rfl; have m2 : w3.cell? ⟨w.heap.size, 2, none⟩ = some (.slice aot nt cat) := (cell_of B4.out 2).trans rfl; have f0 : w3.cell? ⟨V.heap.size, 0, none⟩ = some (.int .i64 (x : Nat)) := (cell_of F4.out 0).trans rfl; have f1 : w3.cell? ⟨V.heap.size, 1, none⟩ = some (.int .i64 (b : Nat)) := (cell_of F4.out 1).trans rfl; have lm := lt_of_block B4.out; have lf := lt_of_block F4.out; clear g3) | (go_at_call 83; refine (HTH.out _).mono ?_; rintro e w4 ⟨rfl, g4⟩; have G4 := hid (Gr.trans (Ch.alloc G3.out _) g4); have B5 := hid (gr_blk (al_blk B4.out _) g4); have F5 := hid (gr_blk (al_blk F4.out _) g4); clear g4))
                    go_roundg (gk - 1)
                    case measure => omega
                    case rel => exact ⟨k + 1, _, by omega, rfl, by simp, by rw [HRS.out, hck]; rfl, Ch.alloc G3.out _, al_blk B4.out _, al_blk F4.out _⟩
                  · go_wp2_with (first | (go_at_call 30; refine (HD.out _ (HG.out.gr HR3.out)).mono ?_; rintro e w3 ⟨rfl, g3⟩; have G3 := hid (Gr.trans HR3.out g3); have B4 := hid (gr_blk HK3.out g3); have F4 := hid (gr_blk HF3.out g3); have m0 : w3.cell? ⟨w.heap.size, 0, none⟩ = some (.slice (some ⟨gc, oc, none⟩) nc cac) := (cell_of B4.out 0).trans rfl; have m1 : w3.cell? ⟨w.heap.size, 1, none⟩ = some (.slice (some ⟨g, o, none⟩) nf caf) := (cell_of B4.out 1).trans rfl; have m2 : w3.cell? ⟨w.heap.size, 2, none⟩ = some (.slice aot nt cat) := (cell_of B4.out 2).trans rfl; have f0 : w3.cell? ⟨V.heap.size, 0, none⟩ = some (.int .i64 (x : Nat)) := (cell_of F4.out 0).trans rfl; have f1 : w3.cell? ⟨V.heap.size, 1, none⟩ = some (.int .i64 (b : Nat)) := (cell_of F4.out 1).trans rfl; have lm := lt_of_block B4.out; have lf := lt_of_block F4.out; clear g3) | (go_at_call 83; refine (HTH.out _).mono ?_; rintro e w4 ⟨rfl, g4⟩; have G4 := hid (Gr.trans (Ch.alloc G3.out _) g4); have B5 := hid (gr_blk (al_blk B4.out _) g4); have F5 := hid (gr_blk (al_blk F4.out _) g4); clear g4))
                    go_roundg (gk - 1)
                    case measure => omega
                    case rel => exact ⟨k + 1, _, by omega, rfl, by simp, by rw [HRS.out, hck, if_neg hu0], Ch.alloc G3.out _, al_blk B4.out _, al_blk F4.out _⟩
              · have hkn : k = b - x := by omega
                have kn : ¬ (k : Int) < ((b - x : Nat) : Int) := by omega
                have hdr : (wf cs ((x : Nat), (b : Nat))).drop k = [] := by rw [hkn, ← HWL.out]; exact List.drop_length
                have HRE := hid (show R = (ckF nf nt cs (fs.drop (j + 1)) u).getD 1 by rw [HRS.out, hdr]; rfl)
                clear hkn hdr
                go_wp2_with fail
                go_roundg GK
                case measure => have := HGK.out; have := HJ.out; omega
                case rel => exact ⟨j + 1, b, _, by have := HGK.out; have := HJ.out; omega, rfl, by simp, HP2.out, HRE.out, HR3.out, HK3.out⟩
          · rw [if_neg hcnd] at hp
            cases hp
        · have hjn : j = nf := by omega
          have jn : ¬ (j : Int) < (nf : Int) := by omega
          have hdr : fs.drop j = [] := by rw [hjn, HNF.out]; exact List.drop_length
          have hr : R = u := by rw [HRS0.out, hdr]; rfl
          clear HRS0 HR2 hdr
          subst hr
          go_wp2
          go_ret
          exact ⟨rfl, HG2.out⟩
end Go.Proofs.YtbehlhnnfdkmaaaGreatDoor.Lt
