/-
  What the program's check answers. Conditions: lists are no longer than the reach lets be; words are words; the tables lie where they lie.
  What the program's targets answers. Conditions: a target is a word's place; the tables lie where they lie.
  The writer of a text in memory: what its long and line answer and leave. Conditions: no longer than a text may become.
  A case's text, and how long an instruction's text may be. Condition: the tables lie where they lie.
  A program's text in plain words: its lines, and what is left of them once it is too long; why a program has none. No conditions.
-/
import Derived.Test.YtbehlhnnfdkmaaaGreatDoorLtCases
import Derived.Test.YtbehlhnnfdkmaaaGreatDoorLtLine
import Derived.Deep.OwnRows
import Derived.Lib.AppendStr
import Derived.Test.YtbehlhnnfdkmaaaGreatDoorLtText
namespace Go.Proofs.YtbehlhnnfdkmaaaGreatDoor.Lt
open Go.RowKit Wd

/-- a function's words: the first error beside one before, or none where something named is not there -/
def ckW (nf nt : Nat) (f : Int × Int) : List Int → Int → Option Int
  | [], u => some u
  | x :: r, u => if dE x = 0 ∧ thr nf nt f (dI x) = false then none else ckW nf nt f r (if u = 0 then dE x else u)
/-- the words of one function -/
def wf (cs : List Int) (f : Int × Int) : List Int := (cs.drop f.1.toNat).take (f.2 - f.1).toNat
def ckF (nf nt : Nat) (cs : List Int) : List (Int × Int) → Int → Option Int
  | [], u => some u
  | f :: r, u => (ckW nf nt f (wf cs f) u).bind (ckF nf nt cs r)
/-- why a program has no text, but its length -/
def chk (cs : List Int) (fs : List (Int × Int)) (ts : List Tb) : Int := if ptd fs cs.length = true ∧ cfs ts = true then (ckF fs.length ts.length cs fs 0).getD 1 else 1
theorem pr_le : ∀ (fs : List (Int × Int)) (a n : Int), pr fs a = some n → a ≤ n := by
  intro fs
  induction fs with
  | nil => intro a n h; injection h with h; omega
  | cons f r ih =>
    intro a n h
    unfold pr at h
    split at h
    · rename_i q
      have := ih _ _ h
      omega
    · cases h
theorem slice_mid (g o n cap a b : Nat) (h1 : a < b) (h2 : b ≤ n) (h3 : n ≤ cap) (W : World) : (Instr.slice 22 (.slice (some ⟨g, o, none⟩) n cap) (some (.int .i64 (a : Nat))) (some (.int .i64 (b : Nat))) none).run Tryz.prog W = .ok (.slice (some ⟨g, o + a, none⟩) (b - a) (cap - a)) W := by
  have e1 : (a : Int) ≤ (b : Int) := by omega
  have e2 : (b : Int) ≤ (cap : Int) := by omega
  have e3 : ¬ cap - a = 0 := by omega
  have e4 : (0 : Int) ≤ (a : Int) := by omega
  have e5 : ¬ cap ≤ a := by omega
  have e6 : ¬ (a : Int) < 0 := by omega
  have e7 : (a : Int) ≤ (cap : Int) := by omega
  go_simp
  omega
theorem wf_get {cs : List Int} {a b k : Nat} (hk : k < b - a) : (wf cs ((a : Nat), (b : Nat)))[k]? = cs[a + k]? := by
  unfold wf
  have e1 : ((a : Nat) : Int).toNat = a := by omega
  have e2 : (((b : Nat) : Int) - ((a : Nat) : Int)).toNat = b - a := by omega
  simp only [e1, e2]
  rw [List.getElem?_take, if_pos hk, List.getElem?_drop]
theorem wf_len {cs : List Int} {a b : Nat} (h : a ≤ b) (hb : b ≤ cs.length) : (wf cs ((a : Nat), (b : Nat))).length = b - a := by
  unfold wf
  have e1 : ((a : Nat) : Int).toNat = a := by omega
  have e2 : (((b : Nat) : Int) - ((a : Nat) : Int)).toNat = b - a := by omega
  simp only [e1, e2, List.length_take, List.length_drop]
  omega
theorem ckW_cons {nf nt : Nat} {f : Int × Int} {ws : List Int} {k : Nat} {x : Int} (h : ws[k]? = some x) (u : Int) : ckW nf nt f (ws.drop k) u = if dE x = 0 ∧ thr nf nt f (dI x) = false then none else ckW nf nt f (ws.drop (k + 1)) (if u = 0 then dE x else u) := by
  obtain ⟨h1, h2⟩ := List.getElem?_eq_some_iff.1 h
  rw [List.drop_eq_getElem_cons h1, h2]
  rfl
theorem ckF_cons {nf nt : Nat} {cs : List Int} {fs : List (Int × Int)} {j : Nat} {f : Int × Int} (h : fs[j]? = some f) (u : Int) : ckF nf nt cs (fs.drop j) u = (ckW nf nt f (wf cs f) u).bind (ckF nf nt cs (fs.drop (j + 1))) := by
  obtain ⟨h1, h2⟩ := List.getElem?_eq_some_iff.1 h
  rw [List.drop_eq_getElem_cons h1, h2]
  rfl

set_option maxHeartbeats 2000000 in
set_option maxRecDepth 20000 in
theorem check_any (P : Nat → Prop) (w : World) (vc vf vt : Value) (cs : List Int) (fs : List (Int × Int)) (ts : List Tb) (h : Pin P w vc vf vt cs fs ts) (hcl : cs.length ≤ 35184372088832) (hfl : fs.length ≤ 8796093022208) (htl : ts.length ≤ 4398046511104) (hq : ∀ t ∈ ts, t.cs.length ≤ 4398046511104) (hu : U32s cs) (hg : Glb w) :
    Calls Tryz.prog 38 #[.agg #[vc, vf, vt]] w fun e w' => e = .returned (.int .i64 (chk cs fs ts)) ∧ Gr w w' := by
  have HIN := hid h
  have HG := hid hg
  have HU := hid hu
  have HPT := hid (fun (W : World) (p : Gr w W) => parted_any P W vc vf vt cs fs ts (h.gr p) hfl)
  have HCF := hid (fun (W : World) (p : Gr w W) => casesFit_any P W vt ts (h.t.gr p) (fun t hm => (h.cs t hm).gr p) htl hq (hg.gr p))
  obtain ⟨aoc, cac, hia⟩ := h.c.form
  obtain ⟨aof, caf, hib⟩ := h.f.form
  obtain ⟨aot, cat, hic⟩ := h.t.form
  have hcap : cs.length ≤ cac := by rw [hia] at h; exact h.c.len.2.1
  obtain ⟨R, hR⟩ : ∃ b, b = chk cs fs ts := ⟨_, rfl⟩
  rw [← hR]
  unfold chk at hR
  obtain ⟨b1, hb1⟩ : ∃ b, b = ptd fs cs.length := ⟨_, rfl⟩
  obtain ⟨b2, hb2⟩ : ∃ b, b = cfs ts := ⟨_, rfl⟩
  rw [← hb1] at HPT hR
  rw [← hb2] at HCF hR
  have HB1 := hid hb1
  obtain ⟨nc, hnc⟩ : ∃ n, n = cs.length := ⟨_, rfl⟩
  obtain ⟨nf, hnf⟩ : ∃ n, n = fs.length := ⟨_, rfl⟩
  obtain ⟨nt, hnt⟩ : ∃ n, n = ts.length := ⟨_, rfl⟩
  rw [← hnc] at hia hcl hcap HB1
  rw [← hnf] at hib hfl hR
  rw [← hnt] at hic htl hR
  have HNC := hid hnc
  have HNF := hid hnf
  subst hia hib hic
  have K1 := hid (Gr.alloc (Gr.refl w) #[.slice aoc nc cac, .slice aof nf caf, .slice aot nt cat] 26)
  have B1 := hid (MapKept.heap_alloc w (.cells #[.slice aoc nc cac, .slice aof nf caf, .slice aot nt cat] 26)).1
  have HR := hid hR
  clear h hg hu hq hb1 hb2 hnc hnf hnt hR
  cases b1 with
  | false =>
    have hr : R = 1 := by rw [HR.out]; simp
    subst hr
    go_enter Tryz.func38, Tryz.ntmps38
    go_wp2_with (go_at_call 81; refine (HPT.out _ K1.out).mono ?_; rintro e w1 ⟨rfl, g1⟩; have G1 := hid (Gr.trans K1.out g1); clear g1)
    go_ret
    exact ⟨rfl, G1.out⟩
  | true =>
    cases b2 with
    | false =>
      have hr : R = 1 := by rw [HR.out]; simp
      subst hr
      go_enter Tryz.func38, Tryz.ntmps38
      go_wp2_with (first | (go_at_call 81; refine (HPT.out _ K1.out).mono ?_; rintro e w1 ⟨rfl, g1⟩; have G1 := hid (Gr.trans K1.out g1); have i2 : w1.cell? ⟨w.heap.size, 2, none⟩ = some (.slice aot nt cat) := (cell_of (gr_blk B1.out g1) 2).trans rfl; clear g1) | (go_at_call 82; refine (HCF.out _ G1.out).mono ?_; rintro e w2 ⟨rfl, g2⟩; have G2 := hid (Gr.trans G1.out g2); clear g2))
      go_ret
      exact ⟨rfl, G2.out⟩
    | true =>
      have HR2 := hid (show R = (ckF nf nt cs fs 0).getD 1 by rw [HR.out]; simp)
      have HPR := hid (show pr fs 0 = some (nc : Int) by
        have := HB1.out
        unfold ptd at this
        exact (of_decide_eq_true this.symm).2)
      clear HR HB1
      go_enter Tryz.func38, Tryz.ntmps38
      go_wp2_with (first | (go_at_call 81; refine (HPT.out _ K1.out).mono ?_; rintro e w1 ⟨rfl, g1⟩; have G1 := hid (Gr.trans K1.out g1); have B2 := hid (gr_blk B1.out g1); have i2 : w1.cell? ⟨w.heap.size, 2, none⟩ = some (.slice aot nt cat) := (cell_of B2.out 2).trans rfl; clear g1) | (go_at_call 82; refine (HCF.out _ G1.out).mono ?_; rintro e w2 ⟨rfl, g2⟩; have G2 := hid (Gr.trans G1.out g2); have B3 := hid (gr_blk B2.out g2); have i1 : w2.cell? ⟨w.heap.size, 1, none⟩ = some (.slice aof nf caf) := (cell_of B3.out 1).trans rfl; clear g2 i2))
      clear i1
      go_loopg [3, 22] nf (fun m a i wq => ∃ (j x : Nat) (u : Int), j + m = nf ∧ a = .int .i64 u ∧ i = .int .i64 ((j : Nat) : Int) ∧ pr (fs.drop j) (x : Int) = some (nc : Int) ∧ R = (ckF nf nt cs (fs.drop j) u).getD 1 ∧ Gr w wq ∧ wq.heap[w.heap.size]? = some (.cells #[.slice aoc nc cac, .slice aof nf caf, .slice aot nt cat] 26 (0, 0)))
      case atStart => exact ⟨0, 0, 0, by omega, rfl, rfl, HPR.out, HR2.out, G2.out, B3.out⟩
      case round =>
        obtain ⟨j, x, u, hjk, rfl, rfl, hpr, hres, hgr, hbk⟩ := hrel
        have HP := hid hpr
        have HRS0 := hid hres
        have HG2 := hid hgr
        have HK2 := hid hbk
        have lk := lt_of_block hbk
        obtain ⟨GK, hGK⟩ : ∃ n, n = gk - 1 := ⟨_, rfl⟩
        have HGK := hid hGK
        have HJ := hid hjk
        clear hpr hres hgr hbk hGK
        by_cases hj : j < nf
        · obtain ⟨⟨x1, x2⟩, hx⟩ : ∃ f, fs[j]? = some f := ⟨_, List.getElem?_eq_getElem (by rw [← HNF.out]; exact hj)⟩
          have hp := HP.out
          rw [pr_cons hx] at hp
          by_cases hcnd : x1 = (x : Int) ∧ ¬ x2 ≤ (x : Int)
          · rw [if_pos hcnd] at hp
            obtain ⟨rfl, hx2⟩ := hcnd
            have hle := pr_le _ _ _ hp
            obtain ⟨b, rfl⟩ : ∃ b : Nat, x2 = (b : Nat) := ⟨x2.toNat, by omega⟩
            have HP2 := hid hp
            have hxb : x < b := by omega
            have hbn : b ≤ nc := by omega
            have HRS1 := hid (HRS0.out.trans (by rw [ckF_cons hx]))
            obtain ⟨g, o, cap', hv, _, hgl, hcp, hcs⟩ := HIN.out.f.get eG_len hx
            injection hv with hv1 hv2 hv3
            subst hv1
            have c0 := (HG2.out.cell hgl).trans (hcs 0 _ rfl)
            have c1 := (HG2.out.cell hgl).trans (hcs 1 _ rfl)
            rw [Nat.add_zero] at c0
            obtain ⟨gc, oc, cap'', hv, _, hgc, _, hcc⟩ := HIN.out.c.at eU_len (by rw [← HNC.out]; omega)
            injection hv with hv1 hv4 hv5
            subst hv1
            have HCC := hid hcc
            have HGC := hid hgc
            have gs := HG2.out.size
            have lg : g < wr.heap.size := by omega
            have n0 : wr.cell? ⟨w.heap.size, 0, none⟩ = some (.slice (some ⟨gc, oc, none⟩) nc cac) := (cell_of HK2.out 0).trans rfl
            have j0 : (0 : Int) ≤ (j : Int) := by omega
            have j1 : (j : Int) < (nf : Int) := by omega
            have hsm := slice_mid gc oc nc cac x b hxb hbn hcap
            have HFB := hid (MapKept.heap_alloc wr (.cells #[.int .i64 (x : Nat), .int .i64 (b : Nat)] 41)).1
            have HWL := hid (wf_len (cs := cs) (Nat.le_of_lt hxb) (by rw [← HNC.out]; exact hbn))
            clear hv2 hv3 hv4 hv5 hcs hcc hx hgl hgc hcp hp hle hjk
            go_wp2_with fail
            clear c0 c1 n0 lg gs hsm lk
            rename World => V
            go_loopg [3, 34] (b - x) (fun m a i wq => ∃ (k : Nat) (u : Int), k + m = b - x ∧ a = .int .i64 u ∧ i = .int .i64 ((k : Nat) : Int) ∧ R = ((ckW nf nt ((x : Nat), (b : Nat)) ((wf cs ((x : Nat), (b : Nat))).drop k) u).bind (ckF nf nt cs (fs.drop (j + 1)))).getD 1 ∧ Gr w wq ∧ wq.heap[w.heap.size]? = some (.cells #[.slice (some ⟨gc, oc, none⟩) nc cac, .slice (some ⟨g, o, none⟩) nf caf, .slice aot nt cat] 26 (0, 0)) ∧ wq.heap[V.heap.size]? = some (.cells #[.int .i64 (x : Nat), .int .i64 (b : Nat)] 41 (0, 0)))
            case atStart => exact ⟨0, u, by omega, rfl, rfl, HRS1.out, Ch.alloc HG2.out _, al_blk HK2.out _, HFB.out⟩
            case round =>
              obtain ⟨k, u, hkk, rfl, rfl, hres, hgr, hbk, hfb⟩ := hrel
              have HRS := hid hres
              have HR3 := hid hgr
              have HK3 := hid hbk
              have HF3 := hid hfb
              have lk := lt_of_block hbk
              clear hres hgr hbk hfb
              by_cases hk : k < b - x
              · obtain ⟨y, hy⟩ : ∃ y, cs[x + k]? = some y := ⟨_, List.getElem?_eq_getElem (by rw [← HNC.out]; omega)⟩
                have hyu := HU.out y (List.mem_of_getElem? hy)
                have HCK := hid (ckW_cons (nf := nf) (nt := nt) (f := ((x : Nat), (b : Nat))) ((wf_get (cs := cs) hk).trans hy) u)
                have HD := hid (fun (W : World) (q : Glb W) => decode_all y hyu.1 hyu.2 W q)
                have HTH := hid (fun (W : World) => there_any W (some ⟨gc, oc, none⟩) (some ⟨g, o, none⟩) aot nc nf nt cac caf cat ((x : Nat), (b : Nat)) (dI y))
                have q0 := (HR3.out.cell HGC.out).trans (HCC.out (x + k) y hy 0 _ rfl)
                rw [Nat.mul_one, Nat.add_zero, ← Nat.add_assoc] at q0
                have gs := HR3.out.size
                have lgc : gc < wr.heap.size := by have := HGC.out; omega
                have k0 : (0 : Int) ≤ (k : Int) := by omega
                have k1 : (k : Int) < ((b - x : Nat) : Int) := by omega
                unfold iV at HD HTH
                generalize dI y = I at HD HTH HCK
                generalize dE y = E at HD HCK
                generalize thr nf nt ((x : Nat), (b : Nat)) I = TH at HTH HCK
                clear hy hyu
                by_cases hE : E = 0
                · subst hE
                  cases TH with
                  | true =>
                    have hck := HCK.out
                    simp only [reduceCtorEq, and_false, if_false] at hck
                    by_cases hu0 : u = 0
                    · subst hu0
                      go_wp2_with (first | (go_at_call 30; refine (HD.out _ (HG.out.gr HR3.out)).mono ?_; rintro e w3 ⟨rfl, g3⟩; have G3 := hid (Gr.trans HR3.out g3); have B4 := hid (gr_blk HK3.out g3); have F4 := hid (gr_blk HF3.out g3); have m0 : w3.cell? ⟨w.heap.size, 0, none⟩ = some (.slice (some ⟨gc, oc, none⟩) nc cac) := (cell_of B4.out 0).trans rfl; have m1 : w3.cell? ⟨w.heap.size, 1, none⟩ = some (.slice (some ⟨g, o, none⟩) nf caf) := (cell_of B4.out 1).trans rfl; have m2 : w3.cell? ⟨w.heap.size, 2, none⟩ = some (.slice aot nt cat) := (cell_of B4.out 2).trans rfl; have f0 : w3.cell? ⟨V.heap.size, 0, none⟩ = some (.int .i64 (x : Nat)) := (cell_of F4.out 0).trans rfl; have f1 : w3.cell? ⟨V.heap.size, 1, none⟩ = some (.int .i64 (b : Nat)) := (cell_of F4.out 1).trans rfl; have lm := lt_of_block B4.out; have lf := lt_of_block F4.out; clear g3) | (go_at_call 83; refine (HTH.out _).mono ?_; rintro e w4 ⟨rfl, g4⟩; have G4 := hid (Gr.trans (Ch.alloc G3.out _) g4); have B5 := hid (gr_blk (al_blk B4.out _) g4); have F5 := hid (gr_blk (al_blk F4.out _) g4); clear g4))
                      go_roundg (gk - 1)
                      case measure => omega
                      case rel => exact ⟨k + 1, _, by omega, rfl, by simp, by rw [HRS.out, hck]; rfl, G4.out, B5.out, F5.out⟩
                    · go_wp2_with (first | (go_at_call 30; refine (HD.out _ (HG.out.gr HR3.out)).mono ?_; rintro e w3 ⟨rfl, g3⟩; have G3 := hid (Gr.trans HR3.out g3); have B4 := hid (gr_blk HK3.out g3); have F4 := hid (gr_blk HF3.out g3); have m0 : w3.cell? ⟨w.heap.size, 0, none⟩ = some (.slice (some ⟨gc, oc, none⟩) nc cac) := (cell_of B4.out 0).trans rfl; have m1 : w3.cell? ⟨w.heap.size, 1, none⟩ = some (.slice (some ⟨g, o, none⟩) nf caf) := (cell_of B4.out 1).trans rfl; have m2 : w3.cell? ⟨w.heap.size, 2, none⟩ = some (.slice aot nt cat) := (cell_of B4.out 2).trans rfl; have f0 : w3.cell? ⟨V.heap.size, 0, none⟩ = some (.int .i64 (x : Nat)) := (cell_of F4.out 0).trans rfl; have f1 : w3.cell? ⟨V.heap.size, 1, none⟩ = some (.int .i64 (b : Nat)) := (cell_of F4.out 1).trans rfl; have lm := lt_of_block B4.out; have lf := lt_of_block F4.out; clear g3) | (go_at_call 83; refine (HTH.out _).mono ?_; rintro e w4 ⟨rfl, g4⟩; have G4 := hid (Gr.trans (Ch.alloc G3.out _) g4); have B5 := hid (gr_blk (al_blk B4.out _) g4); have F5 := hid (gr_blk (al_blk F4.out _) g4); clear g4))
                      go_roundg (gk - 1)
                      case measure => omega
                      case rel => exact ⟨k + 1, _, by omega, rfl, by simp, by rw [HRS.out, hck, if_neg hu0], G4.out, B5.out, F5.out⟩
                  | false =>
                    have hr : R = 1 := by rw [HRS.out, HCK.out]; simp
                    clear HRS HRS0 HRS1 HR2
                    subst hr
                    go_wp2_with (first | (go_at_call 30; refine (HD.out _ (HG.out.gr HR3.out)).mono ?_; rintro e w3 ⟨rfl, g3⟩; have G3 := hid (Gr.trans HR3.out g3); have B4 := hid (gr_blk HK3.out g3); have F4 := hid (gr_blk HF3.out g3); have m0 : w3.cell? ⟨w.heap.size, 0, none⟩ = some (.slice (some ⟨gc, oc, none⟩) nc cac) := (cell_of B4.out 0).trans rfl; have m1 : w3.cell? ⟨w.heap.size, 1, none⟩ = some (.slice (some ⟨g, o, none⟩) nf caf) := (cell_of B4.out 1).trans rfl; have m2 : w3.cell? ⟨w.heap.size, 2, none⟩ = some (.slice aot nt cat) := (cell_of B4.out 2).trans rfl; have f0 : w3.cell? ⟨V.heap.size, 0, none⟩ = some (.int .i64 (x : Nat)) := (cell_of F4.out 0).trans rfl; have f1 : w3.cell? ⟨V.heap.size, 1, none⟩ = some (.int .i64 (b : Nat)) := (cell_of F4.out 1).trans rfl; have lm := lt_of_block B4.out; have lf := lt_of_block F4.out; clear g3) | (go_at_call 83; refine (HTH.out _).mono ?_; rintro e w4 ⟨rfl, g4⟩; have G4 := hid (Gr.trans (Ch.alloc G3.out _) g4); have B5 := hid (gr_blk (al_blk B4.out _) g4); have F5 := hid (gr_blk (al_blk F4.out _) g4); clear g4))
                    go_ret
                    exact ⟨rfl, G4.out⟩
                · have hck := HCK.out
                  simp only [hE, false_and, if_false] at hck
                  have hE' : (E == 0) = false := by simpa using hE
                  by_cases hu0 : u = 0
                  · subst hu0
                    go_wp2_with (first | (go_at_call 30; refine (HD.out _ (HG.out.gr HR3.out)).mono ?_; rintro e w3 ⟨rfl, g3⟩; have G3 := hid (Gr.trans HR3.out g3); have B4 := hid (gr_blk HK3.out g3); have F4 := hid (gr_blk HF3.out g3); have m0 : w3.cell? ⟨w.heap.size, 0, none⟩ = some (.slice (some ⟨gc, oc, none⟩) nc cac) := (cell_of B4.out 0).trans rfl; have m1 : w3.cell? ⟨w.heap.size, 1, none⟩ = some (.slice (some ⟨g, o, none⟩) nf caf) := (cell_of B4.out 1).trans rfl; have m2 : w3.cell? ⟨w.heap.size, 2, none⟩ = some (.slice aot nt cat) := (cell_of B4.out 2).trans rfl; have f0 : w3.cell? ⟨V.heap.size, 0, none⟩ = some (.int .i64 (x : Nat)) := (cell_of F4.out 0).trans rfl; have f1 : w3.cell? ⟨V.heap.size, 1, none⟩ = some (.int .i64 (b : Nat)) := (cell_of F4.out 1).trans rfl; have lm := lt_of_block B4.out; have lf := lt_of_block F4.out; clear g3) | (go_at_call 83; refine (HTH.out _).mono ?_; rintro e w4 ⟨rfl, g4⟩; have G4 := hid (Gr.trans (Ch.alloc G3.out _) g4); have B5 := hid (gr_blk (al_blk B4.out _) g4); have F5 := hid (gr_blk (al_blk F4.out _) g4); clear g4))
                    go_roundg (gk - 1)
                    case measure => omega
                    case rel => exact ⟨k + 1, _, by omega, rfl, by simp, by rw [HRS.out, hck]; rfl, Ch.alloc G3.out _, al_blk B4.out _, al_blk F4.out _⟩
                  · go_wp2_with (first | (go_at_call 30; refine (HD.out _ (HG.out.gr HR3.out)).mono ?_; rintro e w3 ⟨rfl, g3⟩; have G3 := hid (Gr.trans HR3.out g3); have B4 := hid (gr_blk HK3.out g3); have F4 := hid (gr_blk HF3.out g3); have m0 : w3.cell? ⟨w.heap.size, 0, none⟩ = some (.slice (some ⟨gc, oc, none⟩) nc cac) := (cell_of B4.out 0).trans rfl; have m1 : w3.cell? ⟨w.heap.size, 1, none⟩ = some (.slice (some ⟨g, o, none⟩) nf caf) := (cell_of B4.out 1).trans rfl; have m2 : w3.cell? ⟨w.heap.size, 2, none⟩ = some (.slice aot nt cat) := (cell_of B4.out 2).trans rfl; have f0 : w3.cell? ⟨V.heap.size, 0, none⟩ = some (.int .i64 (x : Nat)) := (cell_of F4.out 0).trans rfl; have f1 : w3.cell? ⟨V.heap.size, 1, none⟩ = some (.int .i64 (b : Nat)) := (cell_of F4.out 1).trans rfl; have lm := lt_of_block B4.out; have lf := lt_of_block F4.out; clear g3) | (go_at_call 83; refine (HTH.out _).mono ?_; rintro e w4 ⟨rfl, g4⟩; have G4 := hid (Gr.trans (Ch.alloc G3.out _) g4); have B5 := hid (gr_blk (al_blk B4.out _) g4); have F5 := hid (gr_blk (al_blk F4.out _) g4); clear g4))
                    go_roundg (gk - 1)
                    case measure => omega
                    case rel => exact ⟨k + 1, _, by omega, rfl, by simp, by rw [HRS.out, hck, if_neg hu0], Ch.alloc G3.out _, al_blk B4.out _, al_blk F4.out _⟩
              · have hkn : k = b - x := by omega
                have kn : ¬ (k : Int) < ((b - x : Nat) : Int) := by omega
                have hdr : (wf cs ((x : Nat), (b : Nat))).drop k = [] := by rw [hkn, ← HWL.out]; exact List.drop_length
                have HRE := hid (show R = (ckF nf nt cs (fs.drop (j + 1)) u).getD 1 by rw [HRS.out, hdr]; rfl)
                clear hkn hdr
                go_wp2_with fail
                go_roundg GK
                case measure => have := HGK.out; have := HJ.out; omega
                case rel => exact ⟨j + 1, b, _, by have := HGK.out; have := HJ.out; omega, rfl, by simp, HP2.out, HRE.out, HR3.out, HK3.out⟩
          · rw [if_neg hcnd] at hp
            cases hp
        · have hjn : j = nf := by omega
          have jn : ¬ (j : Int) < (nf : Int) := by omega
          have hdr : fs.drop j = [] := by rw [hjn, HNF.out]; exact List.drop_length
          have hr : R = u := by rw [HRS0.out, hdr]; rfl
          clear HRS0 HR2 hdr
          subst hr
          go_wp2
          go_ret
          exact ⟨rfl, HG2.out⟩
end Go.Proofs.YtbehlhnnfdkmaaaGreatDoor.Lt

namespace Go.Proofs.YtbehlhnnfdkmaaaGreatDoor.Lt
open Go.RowKit Wd

/-- does a word have a place as its target? -/
def tgw (x : Int) (k : Nat) : Bool := decide (dE x = 0 ∧ knd (dI x).1 = 1 ∧ (dI x).2.2.2.2 = (k : Int))
/-- has one of them? -/
def tg (ws : List Int) (k : Nat) : Bool := ws.any (fun x => tgw x k)
/-- targets lie within -/
def TgOk (cs : List Int) (n : Nat) : Prop := ∀ x ∈ cs, dE x = 0 → knd (dI x).1 = 1 → 0 ≤ (dI x).2.2.2.2 ∧ (dI x).2.2.2.2 < (n : Int)
def tgC (ws : List Int) (n : Nat) : Array Value := ((List.range n).map (fun k => Value.bool (tg ws k))).toArray

theorem bool_info : (Tryz.prog.info? 4).map (fun i => (i.zero, i.size, i.bytes)) = some (some (.bool false), 1, 1) := by kernel_rfl
theorem tg_snoc (ws : List Int) (x : Int) (k : Nat) : tg (ws ++ [x]) k = (tg ws k || tgw x k) := by
  unfold tg
  simp
theorem tgC_same {ws : List Int} {x : Int} {n : Nat} (h : ∀ k, k < n → tgw x k = false) : tgC (ws ++ [x]) n = tgC ws n := by
  unfold tgC
  congr 1
  apply List.map_congr_left
  intro k hk
  rw [tg_snoc, h k (List.mem_range.1 hk), Bool.or_false]
theorem tgC_set {ws : List Int} {x : Int} {n m : Nat} (hm : m < n) (h : ∀ k, tgw x k = decide (k = m)) : (tgC ws n).setIfInBounds m (.bool true) = tgC (ws ++ [x]) n := by
  unfold tgC
  apply Array.ext_getElem?
  intro i
  rw [Array.getElem?_setIfInBounds]
  simp only [List.getElem?_toArray, List.getElem?_map, List.size_toArray, List.length_map, List.length_range]
  by_cases hi : m = i
  · subst hi
    rw [if_pos rfl, if_pos hm, List.getElem?_range hm]
    simp [tg_snoc, h]
  · rw [if_neg hi]
    rcases Nat.lt_or_ge i n with h1 | h1
    · rw [List.getElem?_range h1]
      have : ¬ i = m := fun e => hi e.symm
      simp [tg_snoc, h, this]
    · rw [List.getElem?_eq_none (by simpa using h1)]
      rfl
theorem made_tg (n : Nat) : madeCells #[.bool false] n = tgC [] n := by
  unfold madeCells tgC tg
  apply Array.ext_getElem?
  intro i
  rcases Nat.lt_or_ge i n with h1 | h1
  · simp [h1, Nat.mod_one]
  · simp [h1]
set_option maxHeartbeats 1000000 in
set_option maxRecDepth 20000 in
theorem targets_any (P : Nat → Prop) (w : World) (vc : Value) (cs : List Int) (h : Ls eU P w vc cs) (hcl : cs.length ≤ 35184372088832) (hu : U32s cs) (hk : TgOk cs cs.length) (hg : Glb w) :
    Calls Tryz.prog 86 #[vc] w fun e w' => e = .returned (.slice (some ⟨w.heap.size, 0, none⟩) cs.length cs.length) ∧ w'.heap[w.heap.size]? = some (.cells (tgC cs cs.length) 4 (0, 0)) ∧ Gr w w' := by
  obtain ⟨aoc, cac, hia⟩ := h.form
  have HL := hid h
  have HU := hid hu
  have HK := hid hk
  have HG := hid hg
  obtain ⟨nc, hnc⟩ : ∃ n, n = cs.length := ⟨_, rfl⟩
  rw [← hnc] at hia hcl HK ⊢
  have HN := hid hnc
  subst hia
  have hmk := run_make_row' (P := Tryz.prog) 135 4 (.bool false) 1 Tryz.underlying135 bool_info rfl .i64 .i64 nc (by omega) (by omega)
  rw [made_tg] at hmk
  have K1 := hid (Gr.alloc (Gr.refl w) (tgC [] nc) 4)
  have B1 := hid (MapKept.heap_alloc w (.cells (tgC [] nc) 4)).1
  clear h hu hk hg hnc
  go_enter Tryz.func86, Tryz.ntmps86
  go_wp2_with fail
  clear hmk
  go_loopg [13] nc (fun m i wq => ∃ j : Nat, j + m = nc ∧ i = .int .i64 ((j : Nat) : Int) ∧ wq.heap[w.heap.size]? = some (.cells (tgC (cs.take j) nc) 4 (0, 0)) ∧ Gr w wq)
  case atStart => exact ⟨0, by omega, rfl, B1.out, K1.out⟩
  case round =>
    clear B1 K1
    obtain ⟨j, hjk, rfl, hbk, hgr⟩ := hrel
    have HB := hid hbk
    have HR := hid hgr
    clear hbk hgr
    by_cases hj : j < nc
    · obtain ⟨x, hx⟩ : ∃ x, cs[j]? = some x := ⟨_, List.getElem?_eq_getElem (by rw [← HN.out]; exact hj)⟩
      have HX := hid (take_one hx)
      have hxu := HU.out x (List.mem_of_getElem? hx)
      have hxk := HK.out x (List.mem_of_getElem? hx)
      have HD := hid (fun (W : World) (q : Glb W) => decode_all x hxu.1 hxu.2 W q)
      obtain ⟨g, o, cap', hv, _, hgl, _, hcs⟩ := HL.out.get eU_len hx
      injection hv with hv1 hv2 hv3
      subst hv1
      have c0 := (HR.out.cell hgl).trans (hcs 0 _ rfl)
      rw [Nat.mul_one, Nat.add_zero] at c0
      have gs := HR.out.size
      have lg : g < wr.heap.size := by omega
      have j0 : (0 : Int) ≤ (j : Int) := by omega
      have j1 : (j : Int) < (nc : Int) := by omega
      have HTW := hid (show ∀ k, tgw x k = decide (dE x = 0 ∧ knd (dI x).1 = 1 ∧ (dI x).2.2.2.2 = (k : Int)) from fun _ => rfl)
      unfold iV at HD
      generalize dI x = I at HD hxk HTW
      generalize dE x = E at HD hxk HTW
      have HNM := hid (fun (W : World) => named_any I.1 W)
      generalize knd I.1 = q at HNM hxk HTW
      clear hv2 hv3 hcs hx hgl hxu
      by_cases hE : E = 0
      · subst hE
        by_cases hq : q = 1
        · subst hq
          obtain ⟨h1, h2⟩ := hxk rfl rfl
          obtain ⟨i1, i2, i3, i4, i5⟩ := I
          simp only at h1 h2 HD HNM HTW
          obtain ⟨m, rfl⟩ : ∃ m : Nat, i5 = (m : Nat) := ⟨i5.toNat, by omega⟩
          have hm : m < nc := by omega
          have HSET := hid (tgC_set (ws := cs.take j) (x := x) hm (fun k => by rw [HTW.out k]; simp only [true_and]; rw [Bool.eq_iff_iff]; simp; omega))
          clear HTW hxk
          go_wp2_with fail
          refine (HD.out _ (HG.out.gr HR.out)).mono ?_
          rintro e w3 ⟨rfl, g3⟩
          have G3 := hid (Gr.trans HR.out g3)
          have B3 := hid (gr_blk HB.out g3)
          have l3 := lt_of_block B3.out
          obtain ⟨ov, hov⟩ : ∃ v, (tgC (cs.take j) nc)[m]? = some v := ⟨_, Array.getElem?_eq_getElem (by unfold tgC; simp; exact hm)⟩
          have cm : w3.cell? ⟨w.heap.size, m, none⟩ = some ov := (cell_of B3.out m).trans hov
          have zm := frozen_of B3.out m
          clear g3
          go_wp2_with (go_at_call 78; refine (HNM.out _).mono ?_; rintro e w4 ⟨rfl, hw⟩; have hw := hw.symm; subst hw)
          go_roundg (gk - 1)
          case measure => omega
          case rel =>
            refine ⟨j + 1, by omega, by simp, ?_, ?_⟩
            · rw [HX.out, ← HSET.out]
              exact al_blk (setCell_block B3.out m (.bool true)) _
            · exact Ch.alloc (Ch.fresh G3.out (Nat.le_refl _) _ _) _
        · have HSAME := hid (tgC_same (ws := cs.take j) (x := x) (n := nc) (fun k _ => by rw [HTW.out k]; simp [hq]))
          have hq' : (q == 1) = false := by simpa using hq
          clear HTW hxk
          go_wp2_with (first | (go_at_call 30; refine (HD.out _ (HG.out.gr HR.out)).mono ?_; rintro e w3 ⟨rfl, g3⟩; have G3 := hid (Gr.trans HR.out g3); have B3 := hid (gr_blk HB.out g3); have l3 := lt_of_block B3.out; clear g3) | (go_at_call 78; refine (HNM.out _).mono ?_; rintro e w4 ⟨rfl, hw⟩; have hw := hw.symm; subst hw))
          go_roundg (gk - 1)
          case measure => omega
          case rel => exact ⟨j + 1, by omega, by simp, by rw [HX.out, HSAME.out]; exact al_blk B3.out _, Ch.alloc G3.out _⟩
      · have HSAME := hid (tgC_same (ws := cs.take j) (x := x) (n := nc) (fun k _ => by rw [HTW.out k]; simp [hE]))
        have hE' : (E == 0) = false := by simpa using hE
        clear HTW hxk
        go_wp2_with (first | (go_at_call 30; refine (HD.out _ (HG.out.gr HR.out)).mono ?_; rintro e w3 ⟨rfl, g3⟩; have G3 := hid (Gr.trans HR.out g3); have B3 := hid (gr_blk HB.out g3); have l3 := lt_of_block B3.out; clear g3) | (go_at_call 78; refine (HNM.out _).mono ?_; rintro e w4 ⟨rfl, hw⟩; have hw := hw.symm; subst hw))
        go_roundg (gk - 1)
        case measure => omega
        case rel => exact ⟨j + 1, by omega, by simp, by rw [HX.out, HSAME.out]; exact al_blk B3.out _, Ch.alloc G3.out _⟩
    · have hjn : j = nc := by omega
      have jn : ¬ (j : Int) < (nc : Int) := by omega
      have htk : cs.take j = cs := by rw [hjn, HN.out]; exact List.take_length
      rw [htk] at HB
      clear htk hjn
      go_wp2
      go_ret
      exact ⟨rfl, HB.out, HR.out⟩
end Go.Proofs.YtbehlhnnfdkmaaaGreatDoor.Lt

namespace Go.Proofs.YtbehlhnnfdkmaaaGreatDoor.Lt
open Go.RowKit Wd

def eB (b : UInt8) : List Value := [.int .u8 b.toNat]
theorem eB_len (b : UInt8) : (eB b).length = 1 := rfl
theorem u8_info : (Tryz.prog.info? 5).map (fun i => (i.zero, i.size, i.bytes)) = some (some (.int .u8 0), 1, 1) := by kernel_rfl
theorem eB_cells (s : ByteArray) : s.data.toList.flatMap eB = Lib.strCells s := by
  unfold Lib.strCells
  generalize s.data.toList = l
  induction l with
  | nil => rfl
  | cons b r ih => rw [List.flatMap_cons, ih]; rfl
/-- a writer in memory: where it lies, its bytes, its text -/
structure Wr (base X : Nat) (w : World) (v : Value) (T : ByteArray) : Prop where
  blk : w.heap[X]? = some (.cells #[v] 86 (0, 0))
  own : Ow eB 1 5 base w v T.data.toList
  lt : X < base
  le : base ≤ w.heap.size
theorem Wr.gr {base X : Nat} {w w' : World} {v : Value} {T : ByteArray} (h : Wr base X w v T) (k : Gr w w') : Wr base X w' v T := ⟨gr_blk h.blk k, h.own.gr k, h.lt, Nat.le_trans h.le k.size⟩
theorem Wr.form {base X : Nat} {w : World} {v : Value} {T : ByteArray} (h : Wr base X w v T) : ∃ ao cap, v = .slice ao T.size cap := by
  obtain ⟨ao, cap, e⟩ := h.own.form
  exact ⟨ao, cap, by rw [e]; rfl⟩
theorem Wr.new {base X : Nat} {w w1 w2 : World} {v v' : Value} {T T' : ByteArray} (h : Wr base X w v T) (k1 : Gr w w1) (ho : Ow eB 1 5 base w2 v' T'.data.toList) (k : Ch (Blk v) w1 w2) : Wr base X (w2.setCell ⟨X, 0, none⟩ v') v' T' := by
  have nX : ¬ Blk v X := fun e => by have := (h.own.blk e).1; have := h.lt; omega
  have C := (Ch.refl (Only X) w2).own 0 v'
  have bX : w2.heap[X]? = some (.cells #[v] 86 (0, 0)) := (k.block X (Nat.lt_of_lt_of_le (lt_of_block h.blk) k1.size) nX).trans (gr_blk h.blk k1)
  exact ⟨by simpa using setCell_block bX 0 v', ho.ch C (fun g hg e => by have := (ho.blk hg).1; have e1 : g = X := e; have := h.lt; omega), h.lt, Nat.le_trans h.le (Nat.le_trans k1.size (Nat.le_trans k.size C.size))⟩
/-- where bytes lie behind a text's appending -/
theorem str_at {w w' : World} {base t u ty e : Nat} {i : TypeInfo} (ht : Tryz.prog.underlying t = some (.slice e)) (hu : Tryz.prog.underlying u = some .string) (hi : Tryz.prog.info? e = some i) (hz : i.zero = some (.int .u8 0)) (hsize : i.size = 1) (hby : i.bytes = 1)
    {v v' : Value} {n : Nat} {xs : List Value} (hown : w.ownsRow base e 1 v n xs) {s : ByteArray} (hbytes : n + s.size ≤ 140737488355328)
    (hr : (Builtin.append_ #[t, u] ty #[v, .string s]).run Tryz.prog w = .ok v' w') : ∀ q, Blk v' q → Blk v q ∨ w.heap.size ≤ q := by
  have hxl : xs.length = n := by simpa using hown.1
  rcases hown.2 with ⟨rfl, rfl⟩ | ⟨g, cap, cur, rfl, hbg, hg, hnc, hcm, hcs, htake⟩
  · by_cases hm : s.size = 0
    · have hf := Lib.run_firstCells_string (P := Tryz.prog) w 1 s
      rw [hm] at hf
      simp [Builtin.append_, run_underlying ht, run_underlying hu, sizeOf, typeInfo, hi, hsize, Builtin.lenOf, hm, hf] at hr
      obtain ⟨rfl, _⟩ := hr
      intro q hq
      cases hq
    · have hr2 := run_append_nil_string (P := Tryz.prog) w t u ty e i (.int .u8 0) ht hu hi hz s (by omega) (by omega) (by rw [hby]; omega)
      rw [hr2] at hr
      injection hr with h1 h2
      subst h1
      intro q hq
      right
      injection hq with hq
      exact Nat.le_of_eq hq
  · by_cases hroom : n + s.size ≤ cap
    · have hcs' : cur.size = cap := by simpa using hcs
      have hr2 := Lib.run_append_room_string (P := Tryz.prog) w t u ty e i ht hu hi hsize g n cap cur hg s hroom (by omega)
      rw [hr2] at hr
      injection hr with h1 h2
      subst h1
      intro q hq
      exact .inl hq
    · have holds : ∀ j u, xs[j]? = some u → w.cell? ((⟨g, 0, none⟩ : Addr).add j) = some u := hown.cells (g := g) rfl
      have hr2 := Lib.run_append_grow_string (P := Tryz.prog) w t u ty e i (.int .u8 0) ht hu hi hz ⟨g, 0, none⟩ n cap xs (by rw [hsize]; simpa using hxl) holds s (by omega) (by omega) (by rw [hby]; exact growslice_fits (by omega) (by omega))
      rw [hr2] at hr
      injection hr with h1 h2
      subst h1
      intro q hq
      right
      injection hq with hq
      exact Nat.le_of_eq hq
/-- a text is appended to bytes that the call owns -/
theorem wp_append_txt {w : World} {o : Oper} {a : Act} {Kk : Act → World → Prop} {Q : Exit → Act → World → Prop} (s x : Operand)
    (ho : o.op = .call { callee := .builtin .append, args := #[s, x], argTypes := #[84, 9] })
    (base : Nat) (v : Value) (T : ByteArray) (hs : a.eval s = v) (hown : Ow eB 1 5 base w v T.data.toList) (S : ByteArray) (hx : a.eval x = .string S)
    (k : Nat) (hk : k = T.size + S.size) (hb : k ≤ 140737488355328) (hbase : base ≤ w.heap.size)
    (h : ∀ ao cap w', Ow eB 1 5 base w' (.slice ao k cap) (T ++ S).data.toList → Ch (Blk v) w w' → (∀ q, Blk (.slice ao k cap) q → Blk v q ∨ w.heap.size ≤ q) → Kk (a.put o.dst (.slice ao k cap)) w') : Oper.wp Tryz.prog o a w Kk Q := by
  subst hk
  obtain ⟨i0, hi, hz0, hz1, hz2⟩ := info_parts u8_info
  have hown' : w.ownsRow base 5 1 v T.size (Lib.strCells T) := by
    have := hown
    unfold Ow at this
    rw [eB_cells] at this
    exact this
  obtain ⟨v', w', hr, h2, h3, _⟩ := Lib.run_append_own_string (P := Tryz.prog) w base 84 9 o.type _ i0 Tryz.underlying84 Tryz.underlying9 hi hz0 hz1 hz2 v T.size _ hown' S (by unfold maxLen; omega) hb hbase
  have hat := str_at Tryz.underlying84 Tryz.underlying9 hi hz0 hz1 hz2 hown' hb hr
  unfold Oper.wp execOp
  simp only [ho, resolve, invoke, builtin, Sem.run_bind, Sem.run_pure, Result.andThen_ok, List.map_toArray, List.map_cons, List.map_nil, hs, hx, hr]
  obtain ⟨ao', cap', rfl⟩ := own_form h2
  refine h ao' cap' w' ?_ ((Ch.refl _ _).grown h3 (fun k hk => .inl hk)) hat
  unfold Ow
  rw [eB_cells]
  have e1 : (T ++ S).data.toList.length = T.size + S.size := by
    have : (T ++ S).size = T.size + S.size := ByteArray.size_append
    exact this
  have e2 : Lib.strCells (T ++ S) = Lib.strCells T ++ Lib.strCells S := by
    unfold Lib.strCells
    simp
  rw [e1, e2]
  exact h2
/-- the same, at a step of a region that draws -/
theorem step_append_txt {w : World} {ops : Array Oper} {o : Oper} {a : Act} {Kk : Act → World → Prop} {Q : Exit → Act → World → Prop} {E : Prop} (hgd : o.guard = none) (s x : Operand)
    (ho : o.op = .call { callee := .builtin .append, args := #[s, x], argTypes := #[84, 9] })
    (base : Nat) (v : Value) (T : ByteArray) (hs : a.eval s = v) (hown : Ow eB 1 5 base w v T.data.toList) (S : ByteArray) (hx : a.eval x = .string S)
    (k : Nat) (hk : k = T.size + S.size) (hb : k ≤ 140737488355328) (hbase : base ≤ w.heap.size)
    (h : ∀ ao cap w', Ow eB 1 5 base w' (.slice ao k cap) (T ++ S).data.toList → Ch (Blk v) w w' → (∀ q, Blk (.slice ao k cap) q → Blk v q ∨ w.heap.size ≤ q) → Kk (a.put o.dst (.slice ao k cap)) w') :
    if Region.wanted o (yielded ops a.tmps) = true then Oper.wp Tryz.prog o a w Kk Q else E := by
  have hw : Region.wanted o (yielded ops a.tmps) = true := by simp [Region.wanted, hgd]
  rw [if_pos hw]
  exact wp_append_txt s x ho base v T hs hown S hx k hk hb hbase h
/-- the same, in order -/
theorem wpList_append_txt {w : World} {ops : Array Oper} {rest : List Oper} {o : Oper} {a : Act} {Q : Exit → Act → World → Prop} (hgd : o.guard = none) (s x : Operand)
    (ho : o.op = .call { callee := .builtin .append, args := #[s, x], argTypes := #[84, 9] })
    (base : Nat) (v : Value) (T : ByteArray) (hs : a.eval s = v) (hown : Ow eB 1 5 base w v T.data.toList) (S : ByteArray) (hx : a.eval x = .string S)
    (k : Nat) (hk : k = T.size + S.size) (hb : k ≤ 140737488355328) (hbase : base ≤ w.heap.size)
    (h : ∀ ao cap w', Ow eB 1 5 base w' (.slice ao k cap) (T ++ S).data.toList → Ch (Blk v) w w' → (∀ q, Blk (.slice ao k cap) q → Blk v q ∨ w.heap.size ≤ q) → wpList Tryz.prog ops Q rest (a.put o.dst (.slice ao k cap)) w') : wpList Tryz.prog ops Q (o :: rest) a w :=
  wpList_plain hgd fun _ hK => wp_append_txt s x ho base v T hs hown S hx k hk hb hbase (fun ao cap w' h1 h2 h3 => hK _ _ (h ao cap w' h1 h2 h3))
theorem long_any (base X : Nat) (w : World) (v : Value) (T : ByteArray) (h : Wr base X w v T) : Calls Tryz.prog 41 #[.pointer (some ⟨X, 0, none⟩)] w fun e w' => e = .returned (.bool (decide (262144 < T.size))) ∧ w' = w := by
  obtain ⟨ao, cap, rfl⟩ := h.form
  have c0 : w.cell? ⟨X, 0, none⟩ = some (.slice ao T.size cap) := (cell_of h.blk 0).trans rfl
  generalize T.size = n at c0 ⊢
  clear h
  by_cases hn : 262144 < n
  · have h1 : (262144 : Int) < (n : Int) := by omega
    rw [decide_eq_true hn]
    go_enter Tryz.func41, Tryz.ntmps41
    go_wp2
    go_ret
    exact ⟨rfl, rfl⟩
  · have h1 : ¬ (262144 : Int) < (n : Int) := by omega
    rw [decide_eq_false hn]
    go_enter Tryz.func41, Tryz.ntmps41
    go_wp2
    go_ret
    exact ⟨rfl, rfl⟩
/-- a line more, unless the text is too long already -/
def wl (T s : ByteArray) : ByteArray := if 262144 < T.size then T else (T ++ s) ++ { data := #[10] }
/-- what a writer may write -/
def SW (base X : Nat) : Nat → Prop := fun q => q = X ∨ base ≤ q
/-- what one line writes -/
def XV (X : Nat) (v : Value) : Nat → Prop := fun q => q = X ∨ Blk v q
/-- what a line leaves -/
structure Lnd (base X : Nat) (w : World) (v : Value) (w' : World) (v' : Value) (T : ByteArray) : Prop where
  wr : Wr base X w' v' T
  ch : Ch (XV X v) w w'
  nx : ∀ q, Blk v' q → Blk v q ∨ w.heap.size ≤ q
/-- a block that lines leave alone -/
structure Kp (X : Nat) (v : Value) (w : World) (b : Nat) (o : Obj) : Prop where
  blk : w.heap[b]? = some o
  ne : b ≠ X
  nb : ¬ Blk v b
theorem Kp.gr {X b : Nat} {v : Value} {w w' : World} {o : Obj} (h : Kp X v w b o) (k : Gr w w') : Kp X v w' b o := ⟨gr_blk h.blk k, h.ne, h.nb⟩
theorem Kp.ln {base X b : Nat} {v v' : Value} {w w' : World} {o : Obj} {T : ByteArray} (h : Kp X v w b o) (k : Lnd base X w v w' v' T) : Kp X v' w' b o :=
  ⟨(k.ch.block b (lt_of_block h.blk) (fun e => e.elim h.ne h.nb)).trans h.blk, h.ne, fun e => (k.nx b e).elim h.nb (fun q => by have := lt_of_block h.blk; omega)⟩
theorem Kp.new {base X : Nat} {v : Value} {w : World} {T : ByteArray} (h : Wr base X w v T) (c : Array Value) (t : TypeId) : Kp X v (w.alloc (.cells c t)) w.heap.size (.cells c t (0, 0)) :=
  ⟨(MapKept.heap_alloc w _).1, fun e => by have := lt_of_block h.blk; omega, fun e => by have := (h.own.blk e).2; omega⟩
theorem Lnd.sw {base X : Nat} {v v' : Value} {w w' : World} {T T' : ByteArray} (k : Lnd base X w v w' v' T') (h : Wr base X w v T) : Ch (SW base X) w w' := k.ch.mono (fun _ e => .inl (e.elim .inl (fun e => .inr (h.own.blk e).1)))
theorem txt_len (T s : ByteArray) : (T ++ s).data.toList.length = T.size + s.size := ByteArray.size_append
theorem txt_nl (T : ByteArray) : (T ++ { data := #[10] } : ByteArray).data.toList = T.data.toList ++ [10] := by simp
set_option maxHeartbeats 1000000 in
set_option maxRecDepth 20000 in
theorem wline_any (base X : Nat) (w : World) (v : Value) (T s : ByteArray) (h : Wr base X w v T) (hs : s.size ≤ 4294967296) :
    Calls Tryz.prog 84 #[.pointer (some ⟨X, 0, none⟩), .string s] w fun e w' => e = .returned (.tuple #[]) ∧ ∃ v', Lnd base X w v w' v' (wl T s) := by
  have HW := hid h
  have HL := hid (long_any base X w v T h)
  obtain ⟨ao, cap, rfl⟩ := h.form
  have lX := lt_of_block h.blk
  have c0 : w.cell? ⟨X, 0, none⟩ = some (.slice ao T.size cap) := (cell_of h.blk 0).trans rfl
  have z0 := frozen_of h.blk 0
  by_cases hn : 262144 < T.size
  · have e1 : wl T s = T := by unfold wl; rw [if_pos hn]
    rw [e1]
    rw [decide_eq_true hn] at HL
    clear h
    go_enter Tryz.func84, Tryz.ntmps84
    go_wp2_with (go_at_call 41; refine HL.out.mono ?_; rintro e w4 ⟨rfl, hw⟩; have hw := hw.symm; subst hw)
    go_end0
    exact ⟨rfl, _, HW.out, Ch.refl _ _, fun q e => .inl e⟩
  · have e1 : wl T s = (T ++ s) ++ { data := #[10] } := by unfold wl; rw [if_neg hn]
    rw [e1]
    rw [decide_eq_false hn] at HL
    clear h
    go_enter Tryz.func84, Tryz.ntmps84
    go_wp2_with (first | (go_at_call 41; refine HL.out.mono ?_; rintro e w4 ⟨rfl, hw⟩; have hw := hw.symm; subst hw) | (at_builtin; refine wpList_append_txt rfl (.tmp 11) (.tmp 12) rfl base _ T rfl HW.out.own s rfl (T.size + s.size) rfl (by omega) HW.out.le ?_; intro ao2 cap2 w2 ow2 cw2 bl2; have W2 := hid (HW.out.new (Gr.refl w) ow2 cw2); have HO2 := hid ow2; have HC2 := hid cw2; have HB2 := hid bl2; have nX : ¬ Blk (.slice ao T.size cap) X := fun e => by { have := (HW.out.own.blk e).1; have := HW.out.lt; omega }; have b2 := (cw2.block X lX nX).trans HW.out.blk; have d0 : w2.cell? ⟨X, 0, none⟩ = some (.slice ao T.size cap) := (cell_of b2 0).trans rfl; have y0 := frozen_of b2 0; have l2 := lt_of_block b2; clear ow2 cw2 bl2 b2 nX) | (at_builtin; refine wpList_append_ow eB_len rfl (.tmp 20) (.tmp 21) _ 5 1 _ Tryz.underlying84 u8_info rfl (by omega) rfl base _ (T ++ s).data.toList rfl (W2.out.own.alloc _) (fun g => g = w2.heap.size) (.slice (some ⟨w2.heap.size, 0, none⟩) 1 1) [(10 : UInt8)] rfl (by have q := Ls.single (enc := eB) (w2.setCell ⟨X, 0, none⟩ (.slice ao2 (T.size + s.size) cap2)) (10 : UInt8) 5 #[.int .u8 10] rfl; simpa using q) (by intro u hu; simp [eB] at hu; rw [hu]; rfl) (T.size + s.size + 1) (by rw [txt_len]; rfl) (by omega) (by unfold maxLen; omega) (by have := W2.out.le; simp at this ⊢; omega) ((T ++ s) ++ { data := #[10] } : ByteArray).data.toList (txt_nl _).symm ?_; intro ao3 cap3 w3 ow3 cw3 bl3; have W3 := hid (W2.out.new (Ch.alloc (Gr.refl _) _) ow3 cw3); have HC3 := hid cw3; have HB3 := hid bl3; have nX : ¬ Blk (.slice ao2 (T.size + s.size) cap2) X := fun e => by { have := (W2.out.own.blk e).1; have := W2.out.lt; omega }; have b3 := (cw3.block X (by have := lt_of_block W2.out.blk; simp at this ⊢; omega) nX).trans (al_blk W2.out.blk _); have x0 : w3.cell? ⟨X, 0, none⟩ = some (.slice ao2 (T.size + s.size) cap2) := (cell_of b3 0).trans rfl; have y3 := frozen_of b3 0; have l3 := lt_of_block b3; clear ow3 cw3 bl3 b3 nX))
    go_end0
    have s2 := HC2.out.size
    refine ⟨rfl, _, W3.out, ?_, ?_⟩
    · have k2 : Ch (XV X (.slice ao T.size cap)) w (w2.setCell ⟨X, 0, none⟩ (.slice ao2 (T.size + s.size) cap2)) := (Ch.trans (Ch.refl _ _) HC2.out (fun q e => .inl (.inr e))).setCell (p := ⟨X, 0, none⟩) (.inl (.inl rfl)) _
      exact (Ch.trans (Ch.alloc k2 _) HC3.out (fun q e => (HB2.out q e).elim (fun e => .inl (.inr e)) .inr)).setCell (p := ⟨X, 0, none⟩) (.inl (.inl rfl)) _
    · intro q e
      rcases HB3.out q e with e | e
      · exact HB2.out q e
      · right
        simp at e
        omega
end Go.Proofs.YtbehlhnnfdkmaaaGreatDoor.Lt

namespace Go.Proofs.YtbehlhnnfdkmaaaGreatDoor.Lt
open Go.RowKit Wd

theorem insT_size (k : Nat) (a b c m : Int) (ha : I64 a) (hb : I64 b) (hc : I64 c) (hm : I64 m) : (insT k a b c m).size ≤ 101 := by
  have hv : ∀ v ∈ [a, b, c].take (fR (sh k)), -9223372036854775808 ≤ v ∧ v ≤ 9223372036854775807 := fun v hv => by
    have := List.mem_of_mem_take hv
    simp only [List.mem_cons, List.not_mem_nil, or_false] at this
    rcases this with rfl | rfl | rfl
    · exact ha
    · exact hb
    · exact hc
  have h1 := rgT_size (nm k) (nm_le k) ([a, b, c].take (fR (sh k))) hv
  have h2 : ([a, b, c].take (fR (sh k))).length ≤ 3 := by rw [List.length_take]; simp; omega
  have h3 := cal_size (knd (k : Nat)) m hm.1 hm.2
  unfold insT
  split
  · rw [ByteArray.size_append, ByteArray.size_append]
    have : ({ data := #[32] } : ByteArray).size = 1 := rfl
    omega
  · omega
/-- a case's text -/
def csT (c : Cs) : ByteArray := if c.send = true then insT 29 c.ch c.val 0 0 else insT 30 c.ch c.val c.ok 0
theorem csT_size {c : Cs} (h : cf c = true) : (csT c).size ≤ 101 := by
  unfold cf at h
  unfold csT
  split
  · rename_i q
    rw [if_pos q] at h
    obtain ⟨⟨a0, a1⟩, ⟨b0, b1⟩, _⟩ := fit_bd (sh_lt 29) h
    exact insT_size _ _ _ _ _ ⟨by omega, by omega⟩ ⟨by omega, by omega⟩ ⟨by omega, by omega⟩ ⟨by omega, by omega⟩
  · rename_i q
    rw [if_neg q] at h
    obtain ⟨⟨a0, a1⟩, ⟨b0, b1⟩, h3⟩ := fit_bd (sh_lt 30) h
    exact insT_size _ _ _ _ _ ⟨by omega, by omega⟩ ⟨by omega, by omega⟩ ⟨by omega, by omega⟩ ⟨by omega, by omega⟩
theorem caseText_any (c : Cs) (h : cf c = true) (w : World) (hg : Glb w) : Calls Tryz.prog 31 #[iV (cI c)] w fun e w' => e = .returned (.string (csT c)) ∧ Gr w w' := by
  obtain ⟨s, a, b, d⟩ := c
  cases s with
  | true =>
    have h' : fit (sh 29) a b 0 0 = true := h
    obtain ⟨⟨a0, a1⟩, ⟨b0, b1⟩, _⟩ := fit_bd (sh_lt 29) h'
    exact instruction_any 29 (by omega) (by omega) a b 0 0 ⟨by omega, by omega⟩ ⟨by omega, by omega⟩ ⟨by omega, by omega⟩ ⟨by omega, by omega⟩ w hg
  | false =>
    have h' : fit (sh 30) a b d 0 = true := h
    obtain ⟨⟨a0, a1⟩, ⟨b0, b1⟩, h3⟩ := fit_bd (sh_lt 30) h'
    exact instruction_any 30 (by omega) (by omega) a b d 0 ⟨by omega, by omega⟩ ⟨by omega, by omega⟩ ⟨by omega, by omega⟩ ⟨by omega, by omega⟩ w hg
section
variable {base X : Nat} {w w' : World}
theorem Pin.sw {P : Nat → Prop} {vc vf vt : Value} {cs : List Int} {fs : List (Int × Int)} {ts : List Tb} (h : Pin P w vc vf vt cs fs ts) (hp : ∀ g, P g → g < base ∧ g ≠ X) (k : Ch (SW base X) w w') : Pin P w' vc vf vt cs fs ts := by
  have n : ∀ g, g < w.heap.size → P g → ¬ SW base X g := fun g _ q e => by
    have := hp g q
    rcases e with e | e
    · exact this.2 e
    · omega
  exact ⟨h.c.ch k n, h.f.ch k n, h.t.ch k n, fun t ht => (h.cs t ht).ch k n⟩
theorem Glb.sw (h : Glb w) (hX : 10 < X) (hb : X < base) (k : Ch (SW base X) w w') : Glb w' := h.ch k (fun x e => by
  rcases e with e | e
  · rw [e]
    exact hX
  · omega)
end
end Go.Proofs.YtbehlhnnfdkmaaaGreatDoor.Lt

namespace Go.Proofs.YtbehlhnnfdkmaaaGreatDoor.Lt
open Go.RowKit Wd

/-- lines, one behind the other -/
def wls (T : ByteArray) (ls : List ByteArray) : ByteArray := ls.foldl wl T
theorem wls_snoc (T : ByteArray) (ls : List ByteArray) (s : ByteArray) : wls T (ls ++ [s]) = wl (wls T ls) s := by unfold wls; rw [List.foldl_append]; rfl
theorem wls_app (T : ByteArray) (ls ms : List ByteArray) : wls T (ls ++ ms) = wls (wls T ls) ms := by unfold wls; rw [List.foldl_append]
/-- what each of a list gives, by its number -/
def ixl {α β : Type} (g : Nat → α → List β) : Nat → List α → List β
  | _, [] => []
  | n, a :: r => g n a ++ ixl g (n + 1) r
theorem ixl_snoc {α β : Type} (g : Nat → α → List β) : ∀ (xs : List α) (n : Nat) (a : α), ixl g n (xs ++ [a]) = ixl g n xs ++ g (n + xs.length) a := by
  intro xs
  induction xs with
  | nil => intro n a; simp [ixl]
  | cons b r ih =>
    intro n a
    rw [List.cons_append]
    show g n b ++ ixl g (n + 1) (r ++ [a]) = (g n b ++ ixl g (n + 1) r) ++ g (n + (r.length + 1)) a
    rw [ih, List.append_assoc]
    congr 3
    omega
theorem ixl_take {α β : Type} (g : Nat → α → List β) {xs : List α} {j : Nat} {a : α} (h : xs[j]? = some a) : ixl g 0 (xs.take (j + 1)) = ixl g 0 (xs.take j) ++ g j a := by
  have hj : j < xs.length := (List.getElem?_eq_some_iff.1 h).1
  rw [take_one h, ixl_snoc]
  congr 2
  simp
  omega
/-- a table's first line -/
def hdT (n : Nat) (df : Bool) : ByteArray := if df = true then ({ data := #[116, 97, 98, 108, 101, 32] } ++ cal 3 (n : Nat)) ++ { data := #[32, 100, 101, 102, 97, 117, 108, 116] } else { data := #[116, 97, 98, 108, 101, 32] } ++ cal 3 (n : Nat)
/-- a table's lines -/
def tbL (n : Nat) (t : List Cs × Bool) : List ByteArray := hdT n t.2 :: t.1.map csT
/-- what a table says -/
def tT (t : Tb) : List Cs × Bool := (t.cs, t.df)
theorem tT_at {ts : List Tb} {j : Nat} {t : Tb} (h : ts[j]? = some t) : (ts.map tT)[j]? = some (tT t) := by rw [List.getElem?_map, h]; rfl

/-- a word's lines -/
def lbL (cs : List Int) (a : Nat) : List ByteArray := (if tg cs a = true then [cal 1 (a : Nat) ++ { data := #[58] }] else []) ++ [wT (cs[a]?.getD 0)]
/-- a function's lines -/
def fnL (cs : List Int) (n : Nat) (f : Int × Int) : List ByteArray := [{ data := #[102, 117, 110, 99, 32] } ++ cal 2 (n : Nat)] ++ (List.range' f.1.toNat (f.2 - f.1).toNat).flatMap (lbL cs)

/-- a line break -/
def nl : ByteArray := { data := #[10] }
/-- lines without an end to a text's length -/
def jl (T : ByteArray) (ls : List ByteArray) : ByteArray := ls.foldl (fun T s => (T ++ s) ++ nl) T
theorem jl_app (T : ByteArray) (ls ms : List ByteArray) : jl T (ls ++ ms) = jl (jl T ls) ms := by unfold jl; rw [List.foldl_append]
theorem jl_snoc (T : ByteArray) (ls : List ByteArray) (s : ByteArray) : jl T (ls ++ [s]) = (jl T ls ++ s) ++ nl := by unfold jl; rw [List.foldl_append]; rfl
theorem jl_one (T s : ByteArray) : jl T [s] = (T ++ s) ++ nl := rfl
theorem jl_le : ∀ (ls : List ByteArray) (T : ByteArray), T.size ≤ (jl T ls).size := by
  intro ls
  induction ls with
  | nil => intro T; exact Nat.le_refl _
  | cons s r ih =>
    intro T
    have := ih ((T ++ s) ++ nl)
    rw [ByteArray.size_append, ByteArray.size_append] at this
    show T.size ≤ (jl ((T ++ s) ++ nl) r).size
    omega
/-- lines of which some are left out once a text is too long -/
def gl (T : ByteArray) (g : Bool × List ByteArray) : ByteArray := if g.1 = true ∧ 262144 < T.size then T else jl T g.2
def gls (T : ByteArray) (gs : List (Bool × List ByteArray)) : ByteArray := gs.foldl gl T
theorem gls_app (T : ByteArray) (a b : List (Bool × List ByteArray)) : gls T (a ++ b) = gls (gls T a) b := by unfold gls; rw [List.foldl_append]
theorem gls_snoc (T : ByteArray) (a : List (Bool × List ByteArray)) (g : Bool × List ByteArray) : gls T (a ++ [g]) = gl (gls T a) g := by unfold gls; rw [List.foldl_append]; rfl
theorem gl_le (T : ByteArray) (g : Bool × List ByteArray) : T.size ≤ (gl T g).size := by
  unfold gl
  split
  · exact Nat.le_refl _
  · exact jl_le _ _
theorem gls_le : ∀ (gs : List (Bool × List ByteArray)) (T : ByteArray), T.size ≤ (gls T gs).size := by
  intro gs
  induction gs with
  | nil => intro T; exact Nat.le_refl _
  | cons g r ih => intro T; exact Nat.le_trans (gl_le T g) (ih _)
/-- what comes out is the whole text, or both are too long -/
theorem gls_jl : ∀ (gs : List (Bool × List ByteArray)) (T : ByteArray), ((jl T (gs.flatMap (·.2))).size ≤ 262144 → gls T gs = jl T (gs.flatMap (·.2))) ∧ (262144 < (jl T (gs.flatMap (·.2))).size → 262144 < (gls T gs).size) := by
  intro gs
  induction gs with
  | nil => intro T; exact ⟨fun _ => rfl, fun h => h⟩
  | cons g r ih =>
    intro T
    have e : jl T ((g :: r).flatMap (·.2)) = jl (jl T g.2) (r.flatMap (·.2)) := by rw [List.flatMap_cons, jl_app]
    rw [e]
    show (_ → gls (gl T g) r = _) ∧ (_ → 262144 < (gls (gl T g) r).size)
    by_cases hg : g.1 = true ∧ 262144 < T.size
    · have h1 := jl_le g.2 T
      have h2 := jl_le (r.flatMap (·.2)) (jl T g.2)
      have h3 : gl T g = T := by unfold gl; rw [if_pos hg]
      rw [h3]
      have h4 := gls_le r T
      exact ⟨fun h => by have := hg.2; omega, fun _ => by have := hg.2; omega⟩
    · have h3 : gl T g = jl T g.2 := by unfold gl; rw [if_neg hg]
      rw [h3]
      exact ih _
theorem gl_stop {T : ByteArray} (h : 262144 < T.size) : ∀ (gs : List (Bool × List ByteArray)), (∀ g ∈ gs, g.1 = true) → gls T gs = T := by
  intro gs
  induction gs with
  | nil => intro _; rfl
  | cons g r ih =>
    intro hg
    have e : gl T g = T := by unfold gl; rw [if_pos ⟨hg g (by simp), h⟩]
    show gls (gl T g) r = T
    rw [e]
    exact ih (fun g h => hg g (by simp [h]))
theorem wls_gls (T : ByteArray) (ls : List ByteArray) : wls T ls = gls T (ls.map (fun s => (true, [s]))) := by
  induction ls generalizing T with
  | nil => rfl
  | cons s r ih =>
    show wls (wl T s) r = gls (gl T (true, [s])) (r.map _)
    rw [ih]
    congr 1
    unfold wl gl jl
    simp only [true_and]
    rfl
/-- a whole text -/
def full (cs : List Int) (fs : List (Int × Int)) (tb : List (List Cs × Bool)) : ByteArray := jl { data := #[] } (ixl tbL 0 tb ++ ixl (fnL cs) 0 fs)
/-- the program's text -/
theorem wls_full (cs : List Int) (fs : List (Int × Int)) (tb : List (List Cs × Bool)) : ((full cs fs tb).size ≤ 262144 → wls (wls { data := #[] } (ixl tbL 0 tb)) (ixl (fnL cs) 0 fs) = full cs fs tb) ∧ (262144 < (full cs fs tb).size → 262144 < (wls (wls { data := #[] } (ixl tbL 0 tb)) (ixl (fnL cs) 0 fs)).size) := by
  rw [← wls_app, wls_gls]
  have := gls_jl ((ixl tbL 0 tb ++ ixl (fnL cs) 0 fs).map (fun s => (true, [s]))) { data := #[] }
  have e : ((ixl tbL 0 tb ++ ixl (fnL cs) 0 fs).map (fun s => (true, [s]))).flatMap (·.2) = ixl tbL 0 tb ++ ixl (fnL cs) 0 fs := by
    generalize ixl tbL 0 tb ++ ixl (fnL cs) 0 fs = l
    induction l with
    | nil => rfl
    | cons a r ih => simp [ih]
  rw [e] at this
  exact this

/-- the first of words that is refused -/
def fsE : List Int → Int
  | [] => 0
  | x :: r => if dE x = 0 then fsE r else dE x
/-- is all there that a function's words name? -/
def thW (nf nt : Nat) (f : Int × Int) (ws : List Int) : Bool := ws.all (fun x => decide (dE x = 0 → thr nf nt f (dI x) = true))
def thA (nf nt : Nat) (cs : List Int) (fs : List (Int × Int)) : Bool := fs.all (fun f => thW nf nt f (wf cs f))
/-- has a program a text, but for words that are refused and for its length? -/
def fts (cs : List Int) (fs : List (Int × Int)) (ts : List Tb) : Bool := ptd fs cs.length && cfs ts && thA fs.length ts.length cs fs
theorem fsE_app (a b : List Int) : fsE (a ++ b) = if fsE a = 0 then fsE b else fsE a := by
  induction a with
  | nil => rfl
  | cons x r ih =>
    show (if dE x = 0 then fsE (r ++ b) else dE x) = if (if dE x = 0 then fsE r else dE x) = 0 then fsE b else if dE x = 0 then fsE r else dE x
    by_cases h : dE x = 0
    · simp only [if_pos h]
      exact ih
    · simp only [if_neg h]
theorem fsE_zero {cs : List Int} : fsE cs = 0 ↔ ∀ x ∈ cs, dE x = 0 := by
  induction cs with
  | nil => simp [fsE]
  | cons x r ih =>
    show (if dE x = 0 then fsE r else dE x) = 0 ↔ _
    by_cases h : dE x = 0
    · simp [h, ih]
    · simp [h]
theorem ckW_is (nf nt : Nat) (f : Int × Int) : ∀ (ws : List Int) (u : Int), ckW nf nt f ws u = if thW nf nt f ws = true then some (if u = 0 then fsE ws else u) else none := by
  intro ws
  induction ws with
  | nil => intro u; unfold ckW thW fsE; simp
  | cons x r ih =>
    intro u
    unfold ckW
    by_cases h : dE x = 0 ∧ thr nf nt f (dI x) = false
    · rw [if_pos h, if_neg]
      unfold thW
      simp [h.1, h.2]
    · rw [if_neg h, ih]
      have e : thW nf nt f (x :: r) = thW nf nt f r := by
        unfold thW
        rw [List.all_cons]
        have : decide (dE x = 0 → thr nf nt f (dI x) = true) = true := decide_eq_true (fun q => by
          cases hq : thr nf nt f (dI x) with
          | true => rfl
          | false => exact absurd ⟨q, hq⟩ h)
        rw [this, Bool.true_and]
      rw [e]
      congr 2
      by_cases hu : u = 0
      · simp only [if_pos hu]
        show _ = if dE x = 0 then fsE r else dE x
        by_cases hd : dE x = 0
        · simp [hd]
        · simp [hd]
      · simp [hu]
theorem ckF_is (nf nt : Nat) (cs : List Int) : ∀ (fs : List (Int × Int)) (u : Int), ckF nf nt cs fs u = if thA nf nt cs fs = true then some (if u = 0 then fsE (fs.flatMap (wf cs)) else u) else none := by
  intro fs
  induction fs with
  | nil => intro u; unfold ckF thA; simp [fsE]
  | cons f r ih =>
    intro u
    unfold ckF
    rw [ckW_is]
    have e : thA nf nt cs (f :: r) = (thW nf nt f (wf cs f) && thA nf nt cs r) := by unfold thA; rw [List.all_cons]
    rw [e]
    cases h1 : thW nf nt f (wf cs f) with
    | false => rfl
    | true =>
      simp only [Bool.true_and, if_true]
      show ckF nf nt cs r _ = _
      rw [ih, List.flatMap_cons, fsE_app]
      congr 2
      by_cases hu : u = 0
      · simp [hu]
      · simp [hu]
theorem wf_part {cs : List Int} : ∀ (fs : List (Int × Int)) (a : Nat), pr fs (a : Int) = some (cs.length : Int) → fs.flatMap (wf cs) = cs.drop a := by
  intro fs
  induction fs with
  | nil =>
    intro a h
    injection h with h
    have : a = cs.length := by omega
    rw [this, List.drop_length]
    rfl
  | cons f r ih =>
    intro a h
    unfold pr at h
    split at h
    · rename_i q
      have hl := pr_le _ _ _ h
      obtain ⟨x1, x2⟩ := f
      simp only at q h hl
      obtain ⟨rfl, q2⟩ := q
      obtain ⟨y, rfl⟩ : ∃ y : Nat, x2 = (y : Nat) := ⟨x2.toNat, by omega⟩
      rw [List.flatMap_cons, ih y h]
      unfold wf
      simp only
      rw [show ((a : Nat) : Int).toNat = a by omega, show (((y : Nat) : Int) - ((a : Nat) : Int)).toNat = y - a by omega]
      have : cs.drop y = (cs.drop a).drop (y - a) := by rw [List.drop_drop]; congr 1; omega
      rw [this, List.take_append_drop]
    · cases h
theorem ptd_pr {fs : List (Int × Int)} {n : Nat} (h : ptd fs n = true) : pr fs 0 = some (n : Int) := by
  unfold ptd at h
  exact (of_decide_eq_true h).2
/-- why a program has no text is the same in both words -/
theorem chk_is (cs : List Int) (fs : List (Int × Int)) (ts : List Tb) : chk cs fs ts = if fts cs fs ts = true then fsE cs else 1 := by
  unfold chk fts
  cases h1 : ptd fs cs.length with
  | false => simp
  | true =>
    cases h2 : cfs ts with
    | false => simp
    | true =>
      have h3 := wf_part fs 0 (ptd_pr h1)
      rw [List.drop_zero] at h3
      simp only [Bool.true_and, and_self, if_true]
      rw [ckF_is, h3]
      cases h4 : thA fs.length ts.length cs fs <;> simp
theorem pr_in : ∀ (fs : List (Int × Int)) (a : Nat) (n : Int), pr fs (a : Int) = some n → ∀ f ∈ fs, (a : Int) ≤ f.1 ∧ f.1 < f.2 ∧ f.2 ≤ n := by
  intro fs
  induction fs with
  | nil => intro a n _ f hf; cases hf
  | cons g r ih =>
    intro a n h f hf
    unfold pr at h
    split at h
    · rename_i q
      have hl := pr_le _ _ _ h
      obtain ⟨x1, x2⟩ := g
      simp only at q h hl
      obtain ⟨rfl, q2⟩ := q
      obtain ⟨y, rfl⟩ : ∃ y : Nat, x2 = (y : Nat) := ⟨x2.toNat, by omega⟩
      rcases List.mem_cons.1 hf with rfl | hf
      · exact ⟨Int.le_refl _, by simp only; omega, hl⟩
      · have := ih y n h f hf
        exact ⟨by omega, this.2.1, this.2.2⟩
    · cases h
theorem thr_L {nf nt : Nat} {f : Int × Int} {x : Int} (h : thr nf nt f (dI x) = true) (k : knd (dI x).1 = 1) : f.1 ≤ (dI x).2.2.2.2 ∧ (dI x).2.2.2.2 < f.2 := by
  unfold thr at h
  rw [if_pos k] at h
  exact of_decide_eq_true h
/-- targets lie within -/
theorem tg_ok {cs : List Int} {fs : List (Int × Int)} {nf nt : Nat} (hp : pr fs 0 = some (cs.length : Int)) (h : thA nf nt cs fs = true) : TgOk cs cs.length := by
  intro x hx hd hk
  have e := wf_part fs 0 hp
  rw [List.drop_zero] at e
  rw [← e] at hx
  obtain ⟨f, hf, hx⟩ := List.mem_flatMap.1 hx
  have h1 := List.all_eq_true.1 h f hf
  have h2 := of_decide_eq_true (List.all_eq_true.1 h1 x hx) hd
  have h3 := thr_L h2 hk
  have h4 := pr_in fs 0 _ hp f hf
  omega
/-- what a word names lies in its own function: whose the place is -/
theorem tg_own {cs : List Int} {nf nt : Nat} : ∀ (fs : List (Int × Int)) (a : Nat), pr fs (a : Int) = some (cs.length : Int) → thA nf nt cs fs = true → ∀ f ∈ fs, ∀ k : Nat, f.1 ≤ (k : Int) → (k : Int) < f.2 → tg (fs.flatMap (wf cs)) k = tg (wf cs f) k := by
  intro fs
  induction fs with
  | nil => intro a _ _ f hf; cases hf
  | cons g r ih =>
    intro a h ht f hf k k1 k2
    unfold pr at h
    split at h
    · rename_i q
      have hl := pr_le _ _ _ h
      obtain ⟨x1, x2⟩ := g
      simp only at q h hl
      obtain ⟨rfl, q2⟩ := q
      obtain ⟨y, rfl⟩ : ∃ y : Nat, x2 = (y : Nat) := ⟨x2.toNat, by omega⟩
      have e : thA nf nt cs (((a : Int), (y : Int)) :: r) = (thW nf nt ((a : Int), (y : Int)) (wf cs ((a : Int), (y : Int))) && thA nf nt cs r) := by unfold thA; rw [List.all_cons]
      rw [e, Bool.and_eq_true] at ht
      have far : ∀ {f : Int × Int} {ws : List Int}, thW nf nt f ws = true → ¬ (f.1 ≤ (k : Int) ∧ (k : Int) < f.2) → tg ws k = false := fun {f ws} h1 h2 => by
        unfold tg
        rw [List.any_eq_false]
        intro x hx
        unfold tgw
        simp only [decide_eq_true_eq, not_and]
        intro d1 d2 d3
        have := thr_L (of_decide_eq_true (List.all_eq_true.1 h1 x hx) d1) d2
        rw [d3] at this
        exact h2 this
      have spl : tg (List.flatMap (wf cs) (((a : Int), (y : Int)) :: r)) k = (tg (wf cs ((a : Int), (y : Int))) k || tg (r.flatMap (wf cs)) k) := by
        rw [List.flatMap_cons]
        unfold tg
        rw [List.any_append]
      rw [spl]
      rcases List.mem_cons.1 hf with rfl | hf
      · have : tg (r.flatMap (wf cs)) k = false := by
          unfold tg
          rw [List.any_eq_false]
          intro x hx
          obtain ⟨f', hf', hx⟩ := List.mem_flatMap.1 hx
          have h1 := List.all_eq_true.1 ht.2 f' hf'
          have h2 := far h1 (fun q => by have := pr_in r y _ h f' hf'; simp only at k2; omega)
          unfold tg at h2
          rw [List.any_eq_false] at h2
          exact h2 x hx
        rw [this, Bool.or_false]
      · have := pr_in r y _ h f hf
        rw [far ht.1 (fun q => by simp only at q; omega), Bool.false_or]
        exact ih y h ht.2 f hf k k1 k2
    · cases h
end Go.Proofs.YtbehlhnnfdkmaaaGreatDoor.Lt
