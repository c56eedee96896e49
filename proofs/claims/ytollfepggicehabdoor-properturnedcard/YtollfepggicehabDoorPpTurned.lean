/-
  What ProperTurned answers of any program, place and word. Conditions: the tables lie where they lie; words are words.
-/
import Derived.Test.YtollfepggicehabDoorPpLaw8
import Derived.Test.YtollfepggicehabDoorPpAwake
import Derived.Deep.DeepCutAuto
namespace Go.Proofs.YtollfepggicehabDoor.Lt
open Go.RowKit Wd

theorem u32_info : (Tryd.prog.info? 40).map (fun i => (i.zero, i.size, i.bytes)) = some (some (.int .u32 0), 1, 4) := by kernel_rfl
theorem func_info : (Tryd.prog.info? 45).map (fun i => (i.zero, i.size, i.bytes)) = some (some (.agg #[.int .i64 0, .int .i64 0]), 2, 16) := by kernel_rfl
theorem eU_ones (cs : List Int) : ∀ u ∈ cs.flatMap eU, u.oneCell' = true := fun u hu => by
  obtain ⟨c, _, hc⟩ := List.mem_flatMap.1 hu
  have : u = .int .u32 c := by simpa [eU] using hc
  rw [this]
  rfl
theorem eG_ones (fs : List (Int × Int)) : ∀ u ∈ fs.flatMap eG, u.oneCell' = true := fun u hu => by
  obtain ⟨c, _, hc⟩ := List.mem_flatMap.1 hu
  have : u = .int .i64 c.1 ∨ u = .int .i64 c.2 := by simpa [eG] using hc
  rcases this with rfl | rfl <;> rfl
theorem blk_nil (q : Nat) : ¬ Blk (.slice none 0 0) q := fun e => by cases e

set_option maxHeartbeats 4000000 in
set_option maxRecDepth 100000 in
theorem turned_any (P : Nat → Prop) (w : World) (ia ib ic : Value) (cs : List Int) (fs : List (Int × Int)) (ts : List Tb) (at_ x : Int) (h : Pin P w ia ib ic cs fs ts) (_hc : cs.length ≤ 35184372088832) (_hf : fs.length ≤ 8796093022208) (_ht : ts.length ≤ 4398046511104) (_hq : ∀ t ∈ ts, t.cs.length ≤ 4398046511104) (hu : U32s cs) (hx : 0 ≤ x ∧ x < 4294967296) (hg : Glb w) :
    Calls Tryd.prog 4 #[.agg #[ia, ib, ic], .int .i64 at_, .int .u32 x] w fun e w' => e = .returned (.bool true) ∧ Gr w w' := by
  have HC := hid (fun (W : World) (p : Gr w W) => check_any P W ia ib ic cs fs ts (h.gr p) hu (hg.gr p))
  have HC2 := hid (fun (W : World) (a b c : Value) (cs : List Int) (fs : List (Int × Int)) (ts : List Tb) (p : Pin (fun _ => True) W a b c cs fs ts) (u : U32s cs) (g : Glb W) => check_any _ W a b c cs fs ts p u g)
  have HR2 := hid (fun (W : World) (a b c : Value) (cs : List Int) (fs : List (Int × Int)) (ts : List Tb) (p : Pin (fun _ => True) W a b c cs fs ts) (u : U32s cs) => rcheck_any _ W a b c cs fs ts p u)
  have HV := hid (fun (W : World) (q : Glb W) => awake_any W q)
  have HIN := hid (show Pin (fun _ => True) w ia ib ic cs fs ts from ⟨h.c.mono (fun _ _ _ => trivial), h.f.mono (fun _ _ _ => trivial), h.t.mono (fun _ _ _ => trivial), fun t ht => (h.cs t ht).mono (fun _ _ _ => trivial)⟩)
  have HG := hid hg
  have HU := hid hu
  obtain ⟨aoc, cac, hia⟩ := h.c.form
  obtain ⟨aof, caf, hib⟩ := h.f.form
  obtain ⟨aot, cat, hic⟩ := h.t.form
  have HYES := hid (fun (q : (chk cs fs ts).2 = 0) => chk_parts q)
  have HCOD := hid (fun (q : (chk cs fs ts).2 = 0) (cs' : List Int) (l : cs'.length = cs.length) => chk_code q l)
  have HMOV := hid (fun (q : (chk cs fs ts).2 = 0) (m : Nat) (b e : Int) (l : fs.length = m + 1) (z : fs[m]? = some (b, e)) => chk_moved q l z)
  have HZ0 := hid (fun (q : (chk cs fs ts).2 = 0) => (cF_in (chk_parts q).2).2.1)
  have HBD := hid (fun (q : (chk cs fs ts).2 = 0) => (cF_in (chk_parts q).2).1)
  obtain ⟨nc, hnc⟩ : ∃ n, n = cs.length := ⟨_, rfl⟩
  obtain ⟨nf, hnf⟩ : ∃ n, n = fs.length := ⟨_, rfl⟩
  obtain ⟨nt, hnt⟩ : ∃ n, n = ts.length := ⟨_, rfl⟩
  rw [← hnc] at hia HYES HCOD HBD
  rw [← hnf] at hib HYES HMOV HZ0
  rw [← hnt] at hic HYES
  have HNC := hid hnc
  have HNF := hid hnf
  generalize chk cs fs ts = R at HC HYES HCOD HMOV HZ0 HBD
  obtain ⟨r1, r2⟩ := R
  simp only at HC HYES HCOD HMOV HZ0 HBD
  subst hia hib hic
  have K1 := hid (Gr.alloc (Gr.refl w) #[.slice aoc nc cac, .slice aof nf caf, .slice aot nt cat] 26)
  have B1 := hid (MapKept.heap_alloc w (.cells #[.slice aoc nc cac, .slice aof nf caf, .slice aot nt cat] 26)).1
  clear h hu hg _hc _hf _ht _hq hnc hnf hnt
  by_cases h2 : r2 = 0
  · subst h2
    by_cases ha : at_ < 0
    · have da : decide (at_ < 0) = true := decide_eq_true ha
      go_enter Tryd.func4, Tryd.ntmps4
      go_wp2_with (first | (go_at_call 12; refine (HC.out _ K1.out).mono ?_; rintro e w1 ⟨rfl, g1⟩; have G1 := hid (Gr.trans K1.out g1); have b1 := gr_blk B1.out g1; have B2 := hid b1; have lm := lt_of_block b1; have m0 : w1.cell? ⟨w.heap.size, 0, none⟩ = some (.slice aoc nc cac) := (cell_of b1 0).trans rfl; have m1 : w1.cell? ⟨w.heap.size, 1, none⟩ = some (.slice aof nf caf) := (cell_of b1 1).trans rfl; have m2 : w1.cell? ⟨w.heap.size, 2, none⟩ = some (.slice aot nt cat) := (cell_of b1 2).trans rfl; clear g1 b1) | (go_at_call 7; refine (HV.out _ (HG.out.gr G1.out)).mono ?_; rintro e w2 ⟨rfl, g2⟩; have G2 := hid (Gr.trans G1.out g2); clear g2))
      go_ret
      exact ⟨rfl, G2.out⟩
    · have da : decide (at_ < 0) = false := decide_eq_false ha
      by_cases hb : (nc : Int) ≤ at_
      · have db : decide ((nc : Int) ≤ at_) = true := decide_eq_true hb
        go_enter Tryd.func4, Tryd.ntmps4
        go_wp2_with (first | (go_at_call 12; refine (HC.out _ K1.out).mono ?_; rintro e w1 ⟨rfl, g1⟩; have G1 := hid (Gr.trans K1.out g1); have b1 := gr_blk B1.out g1; have B2 := hid b1; have lm := lt_of_block b1; have m0 : w1.cell? ⟨w.heap.size, 0, none⟩ = some (.slice aoc nc cac) := (cell_of b1 0).trans rfl; have m1 : w1.cell? ⟨w.heap.size, 1, none⟩ = some (.slice aof nf caf) := (cell_of b1 1).trans rfl; have m2 : w1.cell? ⟨w.heap.size, 2, none⟩ = some (.slice aot nt cat) := (cell_of b1 2).trans rfl; clear g1 b1) | (go_at_call 7; refine (HV.out _ (HG.out.gr G1.out)).mono ?_; rintro e w2 ⟨rfl, g2⟩; have G2 := hid (Gr.trans G1.out g2); clear g2))
        go_ret
        exact ⟨rfl, G2.out⟩
      · have db : decide ((nc : Int) ≤ at_) = false := decide_eq_false hb
        obtain ⟨a, rfl⟩ : ∃ a : Nat, at_ = (a : Nat) := ⟨at_.toNat, by omega⟩
        have hal : a < nc := by omega
        obtain ⟨⟨hs0, hcF⟩⟩ : Nonempty (¬ (4096 < nc ∨ 256 < nf ∨ 256 < nt) ∧ True) := ⟨⟨(by first | exact (HYES.out rfl).1 | exact (HYES.out trivial).1), trivial⟩⟩
        have b4 : nc ≤ 4096 := by omega
        have b5 : nf ≤ 256 := by omega
        have hnz : nf ≠ 0 := by first | exact HZ0.out rfl | exact HZ0.out trivial
        obtain ⟨m, hm⟩ : ∃ m, nf = m + 1 := ⟨nf - 1, by omega⟩
        obtain ⟨⟨fb, fe⟩, hfl⟩ : ∃ f, fs[m]? = some f := ⟨_, List.getElem?_eq_getElem (by rw [← HNF.out]; omega)⟩
        have hib := (show Inn fs nc by first | exact HBD.out rfl | exact HBD.out trivial) _ (List.mem_of_getElem? hfl)
        simp only at hib
        have HFL := hid hfl
        have HCOD2 := hid (show (cs.set a x).length = nc → ((chk (cs.set a x) fs ts).2 = 0 ∨ (chk (cs.set a x) fs ts).2 = 80 ∨ (chk (cs.set a x) fs ts).2 = 81 ∨ (chk (cs.set a x) fs ts).2 = 82 ∨ (chk (cs.set a x) fs ts).2 = 83 ∨ (chk (cs.set a x) fs ts).2 = 84) from fun l => by first | exact HCOD.out rfl _ l | exact HCOD.out trivial _ l)
        have hcod := HCOD2.out (by rw [List.length_set, ← HNC.out])
        have hmov : chk cs (fs.set m (fb, fe - 1)) ts = ((m : Int), 81) ∨ chk cs (fs.set m (fb, fe - 1)) ts = (((m + 1 : Nat) : Int), 81) := by first | exact HMOV.out rfl m fb fe hm hfl | exact HMOV.out trivial m fb fe hm hfl
        have HUS := hid (show U32s (cs.set a x) from fun y hy => by
          rcases List.mem_or_eq_of_mem_set hy with z | z
          · exact HU.out y z
          · rw [z]; exact hx)
        obtain ⟨xo, hxo⟩ : ∃ y, cs[a]? = some y := ⟨_, List.getElem?_eq_getElem (by rw [← HNC.out]; exact hal)⟩
        have HXO := hid hxo
        have HMV := hid (show chk cs (fs.set m (fb, fe - 1)) ts = ((m : Int), 81) ∨ chk cs (fs.set m (fb, fe - 1)) ts = ((nf : Int), 81) by rw [hm]; exact hmov)
        have em : (nf : Int) - 1 = (m : Int) := by omega
        have m0' : (0 : Int) ≤ (m : Int) := by omega
        have m1' : (m : Int) < (nf : Int) := by omega
        have mne : ((m : Int) == (nf : Int)) = false := by simp; omega
        have HM := hid hm
        clear HYES HCOD HMOV HZ0 HBD HCOD2 hfl hxo hmov hs0 hcF hm
        obtain ⟨hi0, hi1, hi2⟩ := hib
        generalize hR1 : chk (cs.set a x) fs ts = R1 at hcod
        obtain ⟨n1, e1⟩ := R1
        simp only at hcod
        have HR1 := hid hR1
        have HCD := hid hcod
        clear hR1 hcod
        go_enter Tryd.func4, Tryd.ntmps4
        go_upto_region 6 with (first | (go_at_call 12; refine (HC.out _ K1.out).mono ?_; rintro e w1 ⟨rfl, g1⟩; have G1 := hid (Gr.trans K1.out g1); have b1 := gr_blk B1.out g1; have B2 := hid b1; have lm := lt_of_block b1; have m0 : w1.cell? ⟨w.heap.size, 0, none⟩ = some (.slice aoc nc cac) := (cell_of b1 0).trans rfl; have m1 : w1.cell? ⟨w.heap.size, 1, none⟩ = some (.slice aof nf caf) := (cell_of b1 1).trans rfl; have m2 : w1.cell? ⟨w.heap.size, 2, none⟩ = some (.slice aot nt cat) := (cell_of b1 2).trans rfl; clear g1 b1) | (at_builtin; have L5 := hid (show Ls eU (fun _ => True) (w1.alloc (.cells #[.slice none 0 0, .slice aof nf caf, .slice aot nt cat] 26)) (.slice aoc nc cac) cs from HIN.out.c.gr (Ch.alloc G1.out _)); refine wpList_append_ow eU_len rfl (.tmp 42) (.tmp 44) _ 40 4 _ Tryd.underlying22 u32_info rfl (by omega) rfl (w1.heap.size + 1) (.slice none 0 0) [] rfl (Ow.nil _ _ _ _ _) (fun _ => True) (.slice aoc nc cac) cs rfl L5.out (eU_ones cs) nc (by rw [HNC.out]; simp) (by omega) (by unfold maxLen; omega) (by simp) cs (List.nil_append _) ?_; intro ao5 cap5 w5 ow5 cw5 bl5; have C5 := hid (show Gr (w1.alloc (.cells #[.slice none 0 0, .slice aof nf caf, .slice aot nt cat] 26)) w5 from cw5.mono (fun q e => absurd e (blk_nil q))); have q5 := gr_blk (MapKept.heap_alloc w1 (.cells #[.slice none 0 0, .slice aof nf caf, .slice aot nt cat] 26)).1 C5.out; have Q5 := hid q5; have b5 := gr_blk (al_blk B2.out (.cells #[.slice none 0 0, .slice aof nf caf, .slice aot nt cat] 26)) C5.out; have BB5 := hid b5; have OW5 := hid ow5; have ls := lt_of_block q5; have s0 : w5.cell? ⟨w1.heap.size, 0, none⟩ = some (.slice none 0 0) := (cell_of q5 0).trans rfl; have s1 : w5.cell? ⟨w1.heap.size, 1, none⟩ = some (.slice aof nf caf) := (cell_of q5 1).trans rfl; have s2 : w5.cell? ⟨w1.heap.size, 2, none⟩ = some (.slice aot nt cat) := (cell_of q5 2).trans rfl; have lt := lt_of_block b5; have t0 : w5.cell? ⟨w.heap.size, 0, none⟩ = some (.slice aoc nc cac) := (cell_of b5 0).trans rfl; have t1 : w5.cell? ⟨w.heap.size, 1, none⟩ = some (.slice aof nf caf) := (cell_of b5 1).trans rfl; have t2 : w5.cell? ⟨w.heap.size, 2, none⟩ = some (.slice aot nt cat) := (cell_of b5 2).trans rfl; have z5 := frozen_of q5 0; clear ow5 cw5 bl5 q5 b5))
        obtain ⟨W6, hW6⟩ : ∃ W, W = (w5.setCell ⟨w1.heap.size, 0, none⟩ (.slice ao5 nc cap5)) := ⟨_, rfl⟩
        have C6 := hid (show Ch (Only w1.heap.size) w5 W6 by rw [hW6]; exact (Ch.refl _ _).own _ _)
        have Q6 := hid (show W6.heap[w1.heap.size]? = some (.cells #[.slice ao5 nc cap5, .slice aof nf caf, .slice aot nt cat] 26 (0, 0)) by rw [hW6]; simpa using setCell_block Q5.out 0 (.slice ao5 nc cap5))
        rw [← hW6]
        have G5 := hid (Gr.trans (Ch.alloc G1.out (.cells #[.slice none 0 0, .slice aof nf caf, .slice aot nt cat] 26)) C5.out)
        have gs1 := G1.out.size
        have G6 := hid (Ch.trans G5.out C6.out (fun q e => .inr (by have e1 : q = w1.heap.size := e; omega)))
        have BB6 := hid ((C6.out.block w.heap.size lt (fun e => by have e1 : w.heap.size = w1.heap.size := e; have := lm; omega)).trans BB5.out)
        have OW6 := hid (OW5.out.ch C6.out (fun q hq e => by have := (OW5.out.blk hq).1; have e1 : q = w1.heap.size := e; omega))
        obtain ⟨g, cap', hv, hgb, hgl, hcap, hget, hfro, hset⟩ := OW6.out.get eU_len HXO.out
        injection hv with hv1 hv2 hv3
        subst hv1
        have c6 : W6.cell? ⟨g, a, none⟩ = some (.int .u32 xo) := by have := hget 0 _ rfl; rwa [Nat.mul_one, Nat.add_zero] at this
        have z6 := hfro a
        have OW7 := hid (show Ow eU 1 40 (w1.heap.size + 1) (W6.setCell ⟨g, a, none⟩ (.int .u32 x)) (.slice (some ⟨g, 0, none⟩) nc cap5) (cs.set a x) by have := hset 0 (.int .u32 x) x (by omega) rfl; rwa [Nat.mul_one, Nat.add_zero] at this)
        have C7 := hid ((Ch.refl (Only g) W6).own a (.int .u32 x))
        have G7 := hid (Ch.trans G6.out C7.out (fun q e => .inr (by have e1 : q = g := e; omega)))
        have Q7 := hid ((C7.out.block w1.heap.size (lt_of_block Q6.out) (fun e => by have e1 : w1.heap.size = g := e; omega)).trans Q6.out)
        have BB7 := hid ((C7.out.block w.heap.size (lt_of_block BB6.out) (fun e => by have e1 : w.heap.size = g := e; omega)).trans BB6.out)
        have a0 : (0 : Int) ≤ (a : Int) := by omega
        have a1 : (a : Int) < (nc : Int) := by omega
        have PIN7 := hid (show ∀ W, Gr (W6.setCell ⟨g, a, none⟩ (.int .u32 x)) W → Pin (fun _ => True) W (.slice (some ⟨g, 0, none⟩) nc cap5) (.slice aof nf caf) (.slice aot nt cat) (cs.set a x) fs ts from fun W k => ⟨(OW7.out.lst.mono (fun _ _ _ => trivial)).gr k, HIN.out.f.gr (Gr.trans G7.out k), HIN.out.t.gr (Gr.trans G7.out k), fun t ht => (HIN.out.cs t ht).gr (Gr.trans G7.out k)⟩)
        have q6 := Q6.out
        have q7 := Q7.out
        have lu := lt_of_block q6
        have u0 : W6.cell? ⟨w1.heap.size, 0, none⟩ = some (.slice (some ⟨g, 0, none⟩) nc cap5) := (cell_of q6 0).trans rfl
        have u1 : W6.cell? ⟨w1.heap.size, 1, none⟩ = some (.slice aof nf caf) := (cell_of q6 1).trans rfl
        have u2 : W6.cell? ⟨w1.heap.size, 2, none⟩ = some (.slice aot nt cat) := (cell_of q6 2).trans rfl
        have lv := lt_of_block q7
        have v0 : (W6.setCell ⟨g, a, none⟩ (.int .u32 x)).cell? ⟨w1.heap.size, 0, none⟩ = some (.slice (some ⟨g, 0, none⟩) nc cap5) := (cell_of q7 0).trans rfl
        have v1 : (W6.setCell ⟨g, a, none⟩ (.int .u32 x)).cell? ⟨w1.heap.size, 1, none⟩ = some (.slice aof nf caf) := (cell_of q7 1).trans rfl
        have v2 : (W6.setCell ⟨g, a, none⟩ (.int .u32 x)).cell? ⟨w1.heap.size, 2, none⟩ = some (.slice aot nt cat) := (cell_of q7 2).trans rfl
        clear hv2 hv3 hget hfro hset q6 q7 hW6 ls s0 s1 s2 lt t0 t1 t2 z5
        go_upto_region 9 with (first | (go_at_call 13; refine (HR2.out _ _ _ _ (cs.set a x) fs ts (PIN7.out _ G8.out) HUS.out).mono ?_; rw [HR1.out]; rintro e w9 ⟨rfl, g9⟩; have G9 := hid (Gr.trans G7.out (Gr.trans G8.out g9)); have b9 := gr_blk (gr_blk BB7.out G8.out) g9; have BB9 := hid b9; have ly := lt_of_block b9; have y0 : w9.cell? ⟨w.heap.size, 0, none⟩ = some (.slice aoc nc cac) := (cell_of b9 0).trans rfl; have y1 : w9.cell? ⟨w.heap.size, 1, none⟩ = some (.slice aof nf caf) := (cell_of b9 1).trans rfl; have y2 : w9.cell? ⟨w.heap.size, 2, none⟩ = some (.slice aot nt cat) := (cell_of b9 2).trans rfl; clear g9 b9) | (go_at_call 12; refine (HC2.out _ _ _ _ (cs.set a x) fs ts (PIN7.out _ (Gr.refl _)) HUS.out (HG.out.gr G7.out)).mono ?_; rw [HR1.out]; rintro e w8 ⟨rfl, g8⟩; have G8 := hid g8; have b8 := gr_blk Q7.out g8; have lk := lt_of_block b8; have k0 : w8.cell? ⟨w1.heap.size, 0, none⟩ = some (.slice (some ⟨g, 0, none⟩) nc cap5) := (cell_of b8 0).trans rfl; have k1 : w8.cell? ⟨w1.heap.size, 1, none⟩ = some (.slice aof nf caf) := (cell_of b8 1).trans rfl; have k2 : w8.cell? ⟨w1.heap.size, 2, none⟩ = some (.slice aot nt cat) := (cell_of b8 2).trans rfl; clear g8 b8))
        clear u0 u1 u2 lu v0 v1 v2 lv c6 z6 k0 k1 k2 lk m0 m1 m2 lm
        have gs9 := G9.out.size
        have L12 := hid (show Ls eG (fun _ => True) (w9.alloc (.cells #[.slice aoc nc cac, .slice none 0 0, .slice aot nt cat] 26)) (.slice aof nf caf) fs from HIN.out.f.gr (Ch.alloc G9.out _))
        rcases HCD.out with rfl | rfl | rfl | rfl | rfl | rfl
        all_goals by_cases hn : n1 = (a : Int)
        all_goals first | subst hn | have hn' : (n1 == (a : Int)) = false := by simpa using hn
        all_goals
          go_upto_region 13 with (at_builtin; refine wpList_append_ow eG_len rfl (.tmp 105) (.tmp 107) _ 45 16 _ Tryd.underlying23 func_info rfl (by omega) rfl (w9.heap.size + 1) (.slice none 0 0) [] rfl (Ow.nil _ _ _ _ _) (fun _ => True) (.slice aof nf caf) fs rfl L12.out (eG_ones fs) nf (by rw [HNF.out]; simp) (by omega) (by unfold maxLen; omega) (by simp) fs (List.nil_append _) ?_; intro ao12 cap12 w12 ow12 cw12 bl12; have C12 := hid (show Gr (w9.alloc (.cells #[.slice aoc nc cac, .slice none 0 0, .slice aot nt cat] 26)) w12 from cw12.mono (fun q e => absurd e (blk_nil q))); have q12 := gr_blk (MapKept.heap_alloc w9 (.cells #[.slice aoc nc cac, .slice none 0 0, .slice aot nt cat] 26)).1 C12.out; have Q12 := hid q12; have OW12 := hid ow12; have ls := lt_of_block q12; have s0 : w12.cell? ⟨w9.heap.size, 0, none⟩ = some (.slice aoc nc cac) := (cell_of q12 0).trans rfl; have s1 : w12.cell? ⟨w9.heap.size, 1, none⟩ = some (.slice none 0 0) := (cell_of q12 1).trans rfl; have s2 : w12.cell? ⟨w9.heap.size, 2, none⟩ = some (.slice aot nt cat) := (cell_of q12 2).trans rfl; have b12 := gr_blk (al_blk BB9.out (.cells #[.slice aoc nc cac, .slice none 0 0, .slice aot nt cat] 26)) C12.out; have lt := lt_of_block b12; have t0 : w12.cell? ⟨w.heap.size, 0, none⟩ = some (.slice aoc nc cac) := (cell_of b12 0).trans rfl; have t1 : w12.cell? ⟨w.heap.size, 1, none⟩ = some (.slice aof nf caf) := (cell_of b12 1).trans rfl; have t2 : w12.cell? ⟨w.heap.size, 2, none⟩ = some (.slice aot nt cat) := (cell_of b12 2).trans rfl; have z12 := frozen_of q12 1; clear ow12 cw12 bl12 q12 b12)
          obtain ⟨W13, hW13⟩ : ∃ W, W = w12.setCell ⟨w9.heap.size, 1, none⟩ (.slice ao12 nf cap12) := ⟨_, rfl⟩
          have C13 := hid (show Ch (Only w9.heap.size) w12 W13 by rw [hW13]; exact (Ch.refl _ _).own _ _)
          have Q13 := hid (show W13.heap[w9.heap.size]? = some (.cells #[.slice aoc nc cac, .slice ao12 nf cap12, .slice aot nt cat] 26 (0, 0)) by rw [hW13]; simpa using setCell_block Q12.out 1 (.slice ao12 nf cap12))
          rw [← hW13]
          have G12 := hid (Gr.trans (Ch.alloc G9.out (.cells #[.slice aoc nc cac, .slice none 0 0, .slice aot nt cat] 26)) C12.out)
          have G13 := hid (Ch.trans G12.out C13.out (fun q e => .inr (by have e1 : q = w9.heap.size := e; omega)))
          have OW13 := hid (OW12.out.ch C13.out (fun q hq e => by have := (OW12.out.blk hq).1; have e1 : q = w9.heap.size := e; omega))
          obtain ⟨gf, capf, hv, hgb2, hgl2, hcap2, hget2, hfro2, hset2⟩ := OW13.out.get eG_len HFL.out
          injection hv with hv1 hv2 hv3
          subst hv1
          have c13 := hget2 1 _ rfl
          have z13 := hfro2 (m * 2 + 1)
          have OW14 := hid (hset2 1 (.int .i64 (fe - 1)) (fb, fe - 1) (by omega) rfl)
          have C14 := hid ((Ch.refl (Only gf) W13).own (m * 2 + 1) (.int .i64 (fe - 1)))
          have G14 := hid (Ch.trans G13.out C14.out (fun q e => .inr (by have e1 : q = gf := e; omega)))
          have Q14 := hid ((C14.out.block w9.heap.size (lt_of_block Q13.out) (fun e => by have e1 : w9.heap.size = gf := e; omega)).trans Q13.out)
          have PIN14 := hid (show Pin (fun _ => True) (W13.setCell ⟨gf, m * 2 + 1, none⟩ (.int .i64 (fe - 1))) (.slice aoc nc cac) (.slice (some ⟨gf, 0, none⟩) nf cap12) (.slice aot nt cat) cs (fs.set m (fb, fe - 1)) ts from ⟨HIN.out.c.gr G14.out, by have := OW14.out.lst.mono (Q := fun _ => True) (fun _ _ _ => trivial); exact this, HIN.out.t.gr G14.out, fun t ht => (HIN.out.cs t ht).gr G14.out⟩)
          have q13 := Q13.out
          have q14 := Q14.out
          have lu := lt_of_block q13
          have u0 : W13.cell? ⟨w9.heap.size, 0, none⟩ = some (.slice aoc nc cac) := (cell_of q13 0).trans rfl
          have u1 : W13.cell? ⟨w9.heap.size, 1, none⟩ = some (.slice (some ⟨gf, 0, none⟩) nf cap12) := (cell_of q13 1).trans rfl
          have u2 : W13.cell? ⟨w9.heap.size, 2, none⟩ = some (.slice aot nt cat) := (cell_of q13 2).trans rfl
          have lv := lt_of_block q14
          have v0 : (W13.setCell ⟨gf, m * 2 + 1, none⟩ (.int .i64 (fe - 1))).cell? ⟨w9.heap.size, 0, none⟩ = some (.slice aoc nc cac) := (cell_of q14 0).trans rfl
          have v1 : (W13.setCell ⟨gf, m * 2 + 1, none⟩ (.int .i64 (fe - 1))).cell? ⟨w9.heap.size, 1, none⟩ = some (.slice (some ⟨gf, 0, none⟩) nf cap12) := (cell_of q14 1).trans rfl
          have v2 : (W13.setCell ⟨gf, m * 2 + 1, none⟩ (.int .i64 (fe - 1))).cell? ⟨w9.heap.size, 2, none⟩ = some (.slice aot nt cat) := (cell_of q14 2).trans rfl
          clear hv2 hv3 hget2 hfro2 hset2 q13 q14 hW13 ls s0 s1 s2 lt t0 t1 t2 z12
          rcases HMV.out with hmv | hmv
          all_goals
            have HMW := hid hmv
            clear hmv
            go_wp2_with (go_at_call 12; refine (HC2.out _ _ _ _ cs (fs.set m (fb, fe - 1)) ts PIN14.out HU.out (HG.out.gr G14.out)).mono ?_; rw [HMW.out]; rintro e w15 ⟨rfl, g15⟩; have G15 := hid (Gr.trans G14.out g15); have b15 := gr_blk Q14.out g15; have lk := lt_of_block b15; have k0 : w15.cell? ⟨w9.heap.size, 0, none⟩ = some (.slice aoc nc cac) := (cell_of b15 0).trans rfl; have k1 : w15.cell? ⟨w9.heap.size, 1, none⟩ = some (.slice (some ⟨gf, 0, none⟩) nf cap12) := (cell_of b15 1).trans rfl; have k2 : w15.cell? ⟨w9.heap.size, 2, none⟩ = some (.slice aot nt cat) := (cell_of b15 2).trans rfl; clear g15 b15)
            go_ret
            exact ⟨rfl, G15.out⟩
  · have h2' : (r2 == 0) = false := by simpa using h2
    go_enter Tryd.func4, Tryd.ntmps4
    go_wp2_with (first | (go_at_call 12; refine (HC.out _ K1.out).mono ?_; rintro e w1 ⟨rfl, g1⟩; have G1 := hid (Gr.trans K1.out g1); have b1 := gr_blk B1.out g1; have B2 := hid b1; have lm := lt_of_block b1; have m0 : w1.cell? ⟨w.heap.size, 0, none⟩ = some (.slice aoc nc cac) := (cell_of b1 0).trans rfl; have m1 : w1.cell? ⟨w.heap.size, 1, none⟩ = some (.slice aof nf caf) := (cell_of b1 1).trans rfl; have m2 : w1.cell? ⟨w.heap.size, 2, none⟩ = some (.slice aot nt cat) := (cell_of b1 2).trans rfl; clear g1 b1) | (go_at_call 7; refine (HV.out _ (HG.out.gr G1.out)).mono ?_; rintro e w2 ⟨rfl, g2⟩; have G2 := hid (Gr.trans G1.out g2); clear g2))
    go_ret
    exact ⟨rfl, G2.out⟩
end Go.Proofs.YtollfepggicehabDoor.Lt
