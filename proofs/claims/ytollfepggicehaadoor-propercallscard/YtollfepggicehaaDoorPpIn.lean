/-
  What the program's In answers: as the document's. Conditions: the tables lie where they lie; words are words.
-/
import Derived.Test.YtollfepggicehaaDoorPpAsk
namespace Go.Proofs.YtollfepggicehaaDoor.Lt
open Go.RowKit Wd

theorem inC_any (w : World) (X : Nat) (a x y : Int) (hX : w.heap[X]? = some (.cells #[.int .i64 a] 3 (0, 0))) :
    Calls Tryd.prog 33 #[.agg #[.int .i64 x, .int .i64 y], .pointer (some ⟨X, 0, none⟩)] w fun e w' => e = .returned (.bool (decide (a < y))) ∧ Gr w w' := by
  have c0 : w.cell? ⟨X, 0, none⟩ = some (.int .i64 a) := (cell_of hX 0).trans rfl
  have lX := lt_of_block hX
  have K := hid (Gr.alloc (Gr.refl w) #[.int .i64 x, .int .i64 y] 42)
  clear hX
  go_enter Tryd.func33, Tryd.ntmps33
  go_wp2
  go_ret
  exact ⟨rfl, K.out⟩
/-- does function j end behind the place? -/
def eF (fs : List (Int × Int)) (a : Int) (j : Nat) : Int := if a < (fs[j]?.getD (0, 0)).2 then 1 else 0
/-- the first that does, -1: none -/
def enx (fs : List (Int × Int)) (a : Int) : Int := if (fR (eF fs a) 0 fs.length).2 = 0 then -1 else (fR (eF fs a) 0 fs.length).1
set_option maxHeartbeats 1000000 in
set_option maxRecDepth 20000 in
theorem index_any (P : Nat → Prop) (w : World) (X : Nat) (aof : Option Addr) (nf caf : Nat) (fs : List (Int × Int)) (a : Int) (hf : Ls eG P w (.slice aof nf caf) fs) (hX : w.heap[X]? = some (.cells #[.int .i64 a] 3 (0, 0))) (hl : nf ≤ 256) :
    Calls Tryd.prog 32 #[.slice aof nf caf, .func (.func 33) #[] #[.pointer (some ⟨X, 0, none⟩)]] w fun e w' => e = .returned (.int .i64 (enx fs a)) ∧ Gr w w' := by
  have hnf := hf.len.1
  have HF := hid hf
  have HX := hid hX
  obtain ⟨R, hR⟩ : ∃ r, r = enx fs a := ⟨_, rfl⟩
  rw [← hR]
  have HBAD := hid (show ∀ j, j < nf → (∀ l, l < j → eF fs a l = 0) → eF fs a j ≠ 0 → R = (j : Nat) from fun j h1 h2 h3 => by
    have e : fR (eF fs a) 0 fs.length = ((j : Int), eF fs a j) := fR_at (Nat.zero_le _) (by rw [← hnf]; exact h1) (fun l _ q => h2 l q) h3
    rw [hR]
    unfold enx
    rw [e]
    simp [h3])
  have HEND := hid (show (∀ l, l < nf → eF fs a l = 0) → R = -1 from fun h2 => by
    have e : fR (eF fs a) 0 fs.length = (0, 0) := fR_none (fun l _ q => h2 l (by rw [hnf]; exact q))
    rw [hR]
    unfold enx
    rw [e]
    rfl)
  have HNF := hid hnf
  clear hnf hR hf hX
  go_enter Tryd.func32, Tryd.ntmps32
  go_wp2_with fail
  go_loopg [8] nf (fun m i wq => ∃ (j : Nat), j + m = nf ∧ i = .int .i64 ((j : Nat) : Int) ∧ (∀ l, l < j → eF fs a l = 0) ∧ Gr w wq)
  case atStart => exact ⟨0, by omega, rfl, fun l q => by omega, Gr.refl w⟩
  case round =>
    obtain ⟨j, hjk, rfl, hal, hgr⟩ := hrel
    have HAL := hid hal
    have HG := hid hgr
    clear hal hgr
    by_cases hj : j < nf
    · obtain ⟨⟨x1, x2⟩, hx⟩ : ∃ f, fs[j]? = some f := ⟨_, List.getElem?_eq_getElem (by rw [← HNF.out]; exact hj)⟩
      have HFB := hid (show eF fs a j = if a < x2 then 1 else 0 by unfold eF; rw [hx]; rfl)
      have HCL := hid (fun (W : World) (p : Gr w W) => inC_any W X a x1 x2 (gr_blk HX.out p))
      obtain ⟨g, o, cap', hv, _, hgl, hcap, hcs⟩ := HF.out.get eG_len hx
      injection hv with hv1 hv2 hv3
      subst hv1
      have c0 := (HG.out.cell hgl).trans (hcs 0 _ rfl)
      have c1 := (HG.out.cell hgl).trans (hcs 1 _ rfl)
      rw [Nat.add_zero] at c0
      have gs := HG.out.size
      have lg : g < wr.heap.size := by omega
      have j0 : (0 : Int) ≤ (j : Int) := by omega
      have j1 : (j : Int) < (nf : Int) := by omega
      have HZ := hid (show eF fs a j = 0 → ∀ l, l < j + 1 → eF fs a l = 0 from fun q l q1 => by
        by_cases e : l = j
        · rw [e]; exact q
        · exact HAL.out l (by omega))
      clear hv2 hv3 hcs hx hcap hgl
      by_cases e2 : a < x2
      · have hb : R = (j : Nat) := HBAD.out j hj HAL.out (by rw [HFB.out]; simp [e2])
        rw [decide_eq_true e2] at HCL
        subst hb
        go_wp2_with (go_at_call 33; refine (HCL.out _ HG.out).mono ?_; rintro e w1 ⟨rfl, g1⟩; have G1 := hid (Gr.trans HG.out g1); clear g1)
        go_ret
        exact ⟨rfl, G1.out⟩
      · have HY := hid (HZ.out (by rw [HFB.out]; simp [e2]))
        rw [decide_eq_false e2] at HCL
        go_wp2_with (go_at_call 33; refine (HCL.out _ HG.out).mono ?_; rintro e w1 ⟨rfl, g1⟩; have G1 := hid (Gr.trans HG.out g1); clear g1)
        go_roundg (gk - 1)
        case measure => omega
        case rel => exact ⟨j + 1, by omega, by simp, HY.out, G1.out⟩
    · have jn : ¬ (j : Int) < (nf : Int) := by omega
      have hb : R = -1 := HEND.out (fun l q => HAL.out l (by omega))
      subst hb
      go_wp2
      go_ret
      exact ⟨rfl, HG.out⟩
/-- of functions that part the code the first that ends behind a place is the place's -/
theorem enx_inx {fs : List (Int × Int)} {nc : Nat} (hp : Prt fs nc) {a : Int} (h0 : 0 ≤ a) (h1 : a < (nc : Int)) : enx fs a = inx fs a := by
  obtain ⟨b, rfl⟩ : ∃ b : Nat, a = (b : Nat) := ⟨a.toNat, by omega⟩
  obtain ⟨j, f, hf, f1, f2⟩ := hp.has b (by omega)
  rw [(hp.inx hf (b : Int)).2 ⟨f1, f2⟩]
  have ev : ∀ (l : Nat) g, fs[l]? = some g → eF fs (b : Int) l = if (b : Int) < g.2 then 1 else 0 := fun l g hg => by unfold eF; rw [hg]; rfl
  have e : fR (eF fs (b : Int)) 0 fs.length = ((j : Int), eF fs (b : Int) j) := fR_at (Nat.zero_le _) (List.getElem?_eq_some_iff.1 hf).1 (fun l _ ql => by
    obtain ⟨g, hg⟩ : ∃ g, fs[l]? = some g := ⟨_, List.getElem?_eq_getElem (by have := (List.getElem?_eq_some_iff.1 hf).1; omega)⟩
    have := hp.mono j l g f ql hg hf
    rw [ev l g hg, if_neg (by omega)]) (by rw [ev j f hf, if_pos f2]; decide)
  unfold enx
  rw [e, ev j f hf, if_pos f2]
  rfl
set_option maxRecDepth 20000 in
theorem pIn_any (P : Nat → Prop) (w : World) (ia ib ic : Value) (cs : List Int) (fs : List (Int × Int)) (ts : List Tb) (h : Pin P w ia ib ic cs fs ts) (hu : U32s cs) (hg : Glb w) (a : Int) :
    Calls Tryd.prog 12 #[.agg #[ia, ib, ic], .int .i64 a] w fun e w' => e = .returned (.tuple #[.int .i64 (inN cs fs ts a), .int .i64 (ask cs fs ts a (cs.length : Int))]) ∧ Gr w w' := by
  have HL := hid (fun (W : World) (p : Gr w W) => asked_any P W ia ib ic cs fs ts (h.gr p) hu (hg.gr p) a (cs.length : Int))
  have HYES := hid (show ask cs fs ts a (cs.length : Int) = 0 → fs.length ≤ 256 ∧ enx fs a = inx fs a from fun q => by
    unfold ask at q
    split at q
    · rename_i z; exact absurd q z
    · rename_i z
      have hz := Classical.byContradiction z
      split at q
      · cases q
      · exact ⟨(chk_len hz).2.1, enx_inx (prt_of (by
          unfold chk at hz
          split at hz
          · cases hz
          · split at hz
            · rename_i y; exact absurd hz y
            · rename_i y; exact Classical.byContradiction y)) (by omega) (by omega)⟩)
  have HF := hid h.f
  obtain ⟨aoc, cac, hia⟩ := h.c.form
  obtain ⟨aof, caf, hib⟩ := h.f.form
  obtain ⟨aot, cat, hic⟩ := h.t.form
  unfold inN
  obtain ⟨nc, hnc⟩ : ∃ n, n = cs.length := ⟨_, rfl⟩
  obtain ⟨nf, hnf⟩ : ∃ n, n = fs.length := ⟨_, rfl⟩
  rw [← hnc] at hia HL HYES ⊢
  rw [← hnf] at hib HYES
  generalize ts.length = nt at hic
  generalize ask cs fs ts a (nc : Int) = E at HL HYES ⊢
  subst hia hib hic
  have HI := hid (fun (q : nf ≤ 256) (W : World) (p : Gr w W) (X : Nat) (x : W.heap[X]? = some (.cells #[.int .i64 a] 3 (0, 0))) => index_any P W X aof nf caf fs a (HF.out.gr p) x q)
  generalize enx fs a = ex at HI HYES
  generalize inx fs a = ix at HYES ⊢
  have K1 := hid (Ch.alloc (Gr.alloc (Gr.refl w) #[.slice aoc nc cac, .slice aof nf caf, .slice aot nt cat] 26) (.cells #[.int .i64 a] 3))
  have B1 := hid (show ((w.alloc (.cells #[.slice aoc nc cac, .slice aof nf caf, .slice aot nt cat] 26)).alloc (.cells #[.int .i64 a] 3)).heap[w.heap.size]? = some (.cells #[.slice aoc nc cac, .slice aof nf caf, .slice aot nt cat] 26 (0, 0)) from al_blk (MapKept.heap_alloc w _).1 _)
  have BX := hid (show ((w.alloc (.cells #[.slice aoc nc cac, .slice aof nf caf, .slice aot nt cat] 26)).alloc (.cells #[.int .i64 a] 3)).heap[w.heap.size + 1]? = some (.cells #[.int .i64 a] 3 (0, 0)) by simpa using (MapKept.heap_alloc (w.alloc (.cells #[.slice aoc nc cac, .slice aof nf caf, .slice aot nt cat] 26)) (.cells #[.int .i64 a] 3)).1)
  clear h hu hg hnc hnf
  by_cases hE : E = 0
  · subst hE
    obtain ⟨hl, he⟩ := (show nf ≤ 256 ∧ ex = ix by first | exact HYES.out rfl | exact HYES.out trivial)
    simp only [if_true]
    subst he
    go_enter Tryd.func12, Tryd.ntmps12
    go_wp2_with (first | (go_at_call 31; refine (HL.out _ K1.out).mono ?_; rintro e w1 ⟨rfl, g1⟩; have G1 := hid (Gr.trans K1.out g1); have b1 := gr_blk B1.out g1; have X1 := hid (gr_blk BX.out g1); have l1 := lt_of_block b1; have p0 : w1.cell? ⟨w.heap.size, 0, none⟩ = some (.slice aoc nc cac) := (cell_of b1 0).trans rfl; have p1 : w1.cell? ⟨w.heap.size, 1, none⟩ = some (.slice aof nf caf) := (cell_of b1 1).trans rfl; have p2 : w1.cell? ⟨w.heap.size, 2, none⟩ = some (.slice aot nt cat) := (cell_of b1 2).trans rfl; clear g1 b1) | (go_at_call 32; refine (HI.out hl _ G1.out _ X1.out).mono ?_; rintro e w2 ⟨rfl, g2⟩; have G2 := hid (Gr.trans G1.out g2); clear g2))
    go_ret2
    exact ⟨rfl, G2.out⟩
  · have hE' : (E == 0) = false := by simpa using hE
    rw [if_neg hE]
    go_enter Tryd.func12, Tryd.ntmps12
    go_wp2_with (go_at_call 31; refine (HL.out _ K1.out).mono ?_; rintro e w1 ⟨rfl, g1⟩; have G1 := hid (Gr.trans K1.out g1); clear g1)
    go_ret2
    exact ⟨rfl, G1.out⟩
end Go.Proofs.YtollfepggicehaaDoor.Lt
