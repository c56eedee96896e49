/-
  What the program's named answers, and Reach and Calls. Conditions: the program may be; words are words; the tables lie where they lie.
-/
import Derived.Test.YtollfepggicehabDoorPpReach
namespace Go.Proofs.YtollfepggicehabDoor.Lt
open Go.RowKit Wd

/-- a place in the code: its word, the word's slot in memory -/
theorem Ls.word {P : Nat → Prop} {w : World} {ao : Option Addr} {nc cap : Nat} {cs : List Int} (h : Ls eU P w (.slice ao nc cap) cs) {k : Nat} {n : Int} (hk : cs[k]? = some n) : ∃ g o, ao = some ⟨g, o, none⟩ ∧ g < w.heap.size ∧ w.cell? ⟨g, o + k, none⟩ = some (.int .u32 n) := by
  obtain ⟨g, o, cap', hv, _, hgl, _, hcs⟩ := h.get eU_len hk
  injection hv with hv1
  have c0 := hcs 0 _ rfl
  rw [Nat.mul_one, Nat.add_zero] at c0
  exact ⟨g, o, hv1, hgl, c0⟩
theorem Ls.base {P : Nat → Prop} {w : World} {ao : Option Addr} {nc cap : Nat} {cs : List Int} (h : Ls eU P w (.slice ao nc cap) cs) (hp : 0 < nc) : ∃ g o, ao = some ⟨g, o, none⟩ ∧ g < w.heap.size ∧ ∀ (k : Nat) n, cs[k]? = some n → w.cell? ⟨g, o + k, none⟩ = some (.int .u32 n) := by
  obtain ⟨n, hn⟩ : ∃ n, cs[0]? = some n := ⟨_, List.getElem?_eq_getElem (by rw [← h.len.1]; exact hp)⟩
  obtain ⟨g, o, e, hl, _⟩ := h.word hn
  refine ⟨g, o, e, hl, fun k n hk => ?_⟩
  obtain ⟨g', o', e', _, hc⟩ := h.word hk
  rw [e] at e'
  injection e' with e'
  injection e' with e1 e2
  subst e1 e2
  exact hc
set_option maxHeartbeats 2000000 in
set_option maxRecDepth 20000 in
theorem pnamed_any (P : Nat → Prop) (w : World) (aoc aof aot : Option Addr) (nc nf nt cac caf cat : Nat) (cs : List Int) (fs : List (Int × Int)) (h : Ls eU P w (.slice aoc nc cac) cs) (hf : Ls eG P w (.slice aof nf caf) fs) (hu : U32s cs) (hm : May cs fs nt) (hg : Glb w) (rch : Nat → List Int) (hr : Rcs cs fs rch) (f : Nat) (hfl : f < nf) (sp : Bool) :
    Calls Tryd.prog 22 #[.agg #[.slice aoc nc cac, .slice aof nf caf, .slice aot nt cat], .int .i64 (f : Nat), .bool sp] w (NxR w (nmL cs sp (rch f))) := by
  have HRE := hid (fun (W : World) (p : Gr w W) => preach_any P W aoc aof aot nc nf nt cac caf cat cs fs (h.gr p) (hf.gr p) hu hm (hg.gr p) rch hr f hfl)
  have hnc := h.len.1
  have HIN := hid (fun (x : Int) (q : x ∈ rch f) => (((hr f).2 x).1 q).1)
  have hrl : (rch f).length ≤ 4096 := Nat.le_trans (hr f).len hm.nc
  have HG0 := hid hg
  obtain ⟨g, o, rfl, hgl, hcell⟩ := h.base (by have := hm.p.has; have h1 := hm.p.z; obtain ⟨y, hy⟩ : ∃ y, fs[0]? = some y := ⟨_, List.getElem?_eq_getElem (by omega)⟩; have := hm.p.i y (List.mem_of_getElem? hy); omega)
  have HCE := hid (show ∀ (k : Nat) n W, cs[k]? = some n → Gr w W → W.cell? ⟨g, o + k, none⟩ = some (.int .u32 n) from fun k n W hk p => (p.cell hgl).trans (hcell k n hk))
  have HLG := hid (show ∀ W, Gr w W → g < W.heap.size from fun W p => Nat.lt_of_lt_of_le hgl p.size)
  have HU := hid hu
  have HNC := hid hnc
  have K1 := hid (Gr.alloc (Gr.refl w) #[.slice (some ⟨g, o, none⟩) nc cac, .slice aof nf caf, .slice aot nt cat] 26)
  have B1 := hid (MapKept.heap_alloc w (.cells #[.slice (some ⟨g, o, none⟩) nc cac, .slice aof nf caf, .slice aot nt cat] 26)).1
  generalize rch f = xs at HRE HIN hrl ⊢
  clear h hf hu hg hm hr hnc hgl hcell
  obtain ⟨nx, hnx⟩ : ∃ k, k = xs.length := ⟨_, rfl⟩
  have HNX := hid hnx
  rw [← hnx] at hrl
  clear hnx
  go_enter Tryd.func22, Tryd.ntmps22
  go_wp2_with (go_at_call 23; refine (HRE.out _ K1.out).mono ?_; rintro e w1 ⟨v, rfl, o1, g1⟩; obtain ⟨aox, capx, hvx⟩ := o1.form; rw [← HNX.out] at hvx; subst hvx; have O1 := hid o1; have G1 := hid (Gr.trans K1.out g1); have P1 := hid (gr_blk B1.out g1); clear o1 g1)
  rename World => V
  go_loopg [7, 16] nx (fun m ou i wq => ∃ (k n cap : Nat) (ao : Option Addr), k + m = nx ∧ i = .int .i64 ((k : Nat) : Int) ∧ ou = .slice ao n cap ∧ Ow eI 1 3 w.heap.size wq (.slice ao n cap) (nmL cs sp (xs.take k)) ∧ Ow eI 1 3 w.heap.size wq (.slice aox nx capx) xs ∧ (∀ q, Blk (.slice aox nx capx) q → ¬ Blk (.slice ao n cap) q) ∧ ¬ Blk (.slice ao n cap) w.heap.size ∧ wq.heap[w.heap.size]? = some (.cells #[.slice (some ⟨g, o, none⟩) nc cac, .slice aof nf caf, .slice aot nt cat] 26 (0, 0)) ∧ Gr w wq)
  case atStart => exact ⟨0, 0, 0, none, by omega, rfl, rfl, Ow.nil _ _ _ _ _, O1.out.lower (by simp), (fun q _ e => by cases e), (fun e => by cases e), P1.out, G1.out⟩
  case round =>
    obtain ⟨k, n, cap, ao, hkm, rfl, rfl, hO, hX, hD, hP0, hP, hG⟩ := hrel
    have HO := hid hO
    have HX := hid hX
    have HD := hid hD
    have HP0 := hid hP0
    have HP := hid hP
    have HG := hid hG
    have hn := hO.len.1
    have hnk : n ≤ 4096 := by
      have h1 := List.length_filterMap_le (cW cs sp) (xs.take k)
      rw [List.length_take] at h1
      rw [hn]; unfold nmL; omega
    clear hO hX hD hP0 hP hG
    by_cases hk : k < nx
    · obtain ⟨x, hx⟩ : ∃ x, xs[k]? = some x := ⟨_, List.getElem?_eq_getElem (by rw [← HNX.out]; exact hk)⟩
      obtain ⟨hx0, hx1⟩ := HIN.out x (List.mem_of_getElem? hx)
      obtain ⟨y, rfl⟩ : ∃ y : Nat, x = (y : Int) := ⟨x.toNat, by omega⟩
      have hy : y < nc := by rw [HNC.out]; omega
      obtain ⟨m, hmw⟩ : ∃ m, cs[y]? = some m := ⟨_, List.getElem?_eq_getElem (by omega)⟩
      obtain ⟨u0, u1⟩ := HU.out m (List.mem_of_getElem? hmw)
      have HDE := hid (fun (W : World) (p : Gr w W) => decode_all m u0 u1 W (HG0.out.gr p))
      have HSN := hid (nmL_snoc cs sp (xs.take k) (y : Int))
      rw [← take_one hx] at HSN
      rw [Int.toNat_natCast, hmw] at HSN
      simp only [Option.getD_some] at HSN
      have cw := HCE.out y m _ hmw HG.out
      have lg := HLG.out _ HG.out
      obtain ⟨p0, p1, p2, pl⟩ := p_cells HP.out
      obtain ⟨gx, cap', hv, _, hgx, _, hcs, _, _⟩ := HX.out.get eI_len hx
      injection hv with hv1 hv2 hv3
      subst hv1
      have c0 := hcs 0 _ rfl
      rw [Nat.mul_one, Nat.add_zero] at c0
      have k0 : (0 : Int) ≤ (k : Int) := by omega
      have k1 : (k : Int) < (nx : Int) := by omega
      have y0 : (0 : Int) ≤ (y : Int) := by omega
      have y1 : (y : Int) < (nc : Int) := by omega
      have HS := hid (show w.heap.size ≤ wr.heap.size from HG.out.size)
      have HNL := hid hn
      unfold iV at HDE
      generalize dI m = II at HDE HSN
      generalize dE m = E at HDE
      obtain ⟨o1, o2, o3, o4, im⟩ := II
      simp only at HDE HSN
      generalize nmL cs sp (xs.take k) = zs at HO HSN HNL
      clear hcs hv2 hv3 hx hmw u0 u1 hn hx0 hx1
      by_cases e20 : o1 = 20
      · subst e20
        have HZ := hid (show nmL cs sp (xs.take (k + 1)) = zs ++ [im] by rw [HSN.out]; simp [cO])
        go_wp2_with (first | (go_at_call 38; refine (HDE.out _ HG.out).mono ?_; rintro e w3 ⟨rfl, g3⟩; have G3 := hid (Gr.trans HG.out g3); have L3 := hid g3; clear g3) | (at_builtin; refine wpList_append_ow eI_len rfl (.tmp 40) (.tmp 43) _ 3 8 _ Tryd.underlying32 int_info rfl (by omega) rfl w.heap.size _ zs rfl ((HO.out.gr (Ch.alloc L3.out _)).alloc _) _ _ [im] rfl (ls_int _ _ _ (by simp)) (eI_one _) (n + 1) (by rw [HNL.out]; rfl) (by omega) (by unfold maxLen; omega) (by simp; have := G3.out.size; omega) (zs ++ [im]) rfl ?_; intro ao5 cap5 w5 ow5 cw5 bl5; have O5 := hid ow5; have C5 := hid cw5; have B5 := hid bl5; clear ow5 cw5 bl5))
        clear c0 cw
        go_roundg (gk - 1)
        case measure => omega
        case rel =>
          refine ⟨k + 1, n + 1, cap5, ao5, by omega, by simp, rfl, by rw [HZ.out]; exact O5.out, ((HX.out.gr (Ch.alloc L3.out _)).alloc _).ch C5.out HD.out, fun q h1 h2 => ?_, fun h2 => ?_, (C5.out.block _ (by simp; have := lt_of_block HP.out; have := L3.out.size; omega) HP0.out).trans (al_blk (gr_blk HP.out (Ch.alloc L3.out _)) _), Ch.trans (Ch.alloc (Ch.alloc G3.out _) _) C5.out (fun q h => .inr (HO.out.blk h).1)⟩
          · rcases B5.out q h2 with h3 | h3
            · exact HD.out q h1 h3
            · have := (HX.out.blk h1).2
              have := L3.out.size
              simp at h3
              omega
          · rcases B5.out _ h2 with h3 | h3
            · exact HP0.out h3
            · have := lt_of_block HP.out
              have := L3.out.size
              simp at h3
              omega
      · have e20' : (o1 == 20) = false := by simpa using e20
        cases sp with
        | false =>
          have HZ := hid (show nmL cs false (xs.take (k + 1)) = zs by rw [HSN.out]; simp [cO, e20])
          go_wp2_with (first | (go_at_call 38; refine (HDE.out _ HG.out).mono ?_; rintro e w3 ⟨rfl, g3⟩; have G3 := hid (Gr.trans HG.out g3); have L3 := hid g3; clear g3))
          clear c0 cw
          go_roundg (gk - 1)
          case measure => omega
          case rel => exact ⟨k + 1, n, cap, ao, by omega, by simp, rfl, by rw [HZ.out]; exact HO.out.gr (Ch.alloc L3.out _), HX.out.gr (Ch.alloc L3.out _), HD.out, HP0.out, gr_blk HP.out (Ch.alloc L3.out _), Ch.alloc G3.out _⟩
        | true =>
          by_cases e22 : o1 = 22
          · subst e22
            have HZ := hid (show nmL cs true (xs.take (k + 1)) = zs ++ [im] by rw [HSN.out]; simp [cO])
            go_wp2_with (first | (go_at_call 38; refine (HDE.out _ HG.out).mono ?_; rintro e w3 ⟨rfl, g3⟩; have G3 := hid (Gr.trans HG.out g3); have L3 := hid g3; clear g3) | (at_builtin; refine wpList_append_ow eI_len rfl (.tmp 40) (.tmp 43) _ 3 8 _ Tryd.underlying32 int_info rfl (by omega) rfl w.heap.size _ zs rfl ((HO.out.gr (Ch.alloc L3.out _)).alloc _) _ _ [im] rfl (ls_int _ _ _ (by simp)) (eI_one _) (n + 1) (by rw [HNL.out]; rfl) (by omega) (by unfold maxLen; omega) (by simp; have := G3.out.size; omega) (zs ++ [im]) rfl ?_; intro ao5 cap5 w5 ow5 cw5 bl5; have O5 := hid ow5; have C5 := hid cw5; have B5 := hid bl5; clear ow5 cw5 bl5))
            clear c0 cw
            go_roundg (gk - 1)
            case measure => omega
            case rel =>
              refine ⟨k + 1, n + 1, cap5, ao5, by omega, by simp, rfl, by rw [HZ.out]; exact O5.out, ((HX.out.gr (Ch.alloc L3.out _)).alloc _).ch C5.out HD.out, fun q h1 h2 => ?_, fun h2 => ?_, (C5.out.block _ (by simp; have := lt_of_block HP.out; have := L3.out.size; omega) HP0.out).trans (al_blk (gr_blk HP.out (Ch.alloc L3.out _)) _), Ch.trans (Ch.alloc (Ch.alloc G3.out _) _) C5.out (fun q h => .inr (HO.out.blk h).1)⟩
              · rcases B5.out q h2 with h3 | h3
                · exact HD.out q h1 h3
                · have := (HX.out.blk h1).2
                  have := L3.out.size
                  simp at h3
                  omega
              · rcases B5.out _ h2 with h3 | h3
                · exact HP0.out h3
                · have := lt_of_block HP.out
                  have := L3.out.size
                  simp at h3
                  omega
          · have e22' : (o1 == 22) = false := by simpa using e22
            have HZ := hid (show nmL cs true (xs.take (k + 1)) = zs by rw [HSN.out]; simp [cO, e20, e22])
            go_wp2_with (first | (go_at_call 38; refine (HDE.out _ HG.out).mono ?_; rintro e w3 ⟨rfl, g3⟩; have G3 := hid (Gr.trans HG.out g3); have L3 := hid g3; clear g3))
            clear c0 cw
            go_roundg (gk - 1)
            case measure => omega
            case rel => exact ⟨k + 1, n, cap, ao, by omega, by simp, rfl, by rw [HZ.out]; exact HO.out.gr (Ch.alloc L3.out _), HX.out.gr (Ch.alloc L3.out _), HD.out, HP0.out, gr_blk HP.out (Ch.alloc L3.out _), Ch.alloc G3.out _⟩
    · have kn : ¬ (k : Int) < (nx : Int) := by omega
      have hke : xs.take k = xs := List.take_of_length_le (by rw [← HNX.out]; omega)
      rw [hke] at HO
      clear hn hke
      go_wp2
      go_ret
      exact ⟨_, rfl, HO.out, HG.out⟩
set_option maxRecDepth 20000 in
theorem callsC_any (P : Nat → Prop) (w : World) (aoc aof aot : Option Addr) (nc nf nt cac caf cat : Nat) (cs : List Int) (fs : List (Int × Int)) (h : Ls eU P w (.slice aoc nc cac) cs) (hf : Ls eG P w (.slice aof nf caf) fs) (hu : U32s cs) (hm : May cs fs nt) (hg : Glb w) (rch : Nat → List Int) (hr : Rcs cs fs rch) (sp : Bool) (X Y : Nat) (hX : w.heap[X]? = some (.cells #[.slice aoc nc cac, .slice aof nf caf, .slice aot nt cat] 26 (0, 0))) (hY : w.heap[Y]? = some (.cells #[.bool sp] 4 (0, 0))) (x : Nat) (hx : x < nf) (W : World) (p : Gr w W) :
    Calls Tryd.prog 21 #[.int .i64 (x : Nat), .pointer (some ⟨X, 0, none⟩), .pointer (some ⟨Y, 0, none⟩)] W (NxR W (wF2 cs rch sp (x : Int))) := by
  have HN := hid (fun (V : World) (q : Gr w V) => pnamed_any P V aoc aof aot nc nf nt cac caf cat cs fs (h.gr q) (hf.gr q) hu hm (hg.gr q) rch hr x hx sp)
  unfold wF2
  rw [Int.toNat_natCast]
  generalize nmL cs sp (rch x) = L at HN ⊢
  obtain ⟨c0, c1, c2, l⟩ := p_cells (gr_blk hX p)
  have d0 : W.cell? ⟨Y, 0, none⟩ = some (.bool sp) := (cell_of (gr_blk hY p) 0).trans rfl
  have ly := lt_of_block (gr_blk hY p)
  have HG := hid p
  clear h hf hu hg hX hY p hm hr
  go_enter Tryd.func21, Tryd.ntmps21
  go_wp2_with (go_at_call 22; refine (HN.out _ HG.out).mono ?_; rintro e w2 ⟨v, rfl, o2, g2⟩; have O2 := hid o2; have G2 := hid g2; clear o2 g2)
  go_ret
  exact ⟨_, rfl, O2.out, G2.out⟩
/-- what Reach answers -/
def rcN (cs : List Int) (fs : List (Int × Int)) (ts : List Tb) (rch : Nat → List Int) (f : Int) : List Int := if ask cs fs ts f (fs.length : Int) = 0 then rch f.toNat else []
set_option maxRecDepth 20000 in
theorem pReach_any (P : Nat → Prop) (w : World) (ia ib ic : Value) (cs : List Int) (fs : List (Int × Int)) (ts : List Tb) (h : Pin P w ia ib ic cs fs ts) (hu : U32s cs) (hg : Glb w) (rch : Nat → List Int) (hr : Rcs cs fs rch) (f : Int) :
    Calls Tryd.prog 9 #[.agg #[ia, ib, ic], .int .i64 f] w (TxR w (rcN cs fs ts rch f) (ask cs fs ts f (fs.length : Int))) := by
  have HL := hid (fun (W : World) (p : Gr w W) => asked_any P W ia ib ic cs fs ts (h.gr p) hu (hg.gr p) f (fs.length : Int))
  have HYES := hid (fun (q : ask cs fs ts f (fs.length : Int) = 0) => ask_may q)
  have HC := hid h.c
  have HF := hid h.f
  have hntl := h.t.form
  obtain ⟨aoc, cac, hia⟩ := h.c.form
  obtain ⟨aof, caf, hib⟩ := h.f.form
  obtain ⟨aot, cat, hic⟩ := h.t.form
  unfold rcN
  obtain ⟨nc, hnc⟩ : ∃ n, n = cs.length := ⟨_, rfl⟩
  obtain ⟨nf, hnf⟩ : ∃ n, n = fs.length := ⟨_, rfl⟩
  obtain ⟨nt, hnt⟩ : ∃ n, n = ts.length := ⟨_, rfl⟩
  rw [← hnc] at hia
  rw [← hnf] at hib HL HYES ⊢
  rw [← hnt] at hic HYES
  generalize ask cs fs ts f (nf : Int) = E at HL HYES ⊢
  subst hia hib hic
  have K1 := hid (Gr.alloc (Gr.refl w) #[.slice aoc nc cac, .slice aof nf caf, .slice aot nt cat] 26)
  have B1 := hid (MapKept.heap_alloc w (.cells #[.slice aoc nc cac, .slice aof nf caf, .slice aot nt cat] 26)).1
  by_cases hE : E = 0
  · subst hE
    obtain ⟨hm, f0, f1⟩ := HYES.out (by first | rfl | trivial)
    obtain ⟨b, rfl⟩ : ∃ b : Nat, f = (b : Int) := ⟨f.toNat, by omega⟩
    have HX := hid (fun (W : World) (p : Gr w W) => preach_any P W aoc aof aot nc nf nt cac caf cat cs fs (HC.out.gr p) (HF.out.gr p) hu hm (hg.gr p) rch hr b (by omega))
    simp only [if_true, Int.toNat_natCast]
    generalize rch b = L at HX ⊢
    clear h hu hg hr hnc hnf hnt hntl hm HC HF
    go_enter Tryd.func9, Tryd.ntmps9
    go_wp2_with (first | (go_at_call 17; refine (HL.out _ K1.out).mono ?_; rintro e w1 ⟨rfl, g1⟩; have G1 := hid (Gr.trans K1.out g1); obtain ⟨p0, p1, p2, pl⟩ := p_cells (gr_blk B1.out g1); clear g1) | (go_at_call 23; refine (HX.out _ G1.out).mono ?_; rintro e w2 ⟨v, rfl, o2, g2⟩; have O2 := hid (o2.lower G1.out.size); have G2 := hid (Gr.trans G1.out g2); clear o2 g2))
    go_ret2
    exact ⟨_, rfl, O2.out, G2.out⟩
  · have hE' : (E == 0) = false := by simpa using hE
    rw [if_neg hE]
    clear h hu hg hr hnc hnf hnt hntl HC HF
    go_enter Tryd.func9, Tryd.ntmps9
    go_wp2_with (go_at_call 17; refine (HL.out _ K1.out).mono ?_; rintro e w1 ⟨rfl, g1⟩; have G1 := hid (Gr.trans K1.out g1); clear g1)
    go_ret2
    exact ⟨_, rfl, Ow.nil _ _ _ _ _, G1.out⟩
/-- the functions that can run on behalf of each -/
def Cls (cs : List Int) (fs : List (Int × Int)) (rch : Nat → List Int) (sp : Bool) (cls : Nat → List Int) : Prop := ∀ j : Nat, Rl fs.length (wF2 cs rch sp) (j : Int) (cls j)
theorem cls_ex (cs : List Int) (fs : List (Int × Int)) (rch : Nat → List Int) (sp : Bool) : ∃ cls, Cls cs fs rch sp cls := ⟨fun j => Classical.choose (Rl.ex fs.length (wF2 cs rch sp) (j : Int)), fun j => Classical.choose_spec (Rl.ex fs.length (wF2 cs rch sp) (j : Int))⟩
set_option maxRecDepth 20000 in
theorem pCalls_any (P : Nat → Prop) (w : World) (ia ib ic : Value) (cs : List Int) (fs : List (Int × Int)) (ts : List Tb) (h : Pin P w ia ib ic cs fs ts) (hu : U32s cs) (hg : Glb w) (rch : Nat → List Int) (hr : Rcs cs fs rch) (sp : Bool) (cls : Nat → List Int) (hcl : Cls cs fs rch sp cls) (f : Int) :
    Calls Tryd.prog 8 #[.agg #[ia, ib, ic], .int .i64 f, .bool sp] w (TxR w (rcN cs fs ts cls f) (ask cs fs ts f (fs.length : Int))) := by
  have HL := hid (fun (W : World) (p : Gr w W) => asked_any P W ia ib ic cs fs ts (h.gr p) hu (hg.gr p) f (fs.length : Int))
  have HYES := hid (fun (q : ask cs fs ts f (fs.length : Int) = 0) => ask_may q)
  have HC := hid h.c
  have HF := hid h.f
  obtain ⟨aoc, cac, hia⟩ := h.c.form
  obtain ⟨aof, caf, hib⟩ := h.f.form
  obtain ⟨aot, cat, hic⟩ := h.t.form
  unfold rcN
  obtain ⟨nc, hnc⟩ : ∃ n, n = cs.length := ⟨_, rfl⟩
  obtain ⟨nf, hnf⟩ : ∃ n, n = fs.length := ⟨_, rfl⟩
  obtain ⟨nt, hnt⟩ : ∃ n, n = ts.length := ⟨_, rfl⟩
  rw [← hnc] at hia
  rw [← hnf] at hib HL HYES ⊢
  rw [← hnt] at hic HYES
  generalize ask cs fs ts f (nf : Int) = E at HL HYES ⊢
  subst hia hib hic
  have K1 := hid (Ch.alloc (Gr.alloc (Gr.refl w) #[.slice aoc nc cac, .slice aof nf caf, .slice aot nt cat] 26) (.cells #[.bool sp] 4))
  have B1 := hid (show ((w.alloc (.cells #[.slice aoc nc cac, .slice aof nf caf, .slice aot nt cat] 26)).alloc (.cells #[.bool sp] 4)).heap[w.heap.size]? = some (.cells #[.slice aoc nc cac, .slice aof nf caf, .slice aot nt cat] 26 (0, 0)) from al_blk (MapKept.heap_alloc w _).1 _)
  have BY := hid (show ((w.alloc (.cells #[.slice aoc nc cac, .slice aof nf caf, .slice aot nt cat] 26)).alloc (.cells #[.bool sp] 4)).heap[w.heap.size + 1]? = some (.cells #[.bool sp] 4 (0, 0)) by simpa using (MapKept.heap_alloc (w.alloc (.cells #[.slice aoc nc cac, .slice aof nf caf, .slice aot nt cat] 26)) (.cells #[.bool sp] 4)).1)
  by_cases hE : E = 0
  · subst hE
    obtain ⟨hm, f0, f1⟩ := HYES.out (by first | rfl | trivial)
    obtain ⟨b, rfl⟩ : ∃ b : Nat, f = (b : Int) := ⟨f.toNat, by omega⟩
    have HX := hid (fun (W : World) (p : Gr w W) (X Y : Nat) (hX : W.heap[X]? = some (.cells #[.slice aoc nc cac, .slice aof nf caf, .slice aot nt cat] 26 (0, 0))) (hY : W.heap[Y]? = some (.cells #[.bool sp] 4 (0, 0))) => comeC_any W X Y (wF2 cs rch sp) nf b (cls b) (by rw [hnf]; have := hm.nf; omega) (by omega) (by rw [hnf]; exact wF_in hm hr sp) (fun x _ => wF_len hm hr sp _) (by rw [hnf]; exact hcl b) (fun x V hx g => callsC_any P W aoc aof aot nc nf nt cac caf cat cs fs (HC.out.gr p) (HF.out.gr p) hu hm (hg.gr p) rch hr sp X Y hX hY x hx V g))
    simp only [if_true, Int.toNat_natCast]
    generalize cls b = L at HX ⊢
    clear h hu hg hr hcl hnc hnf hnt hm HC HF
    go_enter Tryd.func8, Tryd.ntmps8
    go_wp2_with (first | (go_at_call 17; refine (HL.out _ K1.out).mono ?_; rintro e w1 ⟨rfl, g1⟩; have G1 := hid (Gr.trans K1.out g1); have J1 := hid (gr_blk B1.out g1); have JY := hid (gr_blk BY.out g1); obtain ⟨p0, p1, p2, pl⟩ := p_cells J1.out; clear g1) | (go_at_call 20; refine (HX.out _ G1.out _ _ J1.out JY.out).mono ?_; rintro e w2 ⟨v, rfl, o2, g2⟩; have O2 := hid (o2.lower G1.out.size); have G2 := hid (Gr.trans G1.out g2); clear o2 g2))
    go_ret2
    exact ⟨_, rfl, O2.out, G2.out⟩
  · have hE' : (E == 0) = false := by simpa using hE
    rw [if_neg hE]
    clear h hu hg hr hcl hnc hnf hnt HC HF
    go_enter Tryd.func8, Tryd.ntmps8
    go_wp2_with (go_at_call 17; refine (HL.out _ K1.out).mono ?_; rintro e w1 ⟨rfl, g1⟩; have G1 := hid (Gr.trans K1.out g1); clear g1)
    go_ret2
    exact ⟨_, rfl, Ow.nil _ _ _ _ _, G1.out⟩
end Go.Proofs.YtollfepggicehabDoor.Lt
