/-
  What Ticks answers: the program; the sort is a premise. Condition: the numbers are of their types.
-/
import Derived.Test.YtbghagpjkkmhpaaTbEach
import Derived.Test.YtbghagpjkkmhpaaTbTck0
import Derived.Test.YtbghagpjkkmhpaaTbApt
import Derived.Test.YtbghagpjkkmhpaaTbRTck
import Derived.Test.YtbghagpjkkmhpaaCount
namespace Go.Proofs.Ytbghagpjkkmhpaa.Lt
open Go.RowKit Wd Go.Shelf
attribute [local go_sem ↓] Go.wp_at_zero Go.wp_at_succ
set_option maxRecDepth 20000

theorem count16 (t n f s l : Int) (ht : Tk.U t) (hn : Tk.U n) (hf : Tk.U f) (hs : Tk.U s) (hl : Tk.U l) (w : World) :
    Calls Try.prog 45 #[.int .u64 t, .int .u64 n, .int .u64 f, .agg #[.int .u64 s, .int .u64 l]] w fun e w' => e = .returned (.tuple #[.int .u64 (Tk.coN t n f s l), .int .i64 (Tk.coE t n f s l)]) ∧ Gr w w' :=
  (Tk.count_any t n f s l ht hn hf hs hl w).mono fun _ _ h => ⟨h.1, gr_of h.2⟩
theorem boxes_tck {w W : World} {a : Option Addr} {n c : Nat} {F : Int} {b : Value} (g : Ch (Only (w.heap.size + 1)) (((w.alloc (.cells #[.int .u64 F, .slice a n c] 25)).alloc (.cells #[b] 68)).alloc (.cells #[.int .u64 F, .slice a n c] 25)) W) :
    W.cell? ⟨w.heap.size, 0, none⟩ = some (.int .u64 F) ∧ W.cell? ⟨w.heap.size, 1, none⟩ = some (.slice a n c) ∧ w.heap.size + 3 ≤ W.heap.size ∧ Gr w W := by
  have h0 := gr_blk (al_at (w := w) (x := w.heap.size) (.cells #[.int .u64 F, .slice a n c] 25) rfl) (Ch.alloc (Ch.alloc (Gr.refl _) (.cells #[b] 68)) (.cells #[.int .u64 F, .slice a n c] 25))
  have k0 := (g.block _ (lt_of_block h0) (fun e => by have e1 : w.heap.size = w.heap.size + 1 := e; omega)).trans h0
  refine ⟨cell_of k0 0, cell_of k0 1, ?_, ?_⟩
  · have := g.size
    simp at this
    omega
  · exact Ch.trans (Ch.alloc (Ch.alloc (Ch.alloc (Gr.refl w) _) _) _) g (fun q e => .inr (by have e1 : q = w.heap.size + 1 := e; omega))
theorem ls_takeN {α : Type} {l : List α} {f : α → Int} (h : ∀ x ∈ l, 0 ≤ f x) (k : Nat) : 0 ≤ ls (l.take k) f ∧ ls (l.take k) f ≤ ls l f := by
  refine ⟨ls_nonneg fun q hq => h q (List.mem_of_mem_take hq), ?_⟩
  have h3 : ls l f = ls (l.take k) f + ls (l.drop k) f := by rw [← ls_app, List.take_append_drop]
  have h4 : 0 ≤ ls (l.drop k) f := ls_nonneg fun q hq => h q (List.mem_of_mem_drop hq)
  omega
set_option maxHeartbeats 4000000 in
theorem ticks_any (hS : SortsW) (w : World) (a : Option Addr) (n c : Nat) (L : List (List Sl)) (h : Rw w (.slice a n c) L) (hx : Rgs L) (F dm : Int) (hF : Tk.U F) (N : Nat) (hN : (N : Int) ≤ 18446744073709551615) :
    Calls Try.prog 25 #[.agg #[.int .u64 F, .slice a n c], .int .u64 (N : Int), .int .i64 dm] w fun e w' => TckR F L dm N w e w' := by
  obtain ⟨W2, hW2⟩ : ∃ W, W = (w.alloc (.cells #[.int .u64 F, .slice a n c] 25)).alloc (.cells #[.slice none 0 0] 68) := ⟨_, rfl⟩
  have G2 : Gr w W2 := by rw [hW2]; exact Ch.alloc (Ch.alloc (Gr.refl w) _) _
  have hsz : W2.heap.size = w.heap.size + 2 := by rw [hW2]; simp
  have B2 : W2.heap[w.heap.size + 1]? = some (.cells #[.slice none 0 0] 68 (0, 0)) := by rw [hW2]; exact al_at _ (by simp)
  have HBX := hide (show ∀ W, Ch (Only (w.heap.size + 1)) (W2.alloc (.cells #[.int .u64 F, .slice a n c] 25)) W → _ from fun W g => boxes_tck (by rw [hW2] at g; exact g))
  have HE9 := hide (each_any w W2 a n c L hx F dm hF 43 #[.pointer (some ⟨w.heap.size + 1, 0, none⟩)] (enters_of Try.func43 (by kernel_rfl) rfl) (Only (w.heap.size + 1)) (fun q e => by have e1 : q = w.heap.size + 1 := e; omega) G2 h
    (fun vs W => LBox eW 2 52 68 (w.heap.size + 1) (w.heap.size + 3) (vs.map (fun q : Nat × Sl => wf2 q.2)) W) (fun vs W W' h g => h.gr g) (LBox.start B2)
    (fun vs P x W hg hm hp hch hi => by
      obtain ⟨T0, T1, hz, -⟩ := HBX.out W hch
      have hlen : (vs.map (fun q : Nat × Sl => wf2 q.2)).length ≤ 65536 := by
        rw [List.length_map]
        have h2 := ((List.prefix_append vs [(P, x)]).trans hp).length_le
        have h3 := vis_len hg dm
        omega
      refine (tckc_any W P x _ _ _ hlen hi (by omega) (by omega)).mono ?_
      rintro e w' ⟨h1, h2, h3⟩
      refine ⟨h1, chApd hch h3 (by simp; omega), ?_⟩
      rw [List.map_append]
      exact h2))
  have HF := hide hF
  have HN := hide hN
  have HS := hide hS
  obtain ⟨E, hE⟩ : ∃ E, E = lkE F L dm 16 := ⟨_, rfl⟩
  have HE := hide hE
  obtain ⟨ws, hws⟩ : ∃ ws, ws = if E = 0 then (dsl L dm).map wf2 else [] := ⟨_, rfl⟩
  have HWB := hide (show (∀ q ∈ ws, 0 ≤ q.1 ∧ 1 ≤ q.2 ∧ q.1 + q.2 ≤ 65536 ∧ q.1 + q.2 ≤ F) ∧ ws.length ≤ 65536 by
    by_cases h0 : E = 0
    · obtain ⟨hg, -, -, -⟩ := lkE_ok hx (hE.symm.trans h0)
      rw [hws, if_pos h0]
      refine ⟨fun q hq => ?_, ?_⟩
      · obtain ⟨x, hxm, rfl⟩ := List.mem_map.1 hq
        obtain ⟨k1, k2, k3, k4, k5⟩ := hg.dsl hxm
        have := hg.f2
        unfold wf2
        exact ⟨k1, k2, by show x.s + x.l ≤ 65536; omega, k3⟩
      · rw [List.length_map, ← vis_snd, List.length_map]
        exact vis_len hg dm
    · rw [hws, if_neg h0]
      exact ⟨fun q hq => (List.not_mem_nil hq).elim, Nat.zero_le _⟩)
  have HTOT := hide (show ∀ zs, zs.Perm ws → zs.Pairwise (fun a b : Int × Int => a.1 ≤ b.1) → (∀ q ∈ aprt 0 zs, 0 ≤ Tk.coN 0 N F q.1 q.2) ∧ 0 ≤ ls (aprt 0 zs) (fun q => Tk.coN 0 N F q.1 q.2) ∧ ls (aprt 0 zs) (fun q => Tk.coN 0 N F q.1 q.2) ≤ 18446744073709551615 ∧ (E ≠ 0 → ls (aprt 0 zs) (fun q => Tk.coN 0 N F q.1 q.2) = 0) ∧ (E = 0 → ∃ Fn : Nat, F = Fn ∧ ls (aprt 0 zs) (fun q => Tk.coN 0 N F q.1 q.2) = tckN Fn L dm N) from fun zs hp hs => by
    have hc : ∀ q ∈ aprt 0 zs, 0 ≤ Tk.coN 0 N F q.1 q.2 := fun q hq => by
      obtain ⟨k1, k2, p, hpm, k3⟩ := aprt_mem zs 0 q hq
      have k4 := (HWB.out.1 p (hp.mem_iff.1 hpm)).2.2.2
      exact (coN0 N hN k1 k2 (by omega)).2
    refine ⟨hc, ls_nonneg hc, ?_, ?_, ?_⟩
    · by_cases h0 : E = 0
      · obtain ⟨hg, -, -, -⟩ := lkE_ok hx (hE.symm.trans h0)
        obtain ⟨Fn, rfl⟩ : ∃ Fn : Nat, F = (Fn : Int) := ⟨F.toNat, by have := hg.f1; omega⟩
        rw [hws, if_pos h0] at hp
        rw [tck_eq hg dm N hN hp hs]
        have := (tck_bd Fn L dm N).2
        omega
      · rw [hws, if_neg h0] at hp
        rw [List.perm_nil.1 hp]
        exact (by decide : (0 : Int) ≤ 18446744073709551615)
    · intro h0
      rw [hws, if_neg h0] at hp
      rw [List.perm_nil.1 hp]
      rfl
    · intro h0
      obtain ⟨hg, -, -, -⟩ := lkE_ok hx (hE.symm.trans h0)
      obtain ⟨Fn, rfl⟩ : ∃ Fn : Nat, F = (Fn : Int) := ⟨F.toNat, by have := hg.f1; omega⟩
      rw [hws, if_pos h0] at hp
      exact ⟨Fn, rfl, tck_eq hg dm N hN hp hs⟩)
  rw [← hE] at HE9
  have HI := hide (show ∀ W, Seen E L dm (fun vs W => LBox eW 2 52 68 (w.heap.size + 1) (w.heap.size + 3) (vs.map (fun q : Nat × Sl => wf2 q.2)) W) W → LBox eW 2 52 68 (w.heap.size + 1) (w.heap.size + 3) ws W from fun W s => by
    unfold Seen at s
    rw [hws]
    by_cases h0 : E = 0
    · rw [if_pos h0] at s
      rw [if_pos h0, ← vis_snd, List.map_map]
      exact s
    · rw [if_neg h0] at s
      rw [if_neg h0]
      exact s)
  clear h hx hF hN hS G2 hsz B2 hws hE
  go_enter Try.func25, Try.ntmps25
  go_wp2_with fail
  rw [← hW2]
  clear hW2
  refine HE9.out.mono ?_
  rintro e w5 ⟨rfl, h5, s5⟩
  obtain ⟨t0, t1, tz, gw⟩ := HBX.out _ h5
  have G5 := hide gw
  have tl : w.heap.size < w5.heap.size := by omega
  obtain ⟨ao, cap, b5, o5⟩ := (HI.out _ s5).form
  have l0 := cell_of b5 0
  have ll := lt_of_block b5
  simp at l0
  have O5 := hide o5
  clear h5 s5 gw b5 o5
  go_wp2_with fail
  refine (apart_any HS.out _ _ cap ao w5 ws O5.out HWB.out.2 (fun q hq => ⟨(HWB.out.1 q hq).1, (HWB.out.1 q hq).2.1, (HWB.out.1 q hq).2.2.1⟩)).mono ?_
  rintro e w6 ⟨zs, a2, c2, hp, hs, rfl, l6, g6⟩
  have G6 := hide (Ch.trans G5.out g6 (fun q hq => .inr (by have := (O5.out.blk hq).1; omega)))
  have T0 := hide (show w6.cell? ⟨w.heap.size, 0, none⟩ = some (.int .u64 F) from (g6.cell tl (fun q => by have := (O5.out.blk q).1; omega)).trans t0)
  have TL := hide (Nat.lt_of_lt_of_le tl g6.size)
  obtain ⟨hc0, ht0, ht1, hte, htg⟩ := HTOT.out zs hp hs
  have HAM := hide (show ∀ q ∈ aprt 0 zs, 0 ≤ q.1 ∧ 1 ≤ q.2 ∧ q.1 + q.2 ≤ 65536 from fun q hq => by
    obtain ⟨k1, k2, p, hpm, k3⟩ := aprt_mem zs 0 q hq
    have k4 := (HWB.out.1 p (hp.mem_iff.1 hpm)).2.2.1
    exact ⟨k1, k2, by omega⟩)
  have HTE := hide hte
  have HTG := hide htg
  have HAL := hide (show (aprt 0 zs).length ≤ 65536 by have h1 := aprt_len zs 0; have h2 := hp.length_eq; have := HWB.out.2; omega)
  clear hp hs t0 t1 tz tl l0 ll g6 hte htg
  generalize aprt 0 zs = as9 at *
  have HTK := hide (fun k => ls_takeN hc0 k)
  have HTT := hide (show 0 ≤ ls as9 (fun q => Tk.coN 0 N F q.1 q.2) ∧ ls as9 (fun q => Tk.coN 0 N F q.1 q.2) ≤ 18446744073709551615 from ⟨ht0, ht1⟩)
  obtain ⟨m, hm⟩ : ∃ m, m = as9.length := ⟨_, rfl⟩
  rw [← hm] at l6 HAL
  have HM := hide hm
  rw [← hm]
  have hml := HAL.out
  have HLS := hide (show ∀ W, Gr w6 W → Ls eW (w5.heap.size ≤ ·) W (.slice a2 m c2) as9 from fun W g => l6.gr g)
  clear hm l6 hc0 ht0 ht1
  go_wp2_with fail
  go_loopg [10, 22] m (fun k sv i wr => ∃ (j : Nat), j + k = m ∧ i = .int .i64 (j : Int) ∧ sv = .int .u64 (ls (as9.take j) (fun q => Tk.coN 0 N F q.1 q.2)) ∧ Gr w6 wr)
  case atStart => exact ⟨0, by omega, rfl, rfl, Gr.refl _⟩
  case round =>
    obtain ⟨j, hjk, rfl, rfl, hg⟩ := hrel
    obtain ⟨Z, hZ⟩ : ∃ W, W = wr := ⟨_, rfl⟩
    subst hZ
    have GZ := hide hg
    obtain ⟨b1, b2⟩ := HTK.out j
    obtain ⟨b3, b4⟩ := HTK.out (j + 1)
    obtain ⟨b5, b6⟩ := HTT.out
    by_cases hj : j < m
    · have hj' : (j : Int) < (m : Int) := by omega
      have hj0 : (0 : Int) ≤ (j : Int) := by omega
      have hjl : j < as9.length := by rw [← HM.out]; exact hj
      have hjx : as9[j]? = some as9[j] := List.getElem?_eq_getElem hjl
      have hqm : as9[j] ∈ as9 := List.getElem_mem hjl
      generalize as9[j] = q at hjx hqm
      obtain ⟨q0, q1, q2⟩ := HAM.out q hqm
      obtain ⟨g, o, e1, hgl, hcap, c0, c1⟩ := win_at (HLS.out _ hg) hjx
      subst e1
      have HT := hide (ls_take_snoc (fun q : Int × Int => Tk.coN 0 N F q.1 q.2) hjx)
      rw [HT.out] at b3 b4
      have CC := hide (fun W => count16 0 (N : Int) F q.1 q.2 ⟨by omega, by omega⟩ ⟨by omega, HN.out⟩ HF.out ⟨by omega, by omega⟩ ⟨by omega, by omega⟩ W)
      generalize ls (as9.take j) (fun q => Tk.coN 0 N F q.1 q.2) = s at *
      generalize Tk.coN 0 N F q.1 q.2 = cn at *
      generalize Tk.coE 0 N F q.1 q.2 = ce at *
      have k1 : 0 ≤ s + cn := by omega
      have k2 : s + cn ≤ 18446744073709551615 := by omega
      have y0 := (hg.cell TL.out).trans T0.out
      have yl := Nat.lt_of_lt_of_le TL.out hg.size
      clear hjx hqm hg b1 b2 b3 b4 b5 b6
      go_wp2_with fail
      refine (CC.out _).mono ?_
      rintro e w7 ⟨rfl, g7⟩
      have G7 := hide (Gr.trans (Ch.alloc GZ.out _) g7)
      clear g7
      go_wp2
      go_roundg (gk - 1)
      case measure => omega
      case rel =>
        refine ⟨j + 1, by omega, ?_, by rw [HT.out], G7.out⟩
        first | with_reducible rfl | simp
    · have hj' : ¬ ((j : Int) < (m : Int)) := by omega
      have HJ := hide (show ls (as9.take j) (fun q => Tk.coN 0 N F q.1 q.2) = ls as9 (fun q => Tk.coN 0 N F q.1 q.2) by rw [List.take_of_length_le (by rw [← HM.out]; omega)])
      rw [HJ.out]
      clear hg b1 b2 b3 b4
      go_wp2
      go_ret2
      exact ⟨_, by rw [← HE.out]; rfl, fun q => HTE.out (by rw [HE.out]; exact q), fun q => by
        obtain ⟨f, e1, e2⟩ := HTG.out (HE.out.trans q)
        exact ⟨f, e1, e2⟩, Gr.trans G6.out GZ.out⟩
end Go.Proofs.Ytbghagpjkkmhpaa.Lt
