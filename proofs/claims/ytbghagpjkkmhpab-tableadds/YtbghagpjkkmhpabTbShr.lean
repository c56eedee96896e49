/-
  What Share answers: the program. Condition: the numbers are of their types.
-/
import Derived.Test.YtbghagpjkkmhpabTbEach
import Derived.Test.YtbghagpjkkmhpabTbFold
namespace Go.Proofs.Ytbghagpjkkmhpab.Lt
open Go.RowKit Wd Go.Shelf
attribute [local go_sem ↓] Go.wp_at_zero Go.wp_at_succ
set_option maxRecDepth 20000

theorem win_lenshare (u v : Value) (W : World) : Sem.run Try.prog (Instr.field 46 (.agg #[u, v]) 1) W = .ok v W := by kernel_rfl
set_option maxHeartbeats 4000000 in
theorem sharec_any (w : World) (P : Int) (x : Sl) (bs : Nat) (s : Int) (hb : w.heap[bs]? = some (.cells #[.int .u64 s] 22 (0, 0))) (h0 : 0 ≤ s) (h1 : s ≤ 4294967296) (hp : 0 ≤ x.p) (hpl : x.p < x.l) (hl : x.l ≤ 65536) :
    Calls Try.prog 29 #[.int .i64 P, .agg #[.int .i64 x.d, .int .u64 x.s, .int .u64 x.l, .int .u64 x.p], .pointer (some ⟨bs, 0, none⟩)] w fun e w' => e = .returned (.tuple #[]) ∧ w'.heap[bs]? = some (.cells #[.int .u64 (shF s x)] 22 (0, 0)) ∧ Ch (Only bs) w w' := by
  have HRUN := hide (run_any x.d x.s x.l x.p hp (by omega) (by omega))
  have HB := hide (show ∀ W, Gr w W → W.heap[bs]? = some (.cells #[.int .u64 s] 22 (0, 0)) from fun W g => gr_blk hb g)
  have c0 := cell_of hb 0
  simp at c0
  have l0 := lt_of_block hb
  have k1 : 0 ≤ x.l - x.p := by omega
  have k2 : x.l - x.p ≤ 65536 := by omega
  have k3 : 0 ≤ s + (x.l - x.p) := by omega
  have k4 : s + (x.l - x.p) ≤ 18446744073709551615 := by omega
  have hfl := win_lenshare
  clear hb hp hpl hl
  go_enter Try.func29, Try.ntmps29
  go_wp2_with fail
  go_region_with (go_at_call 25; refine (HRUN.out _).mono ?_; rintro e w5 ⟨rfl, g5⟩; have G5 := hide (show Gr w w5 from Gr.trans (by first | exact Ch.alloc (Gr.refl w) _ | exact Ch.drew (Ch.alloc (Gr.refl w) _) | exact Ch.drewN (Ch.alloc (Gr.refl w) _) _) g5); have B5 := HB.out _ G5.out; have x0 := cell_of B5 0; simp at x0; have xf := frozen_of B5 0; have xl := lt_of_block B5; clear g5)
  all_goals go_end0
  all_goals refine ⟨rfl, ?_, Ch.own (b := bs) G5.out.any 0 _⟩
  all_goals (try rw [show shF s x = IntKind.u64.wrap (s + (x.l - x.p)) from (IntWalk.u64_in _ ⟨k3, k4⟩).symm])
  all_goals exact setCell_block (HB.out _ G5.out) 0 _
set_option maxHeartbeats 4000000 in
theorem share_any (w : World) (a : Option Addr) (n c : Nat) (L : List (List Sl)) (h : Rw w (.slice a n c) L) (hx : Rgs L) (F dm : Int) (hF : Tk.U F) :
    Calls Try.prog 16 #[.agg #[.int .u64 F, .slice a n c], .int .i64 dm] w fun e w' => e = .returned (.tuple #[.int .u64 (if lkE F L dm 16 = 0 then fo shF 0 (dsl L dm) else 0), .int .i64 (lkE F L dm 16)]) ∧ Gr w w' := by
  obtain ⟨W2, hW2⟩ : ∃ W, W = ((w.alloc (.cells #[.int .u64 F, .slice a n c] 25)).alloc (.cells #[.int .u64 0] 22)) := ⟨_, rfl⟩
  have G2 : Gr w W2 := by rw [hW2]; exact Ch.alloc (Ch.alloc (Gr.refl w) _) _
  have hsz : w.heap.size + 1 < W2.heap.size := by rw [hW2]; simp
  have B2 : W2.heap[w.heap.size + 1]? = some (.cells #[.int .u64 0] 22 (0, 0)) := by rw [hW2]; exact al_at _ (by simp)
  have HE := hide (each_any w W2 a n c L hx F dm hF 29 #[.pointer (some ⟨w.heap.size + 1, 0, none⟩)] (enters_of Try.func29 (by kernel_rfl) rfl) (Only (w.heap.size + 1)) (fun q e => by have e1 : q = w.heap.size + 1 := e; omega) G2 h
    (fun vs W => W.heap[w.heap.size + 1]? = some (.cells #[.int .u64 (vf shF vs)] 22 (0, 0))) (fun vs W W' h g => gr_blk h g) B2
    (fun vs P x W hg hm hp hch hi => by
      obtain ⟨v0, v1⟩ := vf_bd shF_stp hg (vs := vs) ((List.prefix_append _ _).trans hp)
      obtain ⟨k1, k2, k3, k4, k5⟩ := hg.dsl hm
      have f2 := hg.f2
      refine (sharec_any W P x _ _ hi v0 v1 k5 k4 (by omega)).mono ?_
      rintro e w' ⟨h1, h2, h3⟩
      exact ⟨h1, hch.trans' h3, by rw [vf_snoc]; exact h2⟩))
  have HGE := hide (show ∀ W, Ch (Only (w.heap.size + 1)) (W2.alloc (.cells #[.int .u64 F, .slice a n c] 25)) W → Gr w W from fun W k => Ch.trans (Ch.alloc G2 _) k (fun q e => .inr (by have e1 : q = w.heap.size + 1 := e; omega)))
  have HV := hide (vf_all shF L dm)
  obtain ⟨R, hR⟩ : ∃ R, R = (if lkE F L dm 16 = 0 then fo shF 0 (dsl L dm) else 0) := ⟨_, rfl⟩
  rw [← hR]
  have HR := hide hR
  generalize lkE F L dm 16 = E at HE HR ⊢
  clear h hx hF G2 hsz B2 hR
  go_enter Try.func16, Try.ntmps16
  go_wp2_with fail
  rw [← hW2]
  clear hW2
  refine HE.out.mono ?_
  rintro e w5 ⟨rfl, h5, s5⟩
  have G5 := hide (HGE.out _ h5)
  have s6 : w5.heap[w.heap.size + 1]? = some (.cells #[.int .u64 R] 22 (0, 0)) := by
    unfold Seen at s5
    by_cases h0 : E = 0
    · rw [if_pos h0, HV.out] at s5
      rw [HR.out, if_pos h0]
      exact s5
    · rw [if_neg h0] at s5
      rw [HR.out, if_neg h0]
      exact s5
  have x0 := cell_of s6 0
  simp at x0
  have xl := lt_of_block s6
  clear h5 s5 s6
  go_wp2
  go_ret2
  exact ⟨rfl, G5.out⟩
end Go.Proofs.Ytbghagpjkkmhpab.Lt
