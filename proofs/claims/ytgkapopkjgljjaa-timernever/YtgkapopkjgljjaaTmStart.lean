/-
  What the program's start tells and leaves of timers. Condition: names that were given are not above the last one.
-/
import Derived.Test.YtgkapopkjgljjaaTmArm
import Derived.Test.YtgkapopkjgljjaaTmTake
namespace Go.Proofs.Ytgkapopkjgljjaa.Lt
open Go.RowKit Wd
attribute [local go_sem ↓] Go.wp_at_zero Go.wp_at_succ
set_option maxRecDepth 20000

/-- what a call tells, and the timers behind it -/
structure Rs where
  id : Int
  er : Int
  last : Int
  L : List Tk
/-- one more, if there is room -/
def armF (last : Int) (L : List Tk) (x : Tk) (a k : Int) : Rs := if fullL last L then ⟨0, 2, last, L⟩ else ⟨last + 1, 0, last + 1, putL L (laterT { x with id := last + 1 } a k)⟩
/-- names that were given are not above the last one; not too many run -/
structure Wf (last : Int) (L : List Tk) : Prop where
  l0 : 0 ≤ last
  l1 : last ≤ 9223372036854775807
  ids : ∀ t ∈ L, 1 ≤ t.id ∧ t.id ≤ last
  len : L.length ≤ 1024
theorem Wf.arm {last : Int} {L : List Tk} (h : Wf last L) (x : Tk) (a k : Int) : Wf (armF last L x a k).last (armF last L x a k).L := by
  unfold armF
  split
  · exact h
  · rename_i hf
    simp only [fullL, Bool.or_eq_true, decide_eq_true_eq, beq_iff_eq, not_or] at hf
    have hl := h.l0
    have hm := h.l1
    refine ⟨by dsimp only; omega, by dsimp only; omega, fun t ht => ?_, ?_⟩
    · dsimp only at ht ⊢
      rcases List.mem_cons.1 ((putL_perm _ _).mem_iff.1 ht) with rfl | ht
      · rw [laterT_id]
        dsimp only
        omega
      · have := h.ids t ht
        omega
    · dsimp only
      rw [(putL_perm _ _).length_eq, List.length_cons]
      omega
theorem start_full {T : Nat → Prop} {w : World} {b : Nat} {last : Int} {L : List Tk} {B : Int} (h : Tm T w b last L B) (hf : fullL last L = true) (x : Tk) (a k : Int) : Calls Try.prog 46 #[.pointer (some ⟨b, 0, none⟩), .agg #[.int .i64 x.id, .int .i64 x.kind, .int .i64 x.s, .int .i64 x.g, .int .i64 x.ch, .int .u64 x.wh, .bool x.nv, .int .u64 x.pd], .int .u64 a, .int .u64 k] w fun e w' => e = .returned (.tuple #[.int .i64 0, .int .i64 2]) ∧ Gr w w' := by
  have HF := hid (full_any (h.gr (Ch.alloc (Gr.refl w) (.cells #[.int .i64 x.id, .int .i64 x.kind, .int .i64 x.s, .int .i64 x.g, .int .i64 x.ch, .int .u64 x.wh, .bool x.nv, .int .u64 x.pd] 46))))
  rw [hf] at HF
  clear h hf
  go_enter Try.func46, Try.ntmps46
  go_wp2_with (go_at_call 60; refine HF.out.mono ?_; rintro e w1 ⟨rfl, hw⟩; obtain rfl := hw.symm; clear hw)
  exact bodyPost_ret (v := .tuple #[.int .i64 0, .int .i64 2]) (by simp [results, Try.results46, go_sem]) rfl ⟨rfl, Ch.alloc (Gr.refl w) _⟩
set_option maxHeartbeats 8000000 in
theorem start_room {T : Nat → Prop} {w : World} {b : Nat} {last : Int} {L : List Tk} {B : Int} (h : Tm T w b last L B) (hw : Wf last L) (hf : fullL last L = false) (x : Tk) (ok : Tok x) (hs : slp x = true → ∀ u ∈ L, slp u = true → gid u ≠ gid x) (hB : B < 4611686018427387904) (a k : Int) (a0 : 0 ≤ a) (a1 : a < 18446744073709551616) (k0 : 0 ≤ k) (k1 : k < 18446744073709551616) : Calls Try.prog 46 #[.pointer (some ⟨b, 0, none⟩), .agg #[.int .i64 x.id, .int .i64 x.kind, .int .i64 x.s, .int .i64 x.g, .int .i64 x.ch, .int .u64 x.wh, .bool x.nv, .int .u64 x.pd], .int .u64 a, .int .u64 k] w fun e w' => e = .returned (.tuple #[.int .i64 (last + 1), .int .i64 0]) ∧ TL T w w' b (last + 1) (putL L (laterT { x with id := last + 1 } a k)) (B + 1) := by
  have HF := hid (full_any (h.gr (Ch.alloc (Gr.refl w) (.cells #[.int .i64 x.id, .int .i64 x.kind, .int .i64 x.s, .int .i64 x.g, .int .i64 x.ch, .int .u64 x.wh, .bool x.nv, .int .u64 x.pd] 46))))
  rw [hf] at HF
  have hf2 := hf
  simp only [fullL, Bool.or_eq_false_iff, decide_eq_false_iff_not, beq_eq_false_iff_ne] at hf2
  have hl1 : last < 9223372036854775807 := by have := hw.l1; have := hf2.2; omega
  have hwr : IntKind.i64.wrap (last + 1) = last + 1 := by rw [IntKind.wrap_i64]; have := hw.l0; omega
  have HW := hid hw
  have HS := hid hs
  obtain ⟨y, hy⟩ : ∃ y : Tk, y = laterT { x with id := last + 1 } a k := ⟨_, rfl⟩
  have HY := hid hy
  have OKY := hid (show Tok y from by rw [hy]; exact (show Tok { x with id := last + 1 } from ⟨ok.w0, ok.w1, ok.wn, ok.p0, ok.p1, ok.kp, ok.s0, ok.s1, ok.g0, ok.g1⟩).later a k (by omega))
  have HD := hid (fun W => dueIn_any { x with id := last + 1 } a k a0 a1 k0 k1 W)
  rw [← hy] at HD ⊢
  obtain ⟨T1, T2, d, h1, h2, h3, h4⟩ := h
  have c0 := cell_of h1.hb 0
  simp at c0
  have f0 := frozen_of h1.hb 0
  have bl := lt_of_block h1.hb
  have bn : ¬ (b = w.heap.size) := by omega
  have bn2 : ¬ (w.heap.size = b) := by omega
  obtain ⟨W2, hW2⟩ : ∃ W, W = (w.setCell ⟨b, 0, none⟩ (.int .i64 (last + 1))).alloc (.cells #[.int .i64 (last + 1), .int .i64 x.kind, .int .i64 x.s, .int .i64 x.g, .int .i64 x.ch, .int .u64 x.wh, .bool x.nv, .int .u64 x.pd] 46) := ⟨_, rfl⟩
  have TW := hid (show Tw T1 T2 W2 b (last + 1) d from by
    rw [hW2]
    exact (h1.setLast (last + 1)).gr (Ch.alloc (Gr.refl _) _))
  have BX := hid (show W2.heap[w.heap.size]? = some (.cells #[.int .i64 (last + 1), .int .i64 x.kind, .int .i64 x.s, .int .i64 x.g, .int .i64 x.ch, .int .u64 x.wh, .bool x.nv, .int .u64 x.pd] 46 (0, 0)) from by
    rw [hW2]
    exact al_at _ (by simp))
  have GC := hid (show Ch T w W2 from by
    rw [hW2]
    exact Ch.alloc ((Ch.refl _ w).setCell (p := ⟨b, 0, none⟩) (.inl ((h3 b).2 (.inl rfl))) _) _)
  have HI := hid (show ∀ t ∈ L, t.id ≠ y.id from fun t ht e => by rw [hy, laterT_id] at e; have := (hw.ids t ht).2; dsimp only at e; omega)
  have HSY := hid (show slp y = true → ∀ u ∈ L, slp u = true → gid u ≠ gid y from by
    rw [hy]
    unfold slp
    rw [laterT_kind, laterT_gid]
    exact hs)
  have TM2 := hid (show Tm T W2 b (last + 1) L B from ⟨T1, T2, d, TW.out, h2, h3, h4⟩)
  have HL := hid (show L.length < 4294967296 from by have := hw.len; omega)
  have HB := hid hB
  have HW2 := hid hW2
  have HTB := hid (show ¬ T w.heap.size from fun e => by have := h1.lt _ ((h3 _).1 e); omega)
  clear h1 h2 h3 h4 hy ok hs hw hf hf2 hB hl1 a0 a1 k0 k1 hW2
  go_enter Try.func46, Try.ntmps46
  go_wp2_with (first
    | (go_at_call 60; refine HF.out.mono ?_; rintro e w1 ⟨rfl, hw⟩; obtain rfl := hw.symm; clear hw)
    | (go_at_call 56; rw [← HW2.out]; refine (HD.out _).mono ?_; rintro e w3 ⟨rfl, g3⟩; have G3 := hid g3; unfold tV; clear g3)
    | (go_at_call 38; refine (arm_any (TM2.out.gr G3.out) y OKY.out HI.out HSY.out HL.out HB.out).mono ?_; rintro e w5 ⟨rfl, tl5⟩; have TL5 := hid tl5; obtain ⟨T', _, c5, _⟩ := tl5; have B5 := (c5.block _ (lt_of_block (gr_blk BX.out G3.out)) (fun e => HTB.out e)).trans (gr_blk BX.out G3.out); have x0 := cell_of B5 0; have xl := lt_of_block B5; simp at x0; clear B5 c5))
  refine bodyPost_ret (v := .tuple #[.int .i64 (last + 1), .int .i64 0]) (by simp [results, Try.results46, go_sem]) rfl ⟨rfl, ?_⟩
  obtain ⟨T', k1, k2, k3⟩ := TL5.out
  have s1 := GC.out.trans G3.out (fun q e => e.elim)
  exact ⟨T', k1, s1.trans k2 (fun q e => .inl e), fun q e => (k3 q e).imp id (fun z => Nat.le_trans s1.size z)⟩
theorem start_any {T : Nat → Prop} {w : World} {b : Nat} {last : Int} {L : List Tk} {B : Int} (h : Tm T w b last L B) (hw : Wf last L) (x : Tk) (ok : Tok x) (hs : slp x = true → ∀ u ∈ L, slp u = true → gid u ≠ gid x) (hB : B < 4611686018427387904) (a k : Int) (a0 : 0 ≤ a) (a1 : a < 18446744073709551616) (k0 : 0 ≤ k) (k1 : k < 18446744073709551616) : Calls Try.prog 46 #[.pointer (some ⟨b, 0, none⟩), .agg #[.int .i64 x.id, .int .i64 x.kind, .int .i64 x.s, .int .i64 x.g, .int .i64 x.ch, .int .u64 x.wh, .bool x.nv, .int .u64 x.pd], .int .u64 a, .int .u64 k] w fun e w' => e = .returned (.tuple #[.int .i64 (armF last L x a k).id, .int .i64 (armF last L x a k).er]) ∧ TL T w w' b (armF last L x a k).last (armF last L x a k).L (B + 1) := by
  unfold armF
  by_cases hf : fullL last L = true
  · rw [if_pos hf]
    refine (start_full h hf x a k).mono ?_
    rintro e w' ⟨rfl, g⟩
    exact ⟨rfl, TL.of ((h.gr g).more (by omega)) g⟩
  · have hf : fullL last L = false := by simpa using hf
    rw [if_neg (by rw [hf]; exact Bool.false_ne_true)]
    exact start_room h hw hf x ok hs hB a k a0 a1 k0 k1
end Go.Proofs.Ytgkapopkjgljjaa.Lt
