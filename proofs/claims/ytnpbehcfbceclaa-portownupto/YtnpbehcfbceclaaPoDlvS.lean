/-
  What the sampling kind leaves behind deliver. Condition: the part that does is there, and may be.
-/
import Derived.Test.YtnpbehcfbceclaaPoGrow
namespace Go.Proofs.Ytnpbehcfbceclaa.Lt
open Go.RowKit Wd
attribute [local go_sem ↓] Go.wp_at_zero Go.wp_at_succ
set_option maxRecDepth 20000

theorem KL.in {w w' : World} {k : Nat} {vo vi : Value} {x' : Pt} (h : Kq w' k vo vi x') (c : Ch (Blk vi) w w') : KL w k vo vi w' x' := ⟨vo, vi, h, fun _ e => .inl e, c.mono (fun _ e => .inl (.inr (.inr e)))⟩
theorem KL.ahead {w w1 w2 : World} {k : Nat} {vo vi : Value} {x' : Pt} (c : Ch (Bk k vo vi) w w1) (h : KL w1 k vo vi w2 x') : KL w k vo vi w2 x' := by
  obtain ⟨vo', vi', h1, h2, h3⟩ := h
  exact ⟨vo', vi', h1, fun q e => (h2 q e).imp id (fun e => Nat.le_trans c.size e), c.trans' h3⟩
/-- nothing waits any more -/
theorem KL.noO {w : World} {k : Nat} {vo vi : Value} {x : Pt} (h : Kq w k vo vi x) : KL w k vo vi (w.setCell ⟨k, 0, none⟩ (.slice none 0 0)) { x with out := [] } :=
  KL.setO h.bk (lt_of_block h.bk) (Ch.refl _ w) (Ow.nil _ _ _ _ _) h.hi (fun g e => by cases e)
theorem sdlv_any (w : World) (k : Nat) (vo vi : Value) (x : Pt) (h : Kq w k vo vi x) (hq : x.q = false) (hok : x.ok) : Calls Try.prog 59 #[.pointer (some ⟨k, 0, none⟩)] w fun e w' => e = .returned (.tuple #[]) ∧ KL w k vo vi w' (dlvP x) := by
  obtain ⟨q, cap, out, inn, lost⟩ := x
  dsimp only at hq
  subst hq
  have HG := hid (grow_any w k vo vi _ h hok)
  have hle : out.length ≤ 1024 := Nat.le_trans hok.o hok.c2
  obtain ⟨ao, co, rfl⟩ := h.ho.form
  unfold dlvP
  rw [if_neg Bool.false_ne_true]
  dsimp only at HG hle ⊢
  clear h hok
  cases out with
  | nil =>
    go_enter Try.func59, Try.ntmps59
    go_wp2_with (go_at_call 56; refine HG.out.mono ?_; rintro e w1 ⟨rfl, h1, g1⟩; obtain ⟨c0, _, f0, l0⟩ := h1.c1; have H1 := hid h1; have G1 := hid g1; clear h1 g1)
    go_end0
    exact ⟨rfl, (KL.in H1.out G1.out).trans (fun vo' vi' k' => KL.noO k')⟩
  | cons v r =>
    go_enter Try.func59, Try.ntmps59
    go_wp2_with (go_at_call 56; refine HG.out.mono ?_; rintro e w1 ⟨rfl, h1, g1⟩; obtain ⟨c0, c1, f0, l0⟩ := h1.c1; obtain ⟨g, cp, e, _, _, _, hc, _⟩ := h1.ho.get eI_len (i := 0) (a := v) rfl; injection e with e1 e2 e3; subst e1 e3; have q0 := hc 0 _ rfl; have H1 := hid h1; have G1 := hid g1; clear h1 g1 hc e2)
    go_end0
    rw [← World.setCell_alloc_past _ _ _ _ (by simp only [World.setCell, Array.size_modify]; exact l0), ← World.setCell_alloc_past _ _ _ _ l0]
    have o1 : Ow eG 2 59 0 (w1.alloc (.cells #[.int .i64 v, .int .i64 0] 59)) (.slice (some ⟨w1.heap.size, 0, none⟩) 1 1) [fresh v] := (Ow.single w1 (fresh v) 59 #[.int .i64 v, .int .i64 0] rfl rfl).lower (Nat.zero_le _)
    have k1 := KL.setI (w := w1) (al_blk H1.out.bk (.cells #[.int .i64 v, .int .i64 0] 59)) l0 (Ch.alloc (Ch.refl _ w1) _) (H1.out.ho.alloc _) o1 (fun g e => .inr (by
      have e1 : some w1.heap.size = some g := e
      injection e1 with e1
      omega))
    exact ⟨rfl, KL.ahead (G1.out.mono (fun _ e => .inl (.inr (.inr e)))) (k1.trans (fun _ _ k' => KL.noO k'))⟩
end Go.Proofs.Ytnpbehcfbceclaa.Lt
