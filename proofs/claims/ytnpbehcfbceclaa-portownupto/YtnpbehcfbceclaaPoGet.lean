/-
  What the two kinds of ports answer and leave behind get. Condition: the part that does is there, and may be.
-/
import Derived.Test.YtnpbehcfbceclaaPoPut
namespace Go.Proofs.Ytnpbehcfbceclaa.Lt
open Go.RowKit Wd
attribute [local go_sem ↓] Go.wp_at_zero Go.wp_at_succ
set_option maxRecDepth 20000

theorem del0_any (base g n cap : Nat) (u : Ag) (us : List Ag) (w : World) (ho : Ow eG 2 59 base w (.slice (some ⟨g, 0, none⟩) n cap) (u :: us)) (hl : n ≤ 4294967296) :
    Calls Try.prog 58 #[.slice (some ⟨g, 0, none⟩) n cap, .int .i64 0, .int .i64 1] w fun e w' => e = .returned (.slice (some ⟨g, 0, none⟩) (n - 1) cap) ∧ Ow eG 2 59 base w' (.slice (some ⟨g, 0, none⟩) (n - 1) cap) us ∧ Ch (Only g) w w' := by
  have hn := ho.len.1
  have := delete_any base g n cap 0 1 (u :: us) w ho (by omega) (by rw [hn]; simp) hl
  refine this.mono ?_
  rintro e w' ⟨h1, h2, h3⟩
  rw [Nat.zero_add] at h1 h2
  exact ⟨h1, h2, h3⟩
theorem Kq.c1 {w : World} {k : Nat} {vo vi : Value} {x : Pt} (h : Kq w k vo vi x) : w.cell? ⟨k, 0, none⟩ = some vo ∧ w.cell? ⟨k, 1, none⟩ = some vi ∧ (∀ o, w.frozen? ⟨k, o, none⟩ = false) ∧ k < w.heap.size := by
  have hb := h.bk
  unfold cellsP at hb
  split at hb
  · exact ⟨cell_of hb 0, cell_of hb 1, frozen_of hb, lt_of_block hb⟩
  · exact ⟨cell_of hb 0, cell_of hb 1, frozen_of hb, lt_of_block hb⟩
theorem sget_any (w : World) (k : Nat) (vo vi : Value) (x : Pt) (h : Kq w k vo vi x) (hq : x.q = false) : Calls Try.prog 60 #[.pointer (some ⟨k, 0, none⟩)] w fun e w' => e = .returned (.tuple #[.int .i64 (firstG x.inn).1, .int .i64 (firstG x.inn).2]) ∧ KL w k vo vi w' (getP x) := by
  have hg : getP x = x := by unfold getP; rw [hq]; rfl
  rw [hg]
  have HH := hid h
  obtain ⟨_, c1, _, l0⟩ := h.c1
  have HF := hid (first_any w k vi x.inn h.hi.lst c1)
  obtain ⟨F, hF⟩ : ∃ F, F = firstG x.inn := ⟨_, rfl⟩
  rw [← hF] at HF ⊢
  clear h hF hg
  go_enter Try.func60, Try.ntmps60
  go_wp2_with (go_at_call 57; refine HF.out.mono ?_; rintro e w1 ⟨rfl, g1⟩; have G1 := hid g1; clear g1)
  exact bodyPost_ret (v := .tuple #[.int .i64 F.1, .int .i64 F.2]) (by simp [results, Try.results60, go_sem]) rfl ⟨rfl, KL.same HH.out G1.out⟩
theorem qget_any (w : World) (k : Nat) (vo vi : Value) (x : Pt) (h : Kq w k vo vi x) (hq : x.q = true) (hok : x.ok) : Calls Try.prog 53 #[.pointer (some ⟨k, 0, none⟩)] w fun e w' => e = .returned (.tuple #[.int .i64 (firstG x.inn).1, .int .i64 (firstG x.inn).2]) ∧ KL w k vo vi w' (getP x) := by
  obtain ⟨q, cap, out, inn, lost⟩ := x
  dsimp only at hq ⊢
  subst hq
  have HH := hid h
  obtain ⟨_, c1, f0, l0⟩ := h.c1
  have HF := hid (first_any w k vi inn h.hi.lst c1)
  have hle : inn.length ≤ 1024 := Nat.le_trans hok.i hok.c2
  have hag : ∀ g ∈ inn, 0 ≤ g.a ∧ g.a ≤ 2147483647 := hok.ages
  unfold getP
  rw [if_pos rfl]
  dsimp only
  cases inn with
  | nil =>
    simp only [firstG] at HF ⊢
    clear h hag hok
    go_enter Try.func53, Try.ntmps53
    go_wp2_with (go_at_call 57; refine HF.out.mono ?_; rintro e w1 ⟨rfl, g1⟩; have G1 := hid g1; clear g1)
    exact bodyPost_ret (v := .tuple #[.int .i64 0, .int .i64 (-1)]) (by simp [results, Try.results53, go_sem]) rfl ⟨rfl, KL.same HH.out G1.out⟩
  | cons u us =>
    simp only [firstG] at HF ⊢
    obtain ⟨a0, _⟩ := hag u (List.mem_cons_self ..)
    obtain ⟨g, cp, rfl, _⟩ := h.hi.get eG_len (i := 0) (a := u) rfl
    generalize hn : (u :: us).length = n at *
    have HL := hid hle
    clear h hag hok hn hle
    go_enter Try.func53, Try.ntmps53
    go_wp2_with (first
      | (go_at_call 57; refine HF.out.mono ?_; rintro e w1 ⟨rfl, g1⟩; have H1 := hid (HH.out.gr g1); obtain ⟨_, d1, _, k1⟩ := H1.out.c1; have G1 := hid g1; clear g1)
      | (go_at_call 58; refine (del0_any 0 g n cp u us _ H1.out.hi (by have := HL.out; omega)).mono ?_; rintro e w2 ⟨rfl, o2, k2⟩
         have b2 := ch_blk H1.out.bk k2 (fun e => H1.out.kp.si (by have e1 : k = g := e; rw [e1]; rfl))
         have i2 := H1.out.ho.ch k2 (fun q hq e => H1.out.kp.oi hq (by have e1 : q = g := e; rw [e1]; rfl))
         have L2 : k < w2.heap.size := lt_of_block b2
         have q2 := hid (show Kq w2 k vo (.slice (some ⟨g, 0, none⟩) n cp) ⟨true, cap, out, u :: us, lost⟩ → True from fun _ => trivial)
         have d2 : w2.cell? ⟨k, 1, none⟩ = some (.slice (some ⟨g, 0, none⟩) n cp) := by
           have := b2; unfold cellsP at this; rw [if_pos rfl] at this; exact cell_of this 1
         have f2 : w2.frozen? ⟨k, 1, none⟩ = false := by
           have := b2; unfold cellsP at this; rw [if_pos rfl] at this; exact frozen_of this 1
         have R2 := hid (KL.setI b2 (lt_of_block H1.out.bk) (k2.mono (fun q e => .inl (.inr (.inr (by have e1 : q = g := e; rw [e1]; rfl))))) i2 o2 (fun q e => .inl (.inr (.inr (Blk.len e n)))))
         clear o2 k2 b2 i2 q2))
    exact bodyPost_ret (v := .tuple #[.int .i64 u.v, .int .i64 u.a]) (by simp [results, Try.results53, go_sem]) rfl ⟨rfl, KL.pre G1.out R2.out⟩
end Go.Proofs.Ytnpbehcfbceclaa.Lt
