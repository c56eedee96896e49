/-
  What the two kinds of ports leave behind put. Condition: the part that does is there, and may be.
-/
import Derived.Test.YtnpbehcfbceclaaPoOf
import Derived.Test.YtnpbehcfbceclaaPoDel
namespace Go.Proofs.Ytnpbehcfbceclaa.Lt
open Go.RowKit Wd
attribute [local go_sem ↓] Go.wp_at_zero Go.wp_at_succ
set_option maxRecDepth 20000

/-- the blocks of the part that does -/
def Bk (k : Nat) (vo vi : Value) : Nat → Prop := fun g => g = k ∨ Blk vo g ∨ Blk vi g
/-- the part that does, in words of its blocks alone -/
structure Kq (w : World) (k : Nat) (vo vi : Value) (x : Pt) : Prop where
  bk : w.heap[k]? = some (cellsP x vo vi)
  ho : Ow eI 1 2 0 w vo x.out
  hi : Ow eG 2 59 0 w vi x.inn
/-- what a writer leaves of it -/
def KL (w : World) (k : Nat) (vo vi : Value) (w' : World) (x' : Pt) : Prop := ∃ vo' vi', Kq w' k vo' vi' x' ∧ (∀ g, Bk k vo' vi' g → Bk k vo vi g ∨ w.heap.size ≤ g) ∧ Ch (Bk k vo vi) w w'
section
variable {w w' : World} {k : Nat} {vo vi : Value} {x x' : Pt} {T : Nat → Prop}
theorem Kq.kp (h : Kq w k vo vi x) : Kp (fun g => Bk k vo vi g) w k vo vi x := ⟨h.bk, h.ho, h.hi, .inl rfl, fun _ e => .inr (.inl e), fun _ e => .inr (.inr e)⟩
theorem Kq.lt (h : Kq w k vo vi x) {g : Nat} (hg : Bk k vo vi g) : g < w.heap.size := by
  rcases hg with rfl | e | e
  · exact lt_of_block h.bk
  · exact (h.ho.blk e).2
  · exact (h.hi.blk e).2
theorem Kp.kq (h : Kp T w k vo vi x) : Kq w k vo vi x := ⟨h.bk, h.ho, h.hi⟩
theorem Kq.gr (h : Kq w k vo vi x) (g : Gr w w') : Kq w' k vo vi x := ⟨gr_blk h.bk g, h.ho.gr g, h.hi.gr g⟩
theorem KL.same (h : Kq w k vo vi x) (g : Gr w w') : KL w k vo vi w' x := ⟨vo, vi, h.gr g, fun _ e => .inl e, g.any⟩
theorem KL.trans {w'' : World} (h : KL w k vo vi w' x) (t : ∀ vo' vi', Kq w' k vo' vi' x → KL w' k vo' vi' w'' x') : KL w k vo vi w'' x' := by
  obtain ⟨vo', vi', h1, h2, h3⟩ := h
  obtain ⟨vo'', vi'', k1, k2, k3⟩ := t vo' vi' h1
  refine ⟨vo'', vi'', k1, fun g e => ?_, h3.trans k3 h2⟩
  rcases k2 g e with e | e
  · exact h2 g e
  · exact .inr (Nat.le_trans h3.size e)
theorem KL.pre (g : Gr w w') {w'' : World} (h : KL w' k vo vi w'' x') : KL w k vo vi w'' x' := by
  obtain ⟨vo', vi', h1, h2, h3⟩ := h
  exact ⟨vo', vi', h1, fun q e => (h2 q e).imp id (fun e => Nat.le_trans g.size e), (Ch.any g).trans' h3⟩
/-- the first list put in another's place -/
theorem KL.setO {w1 : World} {v : Value} {xs : List Int} (h : w1.heap[k]? = some (cellsP x vo vi)) (hk : k < w.heap.size) (hc : Ch (Bk k vo vi) w w1) (ho : Ow eI 1 2 0 w1 v xs) (hi : Ow eG 2 59 0 w1 vi x.inn) (hb : ∀ g, Blk v g → Bk k vo vi g ∨ w.heap.size ≤ g) :
    KL w k vo vi (w1.setCell ⟨k, 0, none⟩ v) { x with out := xs } := by
  have hq : Kp (fun g => Bk k v vi g) w1 k v vi { x with out := xs } → True := fun _ => trivial
  have n1 : ¬ Blk v k := fun e => by
    obtain ⟨c, h'⟩ := ho.ty e
    unfold cellsP at h
    rw [h'] at h
    split at h <;> (injection h with h; injection h with _ t1; exact absurd t1 (by decide))
  have n2 : ¬ Blk vi k := fun e => by
    obtain ⟨c, h'⟩ := hi.ty e
    unfold cellsP at h
    rw [h'] at h
    split at h <;> (injection h with h; injection h with _ t1; exact absurd t1 (by decide))
  have hs : Ch (Only k) w1 (w1.setCell ⟨k, 0, none⟩ v) := (Ch.refl _ w1).own 0 v
  refine ⟨v, vi, ⟨?_, ho.ch hs (fun g e e1 => n1 (by have e2 : g = k := e1; rw [← e2]; exact e)), hi.ch hs (fun g e e1 => n2 (by have e2 : g = k := e1; rw [← e2]; exact e))⟩, ?_, hc.trans hs (fun g e => .inl (.inl e))⟩
  · unfold cellsP at h ⊢
    dsimp only
    split at h
    · rename_i q1
      rw [if_pos q1, setCell_block h 0 v]
      rfl
    · rename_i q1
      rw [if_neg q1, setCell_block h 0 v]
      rfl
  · rintro g (rfl | e | e)
    · exact .inl (.inl rfl)
    · exact hb g e
    · exact .inl (.inr (.inr e))
/-- the second list put in another's place -/
theorem KL.setI {w1 : World} {v : Value} {ys : List Ag} (h : w1.heap[k]? = some (cellsP x vo vi)) (hk : k < w.heap.size) (hc : Ch (Bk k vo vi) w w1) (ho : Ow eI 1 2 0 w1 vo x.out) (hi : Ow eG 2 59 0 w1 v ys) (hb : ∀ g, Blk v g → Bk k vo vi g ∨ w.heap.size ≤ g) :
    KL w k vo vi (w1.setCell ⟨k, 1, none⟩ v) { x with inn := ys } := by
  have n1 : ¬ Blk v k := fun e => by
    obtain ⟨c, h'⟩ := hi.ty e
    unfold cellsP at h
    rw [h'] at h
    split at h <;> (injection h with h; injection h with _ t1; exact absurd t1 (by decide))
  have n2 : ¬ Blk vo k := fun e => by
    obtain ⟨c, h'⟩ := ho.ty e
    unfold cellsP at h
    rw [h'] at h
    split at h <;> (injection h with h; injection h with _ t1; exact absurd t1 (by decide))
  have hs : Ch (Only k) w1 (w1.setCell ⟨k, 1, none⟩ v) := (Ch.refl _ w1).own 1 v
  refine ⟨vo, v, ⟨?_, ho.ch hs (fun g e e1 => n2 (by have e2 : g = k := e1; rw [← e2]; exact e)), hi.ch hs (fun g e e1 => n1 (by have e2 : g = k := e1; rw [← e2]; exact e))⟩, ?_, hc.trans hs (fun g e => .inl (.inl e))⟩
  · unfold cellsP at h ⊢
    dsimp only
    split at h
    · rename_i q1
      rw [if_pos q1, setCell_block h 1 v]
      rfl
    · rename_i q1
      rw [if_neg q1, setCell_block h 1 v]
      rfl
  · rintro g (rfl | e | e)
    · exact .inl (.inl rfl)
    · exact .inl (.inr (.inl e))
    · exact hb g e
/-- what a writer leaves of a port -/
theorem PL.kl {p : Nat} (h1 : ∀ g, T g → g < w.heap.size) (h2 : T p) (h3 : w.heap[p]? = some (.cells #[faceP x.q k] 63 (0, 0))) (h4 : Kp T w k vo vi x) (hq : x'.q = x.q) (h : KL w k vo vi w' x') : PL T w w' p x' := by
  obtain ⟨vo', vi', k1, k2, k3⟩ := h
  have hB : ∀ g, Bk k vo vi g → T g := by
    rintro g (rfl | e | e)
    · exact h4.tk
    · exact h4.to g e
    · exact h4.ti g e
  have hp := h4.pp h3
  refine PL.of h1 h2 h3 (fun g e => .inl (hB g e)) ?_ k3 hq k1.kp (fun g e => ⟨(k2 g e).imp (hB g) id, k1.lt e⟩)
  rintro (e | e | e)
  · exact hp.1 e
  · exact hp.2.1 e
  · exact hp.2.2 e
end
/-- one in a new block -/
theorem Ow.single {α : Type} {enc : α → List Value} {K : Nat} (w : World) (x : α) (T : TypeId) (c : Array Value) (hc : c.toList = enc x) (hs : c.size = K) : Ow enc K T w.heap.size (w.alloc (.cells c T)) (.slice (some ⟨w.heap.size, 0, none⟩) 1 1) [x] := by
  have e : [x].flatMap enc = c.toList := by simp [hc]
  refine ⟨by rw [e]; simp [hs], .inr ⟨w.heap.size, 1, c, rfl, Nat.le_refl _, (MapKept.heap_alloc w _).1, Nat.le_refl _, by unfold maxLen; omega, by rw [hs, Nat.one_mul], ?_⟩⟩
  rw [e]
  rw [← hs, List.length_singleton, Nat.one_mul, ← Array.length_toList, List.take_length]
theorem qput_any (w : World) (k : Nat) (vo vi : Value) (x : Pt) (v : Int) (h : Kq w k vo vi x) (hq : x.q = true) (hok : x.ok) : Calls Try.prog 54 #[.pointer (some ⟨k, 0, none⟩), .int .i64 v] w fun e w' => e = .returned (.bool (putP x v).2) ∧ KL w k vo vi w' (putP x v).1 := by
  obtain ⟨q, cap, out, inn, lost⟩ := x
  dsimp only at hq
  subst hq
  have HH := hid h
  have hb := h.bk
  unfold cellsP at hb
  rw [if_pos rfl] at hb
  have c0 := cell_of hb 0
  have c2 := cell_of hb 2
  simp at c0 c2
  have l0 := lt_of_block hb
  have ho := h.ho
  have hl : out.length ≤ cap := hok.o
  have hc : cap ≤ 1024 := hok.c2
  obtain ⟨ao, co, rfl⟩ := ho.form
  unfold putP
  rw [if_pos rfl]
  dsimp only at ho c0 c2 ⊢
  have HN := hid (show out.length = out.length from rfl)
  generalize hn : out.length = n at *
  have HL := hid hn
  by_cases hf : n = cap
  · rw [if_pos hf]
    subst hf
    clear h hb ho hok
    go_enter Try.func54, Try.ntmps54
    go_wp2_with fail
    go_big_quiet (fail)
    go_wp2
    go_ret
    exact ⟨rfl, KL.same HH.out (Ch.drewN (Gr.refl w) _)⟩
  · rw [if_neg hf]
    have e1 : ¬ ((n : Int) = (cap : Int)) := by omega
    clear h hb ho hok
    go_enter Try.func54, Try.ntmps54
    go_wp2_with fail
    go_big_quiet (fail)
    have G0 := hid (Ch.drewN (Gr.refl w) nq)
    have Q0 := hid (HH.out.gr G0.out)
    have c0 : (w.drewN nq).cell? ⟨k, 0, none⟩ = some (.slice ao n co) := c0
    have l0 : k < (w.drewN nq).heap.size := l0
    generalize w.drewN nq = W at G0 Q0 c0 l0 ⊢
    go_wp2_with (first
      | (at_builtin; refine wpList_append_ow eI_len rfl (.tmp 21) (.tmp 23) 29 2 8 (.int .i64 0) Try.underlying29 i64_info rfl (by omega) rfl 0 _ out rfl (Q0.out.ho.alloc _) _ _ [v] rfl (Ls.single W v 2 _ rfl) (eI_one [v]) (n + 1) (by simp [HL.out]) (by omega) (by unfold maxLen; omega) (Nat.zero_le _) (out ++ [v]) rfl ?_
         intro ao2 co2 w2 ow2 cw2 bl2
         have b2 := ch_blk (al_blk Q0.out.bk _) cw2 Q0.out.kp.so
         have i2 := (Q0.out.hi.alloc _).ch cw2 (fun g e e' => Q0.out.kp.oi e' e)
         have L2 : k < w2.heap.size := lt_of_block b2
         have d2 : w2.cell? ⟨k, 0, none⟩ = some (.slice ao n co) := by
           have := b2; unfold cellsP at this; rw [if_pos rfl] at this; exact cell_of this 0
         have f2 : w2.frozen? ⟨k, 0, none⟩ = false := by
           have := b2; unfold cellsP at this; rw [if_pos rfl] at this; exact frozen_of this 0
         have R2 := hid (KL.setO b2 (lt_of_block Q0.out.bk) ((Ch.alloc (Ch.refl _ W) _).trans cw2 (fun g e => .inl (.inr (.inl e)))) ow2 i2 (fun g e => (bl2 g e).elim (fun e => .inl (.inr (.inl e))) (fun e => .inr (by simp at e; omega))))
         clear ow2 cw2 bl2 b2 i2))
    go_ret
    exact ⟨rfl, KL.pre G0.out R2.out⟩
theorem sput_any (w : World) (k : Nat) (vo vi : Value) (x : Pt) (v : Int) (h : Kq w k vo vi x) (hq : x.q = false) : Calls Try.prog 61 #[.pointer (some ⟨k, 0, none⟩), .int .i64 v] w fun e w' => e = .returned (.bool (putP x v).2) ∧ KL w k vo vi w' (putP x v).1 := by
  obtain ⟨q, cap, out, inn, lost⟩ := x
  dsimp only at hq
  subst hq
  have HH := hid h
  have hb := h.bk
  unfold cellsP at hb
  rw [if_neg Bool.false_ne_true] at hb
  have l0 := lt_of_block hb
  obtain ⟨vc, hvc⟩ : ∃ u, w.cell? ⟨k, 0, none⟩ = some u := ⟨_, cell_of hb 0⟩
  have f0 : w.frozen? ⟨k, 0, none⟩ = false := frozen_of hb 0
  unfold putP
  rw [if_neg Bool.false_ne_true]
  clear h hb
  go_enter Try.func61, Try.ntmps61
  go_wp2
  go_ret
  rw [← World.setCell_alloc_past _ _ _ _ l0]
  have o1 : Ow eI 1 2 0 (w.alloc (.cells #[.int .i64 v] 2)) (.slice (some ⟨w.heap.size, 0, none⟩) 1 1) [v] := (Ow.single w v 2 #[.int .i64 v] rfl rfl).lower (Nat.zero_le _)
  refine ⟨rfl, KL.setO (al_blk HH.out.bk _) l0 (Ch.alloc (Ch.refl _ w) _) o1 (HH.out.hi.alloc _) (fun g e => .inr ?_)⟩
  have e1 : some w.heap.size = some g := e
  injection e1 with e1
  omega
end Go.Proofs.Ytnpbehcfbceclaa.Lt
