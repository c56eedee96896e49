/-
  What the program's After, Every, Sleep, Sleeps, Stop, Next and New tell and leave of timers. Condition: numbers are numbers of their kinds.
-/
import Derived.Test.YtgkapopkjgljjaaTmStart
import Derived.Test.YtgkapopkjgljjaaThNums
namespace Go.Proofs.Ytgkapopkjgljjaa.Lt
open Go.RowKit Wd
attribute [local go_sem ↓] Go.wp_at_zero Go.wp_at_succ
set_option maxRecDepth 20000

/-- what After asks for -/
def tkA (ch : Int) : Tk := ⟨0, 2, 0, 0, ch, 0, false, 0⟩
/-- what Every asks for -/
def tkE (ch k : Int) : Tk := ⟨0, 3, 0, 0, ch, 0, false, k⟩
/-- what Sleep asks for -/
def tkS (s g : Int) : Tk := ⟨0, 1, s, g, 0, 0, false, 0⟩
def afterF (last : Int) (L : List Tk) (ch a k : Int) : Rs := armF last L (tkA ch) a k
def everyF (last : Int) (L : List Tk) (ch a k : Int) : Rs := if k == 0 then ⟨0, 1, last, L⟩ else armF last L (tkE ch k) a k
def sleepF (last : Int) (L : List Tk) (s g a k : Int) : Rs := if sleepsL L s g then ⟨0, 141, last, L⟩ else armF last L (tkS s g) a k
theorem tok_A (ch : Int) : Tok (tkA ch) := ⟨by simp [tkA], by simp [tkA], fun _ => rfl, by simp [tkA], by simp [tkA], fun h => by simp [tkA] at h, by simp [tkA], by simp [tkA], by simp [tkA], by simp [tkA]⟩
theorem tok_E (ch k : Int) (h0 : 0 < k) (h1 : k < 18446744073709551616) : Tok (tkE ch k) := ⟨by simp [tkE], by simp [tkE], fun _ => rfl, by simp [tkE]; omega, by simp [tkE]; omega, fun _ => h0, by simp [tkE], by simp [tkE], by simp [tkE], by simp [tkE]⟩
theorem tok_S (s g : Int) (h : Gok s g) : Tok (tkS s g) := ⟨by simp [tkS], by simp [tkS], fun _ => rfl, by simp [tkS], by simp [tkS], fun e => by simp [tkS] at e, h.1.1, h.1.2, h.2.1, h.2.2⟩
theorem after_any {T : Nat → Prop} {w : World} {b : Nat} {last : Int} {L : List Tk} {B : Int} (h : Tm T w b last L B) (hw : Wf last L) (ch a k : Int) (hB : B < 4611686018427387904) (a0 : 0 ≤ a) (a1 : a < 18446744073709551616) (k0 : 0 ≤ k) (k1 : k < 18446744073709551616) : Calls Try.prog 26 #[.pointer (some ⟨b, 0, none⟩), .int .i64 ch, .int .u64 a, .int .u64 k] w fun e w' => e = .returned (.tuple #[.int .i64 (afterF last L ch a k).id, .int .i64 (afterF last L ch a k).er]) ∧ TL T w w' b (afterF last L ch a k).last (afterF last L ch a k).L (B + 1) := by
  have HG := hid (given_any h)
  have HS := hid (start_any h hw (tkA ch) (tok_A ch) (fun e => by cases e) hB a k a0 a1 k0 k1)
  unfold afterF
  obtain ⟨r, hr⟩ : ∃ r, r = armF last L (tkA ch) a k := ⟨_, rfl⟩
  rw [← hr] at HS ⊢
  clear h hw a0 a1 k0 k1 hr hB
  go_enter Try.func26, Try.ntmps26
  go_wp2_with (first
    | (go_at_call 42; refine HG.out.mono ?_; rintro e w1 ⟨rfl, hw⟩; obtain rfl := hw.symm; clear hw)
    | (go_at_call 46; refine HS.out.mono ?_; rintro e w1 ⟨rfl, tl⟩; have TL1 := hid tl; clear tl))
  exact bodyPost_ret (v := .tuple #[.int .i64 r.id, .int .i64 r.er]) (by simp [results, Try.results26, go_sem]) rfl ⟨rfl, TL1.out⟩
theorem every_any {T : Nat → Prop} {w : World} {b : Nat} {last : Int} {L : List Tk} {B : Int} (h : Tm T w b last L B) (hw : Wf last L) (ch a k : Int) (hB : B < 4611686018427387904) (a0 : 0 ≤ a) (a1 : a < 18446744073709551616) (k0 : 0 ≤ k) (k1 : k < 18446744073709551616) : Calls Try.prog 21 #[.pointer (some ⟨b, 0, none⟩), .int .i64 ch, .int .u64 a, .int .u64 k] w fun e w' => e = .returned (.tuple #[.int .i64 (everyF last L ch a k).id, .int .i64 (everyF last L ch a k).er]) ∧ TL T w w' b (everyF last L ch a k).last (everyF last L ch a k).L (B + 1) := by
  have HG := hid (given_any h)
  unfold everyF
  by_cases hk : (k == 0) = true
  · rw [if_pos hk]
    have e0 : k = 0 := by simpa using hk
    subst e0
    have HT := hid (TL.of (h.more (by omega : B ≤ B + 1)) (Gr.refl w))
    clear h hw a0 a1 k0 k1 hB hk
    go_enter Try.func21, Try.ntmps21
    go_wp2_with (go_at_call 42; refine HG.out.mono ?_; rintro e w1 ⟨rfl, hw⟩; obtain rfl := hw.symm; clear hw)
    exact bodyPost_ret (v := .tuple #[.int .i64 0, .int .i64 1]) (by simp [results, Try.results21, go_sem]) rfl ⟨rfl, HT.out⟩
  · rw [if_neg hk]
    have e0 : k ≠ 0 := by simpa using hk
    have hk2 : (k == 0) = false := by simpa using hk
    have HS := hid (start_any h hw (tkE ch k) (tok_E ch k (by omega) k1) (fun e => by cases e) hB a k a0 a1 k0 k1)
    obtain ⟨r, hr⟩ : ∃ r, r = armF last L (tkE ch k) a k := ⟨_, rfl⟩
    rw [← hr] at HS ⊢
    clear h hw a0 a1 k0 k1 hr hB hk
    go_enter Try.func21, Try.ntmps21
    go_wp2_with (first
      | (go_at_call 42; refine HG.out.mono ?_; rintro e w1 ⟨rfl, hw⟩; obtain rfl := hw.symm; clear hw)
      | (go_at_call 46; refine HS.out.mono ?_; rintro e w1 ⟨rfl, tl⟩; have TL1 := hid tl; clear tl))
    exact bodyPost_ret (v := .tuple #[.int .i64 r.id, .int .i64 r.er]) (by simp [results, Try.results21, go_sem]) rfl ⟨rfl, TL1.out⟩
/-- when the next one is due, if one ever is -/
def nextL (L : List Tk) : Int × Bool := match L with | [] => (0, false) | t :: _ => if t.nv then (0, false) else (t.wh, true)
theorem next_any {T : Nat → Prop} {w : World} {b : Nat} {last : Int} {L : List Tk} {B : Int} (h : Tm T w b last L B) : Calls Try.prog 18 #[.pointer (some ⟨b, 0, none⟩)] w fun e w' => e = .returned (.tuple #[.int .u64 (nextL L).1, .bool (nextL L).2]) ∧ Gr w w' := by
  have HG := hid (given_any h)
  obtain ⟨T1, T2, d, h1, h2, h3, h4⟩ := h
  obtain ⟨P, Q, ho, hp1, hp2, hp3⟩ := h2.ex
  have c1 := cell_of h1.hb 1
  simp at c1
  have bl := lt_of_block h1.hb
  have hno : P = [] → nextL L = (0, false) := fun e => by
    subst e
    unfold nextL
    cases L with
    | nil => rfl
    | cons t r =>
      have := ho.eq
      cases Q with
      | nil => simp at this
      | cons q Q =>
        simp only [List.map_nil, List.nil_append, List.map_cons, List.cons.injEq] at this
        have hv := (ho.nq q List.mem_cons_self).1
        dsimp only
        rw [this.1, hv]
        rfl
  cases P with
  | nil =>
    rw [hno rfl]
    have hx : d.xs = [] := by have := hp1.length_eq; simpa using this
    have hh := h1.h1
    rw [hx] at hh
    have HT := hid (Hp.top_none T1 d.bd d.dn w hh)
    clear h1 h2 h3 h4 ho hp1 hp2 hp3 hx hh hno
    go_enter Try.func18, Try.ntmps18
    go_wp2_with (first
      | (go_at_call 42; refine HG.out.mono ?_; rintro e w1 ⟨rfl, hw⟩; obtain rfl := hw.symm; clear hw)
      | (go_at_call 45; refine HT.out.mono ?_; rintro e w1 ⟨rfl, hw⟩; subst hw))
    exact bodyPost_ret (v := .tuple #[.int .u64 0, .bool false]) (by simp [results, Try.results18, go_sem]) rfl ⟨rfl, Gr.refl _⟩
  | cons p P =>
    have hx0 := first_node h1.h1.hp hp1 ho.sp
    have hy : nextL L = (p.1.wh, true) := by
      rw [ho.eq]
      unfold nextL
      simp only [List.map_cons, List.cons_append]
      rw [ho.np p List.mem_cons_self]
      rfl
    rw [hy]
    have HT := hid (Hp.top_some T1 d.bd d.xs d.dn ⟨p.1.wh, p.2, p.1.id⟩ w h1.h1 hx0)
    obtain ⟨wh, hwh⟩ : ∃ x, x = p.1.wh := ⟨_, rfl⟩
    rw [← hwh] at HT ⊢
    clear h1 h2 h3 h4 ho hp1 hp2 hp3 hx0 hno hy hwh
    go_enter Try.func18, Try.ntmps18
    go_wp2_with (first
      | (go_at_call 42; refine HG.out.mono ?_; rintro e w1 ⟨rfl, hw⟩; obtain rfl := hw.symm; clear hw)
      | (go_at_call 45; refine HT.out.mono ?_; rintro e w1 ⟨rfl, g1⟩; have G1 := hid g1; clear g1))
    exact bodyPost_ret (v := .tuple #[.int .u64 wh, .bool true]) (by simp [results, Try.results18, go_sem]) rfl ⟨rfl, G1.out⟩
/-- the set's cell, and a goroutine's in a block of its own -/
structure Ss (b k ms : Nat) (M : List Ge) (gc : Nat) (s g : Int) (W : World) : Prop where
  c4 : W.cell? ⟨b, 4, none⟩ = some (.map (some ms))
  bx : W.heap[k]? = some (.cells #[.int .i64 s, .int .i64 g] 31 (0, 0))
  g : GAt W ms M gc
  bl : b < W.heap.size
theorem Ss.gr {b k ms : Nat} {M : List Ge} {gc : Nat} {s g : Int} {W W' : World} (h : Ss b k ms M gc s g W) (c : Gr W W') : Ss b k ms M gc s g W' := ⟨(c.cell h.bl).trans h.c4, gr_blk h.bx c, h.g.ch c (noB _), Nat.lt_of_lt_of_le h.bl c.size⟩
set_option maxHeartbeats 4000000 in
theorem sleeps_any {T : Nat → Prop} {w : World} {b : Nat} {last : Int} {L : List Tk} {B : Int} (h : Tm T w b last L B) (s g : Int) (hk : Gok s g) : Calls Try.prog 32 #[.pointer (some ⟨b, 0, none⟩), .agg #[.int .i64 s, .int .i64 g]] w fun e w' => e = .returned (.bool (sleepsL L s g)) ∧ Gr w w' := by
  have HG := hid (given_any (h.gr (Ch.alloc (Gr.refl w) (.cells #[.int .i64 s, .int .i64 g] 31))))
  obtain ⟨T1, T2, d, h1, h2, h3, h4⟩ := h
  obtain ⟨v, hv⟩ : ∃ v, v = sleepsL L s g := ⟨_, rfl⟩
  obtain ⟨ms, hms⟩ : ∃ x, x = d.ms := ⟨_, rfl⟩
  obtain ⟨M, hM⟩ : ∃ x, x = d.G := ⟨_, rfl⟩
  obtain ⟨gc, hgc⟩ : ∃ x, x = d.gc := ⟨_, rfl⟩
  have HL := hid (show ∀ W, GAt W ms M gc → (Instr.lookup 67 (.map (some ms)) (kG s g) true).run Try.prog W = .ok (.tuple #[.agg #[], .bool v]) W from fun W hW => by
    have hsl := h2.sl s g
    rcases look_G hW (by rw [hM]; exact h2.gok) hk with ⟨e1, e2⟩ | ⟨j, t, e1, e2⟩
    · rw [e1]
      cases hvv : sleepsL L s g with
      | false => rw [hv, hvv]
      | true =>
        obtain ⟨t, ht, e3⟩ := List.any_eq_true.1 hvv
        simp only [Bool.and_eq_true, beq_iff_eq] at e3
        have := h2.gs.mem_iff.2 (List.mem_map.2 ⟨t, List.mem_filter.2 ⟨ht, by simp [slp, e3.1]⟩, rfl⟩)
        obtain ⟨e, he, e4⟩ := List.mem_map.1 this
        unfold gid at e4
        injection e4 with e5 e6
        rw [hM] at e2
        exact (e2 e he ⟨e5.trans e3.2.1, e6.trans e3.2.2⟩).elim
    · rw [e1, hv, hsl.2 ⟨s, g, t⟩ (by rw [← hM]; exact List.mem_of_getElem? e2) rfl rfl])
  have hS0 : Ss b w.heap.size ms M gc s g (World.drew (w.alloc (.cells #[.int .i64 s, .int .i64 g] 31))) := by
    have c4 := cell_of h1.hb 4
    simp at c4
    rw [hms, hM, hgc]
    exact (Ss.gr ⟨((Ch.alloc (Gr.refl w) _).cell (lt_of_block h1.hb) (noB _)).trans c4, al_at _ rfl, h1.g.ch (Ch.alloc (Gr.refl w) _) (noB _), by have := lt_of_block h1.hb; simp; omega⟩ (Ch.drew (Gr.refl _)))
  have G0 := hid (show Gr w (World.drew (w.alloc (.cells #[.int .i64 s, .int .i64 g] 31))) from (Ch.alloc (Gr.refl w) _).drew)
  rw [← hv]
  clear h1 h2 h3 h4 hv hms hM hgc hk
  go_enter Try.func32, Try.ntmps32
  go_wp2_with (go_at_call 42; refine HG.out.mono ?_; rintro e w1 ⟨rfl, hw⟩; obtain rfl := hw.symm; clear hw)
  refine wp_region_held_drew (S := Ss b w.heap.size ms M gc s g) (by kernel_rfl) (by exact hS0) (fun _ => ?_)
  generalize World.drew (w.alloc (.cells #[.int .i64 s, .int .i64 g] 31)) = V0 at hS0 G0 ⊢
  refine takeS_on (i := 0) 11 (v := ?hv1) rfl rfl (by kernel_rfl) (by kernel_rfl) (by kernel_rfl) (fun _ _ _ h => h) (by kernel_rfl) ?hh1 (by exact hS0) ?_
  case hh1 => (intro w' hSw; go_simp; try (with_reducible rfl))
  simp only [Act.put, List.setIfInBounds_toArray, List.set_cons_zero, List.set_cons_succ]
  refine takeS_on (i := 1) 12 (v := ?hv2) rfl rfl (by kernel_rfl) (by kernel_rfl) (by kernel_rfl) (fun _ _ _ h => h) (by kernel_rfl) ?hh2 (by exact hS0) ?_
  case hh2 => (intro w' hSw; go_simp; try (with_reducible rfl))
  simp only [Act.put, List.setIfInBounds_toArray, List.set_cons_zero, List.set_cons_succ]
  refine takeS_on (i := 2) 13 (v := ?hv3) rfl rfl (by kernel_rfl) (by kernel_rfl) (by kernel_rfl) (fun _ _ _ h => h) (by kernel_rfl) ?hh3 (by exact hS0) ?_
  case hh3 => (intro w' hSw; go_simp; try (with_reducible rfl))
  simp only [Act.put, List.setIfInBounds_toArray, List.set_cons_zero, List.set_cons_succ]
  refine takeS_on (i := 3) 14 (v := ?hv4) rfl rfl (by kernel_rfl) (by kernel_rfl) (by kernel_rfl) (fun _ _ _ h => h) (by kernel_rfl) ?hh4 (by exact hS0) ?_
  case hh4 => (intro w' hSw; have c4 := hSw.c4; go_simp; try (with_reducible rfl))
  simp only [Act.put, List.setIfInBounds_toArray, List.set_cons_zero, List.set_cons_succ]
  refine takeS_on (i := 4) 15 (v := ?hv5) rfl rfl (by kernel_rfl) (by kernel_rfl) (by kernel_rfl) (fun _ _ _ h => h) (by kernel_rfl) ?hh5 (by exact hS0) ?_
  case hh5 => (intro w' hSw; refine Eq.trans (exec_row 31 (.tmp 3) rfl _ rfl _ _ _ _ hSw.bx Try.underlying31 rfl gid_size) ?_; go_simp; try (with_reducible rfl))
  simp only [Act.put, List.setIfInBounds_toArray, List.set_cons_zero, List.set_cons_succ]
  refine takeS_on (i := 5) 16 (v := .tuple #[.agg #[], .bool v]) rfl rfl (by kernel_rfl) (by kernel_rfl) (by kernel_rfl) (fun _ _ _ h => h) (by kernel_rfl) ?hh6 (by exact hS0) ?_
  case hh6 => (intro w' hSw; have hE := HL.out _ hSw.g; unfold kG at hE; go_simp; try (with_reducible rfl))
  simp only [Act.put, List.setIfInBounds_toArray, List.set_cons_zero, List.set_cons_succ]
  refine takeS_on (i := 6) 10 (v := ?hv7) rfl rfl (by kernel_rfl) (by kernel_rfl) (by kernel_rfl) (fun _ _ _ h => h) (by kernel_rfl) ?hh7 (by exact hS0) ?_
  case hh7 => (intro w' hSw; go_simp; try (with_reducible rfl))
  simp only [Act.put, List.setIfInBounds_toArray, List.set_cons_zero, List.set_cons_succ]
  refine takeS_on (i := 7) 17 (v := .agg #[]) rfl rfl (by kernel_rfl) (by kernel_rfl) (by kernel_rfl) (fun _ _ _ h => h) (by kernel_rfl) ?hh8 (by exact hS0) ?_
  case hh8 => (intro w' hSw; go_simp; try (with_reducible rfl))
  simp only [Act.put, List.setIfInBounds_toArray, List.set_cons_zero, List.set_cons_succ]
  refine takeS_on (i := 8) 18 (v := ?hv9) rfl rfl (by kernel_rfl) (by kernel_rfl) (by kernel_rfl) (fun _ _ _ h => h) (by kernel_rfl) ?hh9 (by exact hS0) ?_
  case hh9 => (intro w' hSw; go_simp; try (with_reducible rfl))
  simp only [Act.put, List.setIfInBounds_toArray, List.set_cons_zero, List.set_cons_succ]
  refine wpAnyH_ready (rs := [9]) (by kernel_rfl) (by simp) (AllReadyH.cons rfl (fun K hK => ?_) AllReadyH.nil)
  go_simp
  have hS1 := hS0.gr (Ch.alloc (Gr.refl V0) (.cells #[] 104))
  have G1 := hid (show Gr w (V0.alloc (.cells #[] 104)) from Ch.alloc G0.out _)
  generalize V0.alloc (.cells #[] 104) = V1 at hS1 G1 ⊢
  refine hK.out _ _ (by exact hS1) (fun _ => ?_)
  clear hK K
  refine wpAnyH_ready (rs := [10]) (by kernel_rfl) (by simp) (AllReadyH.cons rfl (fun K hK => ?_) AllReadyH.nil)
  go_simp
  refine hK.out _ _ (by exact hS1) (fun _ => ?_)
  clear hK K
  refine takeS_on (i := 11) 6 (v := ?hv10) rfl rfl (by kernel_rfl) (by kernel_rfl) (by kernel_rfl) (fun _ _ _ h => h) (by kernel_rfl) ?hh10 (by exact hS1) ?_
  case hh10 => (intro w' hSw; go_simp; try (with_reducible rfl))
  simp only [Act.put, List.setIfInBounds_toArray, List.set_cons_zero, List.set_cons_succ]
  refine wpAnyH_done (by kernel_rfl) ?_ _
  go_wp2
  go_ret
  exact ⟨rfl, G1.out⟩
end Go.Proofs.Ytgkapopkjgljjaa.Lt
