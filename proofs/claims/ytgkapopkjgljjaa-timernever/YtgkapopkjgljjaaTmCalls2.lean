/-
  What the program's Sleep, Stop and New tell and leave of timers. Condition: numbers are numbers of their kinds.
-/
import Derived.Test.YtgkapopkjgljjaaTmCalls
namespace Go.Proofs.Ytgkapopkjgljjaa.Lt
open Go.RowKit Wd
attribute [local go_sem ↓] Go.wp_at_zero Go.wp_at_succ
set_option maxRecDepth 20000

set_option maxHeartbeats 4000000 in
theorem sleep_any {T : Nat → Prop} {w : World} {b : Nat} {last : Int} {L : List Tk} {B : Int} (h : Tm T w b last L B) (hw : Wf last L) (s g a k : Int) (hk : Gok s g) (hB : B < 4611686018427387904) (a0 : 0 ≤ a) (a1 : a < 18446744073709551616) (k0 : 0 ≤ k) (k1 : k < 18446744073709551616) : Calls Try.prog 24 #[.pointer (some ⟨b, 0, none⟩), .agg #[.int .i64 s, .int .i64 g], .int .u64 a, .int .u64 k] w fun e w' => e = .returned (.int .i64 (sleepF last L s g a k).er) ∧ TL T w w' b (sleepF last L s g a k).last (sleepF last L s g a k).L (B + 1) := by
  obtain ⟨W0, hW0⟩ : ∃ W, W = w.alloc (.cells #[.int .i64 s, .int .i64 g] 31) := ⟨_, rfl⟩
  have g0 : Gr w W0 := by rw [hW0]; exact Ch.alloc (Gr.refl w) _
  have bx : W0.heap[w.heap.size]? = some (.cells #[.int .i64 s, .int .i64 g] 31 (0, 0)) := by rw [hW0]; exact al_at _ rfl
  have HG := hid (given_any (h.gr g0))
  have HSL := hid (sleeps_any (h.gr g0) s g hk)
  have HW0 := hid hW0
  unfold sleepF
  by_cases hs : sleepsL L s g = true
  · rw [if_pos hs]
    rw [hs] at HSL
    have HT := hid (fun W (k : Gr w W) => TL.of ((h.gr k).more (by omega : B ≤ B + 1)) k)
    have G0 := hid g0
    rw [hW0] at HG HSL
    clear h hw a0 a1 k0 k1 hB hs hk bx g0 hW0
    go_enter Try.func24, Try.ntmps24
    go_wp2_with (first
      | (go_at_call 42; refine HG.out.mono ?_; rintro e w1 ⟨rfl, hw⟩; subst hw)
      | (go_at_call 32; refine HSL.out.mono ?_; rintro e w1 ⟨rfl, g1⟩; rw [← HW0.out] at g1; have G1 := hid g1; clear g1))
    go_ret
    exact ⟨rfl, HT.out _ (Gr.trans G0.out G1.out)⟩
  · rw [if_neg hs]
    have hs : sleepsL L s g = false := by simpa using hs
    rw [hs] at HSL
    have hno : slp (tkS s g) = true → ∀ u ∈ L, slp u = true → gid u ≠ gid (tkS s g) := fun _ u hu e1 e2 => by
      unfold gid tkS at e2
      injection e2 with e3 e4
      have h2 := List.any_eq_false.1 hs u hu
      have e5 : (u.kind == 1) = true := e1
      simp only [e5, e3, e4, beq_self_eq_true, Bool.and_self, not_true_eq_false] at h2
    have HS := hid (fun W (k2 : Gr w W) => start_any (h.gr k2) hw (tkS s g) (tok_S s g hk) hno hB a k a0 a1 k0 k1)
    obtain ⟨r, hr⟩ : ∃ r, r = armF last L (tkS s g) a k := ⟨_, rfl⟩
    rw [← hr] at HS ⊢
    have G0 := hid g0
    have BX := hid bx
    rw [hW0] at HG HSL
    clear h hw a0 a1 k0 k1 hB hs hk bx g0 hW0 hr hno
    go_enter Try.func24, Try.ntmps24
    go_wp2_with (first
      | (go_at_call 42; refine HG.out.mono ?_; rintro e w1 ⟨rfl, hw⟩; subst hw)
      | (go_at_call 32; refine HSL.out.mono ?_; rintro e w1 ⟨rfl, g1⟩; rw [← HW0.out] at g1; have G1 := hid (Gr.trans G0.out g1); have BX1 := gr_blk BX.out g1; have x0 := cell_of BX1 0; have x1 := cell_of BX1 1; have xl := lt_of_block BX1; simp at x0 x1; clear g1 BX1)
      | (go_at_call 46; refine (HS.out _ G1.out).mono ?_; rintro e w2 ⟨rfl, tl⟩; have TL1 := hid tl; clear tl))
    go_ret
    obtain ⟨T', k1, k2, k3⟩ := TL1.out
    exact ⟨rfl, T', k1, G1.out.any.trans k2 (fun q e => .inl e), fun q e => (k3 q e).imp id (fun z => Nat.le_trans G1.out.size z)⟩
/-- whether one that sends runs by that name -/
def stopL (L : List Tk) (i : Int) : Bool := L.any (fun t => t.id == i && !(t.kind == 1))
def stoppedL (L : List Tk) (i : Int) : List Tk := if stopL L i then L.filter (isId i) else L
set_option maxHeartbeats 4000000 in
theorem stop_any {T : Nat → Prop} {w : World} {b : Nat} {last : Int} {L : List Tk} {B : Int} (h : Tm T w b last L B) (hL : L.length < 4294967296) (i : Int) : Calls Try.prog 22 #[.pointer (some ⟨b, 0, none⟩), .int .i64 i] w fun e w' => e = .returned (.bool (stopL L i)) ∧ TL T w w' b last (stoppedL L i) B := by
  have HG := hid (given_any h)
  have HT := hid (fun W (k : Gr w W) => TL.of (h.gr k) k)
  obtain ⟨T1, T2, d, h1, h2, h3, h4⟩ := h
  have eT : T = Ta b T1 T2 d := funext fun q => propext (h3 q)
  subst eT
  have c3 := cell_of h1.hb 3
  simp at c3
  have bl := lt_of_block h1.hb
  unfold stoppedL
  by_cases hx : ∃ t ∈ L, t.id = i
  · obtain ⟨x, hx, rfl⟩ := hx
    obtain ⟨e0, he, hex⟩ := h2.has hx
    obtain ⟨n, hn⟩ : ∃ n, n = e0.n := ⟨_, rfl⟩
    have hE := look_some h1.m h2.ids he true
    simp only [if_true] at hE
    unfold aV at hE
    rw [hex, ← hn] at hE
    by_cases hs : (x.kind == 1) = true
    · have e1 : stopL L x.id = false := by
        refine List.any_eq_false.2 (fun t ht e2 => ?_)
        simp only [Bool.and_eq_true, beq_iff_eq, Bool.not_eq_true'] at e2
        have := h2.ui.one ht hx e2.1
        rw [this, hs] at e2
        cases e2.2
      rw [e1, if_neg Bool.false_ne_true]
      clear h1 h2 h3 h4 he hex hx hn e1 hL
      go_enter Try.func22, Try.ntmps22
      go_wp2_with (go_at_call 42; refine HG.out.mono ?_; rintro e w1 ⟨rfl, hw⟩; subst hw)
      go_ret
      exact ⟨rfl, HT.out _ (Ch.alloc (Gr.refl w) _)⟩
    · have hs : (x.kind == 1) = false := by simpa using hs
      have e1 : stopL L x.id = true := List.any_eq_true.2 ⟨x, hx, by simp [hs]⟩
      rw [e1, if_pos rfl]
      have HD := hid (fun W (k : Gr w W) => disarm_any (h1.gr k) h2 h4 x n hx (List.mem_map.2 ⟨e0, he, by rw [hex, hn]⟩) hL)
      clear h1 h2 h3 h4 he hex hx hn e1 hL
      go_enter Try.func22, Try.ntmps22
      go_wp2_with (first
        | (go_at_call 42; refine HG.out.mono ?_; rintro e w1 ⟨rfl, hw⟩; subst hw)
        | (go_at_call 47; refine (HD.out _ (Ch.alloc (Gr.refl w) _)).mono ?_; rintro e w2 ⟨rfl, tl⟩; have TL1 := hid tl; clear tl))
      go_ret
      obtain ⟨T', k1, k2, k3⟩ := TL1.out
      have s1 := Ch.trans (Ch.alloc (Ch.refl (Ta b T1 T2 d) w) _) k2 (fun q e => .inl e)
      exact ⟨rfl, T', k1, s1, fun q e => (k3 q e).imp id (fun z => Nat.le_trans (by simp) z)⟩
  · have hno : ∀ t ∈ L, t.id ≠ i := fun t ht e => hx ⟨t, ht, e⟩
    have e1 : stopL L i = false := List.any_eq_false.2 (fun t ht e2 => by
      simp only [Bool.and_eq_true, beq_iff_eq] at e2
      exact hno t ht e2.1)
    rw [e1, if_neg Bool.false_ne_true]
    have hE := look_none h1.m (h2.no hno) true
    simp only [if_true] at hE
    unfold aV Tk.zero at hE
    clear h1 h2 h3 h4 hx hno e1 hL
    go_enter Try.func22, Try.ntmps22
    go_wp2_with (go_at_call 42; refine HG.out.mono ?_; rintro e w1 ⟨rfl, hw⟩; subst hw)
    go_ret
    exact ⟨rfl, HT.out _ (Ch.alloc (Gr.refl w) _)⟩
theorem heap_new (w : World) : Calls Try.prog 23 #[] w fun e w' => e = .returned (.pointer (some ⟨w.heap.size, 0, none⟩)) ∧ w' = w.alloc (.cells #[.slice none 0 0, .map none, .int .i64 0] 100) := by
  go_enter Try.func23, Try.ntmps23
  go_wp2
  go_ret
  exact ⟨rfl, rfl⟩
theorem hh_new (w : World) : Hp.Hh (Only w.heap.size) (w.alloc (.cells #[.slice none 0 0, .map none, .int .i64 0] 100)) w.heap.size [] 0 :=
  ⟨.inl ⟨rfl, al_at _ rfl, rfl⟩, Hp.HP.nil, fun x hx => by simp at hx, by simp [Hp.Nn], fun q e => by have e1 : q = w.heap.size := e; rw [e1]; simp⟩
/-- timers in which there is none -/
def d0 (n : Nat) : Dt := ⟨n, n + 1, n + 2, n + 3, [], [], 0, 0, [], 0, [], 0⟩
theorem new_tm (w : World) : Tm (Ta (w.heap.size + 4) (Only w.heap.size) (Only (w.heap.size + 1)) (d0 w.heap.size)) (((((w.alloc (.cells #[.slice none 0 0, .map none, .int .i64 0] 100)).alloc (.cells #[.slice none 0 0, .map none, .int .i64 0] 100)).alloc (.map #[] 0)).alloc (.map #[] 0)).alloc (.cells #[.int .i64 0, .pointer (some ⟨w.heap.size, 0, none⟩), .pointer (some ⟨w.heap.size + 1, 0, none⟩), .map (some (w.heap.size + 2)), .map (some (w.heap.size + 3))] 69)) (w.heap.size + 4) 0 [] 0 := by
  have h1 := hh_new w
  obtain ⟨W1, e1⟩ : ∃ W, W = w.alloc (.cells #[.slice none 0 0, .map none, .int .i64 0] 100) := ⟨_, rfl⟩
  have s1 : W1.heap.size = w.heap.size + 1 := by rw [e1]; simp
  rw [← e1] at h1 ⊢
  have h2 := hh_new W1
  rw [s1] at h2
  obtain ⟨W2, e2⟩ : ∃ W, W = W1.alloc (.cells #[.slice none 0 0, .map none, .int .i64 0] 100) := ⟨_, rfl⟩
  have s2 : W2.heap.size = w.heap.size + 2 := by rw [e2]; simp; omega
  have g2 : Gr W1 W2 := by rw [e2]; exact Ch.alloc (Gr.refl _) _
  rw [← e2] at h2 ⊢
  have g5 : ∀ o, Gr W2 (((W2.alloc (.map #[] 0)).alloc (.map #[] 0)).alloc o) := fun o => Ch.alloc (Ch.alloc (Ch.alloc (Gr.refl _) _) _) _
  refine ⟨Only w.heap.size, Only (w.heap.size + 1), d0 w.heap.size, ⟨al_at _ (by simp; omega), (h1.still g2).still (g5 _), h2.still (g5 _), ?_, ?_, ?_, ?_, ?_, ?_, ?_, ?_, ?_, ?_, ?_, ?_⟩, ⟨⟨[], [], Ord.nil, List.Perm.refl _, List.Perm.refl _, List.Perm.refl _⟩, List.Perm.refl _, by simp [Uid], by simp [Ugs], (fun t ht => by simp at ht), (fun e he => by simp [d0] at he), by simp [d0]⟩, fun q => Iff.rfl, ⟨Int.le_refl _, Int.le_refl _⟩, Int.le_refl _, Int.le_refl _⟩
  · exact al_blk (al_blk (al_at (w := W2) (.map #[] 0) s2.symm) _) _
  · exact al_blk (al_at (w := W2.alloc (.map #[] 0)) (.map #[] 0) (show w.heap.size + 3 = _ by simp; omega)) _
  all_goals first | (intro q e e2; simp only [Only] at e e2; omega) | (intro e; simp only [Only, d0] at e; omega) | (intro e; have e1 : w.heap.size + 4 = w.heap.size + 2 := e; omega) | (intro e; have e1 : w.heap.size + 4 = w.heap.size + 3 := e; omega) | (intro e; have e1 : w.heap.size + 2 = w.heap.size + 3 := e; omega)
set_option maxHeartbeats 4000000 in
theorem new_any (w : World) : Calls Try.prog 9 #[] w fun e w' => ∃ b T, e = .returned (.pointer (some ⟨b, 0, none⟩)) ∧ Tm T w' b 0 [] 0 ∧ Gr w w' ∧ (∀ q, T q → w.heap.size ≤ q) := by
  have hmm := @run_makeMap Try.prog
  have HN := hid (new_tm w)
  go_enter Try.func9, Try.ntmps9
  go_wp2_with (go_at_call 23; refine (heap_new _).mono ?_; rintro e w1 ⟨rfl, hw⟩; subst hw)
  go_ret
  refine ⟨_, _, rfl, HN.out, Ch.alloc (Ch.alloc (Ch.alloc (Ch.alloc (Ch.alloc (Gr.refl _) _) _) _) _) _, ?_⟩
  rintro q (e | e | e | e | e) <;> (try simp only [Only, d0] at e) <;> omega
end Go.Proofs.Ytgkapopkjgljjaa.Lt
