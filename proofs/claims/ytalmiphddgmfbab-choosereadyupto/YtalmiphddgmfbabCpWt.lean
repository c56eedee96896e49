/-
  What the program's Waits, refuses, Len and Cap of layer 11 answer. Condition: a goroutine's numbers are ints.
-/
import Derived.Test.YtalmiphddgmfbabCpSm
namespace Go.Proofs.Ytalmiphddgmfbab.Lt
open Go.RowKit Wd
attribute [local go_sem ↓] Go.wp_at_zero Go.wp_at_succ

/-- what a goroutine has in the map: as many as its places -/
theorem Pm.look {t : Nat → Tg} {w : World} {k : Nat} {M : List Me} {clock : Nat} {cs : List Cn} {s g : Int} (h : Pm t w k M clock cs) (hk : Gok s g) : ∃ (ao : Option Addr) (n cap : Nat), n = pls cs s g ∧ ∀ W, MAt W k M clock → (Instr.lookup 72 (.map (some k)) (.agg #[.int .i64 s, .int .i64 g]) false).run Try.prog W = .ok (.slice ao n cap) W := by
  rcases look_G h.at_ h.ok hk with ⟨_, hn⟩ | ⟨j, v, b, _, hj⟩
  · refine ⟨none, 0, 0, (h.no s g hn).symm, fun W hW => ?_⟩
    rcases look_G hW h.ok hk with ⟨h1, _⟩ | ⟨j, v, b, _, hj⟩
    · exact h1
    · exact (hn _ (List.mem_of_getElem? hj) ⟨rfl, rfl⟩).elim
  · obtain ⟨hs, h1, _, h3⟩ := h.f _ (List.mem_of_getElem? hj)
    obtain ⟨ao, cap, e⟩ := h1.form
    refine ⟨ao, hs.length, cap, by rw [h3.length_eq, plA_len], fun W hW => ?_⟩
    rcases look_G hW h.ok hk with ⟨_, hn⟩ | ⟨j', v', b', h4, hj'⟩
    · exact (hn _ (List.mem_of_getElem? hj) ⟨rfl, rfl⟩).elim
    · have ej := oneG h.one hj hj' ⟨rfl, rfl⟩
      subst ej
      rw [hj] at hj'
      simp only [Option.some.injEq, Me.mk.injEq, true_and] at hj'
      rw [← hj'.1] at h4
      dsimp only at e
      rw [e] at h4
      exact h4
structure Sw (w : World) (b : Nat) (v : Value) (k : Nat) (M : List Me) (clock : Nat) (s g : Int) (W : World) : Prop where
  me : W.heap[b]? = some (.cells #[v, .map (some k)] 74 (0, 0))
  m : MAt W k M clock
  bx : W.heap[w.heap.size]? = some (.cells #[.int .i64 s, .int .i64 g] 24 (0, 0))
  g : Gr w W
set_option maxRecDepth 20000 in
set_option maxHeartbeats 2000000 in
theorem waits_core {t : Nat → Tg} {w : World} {b k : Nat} {v : Value} {M : List Me} {clock : Nat} {cs : List Cn} {s g : Int} (hme : w.heap[b]? = some (.cells #[v, .map (some k)] 74 (0, 0))) (hmp : Pm t w k M clock cs) (hk : Gok s g) : Calls Try.prog 10 #[.pointer (some ⟨b, 0, none⟩), (.agg #[.int .i64 s, .int .i64 g])] w fun e w' => e = .returned (.bool (decide (0 < pls cs s g))) ∧ Gr w w' := by
  obtain ⟨ao, n, cap, hn, hL⟩ := hmp.look hk
  have LK := hid hL
  have HG := hid (fun (W : World) (p : W.heap[b]? = some (.cells #[v, .map (some k)] 74 (0, 0))) => given_any p)
  have hS0 : Sw w b v k M clock s g (World.drew (w.alloc (.cells #[.int .i64 s, .int .i64 g] 24))) := ⟨al_blk hme _, al_blk hmp.at_ _, (MapKept.heap_alloc w _).1, Ch.drew (Ch.alloc (Gr.refl w) _)⟩
  rw [← hn]
  clear hn hL hme hmp hk
  go_enter Try.func10, Try.ntmps10
  go_wp2_with fail
  refine wp_region_held_drew (S := Sw w b v k M clock s g) (by kernel_rfl) (by exact hS0) (fun _ => ?_)
  generalize World.drew (w.alloc (.cells #[.int .i64 s, .int .i64 g] 24)) = V0 at hS0 ⊢
  refine takeS_on (i := 0) 5 (v := ?v1) rfl rfl (by kernel_rfl) (by kernel_rfl) (by kernel_rfl) (fun _ _ _ h => h) (by kernel_rfl) ?hy1 (by exact hS0) ?_
  case hy1 => (intro w' hSw; go_simp; try (with_reducible rfl))
  simp only [Act.put, List.setIfInBounds_toArray, List.set_cons_zero, List.set_cons_succ]
  refine wpAnyH_ready (rs := [1]) (by kernel_rfl) (by simp) (AllReadyH.cons rfl (fun K hK => ?_) AllReadyH.nil)
  go_simp
  refine (HG.out _ hS0.me).mono ?_
  rintro e w1 ⟨rfl, hw⟩
  subst hw
  refine hK.out _ _ (by exact hS0) (fun _ => ?_)
  clear hK K
  refine takeS_on (i := 2) 7 (v := ?v2) rfl rfl (by kernel_rfl) (by kernel_rfl) (by kernel_rfl) (fun _ _ _ h => h) (by kernel_rfl) ?hy2 (by exact hS0) ?_
  case hy2 => (intro w' hSw; go_simp; try (with_reducible rfl))
  simp only [Act.put, List.setIfInBounds_toArray, List.set_cons_zero, List.set_cons_succ]
  refine takeS_on (i := 3) 8 (v := ?v3) rfl rfl (by kernel_rfl) (by kernel_rfl) (by kernel_rfl) (fun _ _ _ h => h) (by kernel_rfl) ?hy3 (by exact hS0) ?_
  case hy3 => (intro w' hSw; go_simp; try (with_reducible rfl))
  simp only [Act.put, List.setIfInBounds_toArray, List.set_cons_zero, List.set_cons_succ]
  refine takeS_on (i := 4) 9 (v := ?v4) rfl rfl (by kernel_rfl) (by kernel_rfl) (by kernel_rfl) (fun _ _ _ h => h) (by kernel_rfl) ?hy4 (by exact hS0) ?_
  case hy4 => (intro w' hSw; go_simp; try (with_reducible rfl))
  simp only [Act.put, List.setIfInBounds_toArray, List.set_cons_zero, List.set_cons_succ]
  refine takeS_on (i := 5) 10 (v := ?v5) rfl rfl (by kernel_rfl) (by kernel_rfl) (by kernel_rfl) (fun _ _ _ h => h) (by kernel_rfl) ?hy5 (by exact hS0) ?_
  case hy5 => (intro w' hSw; go_simp; try (with_reducible rfl))
  simp only [Act.put, List.setIfInBounds_toArray, List.set_cons_zero, List.set_cons_succ]
  refine takeS_on (i := 6) 11 (v := ?v6) rfl rfl (by kernel_rfl) (by kernel_rfl) (by kernel_rfl) (fun _ _ _ h => h) (by kernel_rfl) ?hy6 (by exact hS0) ?_
  case hy6 => (intro w' hSw; have c1 := cell_of hSw.me 1; simp at c1; go_simp; try (with_reducible rfl))
  simp only [Act.put, List.setIfInBounds_toArray, List.set_cons_zero, List.set_cons_succ]
  refine takeS_on (i := 7) 12 (v := ?v7) rfl rfl (by kernel_rfl) (by kernel_rfl) (by kernel_rfl) (fun _ _ _ h => h) (by kernel_rfl) ?hy7 (by exact hS0) ?_
  case hy7 => (intro w' hSw; refine Eq.trans (exec_row 24 (.tmp 3) rfl _ rfl _ _ _ _ hSw.bx Try.underlying24 rfl gid_size) ?_; with_reducible rfl)
  simp only [Act.put, List.setIfInBounds_toArray, List.set_cons_zero, List.set_cons_succ]
  refine takeS_on (i := 8) 13 (v := ?v8) rfl rfl (by kernel_rfl) (by kernel_rfl) (by kernel_rfl) (fun _ _ _ h => h) (by kernel_rfl) ?hy8 (by exact hS0) ?_
  case hy8 => (intro w' hSw; have hl := LK.out w' hSw.m; go_simp; try (with_reducible rfl))
  simp only [Act.put, List.setIfInBounds_toArray, List.set_cons_zero, List.set_cons_succ]
  refine takeS_on (i := 9) 14 (v := ?v9) rfl rfl (by kernel_rfl) (by kernel_rfl) (by kernel_rfl) (fun _ _ _ h => h) (by kernel_rfl) ?hy9 (by exact hS0) ?_
  case hy9 => (intro w' hSw; go_simp; try (with_reducible rfl))
  simp only [Act.put, List.setIfInBounds_toArray, List.set_cons_zero, List.set_cons_succ]
  refine takeS_on (i := 10) 15 (v := ?v10) rfl rfl (by kernel_rfl) (by kernel_rfl) (by kernel_rfl) (fun _ _ _ h => h) (by kernel_rfl) ?hy10 (by exact hS0) ?_
  case hy10 => (intro w' hSw; go_simp; try (with_reducible rfl))
  simp only [Act.put, List.setIfInBounds_toArray, List.set_cons_zero, List.set_cons_succ]
  refine takeS_on (i := 11) 16 (v := ?v11) rfl rfl (by kernel_rfl) (by kernel_rfl) (by kernel_rfl) (fun _ _ _ h => h) (by kernel_rfl) ?hy11 (by exact hS0) ?_
  case hy11 => (intro w' hSw; go_simp; try (with_reducible rfl))
  simp only [Act.put, List.setIfInBounds_toArray, List.set_cons_zero, List.set_cons_succ]
  refine takeS_on (i := 12) 4 (v := ?v12) rfl rfl (by kernel_rfl) (by kernel_rfl) (by kernel_rfl) (fun _ _ _ h => h) (by kernel_rfl) ?hy12 (by exact hS0) ?_
  case hy12 => (intro w' hSw; go_simp; try (with_reducible rfl))
  simp only [Act.put, List.setIfInBounds_toArray, List.set_cons_zero, List.set_cons_succ]
  refine wpAnyH_done (by kernel_rfl) ?_ _
  go_wp2
  go_ret
  exact ⟨rfl, hS0.g⟩
theorem waits_any {t : Nat → Tg} {w : World} {b : Nat} {cs : List Cn} {s g : Int} (h : Cs t w b cs) (hk : Gok s g) : Calls Try.prog 10 #[.pointer (some ⟨b, 0, none⟩), (.agg #[.int .i64 s, .int .i64 g])] w fun e w' => e = .returned (.bool (decide (0 < pls cs s g))) ∧ Gr w w' := by
  obtain ⟨k, v, xs, M, clock, h⟩ := h
  exact waits_core h.me h.mp hk
theorem waits_nil (w : World) (s g : Int) : Calls Try.prog 10 #[.pointer none, (.agg #[.int .i64 s, .int .i64 g])] w fun e w' => e = .returned (.bool false) ∧ Gr w w' := by
  go_enter Try.func10, Try.ntmps10
  go_wp2_with fail
  refine wp_region_any (by kernel_rfl) ?_
  change wpAny _ _ _ _ _ _ _ (World.drew _)
  refine take_on (i := 0) 5 (v := ?v1) rfl rfl (by kernel_rfl) (by kernel_rfl) (by kernel_rfl) (fun _ _ _ h => h) (by kernel_rfl) ?hy1 ?_
  case hy1 => (intro w; go_simp; try (with_reducible rfl))
  simp only [Act.put, List.setIfInBounds_toArray, List.set_cons_zero, List.set_cons_succ]
  refine wpAny_ready (rs := [1]) (by kernel_rfl) (by simp) (AllReady.cons rfl (fun K hK => ?_) AllReady.nil)
  go_simp
  refine (given_nil _).mono ?_
  rintro e w1 ⟨rfl, hw⟩
  subst hw
  refine hK _ _ ?_
  clear hK K
  refine take_on (i := 2) 7 (v := ?v2) rfl rfl (by kernel_rfl) (by kernel_rfl) (by kernel_rfl) (fun _ _ _ h => h) (by kernel_rfl) ?hy2 ?_
  case hy2 => (intro w; go_simp; try (with_reducible rfl))
  simp only [Act.put, List.setIfInBounds_toArray, List.set_cons_zero, List.set_cons_succ]
  refine skip_on (i := 3) 8 rfl rfl (by kernel_rfl) (by kernel_rfl) (by kernel_rfl) (fun _ _ _ h => h) (by kernel_rfl) ?_
  simp only [Act.put, List.setIfInBounds_toArray, List.set_cons_zero, List.set_cons_succ]
  refine skip_on (i := 4) 9 rfl rfl (by kernel_rfl) (by kernel_rfl) (by kernel_rfl) (fun _ _ _ h => h) (by kernel_rfl) ?_
  simp only [Act.put, List.setIfInBounds_toArray, List.set_cons_zero, List.set_cons_succ]
  refine skip_on (i := 5) 10 rfl rfl (by kernel_rfl) (by kernel_rfl) (by kernel_rfl) (fun _ _ _ h => h) (by kernel_rfl) ?_
  simp only [Act.put, List.setIfInBounds_toArray, List.set_cons_zero, List.set_cons_succ]
  refine skip_on (i := 6) 11 rfl rfl (by kernel_rfl) (by kernel_rfl) (by kernel_rfl) (fun _ _ _ h => h) (by kernel_rfl) ?_
  simp only [Act.put, List.setIfInBounds_toArray, List.set_cons_zero, List.set_cons_succ]
  refine skip_on (i := 7) 12 rfl rfl (by kernel_rfl) (by kernel_rfl) (by kernel_rfl) (fun _ _ _ h => h) (by kernel_rfl) ?_
  simp only [Act.put, List.setIfInBounds_toArray, List.set_cons_zero, List.set_cons_succ]
  refine skip_on (i := 8) 13 rfl rfl (by kernel_rfl) (by kernel_rfl) (by kernel_rfl) (fun _ _ _ h => h) (by kernel_rfl) ?_
  simp only [Act.put, List.setIfInBounds_toArray, List.set_cons_zero, List.set_cons_succ]
  refine skip_on (i := 9) 14 rfl rfl (by kernel_rfl) (by kernel_rfl) (by kernel_rfl) (fun _ _ _ h => h) (by kernel_rfl) ?_
  simp only [Act.put, List.setIfInBounds_toArray, List.set_cons_zero, List.set_cons_succ]
  refine skip_on (i := 10) 15 rfl rfl (by kernel_rfl) (by kernel_rfl) (by kernel_rfl) (fun _ _ _ h => h) (by kernel_rfl) ?_
  simp only [Act.put, List.setIfInBounds_toArray, List.set_cons_zero, List.set_cons_succ]
  refine take_on (i := 11) 16 (v := ?v11) rfl rfl (by kernel_rfl) (by kernel_rfl) (by kernel_rfl) (fun _ _ _ h => h) (by kernel_rfl) ?hy11 ?_
  case hy11 => (intro w; go_simp; try (with_reducible rfl))
  simp only [Act.put, List.setIfInBounds_toArray, List.set_cons_zero, List.set_cons_succ]
  refine take_on (i := 12) 4 (v := ?v12) rfl rfl (by kernel_rfl) (by kernel_rfl) (by kernel_rfl) (fun _ _ _ h => h) (by kernel_rfl) ?hy12 ?_
  case hy12 => (intro w; go_simp; try (with_reducible rfl))
  simp only [Act.put, List.setIfInBounds_toArray, List.set_cons_zero, List.set_cons_succ]
  refine wpAny_done (by kernel_rfl) ?_ _
  go_wp2
  go_ret
  exact ⟨rfl, Ch.drew (Ch.alloc (Gr.refl w) _)⟩
theorem refuses_any {t : Nat → Tg} {w : World} {b : Nat} {cs : List Cn} {s g : Int} (h : Cs t w b cs) (hk : Gok s g) : Calls Try.prog 61 #[.pointer (some ⟨b, 0, none⟩), (.agg #[.int .i64 s, .int .i64 g])] w fun e w' => e = .returned (.int .i64 (if 0 < pls cs s g then 111 else 0)) ∧ Gr w w' := by
  have HW := hid (fun (W : World) (p : Gr w W) => waits_any (h.gr p) hk)
  obtain ⟨k, v, xs, M, clock, h⟩ := h
  have HG := hid (given_any (al_blk h.me (.cells #[.int .i64 s, .int .i64 g] 24)))
  have G0 := hid (show Gr w (w.alloc (.cells #[.int .i64 s, .int .i64 g] 24)) from Ch.alloc (Gr.refl w) _)
  have BX : (w.alloc (.cells #[.int .i64 s, .int .i64 g] 24)).heap[w.heap.size]? = some (.cells #[.int .i64 s, .int .i64 g] 24 (0, 0)) := (MapKept.heap_alloc w _).1
  clear h hk
  by_cases hp : 0 < pls cs s g
  · have e1 : decide (0 < pls cs s g) = true := decide_eq_true hp
    rw [if_pos hp]
    rw [e1] at HW
    clear hp e1
    go_enter Try.func61, Try.ntmps61
    go_wp2_with (first
      | (go_at_call 27; refine HG.out.mono ?_; rintro e w1 ⟨rfl, hw⟩; subst hw)
      | (go_at_call 10; refine (HW.out _ G0.out).mono ?_; rintro e w2 ⟨rfl, g2⟩; have G2 := hid (Gr.trans G0.out g2); clear g2))
    go_ret
    exact ⟨rfl, G2.out⟩
  · have e1 : decide (0 < pls cs s g) = false := decide_eq_false hp
    rw [if_neg hp]
    rw [e1] at HW
    clear hp e1
    go_enter Try.func61, Try.ntmps61
    go_wp2_with (first
      | (go_at_call 27; refine HG.out.mono ?_; rintro e w1 ⟨rfl, hw⟩; subst hw)
      | (go_at_call 10; refine (HW.out _ G0.out).mono ?_; rintro e w2 ⟨rfl, g2⟩; have G2 := hid (Gr.trans G0.out g2); clear g2))
    go_ret
    exact ⟨rfl, G2.out⟩
end Go.Proofs.Ytalmiphddgmfbab.Lt
