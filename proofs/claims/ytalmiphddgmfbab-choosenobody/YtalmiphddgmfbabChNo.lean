/-
  What ChooseNobody of the statements answers: true, at any select. Conditions: draws are as great as they can be, a list is not too long.
-/
import Derived.Test.YtalmiphddgmfbabChSe
import Derived.Test.YtalmiphddgmfbabChOrd
namespace Go.Proofs.Ytalmiphddgmfbab.Lt
open Go.RowKit Wd
attribute [local go_sem ↓] Go.wp_at_zero Go.wp_at_succ

theorem goes_nobody (ch : Int) (sd : Bool) (w : World) : Calls Try.prog 9 #[.pointer none, .int .i64 ch, .bool sd] w fun e w' => e = .returned (.tuple #[.bool false, .int .i64 4]) ∧ Gr w w' := by
  have HF := hid (find_nobody ch w)
  go_enter Try.func9, Try.ntmps9
  go_wp2_with (go_at_call 26; refine HF.out.mono ?_; rintro e w1 ⟨rfl, hw⟩; obtain rfl := hw.symm; clear hw)
  exact bodyPost_ret (v := .tuple #[.bool false, .int .i64 4]) (by simp [results, Try.results9, go_sem]) rfl ⟨rfl, Gr.refl _⟩
theorem goa_nobody (w : World) : GoA (.pointer none) w (fun _ _ => false) (fun _ => 4) := fun W _ ch sd => goes_nobody ch sd W
set_option maxRecDepth 20000 in
set_option maxHeartbeats 4000000 in
theorem nobody_law (s g : Int) (P Q : Nat → Prop) (vp : Value) (df : Bool) (vd : Value) (ps : List Pk) (ds : List Int) (w : World) (h : Ls eP P w vp ps) (k : Ls eU Q w vd ds) (hd : Dok ds) : Calls Try.prog 5 #[.agg #[.int .i64 s, .int .i64 g, vp, .bool df, vd]] w fun e w' => e = .returned (.bool true) ∧ Gr w w' := by
  obtain ⟨ao, cap, rfl⟩ := h.form
  obtain ⟨bo, cbp, rfl⟩ := k.form
  obtain ⟨n, hn⟩ : ∃ n, n = ps.length := ⟨_, rfl⟩
  obtain ⟨m, hm⟩ : ∃ n, n = ds.length := ⟨_, rfl⟩
  rw [← hn] at h ⊢
  rw [← hm] at k ⊢
  have G0 := hid (show Gr w (w.alloc (.cells #[.int .i64 s, .int .i64 g, .slice ao n cap, .bool df, .slice bo m cbp] 28)) from Ch.alloc (Gr.refl w) _)
  have B0 := hid (show (w.alloc (.cells #[.int .i64 s, .int .i64 g, .slice ao n cap, .bool df, .slice bo m cbp] 28)).heap[w.heap.size]? = some (.cells #[.int .i64 s, .int .i64 g, .slice ao n cap, .bool df, .slice bo m cbp] 28 (0, 0)) from (MapKept.heap_alloc w _).1)
  by_cases h1 : 16 < n
  · have HSEL : ∀ W, Gr w W → Calls Try.prog 11 #[.pointer none, .agg #[.int .i64 s, .int .i64 g], .slice ao n cap, .bool df, .slice bo m cbp] W fun e w' => e = .returned (.tuple #[.agg #[.int .i64 (-1), .bool false, .bool false, .int .i64 0, .bool false, .int .i64 0, .slice none 0 0], .int .i64 1]) ∧ Gr W w' := fun W p => sel_err none ao n cap df _ (by omega) (fun W' p' => order_arg _ _ W' (by omega))
    have d1 : (16 : Int) < (n : Int) := by omega
    clear h k hd hn hm h1
    have HS := hid (HSEL _ G0.out)
    clear HSEL
    go_enter Try.func5, Try.ntmps5
    go_wp2_with (first
      | (go_at_call 11; refine HS.out.mono ?_; rintro e w1 ⟨rfl, g1⟩; have b1 := gr_blk B0.out g1; have p2 := cell_of b1 2; have p3 := cell_of b1 3; have p4 := cell_of b1 4; simp at p2 p3 p4; have l1 := lt_of_block b1; have G1 := hid (Gr.trans G0.out g1); clear b1 g1))
    go_ret
    exact ⟨rfl, Ch.alloc G1.out _⟩
  have d1 : ¬ (16 : Int) < (n : Int) := by omega
  by_cases h2 : m < n
  · have HSEL : ∀ W, Gr w W → Calls Try.prog 11 #[.pointer none, .agg #[.int .i64 s, .int .i64 g], .slice ao n cap, .bool df, .slice bo m cbp] W fun e w' => e = .returned (.tuple #[.agg #[.int .i64 (-1), .bool false, .bool false, .int .i64 0, .bool false, .int .i64 0, .slice none 0 0], .int .i64 120]) ∧ Gr W w' := fun W p => sel_err none ao n cap df _ (by omega) (fun W' p' => order_few n m cbp bo W' (by omega) h2)
    have d2 : (m : Int) < (n : Int) := by omega
    clear h k hd hn hm h1 h2
    have HS := hid (HSEL _ G0.out)
    clear HSEL
    go_enter Try.func5, Try.ntmps5
    go_wp2_with (first
      | (go_at_call 11; refine HS.out.mono ?_; rintro e w1 ⟨rfl, g1⟩; have b1 := gr_blk B0.out g1; have p2 := cell_of b1 2; have p3 := cell_of b1 3; have p4 := cell_of b1 4; simp at p2 p3 p4; have l1 := lt_of_block b1; have G1 := hid (Gr.trans G0.out g1); clear b1 g1))
    go_ret
    exact ⟨rfl, Ch.alloc G1.out _⟩
  have d2 : ¬ (m : Int) < (n : Int) := by omega
  have hO : ∀ W, Gr w W → Calls Try.prog 16 #[.int .i64 (n : Int), .slice bo m cbp] W (OrR W n (ord (ds.take n))) := fun W p => order_ok Q W bo m cbp ds n (k.gr p) hd (by omega) (by omega)
  by_cases h3 : 0 < n
  · have hA : ps.all (fun _ => (4 : Int) == 0) = false := by
      rw [List.all_eq_false]
      cases ps with
      | nil => simp at hn; omega
      | cons x r => exact ⟨x, List.mem_cons_self, by simp⟩
    have HSEL : ∀ W, Gr w W → Calls Try.prog 11 #[.pointer none, .agg #[.int .i64 s, .int .i64 g], .slice ao n cap, .bool df, .slice bo m cbp] W fun e w' => e = .returned (.tuple #[.agg #[.int .i64 (-1), .bool false, .bool false, .int .i64 0, .bool false, .int .i64 4, .slice none 0 0], .int .i64 0]) ∧ Gr W w' := fun W p => sel_trap none ao n cap df _ _ (fun W' p' => hO W' (Gr.trans p p')) (fun W' _ => waits_nil W' s g) (fun W' p' => by have := chall_any none P W' ao n cap ps _ _ (h.gr (Gr.trans p p')) (by omega) (goa_nobody W'); rw [hA] at this; exact this)
    have d3 : (0 : Int) < (n : Int) := by omega
    have d4 := h3
    clear h k hd hn hm h1 h2 h3 hA hO
    have HS := hid (HSEL _ G0.out)
    clear HSEL
    go_enter Try.func5, Try.ntmps5
    go_wp2_with (first
      | (go_at_call 11; refine HS.out.mono ?_; rintro e w1 ⟨rfl, g1⟩; have b1 := gr_blk B0.out g1; have p2 := cell_of b1 2; have p3 := cell_of b1 3; have p4 := cell_of b1 4; simp at p2 p3 p4; have l1 := lt_of_block b1; have G1 := hid (Gr.trans G0.out g1); clear b1 g1))
    go_ret
    exact ⟨rfl, Ch.alloc G1.out _⟩
  obtain rfl : n = 0 := by omega
  have hps : ps = [] := List.eq_nil_of_length_eq_zero hn.symm
  have hF : ∀ W, Gr w W → ∀ oo co, Ls eI (fun q => w.heap.size ≤ q) W (.slice oo 0 co) (ord (ds.take 0)) → Calls Try.prog 29 #[.pointer none, .slice ao 0 cap, .slice oo 0 co] W fun e w' => e = .returned (.int .i64 (-1)) ∧ Gr W w' := fun W p oo co l => first_any none P _ W ao 0 cap ps oo 0 co [] _ _ (h.gr p) l (by omega) (by intro o ho; cases ho) (goa_nobody W)
  have hC : ∀ W, Gr w W → Calls Try.prog 28 #[.pointer none, .slice ao 0 cap] W fun e w' => e = .returned (.bool true) ∧ Gr W w' := fun W p => by
    have := chall_any none P W ao 0 cap ps _ _ (h.gr p) (by omega) (goa_nobody W)
    rw [hps] at this
    exact this
  cases df with
  | true =>
    have HSEL : ∀ W, Gr w W → Calls Try.prog 11 #[.pointer none, .agg #[.int .i64 s, .int .i64 g], .slice ao 0 cap, .bool true, .slice bo m cbp] W fun e w' => e = .returned (.tuple #[.agg #[.int .i64 (-1), .bool true, .bool false, .int .i64 0, .bool false, .int .i64 0, .slice none 0 0], .int .i64 0]) ∧ Gr W w' := fun W p => sel_def none ao 0 cap _ _ (fun W' p' => hO W' (Gr.trans p p')) (fun W' _ => waits_nil W' s g) (fun W' p' => hC W' (Gr.trans p p')) (fun W' p' oo co l => hF W' (Gr.trans p p') oo co (l.mono (fun q _ hq => Nat.le_trans p.size hq)))
    clear h k hd hn hm h1 h2 h3 hps hF hC hO
    have HS := hid (HSEL _ G0.out)
    clear HSEL
    go_enter Try.func5, Try.ntmps5
    go_wp2_with (first
      | (go_at_call 11; refine HS.out.mono ?_; rintro e w1 ⟨rfl, g1⟩; have b1 := gr_blk B0.out g1; have p2 := cell_of b1 2; have p3 := cell_of b1 3; have p4 := cell_of b1 4; simp at p2 p3 p4; have l1 := lt_of_block b1; have G1 := hid (Gr.trans G0.out g1); clear b1 g1))
    go_ret
    exact ⟨rfl, Ch.alloc G1.out _⟩
  | false =>
    have HSEL : ∀ W, Gr w W → Calls Try.prog 11 #[.pointer none, .agg #[.int .i64 s, .int .i64 g], .slice ao 0 cap, .bool false, .slice bo m cbp] W fun e w' => e = .returned (.tuple #[.agg #[.int .i64 (-1), .bool false, .bool true, .int .i64 0, .bool false, .int .i64 0, .slice none 0 0], .int .i64 0]) ∧ Gr W w' := fun W p => sel_none none ao 0 cap _ _ (fun W' p' => hO W' (Gr.trans p p')) (fun W' _ => waits_nil W' s g) (fun W' p' => hC W' (Gr.trans p p')) (fun W' p' oo co l => hF W' (Gr.trans p p') oo co (l.mono (fun q _ hq => Nat.le_trans p.size hq))) (fun W' _ => wait_none none ao cap s g W')
    clear h k hd hn hm h1 h2 h3 hps hF hC hO
    have HS := hid (HSEL _ G0.out)
    clear HSEL
    go_enter Try.func5, Try.ntmps5
    go_wp2_with (first
      | (go_at_call 11; refine HS.out.mono ?_; rintro e w1 ⟨rfl, g1⟩; have b1 := gr_blk B0.out g1; have p2 := cell_of b1 2; have p3 := cell_of b1 3; have p4 := cell_of b1 4; simp at p2 p3 p4; have l1 := lt_of_block b1; have G1 := hid (Gr.trans G0.out g1); clear b1 g1))
    go_ret
    exact ⟨rfl, Ch.alloc G1.out _⟩
end Go.Proofs.Ytalmiphddgmfbab.Lt
