/-
  What the program's of and New answer and leave. Condition: the lists are not too long.
-/
import Derived.Test.YtnpbehcfbceclaaPoFn
namespace Go.Proofs.Ytnpbehcfbceclaa.Lt
open Go.RowKit Wd
attribute [local go_sem ↓] Go.wp_at_zero Go.wp_at_succ
set_option maxRecDepth 20000

/-- a new port: where it lies, and that nothing else has turned -/
def Made (w : World) (p : Nat) (x : Pt) (w' : World) : Prop := Pm (fun g => w.heap.size ≤ g ∧ g < w'.heap.size) w' p x ∧ Gr w w'
theorem Made.of {w w' : World} {k p : Nat} {vo vi : Value} {x : Pt} (hp : w'.heap[p]? = some (.cells #[faceP x.q k] 63 (0, 0))) (hk : w'.heap[k]? = some (cellsP x vo vi)) (ho : Ow eI 1 2 w.heap.size w' vo x.out) (hi : Ow eG 2 59 w.heap.size w' vi x.inn) (hpl : w.heap.size ≤ p) (hkl : w.heap.size ≤ k) (g : Gr w w') : Made w p x w' :=
  ⟨⟨fun _ e => e.2, ⟨hpl, lt_of_block hp⟩, k, vo, vi, hp, hk, ho.lower (Nat.zero_le _), hi.lower (Nat.zero_le _), ⟨hkl, lt_of_block hk⟩, fun _ e => ho.blk e, fun _ e => hi.blk e⟩, g⟩
theorem own_one2 {α β : Type} {e1 : α → List Value} {e2 : β → List Value} {K1 K2 t1 t2 b1 b2 : Nat} {w1 w2 : World} {v1 v2 : Value} {xs : List α} {ys : List β} (h1 : Ow e1 K1 t1 b1 w1 v1 xs) (h2 : Ow e2 K2 t2 b2 w2 v2 ys) : (#[v1, v2] : Array Value).all (·.oneCell') = true := by
  obtain ⟨a, c, rfl⟩ := h1.form
  obtain ⟨a', c', rfl⟩ := h2.form
  simp [Value.oneCell']
set_option maxHeartbeats 4000000 in
theorem of_any {P Q : Nat → Prop} (w : World) (x : Pt) (vo vi : Value) (h1 : Ls eI P w vo x.out) (h2 : Ls eG Q w vi x.inn) (hn1 : x.out.length ≤ 1048576) (hn2 : x.inn.length ≤ 1048576) :
    Calls Try.prog 24 #[.agg #[.bool x.q, .int .i64 (x.cap : Nat), vo, vi, .int .i64 (x.lost : Nat)]] w fun e w' => ∃ p, e = .returned (.pointer (some ⟨p, 0, none⟩)) ∧ Made w p x w' := by
  have H1 := hid h1
  have H2 := hid h2
  have HN1 := hid hn1
  have HN2 := hid hn2
  obtain ⟨a1, c1, rfl⟩ := h1.form
  obtain ⟨a2, c2, rfl⟩ := h2.form
  clear h1 h2 hn1 hn2
  obtain ⟨q, cap, xs, ys, lost⟩ := x
  dsimp only at H1 H2 HN1 HN2 ⊢
  generalize hm1 : xs.length = n1 at *
  generalize hm2 : ys.length = n2 at *
  have HM1 := hid hm1
  have HM2 := hid hm2
  clear hm1 hm2
  have HF := hid (fun W => kept_any W (.slice a1 n1 c1) (.slice a2 n2 c2) xs ys (P := P) (Q := Q))
  cases q
  · go_enter Try.func24, Try.ntmps24
    go_wp2_with (first
      | (go_at_call 30; refine (HF.out _ (H1.out.alloc _) (H2.out.alloc _) (by rw [HM1.out]; exact HN1.out) (by rw [HM2.out]; exact HN2.out)).mono ?_; rintro e w1 ⟨v1, v2, rfl, o1, o2, g1⟩
         have B0 := hid (gr_blk (al_at (w := w) _ rfl) g1); have O1 := hid o1; have O2 := hid o2; have G1 := hid (Gr.trans (Ch.alloc (Gr.refl w) _) g1); have L1 := hid (show w.heap.size ≤ (w.alloc (.cells #[.bool false, .int .i64 (cap : Nat), .slice a1 n1 c1, .slice a2 n2 c2, .int .i64 (lost : Nat)] 32)).heap.size from by simp)
         clear o1 o2 g1)
      | (refine st_row rfl 66 (.tmp 3) (.tmp 8) rfl w1.heap.size _ rfl rfl _ _ (al_at _ rfl) kpt_size rfl (own_one2 O1.out O2.out) ?_; intro w9 b9 k9
         have b1 := ch_blk (al_blk B0.out _) k9 (fun e => by have e1 : w.heap.size = w1.heap.size := e; have := lt_of_block B0.out; omega)
         have c0 := cell_of b1 0; have c1' := cell_of b1 1; have c4 := cell_of b1 4; simp at c0 c1' c4; have l0 := lt_of_block b1; have L9 := hid (show w1.heap.size + 1 ≤ w9.heap.size from by have := k9.size; simpa using this); have B9 := hid b9; have K9 := hid k9; clear b9 k9 b1)
      | (refine wpList_load_row rfl 66 (.tmp 3) rfl w1.heap.size rfl _ _ _ _ B9.out Try.underlying66 rfl kpt_size ?_))
    go_ret
    exact ⟨_, rfl, Made.of (x := ⟨false, cap, xs, ys, lost⟩) (k := w9.heap.size) (al_at _ (by simp)) (al_blk (al_at _ rfl) _) ((((O1.out.lower L1.out).alloc _).ch K9.out (fun q hq e => by have e1 : q = w1.heap.size := e; have := (O1.out.blk hq).2; omega)).alloc _ |>.alloc _) ((((O2.out.lower L1.out).alloc _).ch K9.out (fun q hq e => by have e1 : q = w1.heap.size := e; have := (O2.out.blk hq).2; omega)).alloc _ |>.alloc _) (by have := L9.out; have := G1.out.size; omega) (by have := L9.out; have := G1.out.size; omega) (Ch.alloc (Ch.alloc (Ch.trans (Ch.alloc G1.out _) K9.out (fun q e => .inr (by have e1 : q = w1.heap.size := e; have := G1.out.size; omega))) _) _)⟩
  · go_enter Try.func24, Try.ntmps24
    go_wp2_with (first
      | (go_at_call 30; refine (HF.out _ (H1.out.alloc _) (H2.out.alloc _) (by rw [HM1.out]; exact HN1.out) (by rw [HM2.out]; exact HN2.out)).mono ?_; rintro e w1 ⟨v1, v2, rfl, o1, o2, g1⟩
         have B0 := hid (gr_blk (al_at (w := w) _ rfl) g1); have O1 := hid o1; have O2 := hid o2; have G1 := hid (Gr.trans (Ch.alloc (Gr.refl w) _) g1); have L1 := hid (show w.heap.size ≤ (w.alloc (.cells #[.bool true, .int .i64 (cap : Nat), .slice a1 n1 c1, .slice a2 n2 c2, .int .i64 (lost : Nat)] 32)).heap.size from by simp)
         clear o1 o2 g1)
      | (refine st_row rfl 66 (.tmp 3) (.tmp 8) rfl w1.heap.size _ rfl rfl _ _ (al_at _ rfl) kpt_size rfl (own_one2 O1.out O2.out) ?_; intro w9 b9 k9
         have b1 := ch_blk (al_blk B0.out _) k9 (fun e => by have e1 : w.heap.size = w1.heap.size := e; have := lt_of_block B0.out; omega)
         have c0 := cell_of b1 0; have c1' := cell_of b1 1; have c4 := cell_of b1 4; simp at c0 c1' c4; have l0 := lt_of_block b1; have L9 := hid (show w1.heap.size + 1 ≤ w9.heap.size from by have := k9.size; simpa using this); have B9 := hid b9; have K9 := hid k9; clear b9 k9 b1)
      | (refine wpList_load_row rfl 66 (.tmp 3) rfl w1.heap.size rfl _ _ _ _ B9.out Try.underlying66 rfl kpt_size ?_))
    go_ret
    exact ⟨_, rfl, Made.of (x := ⟨true, cap, xs, ys, lost⟩) (k := w9.heap.size) (al_at _ (by simp)) (al_blk (al_at _ rfl) _) ((((O1.out.lower L1.out).alloc _).ch K9.out (fun q hq e => by have e1 : q = w1.heap.size := e; have := (O1.out.blk hq).2; omega)).alloc _ |>.alloc _) ((((O2.out.lower L1.out).alloc _).ch K9.out (fun q hq e => by have e1 : q = w1.heap.size := e; have := (O2.out.blk hq).2; omega)).alloc _ |>.alloc _) (by have := L9.out; have := G1.out.size; omega) (by have := L9.out; have := G1.out.size; omega) (Ch.alloc (Ch.alloc (Ch.trans (Ch.alloc G1.out _) K9.out (fun q e => .inr (by have e1 : q = w1.heap.size := e; have := G1.out.size; omega))) _) _)⟩
theorem new_bad (q : Bool) (c : Int) (w : World) (h : capB q c = false) : Calls Try.prog 9 #[.bool q, .int .i64 c] w fun e w' => e = .returned (.tuple #[.pointer none, .int .i64 1]) ∧ Gr w w' := by
  have HC := hid (capmay_any q c)
  rw [h] at HC
  go_enter Try.func9, Try.ntmps9
  go_wp2_with (go_at_call 23; refine (HC.out _).mono ?_; rintro e w1 ⟨rfl, rfl⟩)
  exact bodyPost_ret (v := .tuple #[.pointer none, .int .i64 1]) (by simp [results, Try.results9, go_sem]) rfl ⟨rfl, Gr.refl _⟩
theorem new_good (q : Bool) (n : Nat) (w : World) (h : capB q (n : Int) = true) : Calls Try.prog 9 #[.bool q, .int .i64 (n : Int)] w fun e w' => ∃ p, e = .returned (.tuple #[.pointer (some ⟨p, 0, none⟩), .int .i64 0]) ∧ Made w p (newP q n) w' := by
  have HC := hid (capmay_any q n)
  rw [h] at HC
  have HO := hid (fun W => of_any W (newP q n) (.slice none 0 0) (.slice none 0 0) (Ls.nil eI (fun _ => False) W) (Ls.nil eG (fun _ => False) W) (Nat.zero_le _) (Nat.zero_le _))
  go_enter Try.func9, Try.ntmps9
  go_wp2_with (first
    | (go_at_call 23; refine (HC.out _).mono ?_; rintro e w1 ⟨rfl, rfl⟩)
    | (go_at_call 24; refine (HO.out _).mono ?_; rintro e w1 ⟨p1, rfl, m1⟩; have M1 := hid m1; clear m1))
  exact bodyPost_ret (v := .tuple #[.pointer (some ⟨p1, 0, none⟩), .int .i64 0]) (by simp [results, Try.results9, go_sem]) rfl ⟨p1, rfl, M1.out⟩
end Go.Proofs.Ytnpbehcfbceclaa.Lt
