/-
  What Reads and Writes of both answer, and WordUses' walk. Condition: the tables lie where they lie.
-/
import Derived.Test.YtejmmpgclgdbbaaDoorWdRef2
import Derived.Test.YtejmmpgclgdbbaaDoorWdRBits
import Derived.Test.YtejmmpgclgdbbaaDoorWdBack
namespace Go.Proofs.YtejmmpgclgdbbaaDoor.Wd
open Go.RowKit

/-- an instruction in its variable, its number in the table, and the tables, behind what made new blocks alone -/
theorem held6 {k : Nat} {w wb w1 : World} {x : Nat} {o a b c m : Value} (h1 : 1 ≤ k) (h2 : k < 59) (g : Gr wb w1) (h : wb.cell? ⟨1, k, none⟩ = some (.int .u16 (nu k)) ∧ wb.cell? ⟨x, 0, none⟩ = some o ∧ wb.cell? ⟨x, 1, none⟩ = some a ∧ wb.cell? ⟨x, 2, none⟩ = some b ∧ wb.cell? ⟨x, 3, none⟩ = some c ∧ wb.cell? ⟨x, 4, none⟩ = some m ∧ x < wb.heap.size ∧ Nums wb ∧ Forms wb ∧ Gr w wb) :
    w1.cell? ⟨1, k, none⟩ = some (.int .u16 (nu k)) ∧ w1.cell? ⟨x, 0, none⟩ = some o ∧ w1.cell? ⟨x, 1, none⟩ = some a ∧ w1.cell? ⟨x, 2, none⟩ = some b ∧ w1.cell? ⟨x, 3, none⟩ = some c ∧ w1.cell? ⟨x, 4, none⟩ = some m ∧ x < w1.heap.size ∧ Nums w1 ∧ Forms w1 ∧ Gr w w1 := by
  have z := held5 g h.2
  exact ⟨z.2.2.2.2.2.2.1.at_ k h1 h2, z⟩

theorem writes_no (o a b c m : Int) (h : o < 1 ∨ 58 < o) (w : World) : Calls Tryd.prog 24 #[.agg #[.int .i64 o, .int .i64 a, .int .i64 b, .int .i64 c, .int .i64 m]] w fun e w' => e = .returned (.tuple #[.int .u16 0, .int .i64 60]) ∧ Gr w w' := by
  have H := hid h
  clear h
  go_enter Tryd.func24, Tryd.ntmps24
  go_wp2_with fail
  refine (check_no o a b c m H.out _).mono ?_
  rintro e w1 ⟨rfl, g⟩
  go_wp2
  go_ret2
  exact ⟨rfl, Gr.trans ((Gr.refl _).alloc _ _) g⟩
theorem writes_bad (k : Nat) (a b c m : Int) (h1 : 1 ≤ k) (h2 : k < 59) (hq : fit (sh k) a b c m = false) (w : World) (hn : Nums w) (hf : Forms w) :
    Calls Tryd.prog 24 #[.agg #[.int .i64 (k : Nat), .int .i64 a, .int .i64 b, .int .i64 c, .int .i64 m]] w fun e w' => e = .returned (.tuple #[.int .u16 0, .int .i64 61]) ∧ Gr w w' := by
  have g0 : Gr w (w.alloc (.cells #[.int .i64 (k : Nat), .int .i64 a, .int .i64 b, .int .i64 c, .int .i64 m] 36)) := (Gr.refl _).alloc _ _
  have HC := hid (check_yes k a b c m h1 h2 _ (hn.gr g0) (hf.gr g0))
  rw [hq] at HC
  have HG := hid g0
  clear hn hf hq g0
  go_enter Tryd.func24, Tryd.ntmps24
  go_wp2_with fail
  refine HC.out.mono ?_
  rintro e w1 ⟨rfl, g⟩
  go_wp2
  go_ret2
  exact ⟨rfl, Gr.trans HG.out g⟩

set_option maxRecDepth 20000 in
theorem reads_ok (k : Nat) (a b c m : Int) (h1 : 1 ≤ k) (h2 : k < 59) (hq : fit (sh k) a b c m = true) (w : World) (hn : Nums w) (hf : Forms w) :
    Calls Tryd.prog 22 #[.agg #[.int .i64 (k : Nat), .int .i64 a, .int .i64 b, .int .i64 c, .int .i64 m]] w fun e w' => e = .returned (.tuple #[.int .u16 (useV (rd k) a b c), .int .i64 0]) ∧ Gr w w' := by
  have g0 : Gr w (w.alloc (.cells #[.int .i64 (k : Nat), .int .i64 a, .int .i64 b, .int .i64 c, .int .i64 m] 36)) := (Gr.refl _).alloc _ _
  have HC := hid (check_yes k a b c m h1 h2 _ (hn.gr g0) (hf.gr g0))
  rw [hq] at HC
  obtain ⟨fa0, fb0, fc0⟩ := fit_bd (sh_lt k) hq
  have HR := hid (fun W : World => regs_rd k h1 h2 (k : Nat) a b c m fa0 fb0 (by omega) W)
  obtain ⟨n0, n1, _, _⟩ := nu_bd k h1 h2
  have r1 : (nu k).tdiv 128 = nu k / 128 := Int.tdiv_eq_ediv_of_nonneg n0
  have r2 : IntKind.u16.wrap (nu k / 128) = nu k / 128 := by rw [IntKind.wrap_u16]; omega
  have HN := hid (hn.gr g0)
  have HF := hid (hf.gr g0)
  have HG := hid g0
  have k0 : (0 : Int) ≤ (k : Int) := by omega
  have k1 : (k : Int) < 59 := by omega
  clear hn hf hq g0 fa0 fb0 fc0 n0 n1
  go_enter Tryd.func22, Tryd.ntmps22
  go_wp2_with fail
  refine HC.out.mono ?_
  rintro e w1 ⟨rfl, g⟩
  obtain ⟨c0, c1, c2, c3, c4⟩ := boxed5 g
  have HN1 := HN.out.gr g
  have HF1 := HF.out.gr g
  have cn := HN1.at_ k h1 h2
  have l0 : w.heap.size < w1.heap.size := Nat.lt_of_lt_of_le (by simp) g.size
  have gw := Gr.trans HG.out g
  clear g HN HF HG
  go_wp2_with fail
  go_region_held3 (fun w' => w'.cell? ⟨1, k, none⟩ = some (.int .u16 (nu k)) ∧ w'.cell? ⟨w.heap.size, 0, none⟩ = some (.int .i64 (k : Nat)) ∧ w'.cell? ⟨w.heap.size, 1, none⟩ = some (.int .i64 a) ∧ w'.cell? ⟨w.heap.size, 2, none⟩ = some (.int .i64 b) ∧ w'.cell? ⟨w.heap.size, 3, none⟩ = some (.int .i64 c) ∧ w'.cell? ⟨w.heap.size, 4, none⟩ = some (.int .i64 m) ∧ w.heap.size < w'.heap.size ∧ Nums w' ∧ Forms w' ∧ Gr w w')
    (first | (refine held6 h1 h2 g ?_; assumption) | exact ⟨cn, c0, c1, c2, c3, c4, l0, HN1, HF1, gw⟩ | exact ⟨cn, c0, c1, c2, c3, c4, l0, HN1.gr (Ch.refl _ _).drew, HF1.gr (Ch.refl _ _).drew, Ch.drew gw⟩ | assumption)
    (first | (go_at_call 35; refine (HR.out _).mono ?_; rintro e wm ⟨rfl, g⟩))
  all_goals (rename_i hh; have HG2 := hid hh.2.2.2.2.2.2.2.2.2; clear hh)
  all_goals go_wp2
  all_goals go_ret2
  all_goals exact ⟨rfl, HG2.out⟩
theorem rreads_no (o a b c m : Int) (h : o < 1 ∨ 58 < o) (w : World) : Calls Tryd.prog 23 #[.agg #[.int .i64 o, .int .i64 a, .int .i64 b, .int .i64 c, .int .i64 m]] w fun e w' => e = .returned (.tuple #[.int .u16 0, .int .i64 60]) ∧ Gr w w' := by
  have H := hid h
  clear h
  go_enter Tryd.func23, Tryd.ntmps23
  go_wp2_with fail
  refine (rcheck_no o a b c m H.out _).mono ?_
  rintro e w1 ⟨rfl, g⟩
  go_wp2
  go_ret2
  exact ⟨rfl, Gr.trans ((Gr.refl _).alloc _ _) g⟩
theorem rreads_bad (k : Nat) (a b c m : Int) (h1 : 1 ≤ k) (h2 : k < 59) (hq : fit (sh k) a b c m = false) (w : World) :
    Calls Tryd.prog 23 #[.agg #[.int .i64 (k : Nat), .int .i64 a, .int .i64 b, .int .i64 c, .int .i64 m]] w fun e w' => e = .returned (.tuple #[.int .u16 0, .int .i64 61]) ∧ Gr w w' := by
  have HC := hid (fun (W : World) => rcheck_yes k a b c m h1 h2 W)
  rw [hq] at HC
  clear hq
  go_enter Tryd.func23, Tryd.ntmps23
  go_wp2_with fail
  refine (HC.out _).mono ?_
  rintro e w1 ⟨rfl, g⟩
  go_wp2
  go_ret2
  exact ⟨rfl, Gr.trans ((Gr.refl _).alloc _ _) g⟩
theorem rreads_ok (k : Nat) (a b c m : Int) (h1 : 1 ≤ k) (h2 : k < 59) (hq : fit (sh k) a b c m = true) (w : World) :
    Calls Tryd.prog 23 #[.agg #[.int .i64 (k : Nat), .int .i64 a, .int .i64 b, .int .i64 c, .int .i64 m]] w fun e w' => e = .returned (.tuple #[.int .u16 (useV (rd k) a b c), .int .i64 0]) ∧ Gr w w' := by
  have HC := hid (fun (W : World) => rcheck_yes k a b c m h1 h2 W)
  rw [hq] at HC
  obtain ⟨fa0, fb0, fc0⟩ := fit_bd (sh_lt k) hq
  have HR := hid (fun W : World => rbits_rds k h1 h2 (k : Nat) a b c m fa0 fb0 (by omega) W)
  clear hq fa0 fb0 fc0
  go_enter Tryd.func23, Tryd.ntmps23
  go_wp2_with fail
  refine (HC.out _).mono ?_
  rintro e w1 ⟨rfl, g⟩
  obtain ⟨c0, c1, c2, c3, c4⟩ := boxed5 g
  have l0 : w.heap.size < w1.heap.size := Nat.lt_of_lt_of_le (by simp) g.size
  have HG1 := hid (Gr.trans ((Gr.refl _).alloc _ _) g)
  clear g
  go_wp2_with fail
  refine (table_all k h1 h2 _).mono ?_
  rintro e w2 ⟨rfl, g⟩
  unfold rowV
  have u0 := (Ch.cell g l0 (noB _)).trans c0
  have u1 := (Ch.cell g l0 (noB _)).trans c1
  have u2 := (Ch.cell g l0 (noB _)).trans c2
  have u3 := (Ch.cell g l0 (noB _)).trans c3
  have u4 := (Ch.cell g l0 (noB _)).trans c4
  have l1 : w.heap.size < w2.heap.size := Nat.lt_of_lt_of_le l0 g.size
  have HG2 := hid (Gr.trans HG1.out g)
  clear g c0 c1 c2 c3 c4
  go_wp2_with fail
  refine (HR.out _).mono ?_
  rintro e w3 ⟨rfl, g⟩
  go_wp2
  go_ret2
  exact ⟨rfl, Gr.trans (HG2.out.alloc _ _) g⟩

set_option maxRecDepth 20000 in
theorem writes_ok (k : Nat) (a b c m : Int) (h1 : 1 ≤ k) (h2 : k < 59) (hq : fit (sh k) a b c m = true) (w : World) (hn : Nums w) (hf : Forms w) :
    Calls Tryd.prog 24 #[.agg #[.int .i64 (k : Nat), .int .i64 a, .int .i64 b, .int .i64 c, .int .i64 m]] w fun e w' => e = .returned (.tuple #[.int .u16 (useV (wr k) a b c), .int .i64 0]) ∧ Gr w w' := by
  have g0 : Gr w (w.alloc (.cells #[.int .i64 (k : Nat), .int .i64 a, .int .i64 b, .int .i64 c, .int .i64 m] 36)) := (Gr.refl _).alloc _ _
  have HC := hid (check_yes k a b c m h1 h2 _ (hn.gr g0) (hf.gr g0))
  rw [hq] at HC
  obtain ⟨fa0, fb0, fc0⟩ := fit_bd (sh_lt k) hq
  have HR := hid (fun W : World => regs_wr k h1 h2 (k : Nat) a b c m fa0 fb0 (by omega) W)
  obtain ⟨n0, n1, _, _⟩ := nu_bd k h1 h2
  have r1 : (nu k).tdiv 2048 = nu k / 2048 := Int.tdiv_eq_ediv_of_nonneg n0
  have r2 : IntKind.u16.wrap (nu k / 2048) = nu k / 2048 := by rw [IntKind.wrap_u16]; omega
  have HN := hid (hn.gr g0)
  have HF := hid (hf.gr g0)
  have HG := hid g0
  have k0 : (0 : Int) ≤ (k : Int) := by omega
  have k1 : (k : Int) < 59 := by omega
  clear hn hf hq g0 fa0 fb0 fc0 n0 n1
  go_enter Tryd.func24, Tryd.ntmps24
  go_wp2_with fail
  refine HC.out.mono ?_
  rintro e w1 ⟨rfl, g⟩
  obtain ⟨c0, c1, c2, c3, c4⟩ := boxed5 g
  have HN1 := HN.out.gr g
  have HF1 := HF.out.gr g
  have cn := HN1.at_ k h1 h2
  have l0 : w.heap.size < w1.heap.size := Nat.lt_of_lt_of_le (by simp) g.size
  have gw := Gr.trans HG.out g
  clear g HN HF HG
  go_wp2_with fail
  go_region_held3 (fun w' => w'.cell? ⟨1, k, none⟩ = some (.int .u16 (nu k)) ∧ w'.cell? ⟨w.heap.size, 0, none⟩ = some (.int .i64 (k : Nat)) ∧ w'.cell? ⟨w.heap.size, 1, none⟩ = some (.int .i64 a) ∧ w'.cell? ⟨w.heap.size, 2, none⟩ = some (.int .i64 b) ∧ w'.cell? ⟨w.heap.size, 3, none⟩ = some (.int .i64 c) ∧ w'.cell? ⟨w.heap.size, 4, none⟩ = some (.int .i64 m) ∧ w.heap.size < w'.heap.size ∧ Nums w' ∧ Forms w' ∧ Gr w w')
    (first | (refine held6 h1 h2 g ?_; assumption) | exact ⟨cn, c0, c1, c2, c3, c4, l0, HN1, HF1, gw⟩ | exact ⟨cn, c0, c1, c2, c3, c4, l0, HN1.gr (Ch.refl _ _).drew, HF1.gr (Ch.refl _ _).drew, Ch.drew gw⟩ | assumption)
    (first | (go_at_call 35; refine (HR.out _).mono ?_; rintro e wm ⟨rfl, g⟩))
  all_goals (rename_i hh; have HG2 := hid hh.2.2.2.2.2.2.2.2.2; clear hh)
  all_goals go_wp2
  all_goals go_ret2
  all_goals exact ⟨rfl, HG2.out⟩
theorem rwrites_no (o a b c m : Int) (h : o < 1 ∨ 58 < o) (w : World) : Calls Tryd.prog 25 #[.agg #[.int .i64 o, .int .i64 a, .int .i64 b, .int .i64 c, .int .i64 m]] w fun e w' => e = .returned (.tuple #[.int .u16 0, .int .i64 60]) ∧ Gr w w' := by
  have H := hid h
  clear h
  go_enter Tryd.func25, Tryd.ntmps25
  go_wp2_with fail
  refine (rcheck_no o a b c m H.out _).mono ?_
  rintro e w1 ⟨rfl, g⟩
  go_wp2
  go_ret2
  exact ⟨rfl, Gr.trans ((Gr.refl _).alloc _ _) g⟩
theorem rwrites_bad (k : Nat) (a b c m : Int) (h1 : 1 ≤ k) (h2 : k < 59) (hq : fit (sh k) a b c m = false) (w : World) :
    Calls Tryd.prog 25 #[.agg #[.int .i64 (k : Nat), .int .i64 a, .int .i64 b, .int .i64 c, .int .i64 m]] w fun e w' => e = .returned (.tuple #[.int .u16 0, .int .i64 61]) ∧ Gr w w' := by
  have HC := hid (fun (W : World) => rcheck_yes k a b c m h1 h2 W)
  rw [hq] at HC
  clear hq
  go_enter Tryd.func25, Tryd.ntmps25
  go_wp2_with fail
  refine (HC.out _).mono ?_
  rintro e w1 ⟨rfl, g⟩
  go_wp2
  go_ret2
  exact ⟨rfl, Gr.trans ((Gr.refl _).alloc _ _) g⟩
theorem rwrites_ok (k : Nat) (a b c m : Int) (h1 : 1 ≤ k) (h2 : k < 59) (hq : fit (sh k) a b c m = true) (w : World) :
    Calls Tryd.prog 25 #[.agg #[.int .i64 (k : Nat), .int .i64 a, .int .i64 b, .int .i64 c, .int .i64 m]] w fun e w' => e = .returned (.tuple #[.int .u16 (useV (wr k) a b c), .int .i64 0]) ∧ Gr w w' := by
  have HC := hid (fun (W : World) => rcheck_yes k a b c m h1 h2 W)
  rw [hq] at HC
  obtain ⟨fa0, fb0, fc0⟩ := fit_bd (sh_lt k) hq
  have HR := hid (fun W : World => rbits_wrs k h1 h2 (k : Nat) a b c m fa0 fb0 (by omega) W)
  clear hq fa0 fb0 fc0
  go_enter Tryd.func25, Tryd.ntmps25
  go_wp2_with fail
  refine (HC.out _).mono ?_
  rintro e w1 ⟨rfl, g⟩
  obtain ⟨c0, c1, c2, c3, c4⟩ := boxed5 g
  have l0 : w.heap.size < w1.heap.size := Nat.lt_of_lt_of_le (by simp) g.size
  have HG1 := hid (Gr.trans ((Gr.refl _).alloc _ _) g)
  clear g
  go_wp2_with fail
  refine (table_all k h1 h2 _).mono ?_
  rintro e w2 ⟨rfl, g⟩
  unfold rowV
  have u0 := (Ch.cell g l0 (noB _)).trans c0
  have u1 := (Ch.cell g l0 (noB _)).trans c1
  have u2 := (Ch.cell g l0 (noB _)).trans c2
  have u3 := (Ch.cell g l0 (noB _)).trans c3
  have u4 := (Ch.cell g l0 (noB _)).trans c4
  have l1 : w.heap.size < w2.heap.size := Nat.lt_of_lt_of_le l0 g.size
  have HG2 := hid (Gr.trans HG1.out g)
  clear g c0 c1 c2 c3 c4
  go_wp2_with fail
  refine (HR.out _).mono ?_
  rintro e w3 ⟨rfl, g⟩
  go_wp2
  go_ret2
  exact ⟨rfl, Gr.trans (HG2.out.alloc _ _) g⟩

/-- both answer alike -/
theorem both_uses (o a b c m : Int) (w : World) (hn : Nums w) (hf : Forms w) : ∃ x e y f : Int, (∀ W : World, Gr w W → Calls Tryd.prog 22 #[.agg #[.int .i64 o, .int .i64 a, .int .i64 b, .int .i64 c, .int .i64 m]] W (fun r w' => r = .returned (.tuple #[.int .u16 x, .int .i64 e]) ∧ Gr W w')) ∧
    (∀ W : World, Calls Tryd.prog 23 #[.agg #[.int .i64 o, .int .i64 a, .int .i64 b, .int .i64 c, .int .i64 m]] W (fun r w' => r = .returned (.tuple #[.int .u16 x, .int .i64 e]) ∧ Gr W w')) ∧
    (∀ W : World, Gr w W → Calls Tryd.prog 24 #[.agg #[.int .i64 o, .int .i64 a, .int .i64 b, .int .i64 c, .int .i64 m]] W (fun r w' => r = .returned (.tuple #[.int .u16 y, .int .i64 f]) ∧ Gr W w')) ∧
    (∀ W : World, Calls Tryd.prog 25 #[.agg #[.int .i64 o, .int .i64 a, .int .i64 b, .int .i64 c, .int .i64 m]] W (fun r w' => r = .returned (.tuple #[.int .u16 y, .int .i64 f]) ∧ Gr W w')) := by
  rcases kn_cases o with h | ⟨k, h1, h2, rfl⟩
  · exact ⟨_, _, _, _, fun W _ => reads_no o a b c m h W, fun W => rreads_no o a b c m h W, fun W _ => writes_no o a b c m h W, fun W => rwrites_no o a b c m h W⟩
  · cases hq : fit (sh k) a b c m with
    | false => exact ⟨_, _, _, _, fun W g => reads_bad k a b c m h1 h2 hq W (hn.gr g) (hf.gr g), fun W => rreads_bad k a b c m h1 h2 hq W, fun W g => writes_bad k a b c m h1 h2 hq W (hn.gr g) (hf.gr g), fun W => rwrites_bad k a b c m h1 h2 hq W⟩
    | true => exact ⟨_, _, _, _, fun W g => reads_ok k a b c m h1 h2 hq W (hn.gr g) (hf.gr g), fun W => rreads_ok k a b c m h1 h2 hq W, fun W g => writes_ok k a b c m h1 h2 hq W (hn.gr g) (hf.gr g), fun W => rwrites_ok k a b c m h1 h2 hq W⟩

theorem cells5 {w w1 : World} {g q : Nat} {o a b c m : Value} (h : Gr w w1) (l : g < w.heap.size) (k : w.cell? ⟨g, q, none⟩ = some o ∧ w.cell? ⟨g, q + 1, none⟩ = some a ∧ w.cell? ⟨g, q + 2, none⟩ = some b ∧ w.cell? ⟨g, q + 3, none⟩ = some c ∧ w.cell? ⟨g, q + 4, none⟩ = some m) :
    w1.cell? ⟨g, q, none⟩ = some o ∧ w1.cell? ⟨g, q + 1, none⟩ = some a ∧ w1.cell? ⟨g, q + 2, none⟩ = some b ∧ w1.cell? ⟨g, q + 3, none⟩ = some c ∧ w1.cell? ⟨g, q + 4, none⟩ = some m :=
  ⟨(Ch.cell h l (noB _)).trans k.1, (Ch.cell h l (noB _)).trans k.2.1, (Ch.cell h l (noB _)).trans k.2.2.1, (Ch.cell h l (noB _)).trans k.2.2.2.1, (Ch.cell h l (noB _)).trans k.2.2.2.2⟩

set_option maxRecDepth 20000 in
theorem uses_any (v : Value) (n : Nat) (w : World) (hv : InL w v n) (hn : Nums w) (hf : Forms w) :
    Calls Tryd.prog 7 #[v] w fun e w' => e = .returned (.bool true) ∧ Gr w w' := by
  obtain ⟨ao, cap, rfl, hmax, hel⟩ := hv
  have HN := hid hn
  have HF := hid hf
  have HE := hid hel
  clear hn hf hel
  go_enter Tryd.func7, Tryd.ntmps7
  go_wp2_with fail
  go_loopg [3] n (fun m i wr => ∃ j : Nat, j + m = n ∧ i = .int .i64 (j : Nat) ∧ Gr w wr)
  case atStart => exact ⟨0, by omega, rfl, Gr.refl _⟩
  case round =>
    obtain ⟨j, hjk, rfl, hg⟩ := hrel
    have HG := hid hg
    clear hg
    by_cases hj : j < n
    · obtain ⟨g, p, rfl, hgl, hx⟩ := HE.out.resolve_left (by omega)
      obtain ⟨o, a, b, c, m, kk⟩ := hx j hj
      obtain ⟨c0, c1, c2, c3, c4⟩ := cells5 HG.out hgl kk
      have KK := hid kk
      have j0 : (0 : Int) ≤ (j : Int) := by omega
      have j1 : (j : Int) < (n : Int) := by omega
      obtain ⟨x, e, y, f, B1, B2, B3, B4⟩ := both_uses o a b c m w HN.out HF.out
      have HB1 := hid B1
      have HB2 := hid B2
      have HB3 := hid B3
      have HB4 := hid B4
      have HL := hid hgl
      clear hx kk hgl B1 B2 B3 B4
      go_wp2_with fail
      refine (HB1.out _ HG.out).mono ?_
      rintro _ w1 ⟨rfl, g1⟩
      have HG1 := hid (Gr.trans HG.out g1)
      clear g1 c0 c1 c2 c3 c4
      obtain ⟨c0, c1, c2, c3, c4⟩ := cells5 HG1.out HL.out KK.out
      go_wp2_with fail
      refine (HB2.out _).mono ?_
      rintro _ w2 ⟨rfl, g2⟩
      have HG2 := hid (Gr.trans HG1.out g2)
      clear g2 c0 c1 c2 c3 c4
      obtain ⟨c0, c1, c2, c3, c4⟩ := cells5 HG2.out HL.out KK.out
      go_wp2_with fail
      refine (HB3.out _ HG2.out).mono ?_
      rintro _ w3 ⟨rfl, g3⟩
      have HG3 := hid (Gr.trans HG2.out g3)
      clear g3 c0 c1 c2 c3 c4
      obtain ⟨c0, c1, c2, c3, c4⟩ := cells5 HG3.out HL.out KK.out
      go_wp2_with fail
      refine (HB4.out _).mono ?_
      rintro _ w4 ⟨rfl, g4⟩
      have HG4 := hid (Gr.trans HG3.out g4)
      clear g4 c0 c1 c2 c3 c4
      go_wp2
      go_roundg (gk - 1)
      case measure => omega
      case rel => exact ⟨j + 1, by omega, by simp, HG4.out⟩
    · have e : j = n := by omega
      subst e
      go_wp2_with fail
      refine (awake_any _ (HN.out.gr HG.out) (HF.out.gr HG.out)).mono ?_
      rintro _ w1 ⟨rfl, g1⟩
      go_wp2
      go_ret
      exact ⟨rfl, Gr.trans HG.out g1⟩
end Go.Proofs.YtejmmpgclgdbbaaDoor.Wd
