/-
  WordFields' walk, way by way: a bit of no field is refused, one of a field is told. Condition: the tables lie where they lie.
-/
import Derived.Test.YtejmmpgclgdbbabDoorWdXor
namespace Go.Proofs.YtejmmpgclgdbbabDoor.Wd
open Go.RowKit

set_option maxRecDepth 20000 in
theorem fw_af (k s : Nat) (x y bit N P a b c m x3 x4 : Int) (p1 p2 p3 : Bool) (h1 : 1 ≤ k) (h2 : k < 59) (t1 : bit.tmod 24 = N) (t2 : bit % 24 = N) (t3 : IntKind.u8.wrap N = N) (_N0 : 0 ≤ N) (_N1 : N < 24) (hp : IntKind.u32.wrap (2 ^ N.toNat) = P) (hx : bits .xor .u32 x P = y) (hs : sh k = s)
    (HD1 : ∀ w : World, Nums w → Forms w → Calls Tryd.prog 7 #[.int .u32 x] w fun e w' => e = .returned (.tuple #[.agg #[.int .i64 (k : Nat), .int .i64 a, .int .i64 b, .int .i64 c, .int .i64 m], .int .i64 0]) ∧ Gr w w') (HD2 : ∀ w : World, Nums w → Forms w → Calls Tryd.prog 7 #[.int .u32 y] w fun e w' => e = .returned (.tuple #[.agg #[.int .i64 0, .int .i64 0, .int .i64 0, .int .i64 0, .int .i64 0], .int .i64 61]) ∧ Gr w w') (HH : ∀ w : World, Calls Tryd.prog 14 #[.int .i64 (s : Nat)] w fun e w' => e = .returned (.tuple #[.bool p1, .bool p2, .bool p3, .int .i64 x3, .int .i64 x4]) ∧ w' = w) (r1 : 20 ≤ N) (q1 : p1 = false) (w : World) (hn : Nums w) (hf : Forms w) :
    Calls Tryd.prog 6 #[.int .u32 x, .int .u8 bit] w fun e w' => e = .returned (.bool true) ∧ Gr w w' := by
  subst q1
  have d0 : decide (20 ≤ N) = true := by simp; omega
  have d1 : decide (16 ≤ N) = true := by simp; omega
  have d2 : decide (N < 20) = false := by simp; omega
  have d3 : decide (N < 4) = false := by simp; omega
  have d4 : decide (N < 16) = false := by simp; omega
  have H1 := hid (HD1 w hn hf)
  have H2 := hid HD2
  have H3 := hid (fun (W : World) (h : Nums W) => shape_yes k h1 h2 W h)
  rw [hs] at H3
  have H4 := hid HH
  have HN := hid hn
  have HF := hid hf
  clear hn hf HD1 HD2 HH hs
  go_enter Tryd.func6, Tryd.ntmps6
  go_wp2_with fail
  refine H1.out.mono ?_
  rintro e w1 ⟨rfl, g⟩
  have HG := hid (Ch.alloc g (.cells #[.int .i64 (k : Nat), .int .i64 a, .int .i64 b, .int .i64 c, .int .i64 m] 24))
  clear g
  go_wp2_with fail
  refine (H2.out _ (HN.out.gr HG.out) (HF.out.gr HG.out)).mono ?_
  rintro e w2 ⟨rfl, g⟩
  obtain ⟨c0, c1, c2, c3, c4⟩ := boxed5 g
  have l1 : w1.heap.size < w2.heap.size := Nat.lt_of_lt_of_le (by simp) g.size
  have HG2 := hid (Gr.trans HG.out g)
  clear g
  go_wp2_with fail
  refine (H3.out _ (HN.out.gr (Ch.alloc HG2.out _))).mono ?_
  rintro e w3 ⟨rfl, rfl⟩
  go_wp2_with fail
  refine (H4.out _).mono ?_
  rintro e w3 ⟨rfl, rfl⟩
  go_wp2
  go_ret
  exact ⟨rfl, Ch.alloc HG2.out _⟩
set_option maxRecDepth 20000 in
theorem fw_bf (k s : Nat) (x y bit N P a b c m x3 x4 : Int) (p1 p2 p3 : Bool) (h1 : 1 ≤ k) (h2 : k < 59) (t1 : bit.tmod 24 = N) (t2 : bit % 24 = N) (t3 : IntKind.u8.wrap N = N) (_N0 : 0 ≤ N) (_N1 : N < 24) (hp : IntKind.u32.wrap (2 ^ N.toNat) = P) (hx : bits .xor .u32 x P = y) (hs : sh k = s)
    (HD1 : ∀ w : World, Nums w → Forms w → Calls Tryd.prog 7 #[.int .u32 x] w fun e w' => e = .returned (.tuple #[.agg #[.int .i64 (k : Nat), .int .i64 a, .int .i64 b, .int .i64 c, .int .i64 m], .int .i64 0]) ∧ Gr w w') (HD2 : ∀ w : World, Nums w → Forms w → Calls Tryd.prog 7 #[.int .u32 y] w fun e w' => e = .returned (.tuple #[.agg #[.int .i64 0, .int .i64 0, .int .i64 0, .int .i64 0, .int .i64 0], .int .i64 61]) ∧ Gr w w') (HH : ∀ w : World, Calls Tryd.prog 14 #[.int .i64 (s : Nat)] w fun e w' => e = .returned (.tuple #[.bool p1, .bool p2, .bool p3, .int .i64 x3, .int .i64 x4]) ∧ w' = w) (r1 : 16 ≤ N) (r2 : N < 20) (q1 : p2 = false) (w : World) (hn : Nums w) (hf : Forms w) :
    Calls Tryd.prog 6 #[.int .u32 x, .int .u8 bit] w fun e w' => e = .returned (.bool true) ∧ Gr w w' := by
  subst q1
  have d0 : decide (20 ≤ N) = false := by simp; omega
  have d1 : decide (16 ≤ N) = true := by simp; omega
  have d2 : decide (N < 20) = true := by simp; omega
  have d3 : decide (N < 4) = false := by simp; omega
  have d4 : decide (N < 16) = false := by simp; omega
  have H1 := hid (HD1 w hn hf)
  have H2 := hid HD2
  have H3 := hid (fun (W : World) (h : Nums W) => shape_yes k h1 h2 W h)
  rw [hs] at H3
  have H4 := hid HH
  have HN := hid hn
  have HF := hid hf
  clear hn hf HD1 HD2 HH hs
  go_enter Tryd.func6, Tryd.ntmps6
  go_wp2_with fail
  refine H1.out.mono ?_
  rintro e w1 ⟨rfl, g⟩
  have HG := hid (Ch.alloc g (.cells #[.int .i64 (k : Nat), .int .i64 a, .int .i64 b, .int .i64 c, .int .i64 m] 24))
  clear g
  go_wp2_with fail
  refine (H2.out _ (HN.out.gr HG.out) (HF.out.gr HG.out)).mono ?_
  rintro e w2 ⟨rfl, g⟩
  obtain ⟨c0, c1, c2, c3, c4⟩ := boxed5 g
  have l1 : w1.heap.size < w2.heap.size := Nat.lt_of_lt_of_le (by simp) g.size
  have HG2 := hid (Gr.trans HG.out g)
  clear g
  go_wp2_with fail
  refine (H3.out _ (HN.out.gr (Ch.alloc HG2.out _))).mono ?_
  rintro e w3 ⟨rfl, rfl⟩
  go_wp2_with fail
  refine (H4.out _).mono ?_
  rintro e w3 ⟨rfl, rfl⟩
  go_wp2
  go_ret
  exact ⟨rfl, Ch.alloc HG2.out _⟩
set_option maxRecDepth 20000 in
theorem fw_hf (k s : Nat) (x y bit N P a b c m x3 x4 : Int) (p1 p2 p3 : Bool) (h1 : 1 ≤ k) (h2 : k < 59) (t1 : bit.tmod 24 = N) (t2 : bit % 24 = N) (t3 : IntKind.u8.wrap N = N) (_N0 : 0 ≤ N) (_N1 : N < 24) (hp : IntKind.u32.wrap (2 ^ N.toNat) = P) (hx : bits .xor .u32 x P = y) (hs : sh k = s)
    (HD1 : ∀ w : World, Nums w → Forms w → Calls Tryd.prog 7 #[.int .u32 x] w fun e w' => e = .returned (.tuple #[.agg #[.int .i64 (k : Nat), .int .i64 a, .int .i64 b, .int .i64 c, .int .i64 m], .int .i64 0]) ∧ Gr w w') (HD2 : ∀ w : World, Nums w → Forms w → Calls Tryd.prog 7 #[.int .u32 y] w fun e w' => e = .returned (.tuple #[.agg #[.int .i64 0, .int .i64 0, .int .i64 0, .int .i64 0, .int .i64 0], .int .i64 61]) ∧ Gr w w') (HH : ∀ w : World, Calls Tryd.prog 14 #[.int .i64 (s : Nat)] w fun e w' => e = .returned (.tuple #[.bool p1, .bool p2, .bool p3, .int .i64 x3, .int .i64 x4]) ∧ w' = w) (r1 : 4 ≤ N) (r2 : N < 16) (q1 : x4 ≤ 0) (w : World) (hn : Nums w) (hf : Forms w) :
    Calls Tryd.prog 6 #[.int .u32 x, .int .u8 bit] w fun e w' => e = .returned (.bool true) ∧ Gr w w' := by
  have d0 : decide (20 ≤ N) = false := by simp; omega
  have d1 : decide (16 ≤ N) = false := by simp; omega
  have d2 : decide (N < 20) = true := by simp; omega
  have d3 : decide (N < 4) = false := by simp; omega
  have d4 : decide (N < 16) = true := by simp; omega
  have d9 : decide (0 < x4) = false := by simp; omega
  have H1 := hid (HD1 w hn hf)
  have H2 := hid HD2
  have H3 := hid (fun (W : World) (h : Nums W) => shape_yes k h1 h2 W h)
  rw [hs] at H3
  have H4 := hid HH
  have HN := hid hn
  have HF := hid hf
  clear hn hf HD1 HD2 HH hs
  go_enter Tryd.func6, Tryd.ntmps6
  go_wp2_with fail
  refine H1.out.mono ?_
  rintro e w1 ⟨rfl, g⟩
  have HG := hid (Ch.alloc g (.cells #[.int .i64 (k : Nat), .int .i64 a, .int .i64 b, .int .i64 c, .int .i64 m] 24))
  clear g
  go_wp2_with fail
  refine (H2.out _ (HN.out.gr HG.out) (HF.out.gr HG.out)).mono ?_
  rintro e w2 ⟨rfl, g⟩
  obtain ⟨c0, c1, c2, c3, c4⟩ := boxed5 g
  have l1 : w1.heap.size < w2.heap.size := Nat.lt_of_lt_of_le (by simp) g.size
  have HG2 := hid (Gr.trans HG.out g)
  clear g
  go_wp2_with fail
  refine (H3.out _ (HN.out.gr (Ch.alloc HG2.out _))).mono ?_
  rintro e w3 ⟨rfl, rfl⟩
  go_wp2_with fail
  refine (H4.out _).mono ?_
  rintro e w3 ⟨rfl, rfl⟩
  go_wp2
  go_ret
  exact ⟨rfl, Ch.alloc HG2.out _⟩
set_option maxRecDepth 20000 in
theorem fw_lf (k s : Nat) (x y bit N P a b c m x3 x4 : Int) (p1 p2 p3 : Bool) (h1 : 1 ≤ k) (h2 : k < 59) (t1 : bit.tmod 24 = N) (t2 : bit % 24 = N) (t3 : IntKind.u8.wrap N = N) (_N0 : 0 ≤ N) (_N1 : N < 24) (hp : IntKind.u32.wrap (2 ^ N.toNat) = P) (hx : bits .xor .u32 x P = y) (hs : sh k = s)
    (HD1 : ∀ w : World, Nums w → Forms w → Calls Tryd.prog 7 #[.int .u32 x] w fun e w' => e = .returned (.tuple #[.agg #[.int .i64 (k : Nat), .int .i64 a, .int .i64 b, .int .i64 c, .int .i64 m], .int .i64 0]) ∧ Gr w w') (HD2 : ∀ w : World, Nums w → Forms w → Calls Tryd.prog 7 #[.int .u32 y] w fun e w' => e = .returned (.tuple #[.agg #[.int .i64 0, .int .i64 0, .int .i64 0, .int .i64 0, .int .i64 0], .int .i64 61]) ∧ Gr w w') (HH : ∀ w : World, Calls Tryd.prog 14 #[.int .i64 (s : Nat)] w fun e w' => e = .returned (.tuple #[.bool p1, .bool p2, .bool p3, .int .i64 x3, .int .i64 x4]) ∧ w' = w) (r2 : N < 4) (q1 : p3 = false) (q2 : x4 ≤ 0) (w : World) (hn : Nums w) (hf : Forms w) :
    Calls Tryd.prog 6 #[.int .u32 x, .int .u8 bit] w fun e w' => e = .returned (.bool true) ∧ Gr w w' := by
  subst q1
  have d0 : decide (20 ≤ N) = false := by simp; omega
  have d1 : decide (16 ≤ N) = false := by simp; omega
  have d2 : decide (N < 20) = true := by simp; omega
  have d3 : decide (N < 4) = true := by simp; omega
  have d4 : decide (N < 16) = true := by simp; omega
  have d9 : decide (0 < x4) = false := by simp; omega
  have H1 := hid (HD1 w hn hf)
  have H2 := hid HD2
  have H3 := hid (fun (W : World) (h : Nums W) => shape_yes k h1 h2 W h)
  rw [hs] at H3
  have H4 := hid HH
  have HN := hid hn
  have HF := hid hf
  clear hn hf HD1 HD2 HH hs
  go_enter Tryd.func6, Tryd.ntmps6
  go_wp2_with fail
  refine H1.out.mono ?_
  rintro e w1 ⟨rfl, g⟩
  have HG := hid (Ch.alloc g (.cells #[.int .i64 (k : Nat), .int .i64 a, .int .i64 b, .int .i64 c, .int .i64 m] 24))
  clear g
  go_wp2_with fail
  refine (H2.out _ (HN.out.gr HG.out) (HF.out.gr HG.out)).mono ?_
  rintro e w2 ⟨rfl, g⟩
  obtain ⟨c0, c1, c2, c3, c4⟩ := boxed5 g
  have l1 : w1.heap.size < w2.heap.size := Nat.lt_of_lt_of_le (by simp) g.size
  have HG2 := hid (Gr.trans HG.out g)
  clear g
  go_wp2_with fail
  refine (H3.out _ (HN.out.gr (Ch.alloc HG2.out _))).mono ?_
  rintro e w3 ⟨rfl, rfl⟩
  go_wp2_with fail
  refine (H4.out _).mono ?_
  rintro e w3 ⟨rfl, rfl⟩
  go_wp2
  go_ret
  exact ⟨rfl, Ch.alloc HG2.out _⟩
set_option maxRecDepth 20000 in
theorem fw_at (k s : Nat) (x y bit N P a b c m a' b' c' m' x3 x4 : Int) (p1 p2 p3 : Bool) (h1 : 1 ≤ k) (h2 : k < 59) (t1 : bit.tmod 24 = N) (t2 : bit % 24 = N) (t3 : IntKind.u8.wrap N = N) (_N0 : 0 ≤ N) (_N1 : N < 24) (hp : IntKind.u32.wrap (2 ^ N.toNat) = P) (hx : bits .xor .u32 x P = y) (hs : sh k = s)
    (HD1 : ∀ w : World, Nums w → Forms w → Calls Tryd.prog 7 #[.int .u32 x] w fun e w' => e = .returned (.tuple #[.agg #[.int .i64 (k : Nat), .int .i64 a, .int .i64 b, .int .i64 c, .int .i64 m], .int .i64 0]) ∧ Gr w w') (HD2 : ∀ w : World, Nums w → Forms w → Calls Tryd.prog 7 #[.int .u32 y] w fun e w' => e = .returned (.tuple #[.agg #[.int .i64 (k : Nat), .int .i64 a', .int .i64 b', .int .i64 c', .int .i64 m'], .int .i64 0]) ∧ Gr w w') (HH : ∀ w : World, Calls Tryd.prog 14 #[.int .i64 (s : Nat)] w fun e w' => e = .returned (.tuple #[.bool p1, .bool p2, .bool p3, .int .i64 x3, .int .i64 x4]) ∧ w' = w) (hne : ∀ w : World, (binOp .neq 24 (.agg #[.int .i64 (k : Nat), .int .i64 a', .int .i64 b', .int .i64 c', .int .i64 m']) (.agg #[.int .i64 (k : Nat), .int .i64 a, .int .i64 b, .int .i64 c, .int .i64 m])).run Tryd.prog w = .ok (.bool true) w) (r1 : 20 ≤ N) (q1 : p1 = true) (w : World) (hn : Nums w) (hf : Forms w) :
    Calls Tryd.prog 6 #[.int .u32 x, .int .u8 bit] w fun e w' => e = .returned (.bool true) ∧ Gr w w' := by
  subst q1
  have d0 : decide (20 ≤ N) = true := by simp; omega
  have d1 : decide (16 ≤ N) = true := by simp; omega
  have d2 : decide (N < 20) = false := by simp; omega
  have d3 : decide (N < 4) = false := by simp; omega
  have d4 : decide (N < 16) = false := by simp; omega
  have H1 := hid (HD1 w hn hf)
  have H2 := hid HD2
  have H3 := hid (fun (W : World) (h : Nums W) => shape_yes k h1 h2 W h)
  rw [hs] at H3
  have H4 := hid HH
  have HN := hid hn
  have HF := hid hf
  clear hn hf HD1 HD2 HH hs
  go_enter Tryd.func6, Tryd.ntmps6
  go_wp2_with fail
  refine H1.out.mono ?_
  rintro e w1 ⟨rfl, g⟩
  have HG := hid (Ch.alloc g (.cells #[.int .i64 (k : Nat), .int .i64 a, .int .i64 b, .int .i64 c, .int .i64 m] 24))
  clear g
  go_wp2_with fail
  refine (H2.out _ (HN.out.gr HG.out) (HF.out.gr HG.out)).mono ?_
  rintro e w2 ⟨rfl, g⟩
  obtain ⟨c0, c1, c2, c3, c4⟩ := boxed5 g
  have l1 : w1.heap.size < w2.heap.size := Nat.lt_of_lt_of_le (by simp) g.size
  have HG2 := hid (Gr.trans HG.out g)
  clear g
  go_wp2_with fail
  refine (H3.out _ (HN.out.gr (Ch.alloc HG2.out _))).mono ?_
  rintro e w3 ⟨rfl, rfl⟩
  go_wp2_with fail
  refine (H4.out _).mono ?_
  rintro e w3 ⟨rfl, rfl⟩
  go_wp2
  go_ret
  exact ⟨rfl, Ch.alloc HG2.out _⟩
set_option maxRecDepth 20000 in
theorem fw_bt (k s : Nat) (x y bit N P a b c m a' b' c' m' x3 x4 : Int) (p1 p2 p3 : Bool) (h1 : 1 ≤ k) (h2 : k < 59) (t1 : bit.tmod 24 = N) (t2 : bit % 24 = N) (t3 : IntKind.u8.wrap N = N) (_N0 : 0 ≤ N) (_N1 : N < 24) (hp : IntKind.u32.wrap (2 ^ N.toNat) = P) (hx : bits .xor .u32 x P = y) (hs : sh k = s)
    (HD1 : ∀ w : World, Nums w → Forms w → Calls Tryd.prog 7 #[.int .u32 x] w fun e w' => e = .returned (.tuple #[.agg #[.int .i64 (k : Nat), .int .i64 a, .int .i64 b, .int .i64 c, .int .i64 m], .int .i64 0]) ∧ Gr w w') (HD2 : ∀ w : World, Nums w → Forms w → Calls Tryd.prog 7 #[.int .u32 y] w fun e w' => e = .returned (.tuple #[.agg #[.int .i64 (k : Nat), .int .i64 a', .int .i64 b', .int .i64 c', .int .i64 m'], .int .i64 0]) ∧ Gr w w') (HH : ∀ w : World, Calls Tryd.prog 14 #[.int .i64 (s : Nat)] w fun e w' => e = .returned (.tuple #[.bool p1, .bool p2, .bool p3, .int .i64 x3, .int .i64 x4]) ∧ w' = w) (hne : ∀ w : World, (binOp .neq 24 (.agg #[.int .i64 (k : Nat), .int .i64 a', .int .i64 b', .int .i64 c', .int .i64 m']) (.agg #[.int .i64 (k : Nat), .int .i64 a, .int .i64 b, .int .i64 c, .int .i64 m])).run Tryd.prog w = .ok (.bool true) w) (r1 : 16 ≤ N) (r2 : N < 20) (q1 : p2 = true) (w : World) (hn : Nums w) (hf : Forms w) :
    Calls Tryd.prog 6 #[.int .u32 x, .int .u8 bit] w fun e w' => e = .returned (.bool true) ∧ Gr w w' := by
  subst q1
  have d0 : decide (20 ≤ N) = false := by simp; omega
  have d1 : decide (16 ≤ N) = true := by simp; omega
  have d2 : decide (N < 20) = true := by simp; omega
  have d3 : decide (N < 4) = false := by simp; omega
  have d4 : decide (N < 16) = false := by simp; omega
  have H1 := hid (HD1 w hn hf)
  have H2 := hid HD2
  have H3 := hid (fun (W : World) (h : Nums W) => shape_yes k h1 h2 W h)
  rw [hs] at H3
  have H4 := hid HH
  have HN := hid hn
  have HF := hid hf
  clear hn hf HD1 HD2 HH hs
  go_enter Tryd.func6, Tryd.ntmps6
  go_wp2_with fail
  refine H1.out.mono ?_
  rintro e w1 ⟨rfl, g⟩
  have HG := hid (Ch.alloc g (.cells #[.int .i64 (k : Nat), .int .i64 a, .int .i64 b, .int .i64 c, .int .i64 m] 24))
  clear g
  go_wp2_with fail
  refine (H2.out _ (HN.out.gr HG.out) (HF.out.gr HG.out)).mono ?_
  rintro e w2 ⟨rfl, g⟩
  obtain ⟨c0, c1, c2, c3, c4⟩ := boxed5 g
  have l1 : w1.heap.size < w2.heap.size := Nat.lt_of_lt_of_le (by simp) g.size
  have HG2 := hid (Gr.trans HG.out g)
  clear g
  go_wp2_with fail
  refine (H3.out _ (HN.out.gr (Ch.alloc HG2.out _))).mono ?_
  rintro e w3 ⟨rfl, rfl⟩
  go_wp2_with fail
  refine (H4.out _).mono ?_
  rintro e w3 ⟨rfl, rfl⟩
  go_wp2
  go_ret
  exact ⟨rfl, Ch.alloc HG2.out _⟩
set_option maxRecDepth 20000 in
theorem fw_ht (k s : Nat) (x y bit N P a b c m a' b' c' m' x3 x4 : Int) (p1 p2 p3 : Bool) (h1 : 1 ≤ k) (h2 : k < 59) (t1 : bit.tmod 24 = N) (t2 : bit % 24 = N) (t3 : IntKind.u8.wrap N = N) (_N0 : 0 ≤ N) (_N1 : N < 24) (hp : IntKind.u32.wrap (2 ^ N.toNat) = P) (hx : bits .xor .u32 x P = y) (hs : sh k = s)
    (HD1 : ∀ w : World, Nums w → Forms w → Calls Tryd.prog 7 #[.int .u32 x] w fun e w' => e = .returned (.tuple #[.agg #[.int .i64 (k : Nat), .int .i64 a, .int .i64 b, .int .i64 c, .int .i64 m], .int .i64 0]) ∧ Gr w w') (HD2 : ∀ w : World, Nums w → Forms w → Calls Tryd.prog 7 #[.int .u32 y] w fun e w' => e = .returned (.tuple #[.agg #[.int .i64 (k : Nat), .int .i64 a', .int .i64 b', .int .i64 c', .int .i64 m'], .int .i64 0]) ∧ Gr w w') (HH : ∀ w : World, Calls Tryd.prog 14 #[.int .i64 (s : Nat)] w fun e w' => e = .returned (.tuple #[.bool p1, .bool p2, .bool p3, .int .i64 x3, .int .i64 x4]) ∧ w' = w) (hne : ∀ w : World, (binOp .neq 24 (.agg #[.int .i64 (k : Nat), .int .i64 a', .int .i64 b', .int .i64 c', .int .i64 m']) (.agg #[.int .i64 (k : Nat), .int .i64 a, .int .i64 b, .int .i64 c, .int .i64 m])).run Tryd.prog w = .ok (.bool true) w) (r1 : 4 ≤ N) (r2 : N < 16) (q1 : 0 < x4) (w : World) (hn : Nums w) (hf : Forms w) :
    Calls Tryd.prog 6 #[.int .u32 x, .int .u8 bit] w fun e w' => e = .returned (.bool true) ∧ Gr w w' := by
  have d0 : decide (20 ≤ N) = false := by simp; omega
  have d1 : decide (16 ≤ N) = false := by simp; omega
  have d2 : decide (N < 20) = true := by simp; omega
  have d3 : decide (N < 4) = false := by simp; omega
  have d4 : decide (N < 16) = true := by simp; omega
  have d9 : decide (0 < x4) = true := by simp; omega
  have H1 := hid (HD1 w hn hf)
  have H2 := hid HD2
  have H3 := hid (fun (W : World) (h : Nums W) => shape_yes k h1 h2 W h)
  rw [hs] at H3
  have H4 := hid HH
  have HN := hid hn
  have HF := hid hf
  clear hn hf HD1 HD2 HH hs
  go_enter Tryd.func6, Tryd.ntmps6
  go_wp2_with fail
  refine H1.out.mono ?_
  rintro e w1 ⟨rfl, g⟩
  have HG := hid (Ch.alloc g (.cells #[.int .i64 (k : Nat), .int .i64 a, .int .i64 b, .int .i64 c, .int .i64 m] 24))
  clear g
  go_wp2_with fail
  refine (H2.out _ (HN.out.gr HG.out) (HF.out.gr HG.out)).mono ?_
  rintro e w2 ⟨rfl, g⟩
  obtain ⟨c0, c1, c2, c3, c4⟩ := boxed5 g
  have l1 : w1.heap.size < w2.heap.size := Nat.lt_of_lt_of_le (by simp) g.size
  have HG2 := hid (Gr.trans HG.out g)
  clear g
  go_wp2_with fail
  refine (H3.out _ (HN.out.gr (Ch.alloc HG2.out _))).mono ?_
  rintro e w3 ⟨rfl, rfl⟩
  go_wp2_with fail
  refine (H4.out _).mono ?_
  rintro e w3 ⟨rfl, rfl⟩
  go_wp2
  go_ret
  exact ⟨rfl, Ch.alloc HG2.out _⟩
set_option maxRecDepth 20000 in
theorem fw_lc (k s : Nat) (x y bit N P a b c m a' b' c' m' x3 x4 : Int) (p1 p2 p3 : Bool) (h1 : 1 ≤ k) (h2 : k < 59) (t1 : bit.tmod 24 = N) (t2 : bit % 24 = N) (t3 : IntKind.u8.wrap N = N) (_N0 : 0 ≤ N) (_N1 : N < 24) (hp : IntKind.u32.wrap (2 ^ N.toNat) = P) (hx : bits .xor .u32 x P = y) (hs : sh k = s)
    (HD1 : ∀ w : World, Nums w → Forms w → Calls Tryd.prog 7 #[.int .u32 x] w fun e w' => e = .returned (.tuple #[.agg #[.int .i64 (k : Nat), .int .i64 a, .int .i64 b, .int .i64 c, .int .i64 m], .int .i64 0]) ∧ Gr w w') (HD2 : ∀ w : World, Nums w → Forms w → Calls Tryd.prog 7 #[.int .u32 y] w fun e w' => e = .returned (.tuple #[.agg #[.int .i64 (k : Nat), .int .i64 a', .int .i64 b', .int .i64 c', .int .i64 m'], .int .i64 0]) ∧ Gr w w') (HH : ∀ w : World, Calls Tryd.prog 14 #[.int .i64 (s : Nat)] w fun e w' => e = .returned (.tuple #[.bool p1, .bool p2, .bool p3, .int .i64 x3, .int .i64 x4]) ∧ w' = w) (hne : ∀ w : World, (binOp .neq 24 (.agg #[.int .i64 (k : Nat), .int .i64 a', .int .i64 b', .int .i64 c', .int .i64 m']) (.agg #[.int .i64 (k : Nat), .int .i64 a, .int .i64 b, .int .i64 c, .int .i64 m])).run Tryd.prog w = .ok (.bool true) w) (r2 : N < 4) (q1 : p3 = true) (w : World) (hn : Nums w) (hf : Forms w) :
    Calls Tryd.prog 6 #[.int .u32 x, .int .u8 bit] w fun e w' => e = .returned (.bool true) ∧ Gr w w' := by
  subst q1
  have d0 : decide (20 ≤ N) = false := by simp; omega
  have d1 : decide (16 ≤ N) = false := by simp; omega
  have d2 : decide (N < 20) = true := by simp; omega
  have d3 : decide (N < 4) = true := by simp; omega
  have d4 : decide (N < 16) = true := by simp; omega
  have H1 := hid (HD1 w hn hf)
  have H2 := hid HD2
  have H3 := hid (fun (W : World) (h : Nums W) => shape_yes k h1 h2 W h)
  rw [hs] at H3
  have H4 := hid HH
  have HN := hid hn
  have HF := hid hf
  clear hn hf HD1 HD2 HH hs
  go_enter Tryd.func6, Tryd.ntmps6
  go_wp2_with fail
  refine H1.out.mono ?_
  rintro e w1 ⟨rfl, g⟩
  have HG := hid (Ch.alloc g (.cells #[.int .i64 (k : Nat), .int .i64 a, .int .i64 b, .int .i64 c, .int .i64 m] 24))
  clear g
  go_wp2_with fail
  refine (H2.out _ (HN.out.gr HG.out) (HF.out.gr HG.out)).mono ?_
  rintro e w2 ⟨rfl, g⟩
  obtain ⟨c0, c1, c2, c3, c4⟩ := boxed5 g
  have l1 : w1.heap.size < w2.heap.size := Nat.lt_of_lt_of_le (by simp) g.size
  have HG2 := hid (Gr.trans HG.out g)
  clear g
  go_wp2_with fail
  refine (H3.out _ (HN.out.gr (Ch.alloc HG2.out _))).mono ?_
  rintro e w3 ⟨rfl, rfl⟩
  go_wp2_with fail
  refine (H4.out _).mono ?_
  rintro e w3 ⟨rfl, rfl⟩
  go_wp2
  go_ret
  exact ⟨rfl, Ch.alloc HG2.out _⟩
set_option maxRecDepth 20000 in
theorem fw_lh (k s : Nat) (x y bit N P a b c m a' b' c' m' x3 x4 : Int) (p1 p2 p3 : Bool) (h1 : 1 ≤ k) (h2 : k < 59) (t1 : bit.tmod 24 = N) (t2 : bit % 24 = N) (t3 : IntKind.u8.wrap N = N) (_N0 : 0 ≤ N) (_N1 : N < 24) (hp : IntKind.u32.wrap (2 ^ N.toNat) = P) (hx : bits .xor .u32 x P = y) (hs : sh k = s)
    (HD1 : ∀ w : World, Nums w → Forms w → Calls Tryd.prog 7 #[.int .u32 x] w fun e w' => e = .returned (.tuple #[.agg #[.int .i64 (k : Nat), .int .i64 a, .int .i64 b, .int .i64 c, .int .i64 m], .int .i64 0]) ∧ Gr w w') (HD2 : ∀ w : World, Nums w → Forms w → Calls Tryd.prog 7 #[.int .u32 y] w fun e w' => e = .returned (.tuple #[.agg #[.int .i64 (k : Nat), .int .i64 a', .int .i64 b', .int .i64 c', .int .i64 m'], .int .i64 0]) ∧ Gr w w') (HH : ∀ w : World, Calls Tryd.prog 14 #[.int .i64 (s : Nat)] w fun e w' => e = .returned (.tuple #[.bool p1, .bool p2, .bool p3, .int .i64 x3, .int .i64 x4]) ∧ w' = w) (hne : ∀ w : World, (binOp .neq 24 (.agg #[.int .i64 (k : Nat), .int .i64 a', .int .i64 b', .int .i64 c', .int .i64 m']) (.agg #[.int .i64 (k : Nat), .int .i64 a, .int .i64 b, .int .i64 c, .int .i64 m])).run Tryd.prog w = .ok (.bool true) w) (r2 : N < 4) (q1 : p3 = false) (q2 : 0 < x4) (w : World) (hn : Nums w) (hf : Forms w) :
    Calls Tryd.prog 6 #[.int .u32 x, .int .u8 bit] w fun e w' => e = .returned (.bool true) ∧ Gr w w' := by
  subst q1
  have d0 : decide (20 ≤ N) = false := by simp; omega
  have d1 : decide (16 ≤ N) = false := by simp; omega
  have d2 : decide (N < 20) = true := by simp; omega
  have d3 : decide (N < 4) = true := by simp; omega
  have d4 : decide (N < 16) = true := by simp; omega
  have d9 : decide (0 < x4) = true := by simp; omega
  have H1 := hid (HD1 w hn hf)
  have H2 := hid HD2
  have H3 := hid (fun (W : World) (h : Nums W) => shape_yes k h1 h2 W h)
  rw [hs] at H3
  have H4 := hid HH
  have HN := hid hn
  have HF := hid hf
  clear hn hf HD1 HD2 HH hs
  go_enter Tryd.func6, Tryd.ntmps6
  go_wp2_with fail
  refine H1.out.mono ?_
  rintro e w1 ⟨rfl, g⟩
  have HG := hid (Ch.alloc g (.cells #[.int .i64 (k : Nat), .int .i64 a, .int .i64 b, .int .i64 c, .int .i64 m] 24))
  clear g
  go_wp2_with fail
  refine (H2.out _ (HN.out.gr HG.out) (HF.out.gr HG.out)).mono ?_
  rintro e w2 ⟨rfl, g⟩
  obtain ⟨c0, c1, c2, c3, c4⟩ := boxed5 g
  have l1 : w1.heap.size < w2.heap.size := Nat.lt_of_lt_of_le (by simp) g.size
  have HG2 := hid (Gr.trans HG.out g)
  clear g
  go_wp2_with fail
  refine (H3.out _ (HN.out.gr (Ch.alloc HG2.out _))).mono ?_
  rintro e w3 ⟨rfl, rfl⟩
  go_wp2_with fail
  refine (H4.out _).mono ?_
  rintro e w3 ⟨rfl, rfl⟩
  go_wp2
  go_ret
  exact ⟨rfl, Ch.alloc HG2.out _⟩
end Go.Proofs.YtejmmpgclgdbbabDoor.Wd
