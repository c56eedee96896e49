/-
  What an operation that reckons tells, by the program and by the document. No conditions.
-/
import Derived.Test.YtcdlhfodeckleaaDoorSuSm
import Derived.Test.YtcdlhfodeckleaaDoorStReg
namespace Go.Proofs.YtcdlhfodeckleaaDoor.Lt
open Go.RowKit Wd

theorem regs_get {r : List Int} {a : Nat} {x : Int} (h : r[a]? = some x) : ((r.map (Value.int .i64)).toArray)[a]? = some (.int .i64 x) := by simp [h]
/-- moved to the left, to the right -/
def shlV (y z : Int) : Int := wrap64 (y * 2 ^ (z % 64).toNat)
def shrV (y z : Int) : Int := y / 2 ^ (z % 64).toNat
theorem and63_i64 (x : Int) : bits .and .i64 x 63 = x % 64 := by
  have e : (63 : Int) = ((63 : Nat) : Int) := rfl
  rw [e]
  show IntKind.i64.wrap (((BitVec.ofInt 64 x &&& BitVec.ofInt 64 ((63 : Nat) : Int)).toNat : Nat) : Int) = _
  rw [ofInt_nat, BitVec.toNat_and, BitVec.toNat_ofInt, BitVec.toNat_ofNat, show (63 % 2 ^ 64) = 2 ^ 6 - 1 from rfl, Nat.and_two_pow_sub_one_eq_mod, IntKind.wrap_i64]
  have e2 : ((2 ^ 64 : Nat) : Int) = 18446744073709551616 := rfl
  rw [e2]
  omega
theorem and63_u64 (x : Int) : bits .and .u64 (IntKind.u64.wrap x) 63 = x % 64 := by
  have e : (63 : Int) = ((63 : Nat) : Int) := rfl
  rw [e]
  show IntKind.u64.wrap (((BitVec.ofInt 64 (IntKind.u64.wrap x) &&& BitVec.ofInt 64 ((63 : Nat) : Int)).toNat : Nat) : Int) = _
  rw [ofInt_nat, BitVec.toNat_and, BitVec.toNat_ofInt, BitVec.toNat_ofNat, show (63 % 2 ^ 64) = 2 ^ 6 - 1 from rfl, Nat.and_two_pow_sub_one_eq_mod, IntKind.wrap_u64, IntKind.wrap_u64]
  have e2 : ((2 ^ 64 : Nat) : Int) = 18446744073709551616 := rfl
  rw [e2]
  omega
theorem shl_run (y z : Int) (k : IntKind) (w : World) : (Op.shift .shl .i64 y k (z % 64)).run Tryd.prog w = .ok (.int .i64 (shlV y z)) w := by
  have h0 : ¬ (z % 64 < 0) := by omega
  have h1 : min (z % 64).toNat IntKind.i64.bits = (z % 64).toNat := Nat.min_eq_left (by show (z % 64).toNat ≤ 64; omega)
  unfold Op.shift shlV
  simp only [if_neg h0, h1, IntWalk.i64_left]
  rfl
theorem shr_run (y z : Int) (k : IntKind) (w : World) : (Op.shift .shr .i64 y k (z % 64)).run Tryd.prog w = .ok (.int .i64 (shrV y z)) w := by
  have h0 : ¬ (z % 64 < 0) := by omega
  have h1 : min (z % 64).toNat IntKind.i64.bits = (z % 64).toNat := Nat.min_eq_left (by show (z % 64).toNat ≤ 64; omega)
  unfold Op.shift shrV
  simp only [if_neg h0, h1]
  rw [Int.fdiv_eq_ediv_of_nonneg _ (Int.pow_nonneg (by omega))]
  rfl
/-- what an operation tells of its number and its three registers -/
def rk (o im x y z : Int) : Int :=
  if o = 2 then im
  else if o = 3 then (wrap64 (wrap64 (x * 65536) + im))
  else if o = 4 then y
  else if o = 5 then (wrap64 (y + z))
  else if o = 6 then (wrap64 (y - z))
  else if o = 7 then (wrap64 (y * z))
  else if o = 8 then (wrap64 (y.tdiv z))
  else if o = 9 then y.tmod z
  else if o = 10 then (bits .and .i64 y z)
  else if o = 11 then (bits .or .i64 y z)
  else if o = 12 then (bits .xor .i64 y z)
  else if o = 13 then (shlV y z)
  else if o = 14 then (shrV y z)
  else if o = 15 then (if y < z then 1 else 0)
  else (if y = z then 1 else 0)
set_option maxHeartbeats 1000000 in
theorem reckon_2 (a b c : Nat) (im x y z : Int) (r : List Int) (ha : r[a]? = some x) (hb : r[b]? = some y) (hc : r[c]? = some z) (la : a < 16) (lb : b < 16) (lc : c < 16) (w : World) : Calls Tryd.prog 36 #[.agg #[.int .i64 2, .int .i64 (a : Int), .int .i64 (b : Int), .int .i64 (c : Int), .int .i64 im], .agg (r.map (Value.int .i64)).toArray] w fun e w' => e = .returned (.int .i64 (rk 2 im x y z)) ∧ Gr w w' := by
  have HR := hid (show ∀ w' u, u = im → Gr w w' → (.returned (.int .i64 u) : Ending) = .returned (.int .i64 (rk 2 im x y z)) ∧ Gr w w' from fun w' u hu g => ⟨by rw [hu]; simp [rk], g⟩)
  have h1 := regs_get ha
  have h2 := regs_get hb
  have h3 := regs_get hc
  have a0 : (0 : Int) ≤ (a : Int) := by omega
  have a1 : (a : Int) < 16 := by omega
  have b0 : (0 : Int) ≤ (b : Int) := by omega
  have b1 : (b : Int) < 16 := by omega
  have c0 : (0 : Int) ≤ (c : Int) := by omega
  have c1 : (c : Int) < 16 := by omega
  go_enter Tryd.func36, Tryd.ntmps36
  go_wp2
  go_quiet (fail)
  go_wp2
  go_ret
  exact HR.out _ _ rfl (Ch.drewN (Gr.alloc (Gr.alloc (Gr.refl w) _ _) _ _) _)
set_option maxHeartbeats 1000000 in
theorem reckon_3 (a b c : Nat) (im x y z : Int) (r : List Int) (ha : r[a]? = some x) (hb : r[b]? = some y) (hc : r[c]? = some z) (la : a < 16) (lb : b < 16) (lc : c < 16) (w : World) : Calls Tryd.prog 36 #[.agg #[.int .i64 3, .int .i64 (a : Int), .int .i64 (b : Int), .int .i64 (c : Int), .int .i64 im], .agg (r.map (Value.int .i64)).toArray] w fun e w' => e = .returned (.int .i64 (rk 3 im x y z)) ∧ Gr w w' := by
  have HR := hid (show ∀ w' u, u = (wrap64 (wrap64 (x * 65536) + im)) → Gr w w' → (.returned (.int .i64 u) : Ending) = .returned (.int .i64 (rk 3 im x y z)) ∧ Gr w w' from fun w' u hu g => ⟨by rw [hu]; simp [rk], g⟩)
  have h1 := regs_get ha
  have h2 := regs_get hb
  have h3 := regs_get hc
  have a0 : (0 : Int) ≤ (a : Int) := by omega
  have a1 : (a : Int) < 16 := by omega
  have b0 : (0 : Int) ≤ (b : Int) := by omega
  have b1 : (b : Int) < 16 := by omega
  have c0 : (0 : Int) ≤ (c : Int) := by omega
  have c1 : (c : Int) < 16 := by omega
  go_enter Tryd.func36, Tryd.ntmps36
  go_wp2
  go_quiet (fail)
  go_wp2
  go_ret
  exact HR.out _ _ rfl (Ch.drewN (Gr.alloc (Gr.alloc (Gr.refl w) _ _) _ _) _)
set_option maxHeartbeats 1000000 in
theorem reckon_4 (a b c : Nat) (im x y z : Int) (r : List Int) (ha : r[a]? = some x) (hb : r[b]? = some y) (hc : r[c]? = some z) (la : a < 16) (lb : b < 16) (lc : c < 16) (w : World) : Calls Tryd.prog 36 #[.agg #[.int .i64 4, .int .i64 (a : Int), .int .i64 (b : Int), .int .i64 (c : Int), .int .i64 im], .agg (r.map (Value.int .i64)).toArray] w fun e w' => e = .returned (.int .i64 (rk 4 im x y z)) ∧ Gr w w' := by
  have HR := hid (show ∀ w' u, u = y → Gr w w' → (.returned (.int .i64 u) : Ending) = .returned (.int .i64 (rk 4 im x y z)) ∧ Gr w w' from fun w' u hu g => ⟨by rw [hu]; simp [rk], g⟩)
  have h1 := regs_get ha
  have h2 := regs_get hb
  have h3 := regs_get hc
  have a0 : (0 : Int) ≤ (a : Int) := by omega
  have a1 : (a : Int) < 16 := by omega
  have b0 : (0 : Int) ≤ (b : Int) := by omega
  have b1 : (b : Int) < 16 := by omega
  have c0 : (0 : Int) ≤ (c : Int) := by omega
  have c1 : (c : Int) < 16 := by omega
  go_enter Tryd.func36, Tryd.ntmps36
  go_wp2
  go_quiet (fail)
  go_wp2
  go_ret
  exact HR.out _ _ rfl (Ch.drewN (Gr.alloc (Gr.alloc (Gr.refl w) _ _) _ _) _)
set_option maxHeartbeats 1000000 in
theorem reckon_5 (a b c : Nat) (im x y z : Int) (r : List Int) (ha : r[a]? = some x) (hb : r[b]? = some y) (hc : r[c]? = some z) (la : a < 16) (lb : b < 16) (lc : c < 16) (w : World) : Calls Tryd.prog 36 #[.agg #[.int .i64 5, .int .i64 (a : Int), .int .i64 (b : Int), .int .i64 (c : Int), .int .i64 im], .agg (r.map (Value.int .i64)).toArray] w fun e w' => e = .returned (.int .i64 (rk 5 im x y z)) ∧ Gr w w' := by
  have HR := hid (show ∀ w' u, u = (wrap64 (y + z)) → Gr w w' → (.returned (.int .i64 u) : Ending) = .returned (.int .i64 (rk 5 im x y z)) ∧ Gr w w' from fun w' u hu g => ⟨by rw [hu]; simp [rk], g⟩)
  have h1 := regs_get ha
  have h2 := regs_get hb
  have h3 := regs_get hc
  have a0 : (0 : Int) ≤ (a : Int) := by omega
  have a1 : (a : Int) < 16 := by omega
  have b0 : (0 : Int) ≤ (b : Int) := by omega
  have b1 : (b : Int) < 16 := by omega
  have c0 : (0 : Int) ≤ (c : Int) := by omega
  have c1 : (c : Int) < 16 := by omega
  go_enter Tryd.func36, Tryd.ntmps36
  go_wp2
  go_quiet (fail)
  go_wp2
  go_ret
  exact HR.out _ _ rfl (Ch.drewN (Gr.alloc (Gr.alloc (Gr.refl w) _ _) _ _) _)
set_option maxHeartbeats 1000000 in
theorem reckon_6 (a b c : Nat) (im x y z : Int) (r : List Int) (ha : r[a]? = some x) (hb : r[b]? = some y) (hc : r[c]? = some z) (la : a < 16) (lb : b < 16) (lc : c < 16) (w : World) : Calls Tryd.prog 36 #[.agg #[.int .i64 6, .int .i64 (a : Int), .int .i64 (b : Int), .int .i64 (c : Int), .int .i64 im], .agg (r.map (Value.int .i64)).toArray] w fun e w' => e = .returned (.int .i64 (rk 6 im x y z)) ∧ Gr w w' := by
  have HR := hid (show ∀ w' u, u = (wrap64 (y - z)) → Gr w w' → (.returned (.int .i64 u) : Ending) = .returned (.int .i64 (rk 6 im x y z)) ∧ Gr w w' from fun w' u hu g => ⟨by rw [hu]; simp [rk], g⟩)
  have h1 := regs_get ha
  have h2 := regs_get hb
  have h3 := regs_get hc
  have a0 : (0 : Int) ≤ (a : Int) := by omega
  have a1 : (a : Int) < 16 := by omega
  have b0 : (0 : Int) ≤ (b : Int) := by omega
  have b1 : (b : Int) < 16 := by omega
  have c0 : (0 : Int) ≤ (c : Int) := by omega
  have c1 : (c : Int) < 16 := by omega
  go_enter Tryd.func36, Tryd.ntmps36
  go_wp2
  go_quiet (fail)
  go_wp2
  go_ret
  exact HR.out _ _ rfl (Ch.drewN (Gr.alloc (Gr.alloc (Gr.refl w) _ _) _ _) _)
set_option maxHeartbeats 1000000 in
theorem reckon_7 (a b c : Nat) (im x y z : Int) (r : List Int) (ha : r[a]? = some x) (hb : r[b]? = some y) (hc : r[c]? = some z) (la : a < 16) (lb : b < 16) (lc : c < 16) (w : World) : Calls Tryd.prog 36 #[.agg #[.int .i64 7, .int .i64 (a : Int), .int .i64 (b : Int), .int .i64 (c : Int), .int .i64 im], .agg (r.map (Value.int .i64)).toArray] w fun e w' => e = .returned (.int .i64 (rk 7 im x y z)) ∧ Gr w w' := by
  have HR := hid (show ∀ w' u, u = (wrap64 (y * z)) → Gr w w' → (.returned (.int .i64 u) : Ending) = .returned (.int .i64 (rk 7 im x y z)) ∧ Gr w w' from fun w' u hu g => ⟨by rw [hu]; simp [rk], g⟩)
  have h1 := regs_get ha
  have h2 := regs_get hb
  have h3 := regs_get hc
  have a0 : (0 : Int) ≤ (a : Int) := by omega
  have a1 : (a : Int) < 16 := by omega
  have b0 : (0 : Int) ≤ (b : Int) := by omega
  have b1 : (b : Int) < 16 := by omega
  have c0 : (0 : Int) ≤ (c : Int) := by omega
  have c1 : (c : Int) < 16 := by omega
  go_enter Tryd.func36, Tryd.ntmps36
  go_wp2
  go_quiet (fail)
  go_wp2
  go_ret
  exact HR.out _ _ rfl (Ch.drewN (Gr.alloc (Gr.alloc (Gr.refl w) _ _) _ _) _)
set_option maxHeartbeats 1000000 in
theorem reckon_8 (a b c : Nat) (im x y z : Int) (r : List Int) (ha : r[a]? = some x) (hb : r[b]? = some y) (hc : r[c]? = some z) (la : a < 16) (lb : b < 16) (lc : c < 16) (hz : z ≠ 0) (w : World) : Calls Tryd.prog 36 #[.agg #[.int .i64 8, .int .i64 (a : Int), .int .i64 (b : Int), .int .i64 (c : Int), .int .i64 im], .agg (r.map (Value.int .i64)).toArray] w fun e w' => e = .returned (.int .i64 (rk 8 im x y z)) ∧ Gr w w' := by
  have HR := hid (show ∀ w' u, u = (wrap64 (y.tdiv z)) → Gr w w' → (.returned (.int .i64 u) : Ending) = .returned (.int .i64 (rk 8 im x y z)) ∧ Gr w w' from fun w' u hu g => ⟨by rw [hu]; simp [rk], g⟩)
  have h1 := regs_get ha
  have h2 := regs_get hb
  have h3 := regs_get hc
  have a0 : (0 : Int) ≤ (a : Int) := by omega
  have a1 : (a : Int) < 16 := by omega
  have b0 : (0 : Int) ≤ (b : Int) := by omega
  have b1 : (b : Int) < 16 := by omega
  have c0 : (0 : Int) ≤ (c : Int) := by omega
  have c1 : (c : Int) < 16 := by omega
  have hzb : (z == 0) = false := by simpa using hz
  go_enter Tryd.func36, Tryd.ntmps36
  go_wp2
  go_quiet (fail)
  go_wp2
  go_ret
  exact HR.out _ _ rfl (Ch.drewN (Gr.alloc (Gr.alloc (Gr.refl w) _ _) _ _) _)
set_option maxHeartbeats 1000000 in
theorem reckon_9 (a b c : Nat) (im x y z : Int) (r : List Int) (ha : r[a]? = some x) (hb : r[b]? = some y) (hc : r[c]? = some z) (la : a < 16) (lb : b < 16) (lc : c < 16) (hz : z ≠ 0) (w : World) : Calls Tryd.prog 36 #[.agg #[.int .i64 9, .int .i64 (a : Int), .int .i64 (b : Int), .int .i64 (c : Int), .int .i64 im], .agg (r.map (Value.int .i64)).toArray] w fun e w' => e = .returned (.int .i64 (rk 9 im x y z)) ∧ Gr w w' := by
  have HR := hid (show ∀ w' u, u = y.tmod z → Gr w w' → (.returned (.int .i64 u) : Ending) = .returned (.int .i64 (rk 9 im x y z)) ∧ Gr w w' from fun w' u hu g => ⟨by rw [hu]; simp [rk], g⟩)
  have h1 := regs_get ha
  have h2 := regs_get hb
  have h3 := regs_get hc
  have a0 : (0 : Int) ≤ (a : Int) := by omega
  have a1 : (a : Int) < 16 := by omega
  have b0 : (0 : Int) ≤ (b : Int) := by omega
  have b1 : (b : Int) < 16 := by omega
  have c0 : (0 : Int) ≤ (c : Int) := by omega
  have c1 : (c : Int) < 16 := by omega
  have hzb : (z == 0) = false := by simpa using hz
  go_enter Tryd.func36, Tryd.ntmps36
  go_wp2
  go_quiet (fail)
  go_wp2
  go_ret
  exact HR.out _ _ rfl (Ch.drewN (Gr.alloc (Gr.alloc (Gr.refl w) _ _) _ _) _)
set_option maxHeartbeats 1000000 in
theorem reckon_10 (a b c : Nat) (im x y z : Int) (r : List Int) (ha : r[a]? = some x) (hb : r[b]? = some y) (hc : r[c]? = some z) (la : a < 16) (lb : b < 16) (lc : c < 16) (w : World) : Calls Tryd.prog 36 #[.agg #[.int .i64 10, .int .i64 (a : Int), .int .i64 (b : Int), .int .i64 (c : Int), .int .i64 im], .agg (r.map (Value.int .i64)).toArray] w fun e w' => e = .returned (.int .i64 (rk 10 im x y z)) ∧ Gr w w' := by
  have HR := hid (show ∀ w' u, u = (bits .and .i64 y z) → Gr w w' → (.returned (.int .i64 u) : Ending) = .returned (.int .i64 (rk 10 im x y z)) ∧ Gr w w' from fun w' u hu g => ⟨by rw [hu]; simp [rk], g⟩)
  have h1 := regs_get ha
  have h2 := regs_get hb
  have h3 := regs_get hc
  have a0 : (0 : Int) ≤ (a : Int) := by omega
  have a1 : (a : Int) < 16 := by omega
  have b0 : (0 : Int) ≤ (b : Int) := by omega
  have b1 : (b : Int) < 16 := by omega
  have c0 : (0 : Int) ≤ (c : Int) := by omega
  have c1 : (c : Int) < 16 := by omega
  go_enter Tryd.func36, Tryd.ntmps36
  go_wp2
  go_quiet (fail)
  go_wp2
  go_ret
  exact HR.out _ _ rfl (Ch.drewN (Gr.alloc (Gr.alloc (Gr.refl w) _ _) _ _) _)
set_option maxHeartbeats 1000000 in
theorem reckon_11 (a b c : Nat) (im x y z : Int) (r : List Int) (ha : r[a]? = some x) (hb : r[b]? = some y) (hc : r[c]? = some z) (la : a < 16) (lb : b < 16) (lc : c < 16) (w : World) : Calls Tryd.prog 36 #[.agg #[.int .i64 11, .int .i64 (a : Int), .int .i64 (b : Int), .int .i64 (c : Int), .int .i64 im], .agg (r.map (Value.int .i64)).toArray] w fun e w' => e = .returned (.int .i64 (rk 11 im x y z)) ∧ Gr w w' := by
  have HR := hid (show ∀ w' u, u = (bits .or .i64 y z) → Gr w w' → (.returned (.int .i64 u) : Ending) = .returned (.int .i64 (rk 11 im x y z)) ∧ Gr w w' from fun w' u hu g => ⟨by rw [hu]; simp [rk], g⟩)
  have h1 := regs_get ha
  have h2 := regs_get hb
  have h3 := regs_get hc
  have a0 : (0 : Int) ≤ (a : Int) := by omega
  have a1 : (a : Int) < 16 := by omega
  have b0 : (0 : Int) ≤ (b : Int) := by omega
  have b1 : (b : Int) < 16 := by omega
  have c0 : (0 : Int) ≤ (c : Int) := by omega
  have c1 : (c : Int) < 16 := by omega
  go_enter Tryd.func36, Tryd.ntmps36
  go_wp2
  go_quiet (fail)
  go_wp2
  go_ret
  exact HR.out _ _ rfl (Ch.drewN (Gr.alloc (Gr.alloc (Gr.refl w) _ _) _ _) _)
set_option maxHeartbeats 1000000 in
theorem reckon_12 (a b c : Nat) (im x y z : Int) (r : List Int) (ha : r[a]? = some x) (hb : r[b]? = some y) (hc : r[c]? = some z) (la : a < 16) (lb : b < 16) (lc : c < 16) (w : World) : Calls Tryd.prog 36 #[.agg #[.int .i64 12, .int .i64 (a : Int), .int .i64 (b : Int), .int .i64 (c : Int), .int .i64 im], .agg (r.map (Value.int .i64)).toArray] w fun e w' => e = .returned (.int .i64 (rk 12 im x y z)) ∧ Gr w w' := by
  have HR := hid (show ∀ w' u, u = (bits .xor .i64 y z) → Gr w w' → (.returned (.int .i64 u) : Ending) = .returned (.int .i64 (rk 12 im x y z)) ∧ Gr w w' from fun w' u hu g => ⟨by rw [hu]; simp [rk], g⟩)
  have h1 := regs_get ha
  have h2 := regs_get hb
  have h3 := regs_get hc
  have a0 : (0 : Int) ≤ (a : Int) := by omega
  have a1 : (a : Int) < 16 := by omega
  have b0 : (0 : Int) ≤ (b : Int) := by omega
  have b1 : (b : Int) < 16 := by omega
  have c0 : (0 : Int) ≤ (c : Int) := by omega
  have c1 : (c : Int) < 16 := by omega
  go_enter Tryd.func36, Tryd.ntmps36
  go_wp2
  go_quiet (fail)
  go_wp2
  go_ret
  exact HR.out _ _ rfl (Ch.drewN (Gr.alloc (Gr.alloc (Gr.refl w) _ _) _ _) _)
set_option maxHeartbeats 1000000 in
theorem reckon_13 (a b c : Nat) (im x y z : Int) (r : List Int) (ha : r[a]? = some x) (hb : r[b]? = some y) (hc : r[c]? = some z) (la : a < 16) (lb : b < 16) (lc : c < 16) (w : World) : Calls Tryd.prog 36 #[.agg #[.int .i64 13, .int .i64 (a : Int), .int .i64 (b : Int), .int .i64 (c : Int), .int .i64 im], .agg (r.map (Value.int .i64)).toArray] w fun e w' => e = .returned (.int .i64 (rk 13 im x y z)) ∧ Gr w w' := by
  have HR := hid (show ∀ w' u, u = (shlV y z) → Gr w w' → (.returned (.int .i64 u) : Ending) = .returned (.int .i64 (rk 13 im x y z)) ∧ Gr w w' from fun w' u hu g => ⟨by rw [hu]; simp [rk], g⟩)
  have h1 := regs_get ha
  have h2 := regs_get hb
  have h3 := regs_get hc
  have a0 : (0 : Int) ≤ (a : Int) := by omega
  have a1 : (a : Int) < 16 := by omega
  have b0 : (0 : Int) ≤ (b : Int) := by omega
  have b1 : (b : Int) < 16 := by omega
  have c0 : (0 : Int) ≤ (c : Int) := by omega
  have c1 : (c : Int) < 16 := by omega
  have hm := and63_u64 z
  have hs := fun (k : IntKind) (w : World) => shl_run y z k w
  go_enter Tryd.func36, Tryd.ntmps36
  go_wp2
  go_quiet (fail)
  go_wp2
  go_ret
  exact HR.out _ _ rfl (Ch.drewN (Gr.alloc (Gr.alloc (Gr.refl w) _ _) _ _) _)
set_option maxHeartbeats 1000000 in
theorem reckon_14 (a b c : Nat) (im x y z : Int) (r : List Int) (ha : r[a]? = some x) (hb : r[b]? = some y) (hc : r[c]? = some z) (la : a < 16) (lb : b < 16) (lc : c < 16) (w : World) : Calls Tryd.prog 36 #[.agg #[.int .i64 14, .int .i64 (a : Int), .int .i64 (b : Int), .int .i64 (c : Int), .int .i64 im], .agg (r.map (Value.int .i64)).toArray] w fun e w' => e = .returned (.int .i64 (rk 14 im x y z)) ∧ Gr w w' := by
  have HR := hid (show ∀ w' u, u = (shrV y z) → Gr w w' → (.returned (.int .i64 u) : Ending) = .returned (.int .i64 (rk 14 im x y z)) ∧ Gr w w' from fun w' u hu g => ⟨by rw [hu]; simp [rk], g⟩)
  have h1 := regs_get ha
  have h2 := regs_get hb
  have h3 := regs_get hc
  have a0 : (0 : Int) ≤ (a : Int) := by omega
  have a1 : (a : Int) < 16 := by omega
  have b0 : (0 : Int) ≤ (b : Int) := by omega
  have b1 : (b : Int) < 16 := by omega
  have c0 : (0 : Int) ≤ (c : Int) := by omega
  have c1 : (c : Int) < 16 := by omega
  have hm := and63_u64 z
  have hs := fun (k : IntKind) (w : World) => shr_run y z k w
  go_enter Tryd.func36, Tryd.ntmps36
  go_wp2
  go_quiet (fail)
  go_wp2
  go_ret
  exact HR.out _ _ rfl (Ch.drewN (Gr.alloc (Gr.alloc (Gr.refl w) _ _) _ _) _)
set_option maxHeartbeats 1000000 in
theorem reckon_15 (a b c : Nat) (im x y z : Int) (r : List Int) (ha : r[a]? = some x) (hb : r[b]? = some y) (hc : r[c]? = some z) (la : a < 16) (lb : b < 16) (lc : c < 16) (w : World) : Calls Tryd.prog 36 #[.agg #[.int .i64 15, .int .i64 (a : Int), .int .i64 (b : Int), .int .i64 (c : Int), .int .i64 im], .agg (r.map (Value.int .i64)).toArray] w fun e w' => e = .returned (.int .i64 (rk 15 im x y z)) ∧ Gr w w' := by
  have h1 := regs_get ha
  have h2 := regs_get hb
  have h3 := regs_get hc
  have a0 : (0 : Int) ≤ (a : Int) := by omega
  have a1 : (a : Int) < 16 := by omega
  have b0 : (0 : Int) ≤ (b : Int) := by omega
  have b1 : (b : Int) < 16 := by omega
  have c0 : (0 : Int) ≤ (c : Int) := by omega
  have c1 : (c : Int) < 16 := by omega
  have HNB := hid (fun (b : Bool) (W : World) => number_any b W)
  by_cases hq : y < z
  · have HR := hid (show ∀ w' u, u = 1 → Gr w w' → (.returned (.int .i64 u) : Ending) = .returned (.int .i64 (rk 15 im x y z)) ∧ Gr w w' from fun w' u hu g => ⟨by rw [hu]; simp [rk, hq], g⟩)
    have hd : decide (y < z) = true := decide_eq_true hq
    go_enter Tryd.func36, Tryd.ntmps36
    go_wp2
    go_quiet (fail)
    go_wp2_with (go_at_call 51; refine (HNB.out _ _).mono ?_; rintro e w1 ⟨rfl, hw⟩; have hw := hw.symm; subst hw)
    go_ret
    exact HR.out _ _ rfl (Ch.drewN (Gr.alloc (Gr.alloc (Gr.refl w) _ _) _ _) _)
  · have HR := hid (show ∀ w' u, u = 0 → Gr w w' → (.returned (.int .i64 u) : Ending) = .returned (.int .i64 (rk 15 im x y z)) ∧ Gr w w' from fun w' u hu g => ⟨by rw [hu]; simp [rk, hq], g⟩)
    have hd : decide (y < z) = false := decide_eq_false hq
    go_enter Tryd.func36, Tryd.ntmps36
    go_wp2
    go_quiet (fail)
    go_wp2_with (go_at_call 51; refine (HNB.out _ _).mono ?_; rintro e w1 ⟨rfl, hw⟩; have hw := hw.symm; subst hw)
    go_ret
    exact HR.out _ _ rfl (Ch.drewN (Gr.alloc (Gr.alloc (Gr.refl w) _ _) _ _) _)
set_option maxHeartbeats 1000000 in
theorem reckon_16 (a b c : Nat) (im x y z : Int) (r : List Int) (ha : r[a]? = some x) (hb : r[b]? = some y) (hc : r[c]? = some z) (la : a < 16) (lb : b < 16) (lc : c < 16) (w : World) : Calls Tryd.prog 36 #[.agg #[.int .i64 16, .int .i64 (a : Int), .int .i64 (b : Int), .int .i64 (c : Int), .int .i64 im], .agg (r.map (Value.int .i64)).toArray] w fun e w' => e = .returned (.int .i64 (rk 16 im x y z)) ∧ Gr w w' := by
  have h1 := regs_get ha
  have h2 := regs_get hb
  have h3 := regs_get hc
  have a0 : (0 : Int) ≤ (a : Int) := by omega
  have a1 : (a : Int) < 16 := by omega
  have b0 : (0 : Int) ≤ (b : Int) := by omega
  have b1 : (b : Int) < 16 := by omega
  have c0 : (0 : Int) ≤ (c : Int) := by omega
  have c1 : (c : Int) < 16 := by omega
  have HNB := hid (fun (b : Bool) (W : World) => number_any b W)
  by_cases hq : y = z
  · have HR := hid (show ∀ w' u, u = 1 → Gr w w' → (.returned (.int .i64 u) : Ending) = .returned (.int .i64 (rk 16 im x y z)) ∧ Gr w w' from fun w' u hu g => ⟨by rw [hu]; simp [rk, hq], g⟩)
    subst hq
    go_enter Tryd.func36, Tryd.ntmps36
    go_wp2
    go_quiet (fail)
    go_wp2_with (go_at_call 51; refine (HNB.out _ _).mono ?_; rintro e w1 ⟨rfl, hw⟩; have hw := hw.symm; subst hw)
    go_ret
    exact HR.out _ _ rfl (Ch.drewN (Gr.alloc (Gr.alloc (Gr.refl w) _ _) _ _) _)
  · have HR := hid (show ∀ w' u, u = 0 → Gr w w' → (.returned (.int .i64 u) : Ending) = .returned (.int .i64 (rk 16 im x y z)) ∧ Gr w w' from fun w' u hu g => ⟨by rw [hu]; simp [rk, hq], g⟩)
    have hd : (y == z) = false := by simpa using hq
    go_enter Tryd.func36, Tryd.ntmps36
    go_wp2
    go_quiet (fail)
    go_wp2_with (go_at_call 51; refine (HNB.out _ _).mono ?_; rintro e w1 ⟨rfl, hw⟩; have hw := hw.symm; subst hw)
    go_ret
    exact HR.out _ _ rfl (Ch.drewN (Gr.alloc (Gr.alloc (Gr.refl w) _ _) _ _) _)
theorem reckon_any (o : Int) (h2 : 2 ≤ o) (h16 : o ≤ 16) (a b c : Nat) (im x y z : Int) (r : List Int) (ha : r[a]? = some x) (hb : r[b]? = some y) (hc : r[c]? = some z) (la : a < 16) (lb : b < 16) (lc : c < 16) (hz : o = 8 ∨ o = 9 → z ≠ 0) (w : World) : Calls Tryd.prog 36 #[.agg #[.int .i64 o, .int .i64 (a : Int), .int .i64 (b : Int), .int .i64 (c : Int), .int .i64 im], .agg (r.map (Value.int .i64)).toArray] w fun e w' => e = .returned (.int .i64 (rk o im x y z)) ∧ Gr w w' := by
  rcases (by omega : o = 2 ∨ o = 3 ∨ o = 4 ∨ o = 5 ∨ o = 6 ∨ o = 7 ∨ o = 8 ∨ o = 9 ∨ o = 10 ∨ o = 11 ∨ o = 12 ∨ o = 13 ∨ o = 14 ∨ o = 15 ∨ o = 16) with rfl | rfl | rfl | rfl | rfl | rfl | rfl | rfl | rfl | rfl | rfl | rfl | rfl | rfl | rfl
  · exact reckon_2 a b c im x y z r ha hb hc la lb lc w
  · exact reckon_3 a b c im x y z r ha hb hc la lb lc w
  · exact reckon_4 a b c im x y z r ha hb hc la lb lc w
  · exact reckon_5 a b c im x y z r ha hb hc la lb lc w
  · exact reckon_6 a b c im x y z r ha hb hc la lb lc w
  · exact reckon_7 a b c im x y z r ha hb hc la lb lc w
  · exact reckon_8 a b c im x y z r ha hb hc la lb lc (hz (by omega)) w
  · exact reckon_9 a b c im x y z r ha hb hc la lb lc (hz (by omega)) w
  · exact reckon_10 a b c im x y z r ha hb hc la lb lc w
  · exact reckon_11 a b c im x y z r ha hb hc la lb lc w
  · exact reckon_12 a b c im x y z r ha hb hc la lb lc w
  · exact reckon_13 a b c im x y z r ha hb hc la lb lc w
  · exact reckon_14 a b c im x y z r ha hb hc la lb lc w
  · exact reckon_15 a b c im x y z r ha hb hc la lb lc w
  · exact reckon_16 a b c im x y z r ha hb hc la lb lc w
end Go.Proofs.YtcdlhfodeckleaaDoor.Lt
