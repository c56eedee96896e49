/-
  What the program's Decode answers. Condition: the tables lie where they lie.
-/
import Derived.Test.YtcdlhfodeckleaaDoorWdEnc
namespace Go.Proofs.YtcdlhfodeckleaaDoor.Wd
open Go.RowKit

theorem decode_no (n : Int) (hn0 : 0 ≤ n) (hn1 : n < 4294967296) (h : n / 16777216 < 1 ∨ 58 < n / 16777216) (w : World) : Calls Tryd.prog 47 #[.int .u32 n] w fun e w' => e = .returned (.tuple #[.agg #[.int .i64 0, .int .i64 0, .int .i64 0, .int .i64 0, .int .i64 0], .int .i64 60]) ∧ Gr w w' := by
  have H := hid (kn_no h)
  have d0 : 0 ≤ n / 16777216 := by omega
  have d1 : n / 16777216 < 256 := by omega
  obtain ⟨o, ho⟩ : ∃ o, o = n / 16777216 := ⟨_, rfl⟩
  have ho' : n / 16777216 = o := ho.symm
  rw [ho'] at H d0 d1
  clear h ho
  go_enter Tryd.func47, Tryd.ntmps47
  go_wp2_with fail
  refine (known_any _ _).mono ?_
  rintro e w1 ⟨rfl, rfl⟩
  rw [H.out]
  go_wp2
  go_returns
  exact ⟨rfl, ((Gr.refl _).alloc _ _).alloc _ _⟩

/-- five cells of a block, which may be written -/
structure Box (w : World) (x : Nat) (o a b c m : Value) : Prop where
  c0 : w.cell? ⟨x, 0, none⟩ = some o
  c1 : w.cell? ⟨x, 1, none⟩ = some a
  c2 : w.cell? ⟨x, 2, none⟩ = some b
  c3 : w.cell? ⟨x, 3, none⟩ = some c
  c4 : w.cell? ⟨x, 4, none⟩ = some m
  fz : ∀ i, w.frozen? ⟨x, i, none⟩ = false
  lt : x < w.heap.size
theorem Box.of {w : World} {x : Nat} {T : TypeId} {o a b c m : Value} (h : w.heap[x]? = some (.cells #[o, a, b, c, m] T (0, 0))) : Box w x o a b c m :=
  ⟨(cell_of h 0).trans rfl, (cell_of h 1).trans rfl, (cell_of h 2).trans rfl, (cell_of h 3).trans rfl, (cell_of h 4).trans rfl, frozen_of h, lt_of_block h⟩
theorem Box.gr {w w1 : World} {x : Nat} {o a b c m : Value} (h : Box w x o a b c m) (g : Gr w w1) : Box w1 x o a b c m :=
  ⟨(Ch.cell g h.lt (noB _)).trans h.c0, (Ch.cell g h.lt (noB _)).trans h.c1, (Ch.cell g h.lt (noB _)).trans h.c2, (Ch.cell g h.lt (noB _)).trans h.c3, (Ch.cell g h.lt (noB _)).trans h.c4, fun i => by
    have := Ch.block g x h.lt (noB _)
    have f := h.fz i
    simp only [World.frozen?, this] at f ⊢
    exact f, Nat.lt_of_lt_of_le h.lt g.size⟩
theorem Box.new (w : World) (o a b c m : Value) (T : TypeId) : Box (w.alloc (.cells #[o, a, b, c, m] T)) w.heap.size o a b c m := Box.of (MapKept.heap_alloc w _).1
theorem Box.alloc {w : World} {x : Nat} {o a b c m : Value} (h : Box w x o a b c m) (o' : Obj) : Box (w.alloc o') x o a b c m := h.gr (Ch.alloc (Ch.refl _ _) _)

set_option maxRecDepth 20000 in
theorem decode_at (k s : Nat) (n a b l c m x0 x1 x2 x3 x4 : Int) (h1 : 1 ≤ k) (h2 : k < 59) (_hn0 : 0 ≤ n) (_hn1 : n < 4294967296) (hk : n / 16777216 = (k : Nat)) (ha : bits .and .u32 (n / 1048576) 15 = a) (a0 : 0 ≤ a) (a1 : a ≤ 15) (hb : bits .and .u32 (n / 65536) 15 = b) (b0 : 0 ≤ b) (b1 : b ≤ 15) (hl : IntKind.u16.wrap n = l) (l0 : 0 ≤ l) (l1 : l < 65536)
    (hs : sh k = s) (f0 : fa s = x0) (f1 : fb s = x1) (f2 : fc s = x2) (f3 : fl s = x3) (f4 : fm s = x4) (hc : lowC x2 l = c) (hm : lowM x2 x3 l = m) (w : World) (hn : Nums w) (hf : Forms w) :
    Calls Tryd.prog 47 #[.int .u32 n] w fun e w' => e = .returned (if fitB x0 x1 x2 x3 x4 a b c m then .tuple #[.agg #[.int .i64 (k : Nat), .int .i64 a, .int .i64 b, .int .i64 c, .int .i64 m], .int .i64 0] else .tuple #[.agg #[.int .i64 0, .int .i64 0, .int .i64 0, .int .i64 0, .int .i64 0], .int .i64 61]) ∧ Gr w w' := by
  have H := hid (kn_yes h1 h2)
  have HS := hid hs
  clear hs
  have HF := hid (fun (W : World) (a : Nums W) (b : Forms W) => formOf_at k h1 h2 W a b)
  rw [HS.out] at HF
  unfold formV at HF
  rw [f0, f1, f2, f3, f4] at HF
  have HL := hid (fun (W : World) => low_any x0 x1 x2 x3 x4 l l0 l1 W)
  rw [hc, hm] at HL
  obtain ⟨q, hq⟩ : ∃ q, q = fitB x0 x1 x2 x3 x4 a b c m := ⟨_, rfl⟩
  have HQ := hid hq
  rw [← hq]
  have HN := hid hn
  have HFm := hid hf
  clear hq hn hf f0 f1 f2 f3 f4 hc hm
  go_enter Tryd.func47, Tryd.ntmps47
  go_wp2_with fail
  refine (known_any _ _).mono ?_
  rintro e w1 ⟨rfl, rfl⟩
  rw [H.out]
  go_wp2_with fail
  refine (HF.out _ (HN.out.gr (((Gr.refl _).alloc _ _).alloc _ _)) (HFm.out.gr (((Gr.refl _).alloc _ _).alloc _ _))).mono ?_
  rintro e w1 ⟨rfl, rfl⟩
  go_wp2_with fail
  refine (HL.out _).mono ?_
  rintro e w1 ⟨rfl, rfl⟩
  go_wp2_with fail
  refine (fits_any _ _ _ _ _ _ _ _ _ _ _).mono ?_
  rintro e w1 ⟨rfl, g⟩
  rw [← HQ.out]
  have B0 := (((((Box.new w (.int .i64 0) (.int .i64 0) (.int .i64 0) (.int .i64 0) (.int .i64 0) 46).alloc _).alloc _).alloc _).alloc _).gr g
  have B1 := ((((Box.new (w.alloc (.cells #[.int .i64 0, .int .i64 0, .int .i64 0, .int .i64 0, .int .i64 0] 46)) (.int .i64 (k : Nat)) (.int .i64 a) (.int .i64 b) (.int .i64 c) (.int .i64 m) 46).alloc _).alloc _).alloc _).gr g
  rw [World.size_alloc] at B1
  have HG := hid (Gr.trans ((((((Gr.refl w).alloc _ _).alloc _ _).alloc _ _).alloc _ _).alloc _ _) g)
  clear g
  obtain ⟨u0, u1, u2, u3, u4, uz, ul⟩ := B0
  obtain ⟨v0, v1, v2, v3, v4, vz, vl⟩ := B1
  have y0 := uz 0
  have y1 := uz 1
  have y2 := uz 2
  have y3 := uz 3
  have y4 := uz 4
  clear uz vz
  cases q
  · go_wp2
    exact bodyPost_ret (v := .tuple #[.agg #[.int .i64 0, .int .i64 0, .int .i64 0, .int .i64 0, .int .i64 0], .int .i64 61]) (by simp [results, Tryd.results47, go_sem, u0, u1, u2, u3, u4]) rfl ⟨rfl, ((((HG.out.fresh (Nat.le_refl _) _ _).fresh (Nat.le_refl _) _ _).fresh (Nat.le_refl _) _ _).fresh (Nat.le_refl _) _ _).fresh (Nat.le_refl _) _ _⟩
  · go_wp2
    exact bodyPost_ret (v := .tuple #[.agg #[.int .i64 (k : Nat), .int .i64 a, .int .i64 b, .int .i64 c, .int .i64 m], .int .i64 0]) (by simp [results, Tryd.results47, go_sem, u0, u1, u2, u3, u4]) rfl ⟨rfl, ((((HG.out.fresh (Nat.le_refl _) _ _).fresh (Nat.le_refl _) _ _).fresh (Nat.le_refl _) _ _).fresh (Nat.le_refl _) _ _).fresh (Nat.le_refl _) _ _⟩

/-- the fields of a word -/
def dA (n : Int) : Int := n / 1048576 % 16
def dB (n : Int) : Int := n / 65536 % 16
def dC (s : Nat) (n : Int) : Int := lowC (fc s) (n % 65536)
def dM (s : Nat) (n : Int) : Int := lowM (fc s) (fl s) (n % 65536)
theorem and15 (x : Int) (h0 : 0 ≤ x) (h1 : x < 4294967296) : bits .and .u32 x 15 = x % 16 := by
  obtain ⟨y, rfl⟩ : ∃ y : Nat, x = (y : Int) := ⟨x.toNat, by omega⟩
  rw [and15_u32 y (by omega)]
  omega
theorem decode_yes (k : Nat) (n : Int) (h1 : 1 ≤ k) (h2 : k < 59) (hn0 : 0 ≤ n) (hn1 : n < 4294967296) (hk : n / 16777216 = (k : Nat)) (w : World) (hn : Nums w) (hf : Forms w) :
    Calls Tryd.prog 47 #[.int .u32 n] w fun e w' => e = .returned (if fit (sh k) (dA n) (dB n) (dC (sh k) n) (dM (sh k) n) then .tuple #[.agg #[.int .i64 (k : Nat), .int .i64 (dA n), .int .i64 (dB n), .int .i64 (dC (sh k) n), .int .i64 (dM (sh k) n)], .int .i64 0] else .tuple #[.agg #[.int .i64 0, .int .i64 0, .int .i64 0, .int .i64 0, .int .i64 0], .int .i64 61]) ∧ Gr w w' :=
  decode_at k (sh k) n (dA n) (dB n) (n % 65536) _ _ _ _ _ _ _ h1 h2 hn0 hn1 hk (and15 _ (by omega) (by omega)) (by unfold dA; omega) (by unfold dA; omega) (and15 _ (by omega) (by omega)) (by unfold dB; omega) (by unfold dB; omega) (IntKind.wrap_u16 _) (by omega) (by omega) rfl rfl rfl rfl rfl rfl rfl rfl w hn hf

end Go.Proofs.YtcdlhfodeckleaaDoor.Wd
