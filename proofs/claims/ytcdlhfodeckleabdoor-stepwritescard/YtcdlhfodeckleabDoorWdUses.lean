/-
  What Reads and Writes of both answer, and WordUses' walk. Condition: the tables lie where they lie.
-/
import Derived.Test.YtcdlhfodeckleabDoorWdRef2
import Derived.Test.YtcdlhfodeckleabDoorWdRBits
import Derived.Test.YtcdlhfodeckleabDoorWdBack
namespace Go.Proofs.YtcdlhfodeckleabDoor.Wd
open Go.RowKit

/-- an instruction in its variable, its number in the table, and the tables, behind what made new blocks alone -/
theorem held6 {k : Nat} {w wb w1 : World} {x : Nat} {o a b c m : Value} (h1 : 1 ≤ k) (h2 : k < 59) (g : Gr wb w1) (h : wb.cell? ⟨1, k, none⟩ = some (.int .u16 (nu k)) ∧ wb.cell? ⟨x, 0, none⟩ = some o ∧ wb.cell? ⟨x, 1, none⟩ = some a ∧ wb.cell? ⟨x, 2, none⟩ = some b ∧ wb.cell? ⟨x, 3, none⟩ = some c ∧ wb.cell? ⟨x, 4, none⟩ = some m ∧ x < wb.heap.size ∧ Nums wb ∧ Forms wb ∧ Gr w wb) :
    w1.cell? ⟨1, k, none⟩ = some (.int .u16 (nu k)) ∧ w1.cell? ⟨x, 0, none⟩ = some o ∧ w1.cell? ⟨x, 1, none⟩ = some a ∧ w1.cell? ⟨x, 2, none⟩ = some b ∧ w1.cell? ⟨x, 3, none⟩ = some c ∧ w1.cell? ⟨x, 4, none⟩ = some m ∧ x < w1.heap.size ∧ Nums w1 ∧ Forms w1 ∧ Gr w w1 := by
  have z := held5 g h.2
  exact ⟨z.2.2.2.2.2.2.1.at_ k h1 h2, z⟩

theorem rwrites_no (o a b c m : Int) (h : o < 1 ∨ 58 < o) (w : World) : Calls Tryd.prog 10 #[.agg #[.int .i64 o, .int .i64 a, .int .i64 b, .int .i64 c, .int .i64 m]] w fun e w' => e = .returned (.tuple #[.int .u16 0, .int .i64 60]) ∧ Gr w w' := by
  have H := hid h
  clear h
  go_enter Tryd.func10, Tryd.ntmps10
  go_wp2_with fail
  refine (rcheck_no o a b c m H.out _).mono ?_
  rintro e w1 ⟨rfl, g⟩
  go_wp2
  go_ret2
  exact ⟨rfl, Gr.trans ((Gr.refl _).alloc _ _) g⟩
theorem rwrites_bad (k : Nat) (a b c m : Int) (h1 : 1 ≤ k) (h2 : k < 59) (hq : fit (sh k) a b c m = false) (w : World) :
    Calls Tryd.prog 10 #[.agg #[.int .i64 (k : Nat), .int .i64 a, .int .i64 b, .int .i64 c, .int .i64 m]] w fun e w' => e = .returned (.tuple #[.int .u16 0, .int .i64 61]) ∧ Gr w w' := by
  have HC := hid (fun (W : World) => rcheck_yes k a b c m h1 h2 W)
  rw [hq] at HC
  clear hq
  go_enter Tryd.func10, Tryd.ntmps10
  go_wp2_with fail
  refine (HC.out _).mono ?_
  rintro e w1 ⟨rfl, g⟩
  go_wp2
  go_ret2
  exact ⟨rfl, Gr.trans ((Gr.refl _).alloc _ _) g⟩
theorem rwrites_ok (k : Nat) (a b c m : Int) (h1 : 1 ≤ k) (h2 : k < 59) (hq : fit (sh k) a b c m = true) (w : World) :
    Calls Tryd.prog 10 #[.agg #[.int .i64 (k : Nat), .int .i64 a, .int .i64 b, .int .i64 c, .int .i64 m]] w fun e w' => e = .returned (.tuple #[.int .u16 (useV (wr k) a b c), .int .i64 0]) ∧ Gr w w' := by
  have HC := hid (fun (W : World) => rcheck_yes k a b c m h1 h2 W)
  rw [hq] at HC
  obtain ⟨fa0, fb0, fc0⟩ := fit_bd (sh_lt k) hq
  have HR := hid (fun W : World => rbits_wrs k h1 h2 (k : Nat) a b c m fa0 fb0 (by omega) W)
  clear hq fa0 fb0 fc0
  go_enter Tryd.func10, Tryd.ntmps10
  go_wp2_with fail
  refine (HC.out _).mono ?_
  rintro e w1 ⟨rfl, g⟩
  obtain ⟨c0, c1, c2, c3, c4⟩ := boxed5 g
  have l0 : w.heap.size < w1.heap.size := Nat.lt_of_lt_of_le (by simp) g.size
  have HG1 := hid (Gr.trans ((Gr.refl _).alloc _ _) g)
  clear g
  go_wp2_with fail
  refine (table_all k h1 h2 _).mono ?_
  rintro e w2 ⟨rfl, g⟩
  unfold rowV
  have u0 := (Ch.cell g l0 (noB _)).trans c0
  have u1 := (Ch.cell g l0 (noB _)).trans c1
  have u2 := (Ch.cell g l0 (noB _)).trans c2
  have u3 := (Ch.cell g l0 (noB _)).trans c3
  have u4 := (Ch.cell g l0 (noB _)).trans c4
  have l1 : w.heap.size < w2.heap.size := Nat.lt_of_lt_of_le l0 g.size
  have HG2 := hid (Gr.trans HG1.out g)
  clear g c0 c1 c2 c3 c4
  go_wp2_with fail
  refine (HR.out _).mono ?_
  rintro e w3 ⟨rfl, g⟩
  go_wp2
  go_ret2
  exact ⟨rfl, Gr.trans (HG2.out.alloc _ _) g⟩

theorem cells5 {w w1 : World} {g q : Nat} {o a b c m : Value} (h : Gr w w1) (l : g < w.heap.size) (k : w.cell? ⟨g, q, none⟩ = some o ∧ w.cell? ⟨g, q + 1, none⟩ = some a ∧ w.cell? ⟨g, q + 2, none⟩ = some b ∧ w.cell? ⟨g, q + 3, none⟩ = some c ∧ w.cell? ⟨g, q + 4, none⟩ = some m) :
    w1.cell? ⟨g, q, none⟩ = some o ∧ w1.cell? ⟨g, q + 1, none⟩ = some a ∧ w1.cell? ⟨g, q + 2, none⟩ = some b ∧ w1.cell? ⟨g, q + 3, none⟩ = some c ∧ w1.cell? ⟨g, q + 4, none⟩ = some m :=
  ⟨(Ch.cell h l (noB _)).trans k.1, (Ch.cell h l (noB _)).trans k.2.1, (Ch.cell h l (noB _)).trans k.2.2.1, (Ch.cell h l (noB _)).trans k.2.2.2.1, (Ch.cell h l (noB _)).trans k.2.2.2.2⟩

end Go.Proofs.YtcdlhfodeckleabDoor.Wd
