/-
  What the program's Encode answers. Condition: the tables lie where they lie.
-/
import Derived.Test.YtbehlhnnfdkmaaaGreatDoorWdBits
namespace Go.Proofs.YtbehlhnnfdkmaaaGreatDoor.Wd
open Go.RowKit

theorem encode_no (o a b c m : Int) (h : o < 1 ∨ 58 < o) (w : World) : Calls Tryz.prog 54 #[.agg #[.int .i64 o, .int .i64 a, .int .i64 b, .int .i64 c, .int .i64 m]] w fun e w' => e = .returned (.tuple #[.int .u32 0, .int .i64 60]) ∧ Gr w w' := by
  have H := hid h
  clear h
  go_enter Tryz.func54, Tryz.ntmps54
  go_wp2_with fail
  refine (check_no o a b c m H.out _).mono ?_
  rintro e w1 ⟨rfl, g⟩
  go_wp2
  go_ret2
  exact ⟨rfl, Gr.trans ((Gr.refl _).alloc _ _) g⟩
theorem encode_bad (k : Nat) (a b c m : Int) (h1 : 1 ≤ k) (h2 : k < 59) (hq : fit (sh k) a b c m = false) (w : World) (hn : Nums w) (hf : Forms w) :
    Calls Tryz.prog 54 #[.agg #[.int .i64 (k : Nat), .int .i64 a, .int .i64 b, .int .i64 c, .int .i64 m]] w fun e w' => e = .returned (.tuple #[.int .u32 0, .int .i64 61]) ∧ Gr w w' := by
  have g0 : Gr w (w.alloc (.cells #[.int .i64 (k : Nat), .int .i64 a, .int .i64 b, .int .i64 c, .int .i64 m] 67)) := (Gr.refl _).alloc _ _
  have HC := hid (check_yes k a b c m h1 h2 _ (hn.gr g0) (hf.gr g0))
  rw [hq] at HC
  have HG := hid g0
  clear hn hf hq g0
  go_enter Tryz.func54, Tryz.ntmps54
  go_wp2_with fail
  refine HC.out.mono ?_
  rintro e w1 ⟨rfl, g⟩
  go_wp2
  go_ret2
  exact ⟨rfl, Gr.trans HG.out g⟩
theorem encode_ok (k : Nat) (a b c m : Int) (h1 : 1 ≤ k) (h2 : k < 59) (hq : fit (sh k) a b c m = true) (w : World) (hn : Nums w) (hf : Forms w) :
    Calls Tryz.prog 54 #[.agg #[.int .i64 (k : Nat), .int .i64 a, .int .i64 b, .int .i64 c, .int .i64 m]] w fun e w' => e = .returned (.tuple #[.int .u32 (k * 16777216 + a * 1048576 + b * 65536 + m % 65536 + c), .int .i64 0]) ∧ Gr w w' := by
  have g0 : Gr w (w.alloc (.cells #[.int .i64 (k : Nat), .int .i64 a, .int .i64 b, .int .i64 c, .int .i64 m] 67)) := (Gr.refl _).alloc _ _
  have HC := hid (check_yes k a b c m h1 h2 _ (hn.gr g0) (hf.gr g0))
  rw [hq] at HC
  have HG := hid g0
  have HQ := hid hq
  clear hn hf hq g0
  go_enter Tryz.func54, Tryz.ntmps54
  go_wp2_with fail
  refine HC.out.mono ?_
  rintro e w1 ⟨rfl, g⟩
  obtain ⟨c0, c1, c2, c3, c4⟩ := boxed5 g
  have HG1 := hid g
  clear g
  go_wp2
  go_ret2
  have F := fit_bd (sh_lt k) HQ.out
  exact ⟨congrArg (fun x => Ending.returned (.tuple #[.int .u32 x, .int .i64 0])) (enc_bits h2 F.1 F.2.1 F.2.2), Gr.trans HG.out HG1.out⟩
end Go.Proofs.YtbehlhnnfdkmaaaGreatDoor.Wd
