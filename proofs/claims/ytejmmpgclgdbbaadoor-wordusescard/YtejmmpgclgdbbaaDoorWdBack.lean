/-
  WordBack's walk: what Encode wrote Decode brings back; and Reads refuses what Encode refuses. Condition: the tables lie where they lie.
-/
import Derived.Test.YtejmmpgclgdbbaaDoorWdDec
namespace Go.Proofs.YtejmmpgclgdbbaaDoor.Wd
open Go.RowKit

theorem reads_no (o a b c m : Int) (h : o < 1 ∨ 58 < o) (w : World) : Calls Tryd.prog 22 #[.agg #[.int .i64 o, .int .i64 a, .int .i64 b, .int .i64 c, .int .i64 m]] w fun e w' => e = .returned (.tuple #[.int .u16 0, .int .i64 60]) ∧ Gr w w' := by
  have H := hid h
  clear h
  go_enter Tryd.func22, Tryd.ntmps22
  go_wp2_with fail
  refine (check_no o a b c m H.out _).mono ?_
  rintro e w1 ⟨rfl, g⟩
  go_wp2
  go_ret2
  exact ⟨rfl, Gr.trans ((Gr.refl _).alloc _ _) g⟩
theorem reads_bad (k : Nat) (a b c m : Int) (h1 : 1 ≤ k) (h2 : k < 59) (hq : fit (sh k) a b c m = false) (w : World) (hn : Nums w) (hf : Forms w) :
    Calls Tryd.prog 22 #[.agg #[.int .i64 (k : Nat), .int .i64 a, .int .i64 b, .int .i64 c, .int .i64 m]] w fun e w' => e = .returned (.tuple #[.int .u16 0, .int .i64 61]) ∧ Gr w w' := by
  have g0 : Gr w (w.alloc (.cells #[.int .i64 (k : Nat), .int .i64 a, .int .i64 b, .int .i64 c, .int .i64 m] 36)) := (Gr.refl _).alloc _ _
  have HC := hid (check_yes k a b c m h1 h2 _ (hn.gr g0) (hf.gr g0))
  rw [hq] at HC
  have HG := hid g0
  clear hn hf hq g0
  go_enter Tryd.func22, Tryd.ntmps22
  go_wp2_with fail
  refine HC.out.mono ?_
  rintro e w1 ⟨rfl, g⟩
  go_wp2
  go_ret2
  exact ⟨rfl, Gr.trans HG.out g⟩

/-- the fields of the word that was written -/
theorem enc_dec {k : Nat} {a b c m : Int} (h2 : k < 59) (h : fit (sh k) a b c m = true) (n : Int) (hn : n = k * 16777216 + a * 1048576 + b * 65536 + m % 65536 + c) :
    0 ≤ n ∧ n < 4294967296 ∧ n / 16777216 = (k : Nat) ∧ dA n = a ∧ dB n = b ∧ dC (sh k) n = c ∧ dM (sh k) n = m := by
  obtain ⟨⟨a0, a1⟩, ⟨b0, b1⟩, F⟩ := fit_bd (sh_lt k) h
  have e1 : n % 65536 = m % 65536 + c := by omega
  refine ⟨by omega, by omega, by omega, by unfold dA; omega, by unfold dB; omega, ?_, ?_⟩
  · unfold dC
    rw [e1]
    obtain ⟨_, _, ⟨c0, c1⟩, m0, m1⟩ := of_decide_eq_true h
    have hs := sh_lt k
    generalize sh k = s at *
    match s, hs with
    | 0, _ => simp only [fc, fl, fm, lowC] at *; omega
    | 1, _ => simp only [fc, fl, fm, lowC] at *; omega
    | 2, _ => simp only [fc, fl, fm, lowC] at *; omega
    | 3, _ => simp only [fc, fl, fm, lowC] at *; omega
    | 4, _ => simp only [fc, fl, fm, lowC] at *; omega
    | 5, _ => simp only [fc, fl, fm, lowC] at *; omega
    | 6, _ => simp only [fc, fl, fm, lowC] at *; omega
  · unfold dM
    rw [e1]
    obtain ⟨_, _, ⟨c0, c1⟩, m0, m1⟩ := of_decide_eq_true h
    have hs := sh_lt k
    generalize sh k = s at *
    match s, hs with
    | 0, _ => simp only [fc, fl, fm, lowM] at *; omega
    | 1, _ => simp only [fc, fl, fm, lowM] at *; omega
    | 2, _ => simp only [fc, fl, fm, lowM] at *; omega
    | 3, _ => simp only [fc, fl, fm, lowM] at *; omega
    | 4, _ => simp only [fc, fl, fm, lowM] at *; omega
    | 5, _ => simp only [fc, fl, fm, lowM] at *; omega
    | 6, _ => simp only [fc, fl, fm, lowM] at *; omega

theorem same5 (o a b c m : Int) : ∀ w : World, (binOp .eql 36 (.agg #[.int .i64 o, .int .i64 a, .int .i64 b, .int .i64 c, .int .i64 m]) (.agg #[.int .i64 o, .int .i64 a, .int .i64 b, .int .i64 c, .int .i64 m])).run Tryd.prog w = .ok (.bool true) w := by
  intro w
  go_simp

set_option maxRecDepth 20000 in
theorem back_any (o a b c m : Int) (w : World) (hn : Nums w) (hf : Forms w) :
    Calls Tryd.prog 8 #[.agg #[.int .i64 o, .int .i64 a, .int .i64 b, .int .i64 c, .int .i64 m]] w fun e w' => e = .returned (.bool true) ∧ Gr w w' := by
  have g0 : Gr w (w.alloc (.cells #[.int .i64 o, .int .i64 a, .int .i64 b, .int .i64 c, .int .i64 m] 36)) := (Gr.refl _).alloc _ _
  have HN := hid (hn.gr g0)
  have HF := hid (hf.gr g0)
  have HG := hid g0
  clear hn hf g0
  rcases kn_cases o with h | ⟨k, h1, h2, rfl⟩
  · have H := hid h
    clear h
    go_enter Tryd.func8, Tryd.ntmps8
    go_wp2_with fail
    refine (encode_no o a b c m H.out _).mono ?_
    rintro e w1 ⟨rfl, g⟩
    obtain ⟨c0, c1, c2, c3, c4⟩ := boxed5 g
    have HG1 := hid g
    clear g
    go_wp2_with fail
    refine (reads_no o a b c m H.out _).mono ?_
    rintro e w2 ⟨rfl, g⟩
    have HG2 := hid (Gr.trans HG1.out g)
    clear g c0 c1 c2 c3 c4
    go_wp2_with fail
    refine (awake_any _ (HN.out.gr HG2.out) (HF.out.gr HG2.out)).mono ?_
    rintro e w3 ⟨rfl, g⟩
    go_wp2
    go_ret
    exact ⟨rfl, Gr.trans HG.out (Gr.trans HG2.out g)⟩
  · cases hq : fit (sh k) a b c m with
    | false =>
      have H := hid hq
      clear hq
      go_enter Tryd.func8, Tryd.ntmps8
      go_wp2_with fail
      refine (encode_bad k a b c m h1 h2 H.out _ HN.out HF.out).mono ?_
      rintro e w1 ⟨rfl, g⟩
      obtain ⟨c0, c1, c2, c3, c4⟩ := boxed5 g
      have HG1 := hid g
      clear g
      go_wp2_with fail
      refine (reads_bad k a b c m h1 h2 H.out _ (HN.out.gr HG1.out) (HF.out.gr HG1.out)).mono ?_
      rintro e w2 ⟨rfl, g⟩
      have HG2 := hid (Gr.trans HG1.out g)
      clear g c0 c1 c2 c3 c4
      go_wp2_with fail
      refine (awake_any _ (HN.out.gr HG2.out) (HF.out.gr HG2.out)).mono ?_
      rintro e w3 ⟨rfl, g⟩
      go_wp2
      go_ret
      exact ⟨rfl, Gr.trans HG.out (Gr.trans HG2.out g)⟩
    | true =>
      obtain ⟨n, hnn⟩ : ∃ n : Int, n = k * 16777216 + a * 1048576 + b * 65536 + m % 65536 + c := ⟨_, rfl⟩
      obtain ⟨n0, n1, e0, e1, e2, e3, e4⟩ := enc_dec h2 hq n hnn
      have HE := hid (encode_ok k a b c m h1 h2 hq _ HN.out HF.out)
      rw [← hnn] at HE
      have HD := hid (fun (W : World) (x : Nums W) (y : Forms W) => decode_yes k n h1 h2 n0 n1 e0 W x y)
      rw [e1, e2, e3, e4, hq] at HD
      have hs := same5 (k : Nat) a b c m
      clear hnn hq e1 e2 e3 e4
      go_enter Tryd.func8, Tryd.ntmps8
      go_wp2_with fail
      refine HE.out.mono ?_
      rintro e w1 ⟨rfl, g⟩
      obtain ⟨c0, c1, c2, c3, c4⟩ := boxed5 g
      have HG1 := hid g
      have l0 : w.heap.size < w1.heap.size := Nat.lt_of_lt_of_le (by simp) g.size
      clear g
      go_wp2_with fail
      refine (HD.out _ (HN.out.gr HG1.out) (HF.out.gr HG1.out)).mono ?_
      rintro e w2 ⟨rfl, g⟩
      have u0 := (Ch.cell g l0 (noB _)).trans c0
      have u1 := (Ch.cell g l0 (noB _)).trans c1
      have u2 := (Ch.cell g l0 (noB _)).trans c2
      have u3 := (Ch.cell g l0 (noB _)).trans c3
      have u4 := (Ch.cell g l0 (noB _)).trans c4
      have l1 : w.heap.size < w2.heap.size := Nat.lt_of_lt_of_le l0 g.size
      have HG2 := hid (Gr.trans HG1.out g)
      clear g c0 c1 c2 c3 c4
      go_wp2
      go_ret
      exact ⟨rfl, (Gr.trans HG.out HG2.out).alloc _ _⟩
end Go.Proofs.YtejmmpgclgdbbaaDoor.Wd
