/-
  WordOne's walk: what is read is just what Encode writes. Condition: the tables lie where they lie.
-/
import Derived.Test.YtejmmpgclgdbbabDoorWdDec
namespace Go.Proofs.YtejmmpgclgdbbabDoor.Wd
open Go.RowKit

theorem dec_enc {k : Nat} {n : Int} (hk : n / 16777216 = (k : Nat)) : (k : Int) * 16777216 + dA n * 1048576 + dB n * 65536 + dM (sh k) n % 65536 + dC (sh k) n = n := by
  have e : dM (sh k) n % 65536 + dC (sh k) n = n % 65536 := by
    unfold dM dC lowM lowC
    split
    · omega
    · split
      · split <;> omega
      · omega
  unfold dA dB
  omega

theorem zero5 : ∀ w : World, (binOp .eql 24 (.agg #[.int .i64 0, .int .i64 0, .int .i64 0, .int .i64 0, .int .i64 0]) (.agg #[.int .i64 0, .int .i64 0, .int .i64 0, .int .i64 0, .int .i64 0])).run Tryd.prog w = .ok (.bool true) w := by
  intro w
  go_simp

set_option maxRecDepth 20000 in
theorem one_bad (n x : Int) (hx : x = 60 ∨ x = 61) (w : World) (hn : Nums w) (hf : Forms w) (hd : Calls Tryd.prog 7 #[.int .u32 n] w fun e w' => e = .returned (.tuple #[.agg #[.int .i64 0, .int .i64 0, .int .i64 0, .int .i64 0, .int .i64 0], .int .i64 x]) ∧ Gr w w') :
    Calls Tryd.prog 3 #[.int .u32 n] w fun e w' => e = .returned (.bool true) ∧ Gr w w' := by
  have HN := hid hn
  have HF := hid hf
  have HD := hid hd
  have hz := zero5
  have hx' : (x == 0) = false := by simp; omega
  clear hn hf hd hx
  go_enter Tryd.func3, Tryd.ntmps3
  go_wp2_with fail
  refine HD.out.mono ?_
  rintro e w1 ⟨rfl, g⟩
  have HG := hid g
  clear g
  go_wp2_with fail
  refine (awake_any _ (HN.out.gr (HG.out.alloc _ _)) (HF.out.gr (HG.out.alloc _ _))).mono ?_
  rintro e w2 ⟨rfl, g⟩
  go_wp2
  go_ret
  exact ⟨rfl, Gr.trans (HG.out.alloc _ _) g⟩

set_option maxRecDepth 20000 in
theorem one_any (n : Int) (w : World) (hr : 0 ≤ n ∧ n < 4294967296) (hn : Nums w) (hf : Forms w) :
    Calls Tryd.prog 3 #[.int .u32 n] w fun e w' => e = .returned (.bool true) ∧ Gr w w' := by
  obtain ⟨n0, n1⟩ := hr
  rcases kn_cases (n / 16777216) with h | ⟨k, h1, h2, hk⟩
  · exact one_bad n 60 (.inl rfl) w hn hf (decode_no n n0 n1 h w)
  · have D := decode_yes k n h1 h2 n0 n1 hk w hn hf
    cases hq : fit (sh k) (dA n) (dB n) (dC (sh k) n) (dM (sh k) n) with
    | false =>
      simp only [hq] at D
      exact one_bad n 61 (.inr rfl) w hn hf D
    | true =>
      simp only [hq] at D
      have HD := hid D
      have HE := hid (fun (W : World) (a : Nums W) (b : Forms W) => encode_ok k (dA n) (dB n) (dC (sh k) n) (dM (sh k) n) h1 h2 hq W a b)
      rw [dec_enc hk] at HE
      obtain ⟨a, ha⟩ : ∃ a, a = dA n := ⟨_, rfl⟩
      obtain ⟨b, hb⟩ : ∃ b, b = dB n := ⟨_, rfl⟩
      obtain ⟨c, hc⟩ : ∃ c, c = dC (sh k) n := ⟨_, rfl⟩
      obtain ⟨m, hm⟩ : ∃ m, m = dM (sh k) n := ⟨_, rfl⟩
      rw [← ha, ← hb, ← hc, ← hm] at HD HE
      have HN := hid hn
      have HF := hid hf
      clear D hq hk ha hb hc hm hn hf
      go_enter Tryd.func3, Tryd.ntmps3
      go_wp2_with fail
      refine HD.out.mono ?_
      rintro e w1 ⟨rfl, g⟩
      have HG := hid g
      clear g
      go_wp2_with fail
      refine (HE.out _ (HN.out.gr (HG.out.alloc _ _)) (HF.out.gr (HG.out.alloc _ _))).mono ?_
      rintro e w2 ⟨rfl, g⟩
      go_wp2
      go_ret
      exact ⟨rfl, Gr.trans (HG.out.alloc _ _) g⟩
end Go.Proofs.YtejmmpgclgdbbabDoor.Wd
