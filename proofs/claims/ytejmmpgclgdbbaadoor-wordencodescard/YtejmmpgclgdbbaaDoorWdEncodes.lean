/-
  WordEncodes' walk: any instructions are encoded as the document says. Condition: the tables lie where they lie.
-/
import Derived.Test.YtejmmpgclgdbbaaDoorWdRef2
import Derived.Test.YtejmmpgclgdbbaaDoorWdLists
namespace Go.Proofs.YtejmmpgclgdbbaaDoor.Wd
open Go.RowKit

/-- both answer alike -/
theorem both_encode (o a b c m : Int) (w : World) (hn : Nums w) (hf : Forms w) : ∃ x e : Int, Calls Tryd.prog 18 #[.agg #[.int .i64 o, .int .i64 a, .int .i64 b, .int .i64 c, .int .i64 m]] w (fun r w' => r = .returned (.tuple #[.int .u32 x, .int .i64 e]) ∧ Gr w w') ∧
    ∀ W : World, Calls Tryd.prog 19 #[.agg #[.int .i64 o, .int .i64 a, .int .i64 b, .int .i64 c, .int .i64 m]] W (fun r w' => r = .returned (.tuple #[.int .u32 x, .int .i64 e]) ∧ Gr W w') := by
  rcases kn_cases o with h | ⟨k, h1, h2, rfl⟩
  · exact ⟨_, _, encode_no o a b c m h w, fun W => rencode_no o a b c m h W⟩
  · cases hq : fit (sh k) a b c m with
    | false => exact ⟨_, _, encode_bad k a b c m h1 h2 hq w hn hf, fun W => rencode_bad k a b c m h1 h2 hq W⟩
    | true => exact ⟨_, _, encode_ok k a b c m h1 h2 hq w hn hf, fun W => rencode_ok k a b c m h1 h2 hq W⟩

theorem encodes_any (v : Value) (n : Nat) (w : World) (hv : InL w v n) (hn : Nums w) (hf : Forms w) :
    Calls Tryd.prog 5 #[v] w fun e w' => e = .returned (.bool true) ∧ Gr w w' := by
  obtain ⟨ao, cap, rfl, hmax, hel⟩ := hv
  have HN := hid hn
  have HF := hid hf
  have HE := hid hel
  clear hn hf hel
  go_enter Tryd.func5, Tryd.ntmps5
  go_wp2_with fail
  go_loopg [3] n (fun m i wr => ∃ j : Nat, j + m = n ∧ i = .int .i64 (j : Nat) ∧ Gr w wr)
  case atStart => exact ⟨0, by omega, rfl, Gr.refl _⟩
  case round =>
    obtain ⟨j, hjk, rfl, hg⟩ := hrel
    have HG := hid hg
    clear hg
    by_cases hj : j < n
    · obtain ⟨g, p, rfl, hgl, hx⟩ := HE.out.resolve_left (by omega)
      obtain ⟨o, a, b, c, m, k0, k1, k2, k3, k4⟩ := hx j hj
      have c0 := (Ch.cell HG.out hgl (noB _)).trans k0
      have c1 := (Ch.cell HG.out hgl (noB _)).trans k1
      have c2 := (Ch.cell HG.out hgl (noB _)).trans k2
      have c3 := (Ch.cell HG.out hgl (noB _)).trans k3
      have c4 := (Ch.cell HG.out hgl (noB _)).trans k4
      have j0 : (0 : Int) ≤ (j : Int) := by omega
      have j1 : (j : Int) < (n : Int) := by omega
      obtain ⟨x, e, HB1, HB2⟩ := both_encode o a b c m wr (HN.out.gr HG.out) (HF.out.gr HG.out)
      have HB1 := hid HB1
      have HB2 := hid HB2
      have HL := hid hgl
      clear hx k0 k1 k2 k3 k4 hgl
      go_wp2_with fail
      refine HB1.out.mono ?_
      rintro _ w1 ⟨rfl, g1⟩
      have hlt := Nat.lt_of_lt_of_le HL.out (Ch.size HG.out)
      have u0 := (Ch.cell g1 hlt (noB _)).trans c0
      have u1 := (Ch.cell g1 hlt (noB _)).trans c1
      have u2 := (Ch.cell g1 hlt (noB _)).trans c2
      have u3 := (Ch.cell g1 hlt (noB _)).trans c3
      have u4 := (Ch.cell g1 hlt (noB _)).trans c4
      have HG1 := hid (Gr.trans HG.out g1)
      clear g1 hlt c0 c1 c2 c3 c4
      go_wp2_with fail
      refine (HB2.out _).mono ?_
      rintro _ w2 ⟨rfl, g2⟩
      have HG2 := hid (Gr.trans HG1.out g2)
      clear g2 u0 u1 u2 u3 u4
      go_wp2
      go_roundg (gk - 1)
      case measure => omega
      case rel => exact ⟨j + 1, by omega, by simp, HG2.out⟩
    · have e : j = n := by omega
      subst e
      go_wp2_with fail
      refine (awake_any _ (HN.out.gr HG.out) (HF.out.gr HG.out)).mono ?_
      rintro _ w1 ⟨rfl, g1⟩
      go_wp2
      go_ret
      exact ⟨rfl, Gr.trans HG.out g1⟩
end Go.Proofs.YtejmmpgclgdbbaaDoor.Wd
