/-
  TickCounts: Count of the program answers as the document's does, for any tick, number, frame and window: the walk. No conditions: the numbers are uint64.
-/
import Derived.Test.YtikipkjanojgaaaRCount
namespace Go.Proofs.Ytikipkjanojgaaa.Tk
open Go.RowKit

theorem counts_any (t f s l n : Int) (ht : U t) (hf : U f) (hs : U s) (hl : U l) (hn : U n) (w : World) :
    Calls Try.prog 6 #[.agg #[.int .u64 t, .int .u64 f, .int .u64 s, .int .u64 l], .int .u64 n] w fun e w' => e = .returned (.bool true) ∧ Gr w w' := by
  go_enter Try.func6, Try.ntmps6
  go_wp2_with fail
  refine (count_any t n f s l ht hn hf hs hl _).mono ?_
  rintro e w1 ⟨rfl, g1⟩
  obtain ⟨c0, c1, c2, c3, cb, gw⟩ := boxedF g1
  go_wp2_with fail
  refine (rcount_any t n f s l ht hn hf hs hl _).mono ?_
  rintro e w2 ⟨rfl, g2⟩
  go_wp2_with fail
  refine (lives_any _).mono ?_
  rintro e w3 ⟨rfl, rfl⟩
  go_wp2
  go_ret
  exact ⟨rfl, gw.trans g2⟩
end Go.Proofs.Ytikipkjanojgaaa.Tk
