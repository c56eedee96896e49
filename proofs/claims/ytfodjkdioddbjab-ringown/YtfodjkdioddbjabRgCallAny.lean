/-
  What 'calls' of the statements does at any call of either ring. Condition: rings and lists are there.
-/
import Derived.Test.YtfodjkdioddbjabRgCallPut
import Derived.Test.YtfodjkdioddbjabRgCallReady
import Derived.Test.YtfodjkdioddbjabRgCallKick
import Derived.Test.YtfodjkdioddbjabRgCallTake
import Derived.Test.YtfodjkdioddbjabRgCallDrain
import Derived.Test.YtfodjkdioddbjabRgCallSteal0
import Derived.Test.YtfodjkdioddbjabRgCallSteal1
import Derived.Test.YtfodjkdioddbjabRgCallOther
import Derived.Test.YtfodjkdioddbjabRgStand
namespace Go.Proofs.Ytfodjkdioddbjab.Rg
open Go.RowKit

theorem calls_any (b c pk : Nat) (u v : Value) (xs zs : List W3) (nx ny : Option W3) (n d : Int) (x : W3) (w : World)
    (hb : RingAt w b xs nx) (hc : RingAt w c zs ny) (hlu : Lst (Av b c pk) w u xs) (hlv : Lst (Av b c pk) w v zs) (hpk : pk < w.heap.size) (hbc : b ≠ c) (hn : n = 0 ∨ n = 1) :
    Calls Try.prog 23 #[.agg #[.pointer (some ⟨b, 0, none⟩), .pointer (some ⟨c, 0, none⟩), u, .bool nx.isSome, .int .i64 (nx.getD W3.zero).s, .int .i64 (nx.getD W3.zero).g, .int .u64 (nx.getD W3.zero).t, v, .bool ny.isSome, .int .i64 (ny.getD W3.zero).s, .int .i64 (ny.getD W3.zero).g, .int .u64 (ny.getD W3.zero).t, .int .i64 n], .agg #[.int .i64 d, .int .i64 x.s, .int .i64 x.g, .int .u64 x.t]] w fun e w' => Out b c pk w e w' := by
  by_cases h0 : d = 0
  · subst h0
    rcases hn with rfl | rfl
    · exact calls_put0 b c pk u v xs zs nx ny x w hb hc hlu hlv hpk hbc
    · exact calls_put1 b c pk u v xs zs nx ny x w hb hc hlu hlv hpk hbc
  by_cases h1 : d = 1
  · subst h1
    rcases hn with rfl | rfl
    · exact calls_ready0 b c pk u v xs zs nx ny x w hb hc hlu hlv hpk hbc
    · exact calls_ready1 b c pk u v xs zs nx ny x w hb hc hlu hlv hpk hbc
  by_cases h2 : d = 2
  · subst h2
    rcases hn with rfl | rfl
    · exact calls_kick0 b c pk u v xs zs nx ny x w hb hc hlu hlv hpk hbc
    · exact calls_kick1 b c pk u v xs zs nx ny x w hb hc hlu hlv hpk hbc
  by_cases h3 : d = 3
  · subst h3
    rcases hn with rfl | rfl
    · exact calls_take0 b c pk u v xs zs nx ny x w hb hc hlu hlv hpk hbc
    · exact calls_take1 b c pk u v xs zs nx ny x w hb hc hlu hlv hpk hbc
  by_cases h4 : d = 4
  · subst h4
    rcases hn with rfl | rfl
    · exact calls_drain0 b c pk u v xs zs nx ny x w hb hc hlu hlv hpk hbc
    · exact calls_drain1 b c pk u v xs zs nx ny x w hb hc hlu hlv hpk hbc
  by_cases h5 : d = 5
  · subst h5
    rcases hn with rfl | rfl
    · exact calls_steal0 b c pk u v xs zs nx ny x w hb hc hlu hlv hpk hbc
    · exact calls_steal1 b c pk u v xs zs nx ny x w hb hc hlu hlv hpk hbc
  by_cases h6 : d = 6
  · subst h6
    rcases hn with rfl | rfl
    · exact calls_other0 b c pk u v xs zs nx ny x w hb hc hlu hlv hpk
    · exact calls_other1 b c pk u v xs zs nx ny x w hb hc hlu hlv hpk
  have e0 : (d == 0) = false := by simpa using h0
  have e1 : (d == 1) = false := by simpa using h1
  have e2 : (d == 2) = false := by simpa using h2
  have e3 : (d == 3) = false := by simpa using h3
  have e4 : (d == 4) = false := by simpa using h4
  have e5 : (d == 5) = false := by simpa using h5
  have e6 : (d == 6) = false := by simpa using h6
  rcases hn with rfl | rfl
  · exact calls_none0 b c pk u v xs zs nx ny x w d e0 e1 e2 e3 e4 e5 e6 hb hc hlu hlv hpk
  · exact calls_none1 b c pk u v xs zs nx ny x w d e0 e1 e2 e3 e4 e5 e6 hb hc hlu hlv hpk

theorem calls_all : CallsAll := fun b c pk u v xs zs nx ny n d x w h1 h2 h3 h4 h5 h6 h7 => calls_any b c pk u v xs zs nx ny n d x w h1 h2 h3 h4 h5 h6 h7
end Go.Proofs.Ytfodjkdioddbjab.Rg
