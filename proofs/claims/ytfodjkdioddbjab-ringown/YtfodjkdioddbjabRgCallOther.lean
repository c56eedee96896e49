/-
  What 'calls' of the statements does where the other ring is meant from now on, and at what is no call. Condition: rings and lists are there.
-/
import Derived.Test.YtfodjkdioddbjabRgCalls
namespace Go.Proofs.Ytfodjkdioddbjab.Rg
open Go.RowKit
attribute [local go_sem ↓] Go.wp_at_zero Go.wp_at_succ

set_option maxHeartbeats 2000000 in
set_option maxRecDepth 20000 in
theorem calls_other0 (b c pk : Nat) (u v : Value) (xs zs : List W3) (nx ny : Option W3) (x : W3) (w : World)
    (hb : RingAt w b xs nx) (hc : RingAt w c zs ny) (hlu : Lst (Av b c pk) w u xs) (hlv : Lst (Av b c pk) w v zs) (_hpk : pk < w.heap.size) :
    Calls Try.prog 23 #[.agg #[.pointer (some ⟨b, 0, none⟩), .pointer (some ⟨c, 0, none⟩), u, .bool nx.isSome, .int .i64 (nx.getD W3.zero).s, .int .i64 (nx.getD W3.zero).g, .int .u64 (nx.getD W3.zero).t, v, .bool ny.isSome, .int .i64 (ny.getD W3.zero).s, .int .i64 (ny.getD W3.zero).g, .int .u64 (ny.getD W3.zero).t, .int .i64 0], .agg #[.int .i64 6, .int .i64 x.s, .int .i64 x.g, .int .u64 x.t]] w fun e w' => Out b c pk w e w' := by
  obtain ⟨ua, uc, rfl⟩ := hlu.form
  obtain ⟨va, vc, rfl⟩ := hlv.form
  have HB := hid hb
  have HC := hid hc
  have HU := hid hlu
  have HV := hid hlv
  clear hb hc hlu hlv
  go_enter Try.func23, Try.ntmps23
  go_wp2
  refine bodyPost_ret (v := .tuple #[.agg #[.pointer (some ⟨b, 0, none⟩), .pointer (some ⟨c, 0, none⟩), (.slice ua xs.length uc), .bool nx.isSome, .int .i64 (nx.getD W3.zero).s, .int .i64 (nx.getD W3.zero).g, .int .u64 (nx.getD W3.zero).t, (.slice va zs.length vc), .bool ny.isSome, .int .i64 (ny.getD W3.zero).s, .int .i64 (ny.getD W3.zero).g, .int .u64 (ny.getD W3.zero).t, .int .i64 1], .bool true]) (by simp [results, Try.results23, go_sem]) rfl ?_
  have D : ∀ (wf : World), Ch NoB w wf → Out b c pk w (.returned (.tuple #[.agg #[.pointer (some ⟨b, 0, none⟩), .pointer (some ⟨c, 0, none⟩), (.slice ua xs.length uc), .bool nx.isSome, .int .i64 (nx.getD W3.zero).s, .int .i64 (nx.getD W3.zero).g, .int .u64 (nx.getD W3.zero).t, (.slice va zs.length vc), .bool ny.isSome, .int .i64 (ny.getD W3.zero).s, .int .i64 (ny.getD W3.zero).g, .int .u64 (ny.getD W3.zero).t, .int .i64 1], .bool true])) wf :=
    fun wf G => ⟨xs, zs, nx, ny, _, _, 1, rfl, by omega, HB.out.ch G (noB _), HC.out.ch G (noB _), HU.out.ch G (fun _ _ _ => noB _), HV.out.ch G (fun _ _ _ => noB _), G.any⟩
  exact D _ (((((Ch.refl _ _).alloc _).alloc _).alloc _).alloc _)

set_option maxHeartbeats 2000000 in
set_option maxRecDepth 20000 in
theorem calls_other1 (b c pk : Nat) (u v : Value) (xs zs : List W3) (nx ny : Option W3) (x : W3) (w : World)
    (hb : RingAt w b xs nx) (hc : RingAt w c zs ny) (hlu : Lst (Av b c pk) w u xs) (hlv : Lst (Av b c pk) w v zs) (_hpk : pk < w.heap.size) :
    Calls Try.prog 23 #[.agg #[.pointer (some ⟨b, 0, none⟩), .pointer (some ⟨c, 0, none⟩), u, .bool nx.isSome, .int .i64 (nx.getD W3.zero).s, .int .i64 (nx.getD W3.zero).g, .int .u64 (nx.getD W3.zero).t, v, .bool ny.isSome, .int .i64 (ny.getD W3.zero).s, .int .i64 (ny.getD W3.zero).g, .int .u64 (ny.getD W3.zero).t, .int .i64 1], .agg #[.int .i64 6, .int .i64 x.s, .int .i64 x.g, .int .u64 x.t]] w fun e w' => Out b c pk w e w' := by
  obtain ⟨ua, uc, rfl⟩ := hlu.form
  obtain ⟨va, vc, rfl⟩ := hlv.form
  have HB := hid hb
  have HC := hid hc
  have HU := hid hlu
  have HV := hid hlv
  clear hb hc hlu hlv
  go_enter Try.func23, Try.ntmps23
  go_wp2
  refine bodyPost_ret (v := .tuple #[.agg #[.pointer (some ⟨b, 0, none⟩), .pointer (some ⟨c, 0, none⟩), (.slice ua xs.length uc), .bool nx.isSome, .int .i64 (nx.getD W3.zero).s, .int .i64 (nx.getD W3.zero).g, .int .u64 (nx.getD W3.zero).t, (.slice va zs.length vc), .bool ny.isSome, .int .i64 (ny.getD W3.zero).s, .int .i64 (ny.getD W3.zero).g, .int .u64 (ny.getD W3.zero).t, .int .i64 0], .bool true]) (by simp [results, Try.results23, go_sem]) rfl ?_
  have D : ∀ (wf : World), Ch NoB w wf → Out b c pk w (.returned (.tuple #[.agg #[.pointer (some ⟨b, 0, none⟩), .pointer (some ⟨c, 0, none⟩), (.slice ua xs.length uc), .bool nx.isSome, .int .i64 (nx.getD W3.zero).s, .int .i64 (nx.getD W3.zero).g, .int .u64 (nx.getD W3.zero).t, (.slice va zs.length vc), .bool ny.isSome, .int .i64 (ny.getD W3.zero).s, .int .i64 (ny.getD W3.zero).g, .int .u64 (ny.getD W3.zero).t, .int .i64 0], .bool true])) wf :=
    fun wf G => ⟨xs, zs, nx, ny, _, _, 0, rfl, by omega, HB.out.ch G (noB _), HC.out.ch G (noB _), HU.out.ch G (fun _ _ _ => noB _), HV.out.ch G (fun _ _ _ => noB _), G.any⟩
  exact D _ (((((Ch.refl _ _).alloc _).alloc _).alloc _).alloc _)

set_option maxHeartbeats 2000000 in
set_option maxRecDepth 20000 in
theorem calls_none0 (b c pk : Nat) (u v : Value) (xs zs : List W3) (nx ny : Option W3) (x : W3) (w : World) (d : Int) (h0 : (d == 0) = false) (h1 : (d == 1) = false) (h2 : (d == 2) = false) (h3 : (d == 3) = false) (h4 : (d == 4) = false) (h5 : (d == 5) = false) (h6 : (d == 6) = false)
    (hb : RingAt w b xs nx) (hc : RingAt w c zs ny) (hlu : Lst (Av b c pk) w u xs) (hlv : Lst (Av b c pk) w v zs) (_hpk : pk < w.heap.size) :
    Calls Try.prog 23 #[.agg #[.pointer (some ⟨b, 0, none⟩), .pointer (some ⟨c, 0, none⟩), u, .bool nx.isSome, .int .i64 (nx.getD W3.zero).s, .int .i64 (nx.getD W3.zero).g, .int .u64 (nx.getD W3.zero).t, v, .bool ny.isSome, .int .i64 (ny.getD W3.zero).s, .int .i64 (ny.getD W3.zero).g, .int .u64 (ny.getD W3.zero).t, .int .i64 0], .agg #[.int .i64 d, .int .i64 x.s, .int .i64 x.g, .int .u64 x.t]] w fun e w' => Out b c pk w e w' := by
  obtain ⟨ua, uc, rfl⟩ := hlu.form
  obtain ⟨va, vc, rfl⟩ := hlv.form
  have HB := hid hb
  have HC := hid hc
  have HU := hid hlu
  have HV := hid hlv
  clear hb hc hlu hlv
  go_enter Try.func23, Try.ntmps23
  go_wp2
  refine bodyPost_ret (v := .tuple #[.agg #[.pointer (some ⟨b, 0, none⟩), .pointer (some ⟨c, 0, none⟩), (.slice ua xs.length uc), .bool nx.isSome, .int .i64 (nx.getD W3.zero).s, .int .i64 (nx.getD W3.zero).g, .int .u64 (nx.getD W3.zero).t, (.slice va zs.length vc), .bool ny.isSome, .int .i64 (ny.getD W3.zero).s, .int .i64 (ny.getD W3.zero).g, .int .u64 (ny.getD W3.zero).t, .int .i64 0], .bool true]) (by simp [results, Try.results23, go_sem]) rfl ?_
  have D : ∀ (wf : World), Ch NoB w wf → Out b c pk w (.returned (.tuple #[.agg #[.pointer (some ⟨b, 0, none⟩), .pointer (some ⟨c, 0, none⟩), (.slice ua xs.length uc), .bool nx.isSome, .int .i64 (nx.getD W3.zero).s, .int .i64 (nx.getD W3.zero).g, .int .u64 (nx.getD W3.zero).t, (.slice va zs.length vc), .bool ny.isSome, .int .i64 (ny.getD W3.zero).s, .int .i64 (ny.getD W3.zero).g, .int .u64 (ny.getD W3.zero).t, .int .i64 0], .bool true])) wf :=
    fun wf G => ⟨xs, zs, nx, ny, _, _, 0, rfl, by omega, HB.out.ch G (noB _), HC.out.ch G (noB _), HU.out.ch G (fun _ _ _ => noB _), HV.out.ch G (fun _ _ _ => noB _), G.any⟩
  exact D _ (((((Ch.refl _ _).alloc _).alloc _).alloc _).alloc _)

set_option maxHeartbeats 2000000 in
set_option maxRecDepth 20000 in
theorem calls_none1 (b c pk : Nat) (u v : Value) (xs zs : List W3) (nx ny : Option W3) (x : W3) (w : World) (d : Int) (h0 : (d == 0) = false) (h1 : (d == 1) = false) (h2 : (d == 2) = false) (h3 : (d == 3) = false) (h4 : (d == 4) = false) (h5 : (d == 5) = false) (h6 : (d == 6) = false)
    (hb : RingAt w b xs nx) (hc : RingAt w c zs ny) (hlu : Lst (Av b c pk) w u xs) (hlv : Lst (Av b c pk) w v zs) (_hpk : pk < w.heap.size) :
    Calls Try.prog 23 #[.agg #[.pointer (some ⟨b, 0, none⟩), .pointer (some ⟨c, 0, none⟩), u, .bool nx.isSome, .int .i64 (nx.getD W3.zero).s, .int .i64 (nx.getD W3.zero).g, .int .u64 (nx.getD W3.zero).t, v, .bool ny.isSome, .int .i64 (ny.getD W3.zero).s, .int .i64 (ny.getD W3.zero).g, .int .u64 (ny.getD W3.zero).t, .int .i64 1], .agg #[.int .i64 d, .int .i64 x.s, .int .i64 x.g, .int .u64 x.t]] w fun e w' => Out b c pk w e w' := by
  obtain ⟨ua, uc, rfl⟩ := hlu.form
  obtain ⟨va, vc, rfl⟩ := hlv.form
  have HB := hid hb
  have HC := hid hc
  have HU := hid hlu
  have HV := hid hlv
  clear hb hc hlu hlv
  go_enter Try.func23, Try.ntmps23
  go_wp2
  refine bodyPost_ret (v := .tuple #[.agg #[.pointer (some ⟨b, 0, none⟩), .pointer (some ⟨c, 0, none⟩), (.slice ua xs.length uc), .bool nx.isSome, .int .i64 (nx.getD W3.zero).s, .int .i64 (nx.getD W3.zero).g, .int .u64 (nx.getD W3.zero).t, (.slice va zs.length vc), .bool ny.isSome, .int .i64 (ny.getD W3.zero).s, .int .i64 (ny.getD W3.zero).g, .int .u64 (ny.getD W3.zero).t, .int .i64 1], .bool true]) (by simp [results, Try.results23, go_sem]) rfl ?_
  have D : ∀ (wf : World), Ch NoB w wf → Out b c pk w (.returned (.tuple #[.agg #[.pointer (some ⟨b, 0, none⟩), .pointer (some ⟨c, 0, none⟩), (.slice ua xs.length uc), .bool nx.isSome, .int .i64 (nx.getD W3.zero).s, .int .i64 (nx.getD W3.zero).g, .int .u64 (nx.getD W3.zero).t, (.slice va zs.length vc), .bool ny.isSome, .int .i64 (ny.getD W3.zero).s, .int .i64 (ny.getD W3.zero).g, .int .u64 (ny.getD W3.zero).t, .int .i64 1], .bool true])) wf :=
    fun wf G => ⟨xs, zs, nx, ny, _, _, 1, rfl, by omega, HB.out.ch G (noB _), HC.out.ch G (noB _), HU.out.ch G (fun _ _ _ => noB _), HV.out.ch G (fun _ _ _ => noB _), G.any⟩
  exact D _ (((((Ch.refl _ _).alloc _).alloc _).alloc _).alloc _)

end Go.Proofs.Ytfodjkdioddbjab.Rg
