/-
  A program that an argument tells, in memory; what the document's and the program's Decode answer of any word. Conditions: the tables lie where they lie; a word is one.
-/
import Derived.Test.YtcdlhfodeckleaaDoorLtList
import Derived.Test.YtcdlhfodeckleaaDoorLtRDec
namespace Go.Proofs.YtcdlhfodeckleaaDoor.Lt
open Go.RowKit Wd

theorem al_blk {w : World} {x : Nat} {o : Obj} (h : w.heap[x]? = some o) (o' : Obj) : (w.alloc o').heap[x]? = some o := (Below.heap_alloc _ _ _ (lt_of_block h)).trans h
theorem gr_blk {w w' : World} {x : Nat} {o : Obj} (h : w.heap[x]? = some o) (g : Gr w w') : w'.heap[x]? = some o := (g.block _ (lt_of_block h) (noB _)).trans h
def eU (n : Int) : List Value := [.int .u32 n]
theorem eU_len (n : Int) : (eU n).length = 1 := rfl
def eG (f : Int × Int) : List Value := [.int .i64 f.1, .int .i64 f.2]
theorem eG_len (f : Int × Int) : (eG f).length = 2 := rfl
def eI (n : Int) : List Value := [.int .i64 n]
theorem eI_len (n : Int) : (eI n).length = 1 := rfl
/-- a case -/
structure Cs where
  send : Bool
  ch : Int
  val : Int
  ok : Int
def eC (c : Cs) : List Value := [.bool c.send, .int .i64 c.ch, .int .i64 c.val, .int .i64 c.ok]
theorem eC_len (c : Cs) : (eC c).length = 4 := rfl
/-- a table in memory: its cases, their value, its default -/
structure Tb where
  cs : List Cs
  cv : Value
  df : Bool
def eT (t : Tb) : List Value := [t.cv, .bool t.df]
theorem eT_len (t : Tb) : (eT t).length = 2 := rfl
/-- a program in memory, whosever it is -/
structure Pin (P : Nat → Prop) (w : World) (vc vf vt : Value) (cs : List Int) (fs : List (Int × Int)) (ts : List Tb) : Prop where
  c : Ls eU P w vc cs
  f : Ls eG P w vf fs
  t : Ls eT P w vt ts
  cs : ∀ t ∈ ts, Ls eC P w t.cv t.cs
theorem Pin.gr {P : Nat → Prop} {w w' : World} {vc vf vt : Value} {cs : List Int} {fs : List (Int × Int)} {ts : List Tb} (h : Pin P w vc vf vt cs fs ts) (k : Gr w w') : Pin P w' vc vf vt cs fs ts := ⟨h.c.gr k, h.f.gr k, h.t.gr k, fun t ht => (h.cs t ht).gr k⟩
/-- words -/
def U32s (cs : List Int) : Prop := ∀ n ∈ cs, 0 ≤ n ∧ n < 4294967296
/-- what lies in the package-level variables -/
structure Glb (w : World) : Prop where
  n : Nums w
  f : Forms w
theorem Glb.gr {w w' : World} (h : Glb w) (g : Gr w w') : Glb w' := ⟨h.n.gr g, h.f.gr g⟩
/-- an instruction's value -/
def iV (x : Int × Int × Int × Int × Int) : Value := .agg #[.int .i64 x.1, .int .i64 x.2.1, .int .i64 x.2.2.1, .int .i64 x.2.2.2.1, .int .i64 x.2.2.2.2]
theorem take_one {α : Type} {xs : List α} {j : Nat} {a : α} (h : xs[j]? = some a) : xs.take (j + 1) = xs.take j ++ [a] := by
  rw [List.take_add_one, h]
  rfl
/-- a word's operation, if there is one -/
def opOf (n : Int) : Nat := (n / 16777216).toNat
/-- does a word decode? -/
def dE (n : Int) : Int := if n / 16777216 < 1 ∨ 58 < n / 16777216 then 60 else if fit (sh (opOf n)) (dA n) (dB n) (dC (sh (opOf n)) n) (dM (sh (opOf n)) n) = true then 0 else 61
/-- its fields -/
def dI (n : Int) : Int × Int × Int × Int × Int := if dE n = 0 then ((opOf n : Nat), dA n, dB n, dC (sh (opOf n)) n, dM (sh (opOf n)) n) else (0, 0, 0, 0, 0)
theorem decode_all (n : Int) (h0 : 0 ≤ n) (h1 : n < 4294967296) (w : World) (hg : Glb w) : Calls Tryd.prog 47 #[.int .u32 n] w fun e w' => e = .returned (.tuple #[iV (dI n), .int .i64 (dE n)]) ∧ Gr w w' := by
  rcases kn_cases (n / 16777216) with h | ⟨k, k1, k2, hk⟩
  · have e1 : dE n = 60 := by unfold dE; rw [if_pos h]
    have e2 : dI n = (0, 0, 0, 0, 0) := by unfold dI; rw [e1]; rfl
    rw [e1, e2]
    exact decode_no n h0 h1 h w
  · have hop : opOf n = k := by unfold opOf; omega
    have hno : ¬ (n / 16777216 < 1 ∨ 58 < n / 16777216) := by omega
    refine (decode_yes k n k1 k2 h0 h1 hk w hg.n hg.f).mono ?_
    rintro e w1 ⟨rfl, g⟩
    refine ⟨?_, g⟩
    cases hq : fit (sh k) (dA n) (dB n) (dC (sh k) n) (dM (sh k) n) with
    | true =>
      have e1 : dE n = 0 := by unfold dE; rw [if_neg hno, hop, hq]; rfl
      have e2 : dI n = (((k : Nat) : Int), dA n, dB n, dC (sh k) n, dM (sh k) n) := by unfold dI; rw [e1, hop]; rfl
      rw [e1, e2]
      rfl
    | false =>
      have e1 : dE n = 61 := by unfold dE; rw [if_neg hno, hop, hq]; rfl
      have e2 : dI n = (0, 0, 0, 0, 0) := by unfold dI; rw [e1]; rfl
      rw [e1, e2]
      rfl
theorem rdecode_all (n : Int) (h0 : 0 ≤ n) (h1 : n < 4294967296) (w : World) : Calls Tryd.prog 49 #[.int .u32 n] w fun e w' => e = .returned (.tuple #[iV (dI n), .int .i64 (dE n)]) ∧ Gr w w' := by
  rcases kn_cases (n / 16777216) with h | ⟨k, k1, k2, hk⟩
  · have e1 : dE n = 60 := by unfold dE; rw [if_pos h]
    have e2 : dI n = (0, 0, 0, 0, 0) := by unfold dI; rw [e1]; rfl
    rw [e1, e2]
    exact rdecode_no n h0 h1 h w
  · have hop : opOf n = k := by unfold opOf; omega
    have hno : ¬ (n / 16777216 < 1 ∨ 58 < n / 16777216) := by omega
    refine (rdec_yes k n k1 k2 h0 h1 hk w).mono ?_
    rintro e w1 ⟨rfl, g⟩
    refine ⟨?_, g⟩
    cases hq : fit (sh k) (dA n) (dB n) (dC (sh k) n) (dM (sh k) n) with
    | true =>
      have e1 : dE n = 0 := by unfold dE; rw [if_neg hno, hop, hq]; rfl
      have e2 : dI n = (((k : Nat) : Int), dA n, dB n, dC (sh k) n, dM (sh k) n) := by unfold dI; rw [e1, hop]; rfl
      rw [e1, e2]
      rfl
    | false =>
      have e1 : dE n = 61 := by unfold dE; rw [if_neg hno, hop, hq]; rfl
      have e2 : dI n = (0, 0, 0, 0, 0) := by unfold dI; rw [e1]; rfl
      rw [e1, e2]
      rfl
end Go.Proofs.YtcdlhfodeckleaaDoor.Lt
