/-
  The words in which the walks of layer 10 speak: an access, a call, cells in memory, what a call tells and leaves. No conditions.
-/
import Derived.Test.YtpmhmikefkgbdabGnList
import Derived.Lib.SliceRun
import Derived.Laws.Rows
namespace Go.Proofs.Ytpmhmikefkgbdab.Lt
open Go.RowKit Wd

theorem al_blk {w : World} {x : Nat} {o : Obj} (h : w.heap[x]? = some o) (o' : Obj) : (w.alloc o').heap[x]? = some o := (Below.heap_alloc _ _ _ (lt_of_block h)).trans h
theorem al_at {w : World} {x : Nat} (o : Obj) (h : x = w.heap.size) : (w.alloc o).heap[x]? = some o := by
  subst h
  exact (MapKept.heap_alloc w o).1
theorem gr_blk {w w' : World} {x : Nat} {o : Obj} (h : w.heap[x]? = some o) (g : Gr w w') : w'.heap[x]? = some o := (g.block _ (lt_of_block h) (noB _)).trans h
def eI (n : Int) : List Value := [.int .i64 n]
theorem eI_len (n : Int) : (eI n).length = 1 := rfl
theorem eI_one (xs : List Int) : ∀ u ∈ xs.flatMap eI, u.oneCell' = true := by
  intro u hu
  rw [List.mem_flatMap] at hu
  obtain ⟨x, _, hx⟩ := hu
  simp only [eI, List.mem_cons, List.not_mem_nil, or_false] at hx
  rw [hx]
  rfl
/-- an access: its cell, its kind, what was there, what is there behind it, whether it wrote -/
structure Ac where
  c : Int
  k : Int
  b : Int
  a : Int
  w : Bool
def Ac.nil : Ac := ⟨0, 0, 0, 0, false⟩
def eA (x : Ac) : List Value := [.int .i64 x.c, .int .i64 x.k, .int .i64 x.b, .int .i64 x.a, .bool x.w]
theorem eA_len (x : Ac) : (eA x).length = 5 := rfl
theorem eA_one (xs : List Ac) : ∀ u ∈ xs.flatMap eA, u.oneCell' = true := by
  intro u hu
  rw [List.mem_flatMap] at hu
  obtain ⟨x, _, hx⟩ := hu
  simp only [eA, List.mem_cons, List.not_mem_nil, or_false] at hx
  rcases hx with h | h | h | h | h <;> rw [h] <;> rfl
/-- its value -/
def Ac.val (x : Ac) : Value := .agg #[.int .i64 x.c, .int .i64 x.k, .int .i64 x.b, .int .i64 x.a, .bool x.w]
/-- a call: its kind, its cell, its two numbers -/
structure O4 where
  k : Int
  c : Int
  o : Int
  v : Int
def eO (x : O4) : List Value := [.int .i64 x.k, .int .i64 x.c, .int .i64 x.o, .int .i64 x.v]
theorem eO_len (x : O4) : (eO x).length = 4 := rfl
def O4.val (x : O4) : Value := .agg #[.int .i64 x.k, .int .i64 x.c, .int .i64 x.o, .int .i64 x.v]
/-- is a number a place of a list? -/
def isP (i : Int) (n : Nat) : Bool := decide (0 ≤ i ∧ i < (n : Int))
theorem isP_of {i : Int} {n : Nat} (h : isP i n = true) : ∃ j : Nat, i = (j : Int) ∧ j < n := by
  have := of_decide_eq_true h
  exact ⟨i.toNat, by omega, by omega⟩
/-- what is in a cell -/
def inC (vs : List Int) (i : Int) : Int := vs.getD i.toNat 0
/-- a number's cells hold numbers of Go's int64 -/
def I64s (vs : List Int) : Prop := ∀ x ∈ vs, -9223372036854775808 ≤ x ∧ x ≤ 9223372036854775807
/-- what an access of a kind puts: what is there behind it, and whether it is written -/
def putOf (o : O4) (b : Int) : Int × Bool :=
  if o.k = 1 then (b, false) else if o.k = 2 then (o.v, true) else if o.k = 3 then (if b = o.o then (o.v, true) else (b, false)) else (wrap64 (b + o.v), true)
/-- what a call tells -/
def told (o : O4) (vs : List Int) : Ac := if isP o.c vs.length = true then ⟨o.c, o.k, inC vs o.c, (putOf o (inC vs o.c)).1, (putOf o (inC vs o.c)).2⟩ else Ac.nil
/-- its error -/
def terr (o : O4) (vs : List Int) : Int := if isP o.c vs.length = true then 0 else 100
/-- what is in the cells behind it -/
def left (o : O4) (vs : List Int) : List Int := if isP o.c vs.length = true then (if (putOf o (inC vs o.c)).2 = true then vs.set o.c.toNat (putOf o (inC vs o.c)).1 else vs) else vs
theorem left_len (o : O4) (vs : List Int) : (left o vs).length = vs.length := by
  unfold left
  split
  · split
    · rw [List.length_set]
    · rfl
  · rfl
/-- cells in memory that New made -/
structure CAt (base : Nat) (w : World) (b : Nat) (v : Value) (vs : List Int) : Prop where
  bk : w.heap[b]? = some (.cells #[.bool true, v] 37 (0, 0))
  vo : Ow eI 1 2 base w v vs
  av : ¬ Blk v b
theorem CAt.ch {S : Nat → Prop} {base : Nat} {w w' : World} {b : Nat} {v : Value} {vs : List Int} (h : CAt base w b v vs) (k : Ch S w w') (hb : ¬ S b) (hv : ∀ g, Blk v g → ¬ S g) : CAt base w' b v vs :=
  ⟨(k.block b (lt_of_block h.bk) hb).trans h.bk, h.vo.ch k hv, h.av⟩
theorem CAt.gr {base : Nat} {w w' : World} {b : Nat} {v : Value} {vs : List Int} (h : CAt base w b v vs) (k : Gr w w') : CAt base w' b v vs := h.ch k (noB _) (fun _ _ => noB _)
theorem i64_info : (Try.prog.info? 2).map (fun i => (i.zero, i.size, i.bytes)) = some (some (.int .i64 0), 1, 8) := by kernel_rfl
theorem ow_empty (e : Nat) (w : World) : Ow eI 1 e w.heap.size (w.alloc (.cells #[] e)) (.slice (some ⟨w.heap.size, 0, none⟩) 0 0) [] :=
  ⟨rfl, .inr ⟨w.heap.size, 0, #[], rfl, Nat.le_refl _, (MapKept.heap_alloc w _).1, Nat.le_refl _, by unfold maxLen; omega, rfl, rfl⟩⟩

set_option maxHeartbeats 1000000 in
/-- slices.Clone -/
theorem clone_any (P : Nat → Prop) (v : Value) (us : List Int) (w : World) (hx : Ls eI P w v us) (hl : us.length ≤ 17592186044416) :
    Calls Try.prog 25 #[v] w fun e w' => ∃ v', e = .returned v' ∧ Ow eI 1 2 w.heap.size w' v' us ∧ Gr w w' := by
  have hx' := hx
  obtain ⟨ao, cap, rfl, ⟨hcap, hnone⟩, hcase⟩ := hx'
  cases ao with
  | none =>
    have hys : us = [] := by
      rcases hcase with h0 | ⟨g, o, h1, _⟩
      · exact h0
      · cases h1
    subst hys
    have hc := hnone rfl
    subst hc
    have hN := fun w' => Lib.run_eql_slice_nil (P := Try.prog) w' 22 2 none 0 0 0 0 Try.underlying22
    go_enter Try.func25, Try.ntmps25
    go_wp2
    go_ret
    exact ⟨_, rfl, Ow.nil _ _ _ _ _, Gr.refl _⟩
  | some ad =>
    obtain ⟨n, hn⟩ : ∃ n, n = us.length := ⟨_, rfl⟩
    rw [← hn] at hx hl ⊢
    have HX := hid hx
    have HN := hid hn
    clear hx hcase hnone hcap hn
    have hN := fun w' => Lib.run_eql_slice_nil (P := Try.prog) w' 22 2 (some ad) n cap 0 0 Try.underlying22
    go_enter Try.func25, Try.ntmps25
    go_wp2_with (first | (at_builtin; refine wpList_append_ow eI_len rfl (.tmp 5) (.tmp 6) 22 2 8 (.int .i64 0) Try.underlying22 i64_info rfl (by omega) rfl w.heap.size _ [] rfl (ow_empty _ w) P _ us rfl (HX.out.alloc _) (eI_one us) n (by simp [HN.out]) (by omega) (by unfold maxLen; omega) (by simp) us rfl ?_; intro ao2 cap2 w2 ow2 cw2 bl2; have HO2 := hid ow2; have HG2 := hid cw2; clear ow2 cw2 bl2))
    go_ret
    exact ⟨_, rfl, HO2.out, ((Ch.refl NoB w).alloc _).trans HG2.out (fun q e => .inr (by have : some w.heap.size = some q := e; injection this with this; omega))⟩
theorem setRow_blk {w : World} {g : Nat} {t : TypeId} {old c : Array Value} (hg : w.heap[g]? = some (.cells old t (0, 0))) : (w.setRow g c).heap[g]? = some (.cells c t (0, 0)) := by
  simp [World.setRow, Array.getElem?_modify, hg]
theorem setRow_ch (w : World) (g : Nat) (c : Array Value) : Ch (Only g) w (w.setRow g c) := by
  refine ⟨rfl, rfl, rfl, by simp [World.setRow], fun k _ hk => ?_⟩
  have : g ≠ k := fun e => hk e.symm
  simp [World.setRow, Array.getElem?_modify, this]
/-- a struct stored whole: what lies there then, and nothing else has turned -/
theorem st_row {ops : Array Oper} {rest : List Oper} {o : Oper} {a : Act} {w : World} {Q : Exit → Act → World → Prop} (hgd : o.guard = none) (ty : TypeId) (x y : Operand) (ho : o.op = .store ty x y)
    (g : Nat) (cells : Array Value) (hx : a.eval x = .pointer (some ⟨g, 0, none⟩)) (hy : a.eval y = .agg cells)
    (t : TypeId) (old : Array Value) (hg : w.heap[g]? = some (.cells old t (0, 0))) (hi : (Try.prog.info? ty).map (·.size) = some cells.size)
    (hold : old.size = cells.size) (h1 : cells.all (·.oneCell') = true)
    (h : ∀ w', w'.heap[g]? = some (.cells cells t (0, 0)) → Ch (Only g) w w' → wpList Try.prog ops Q rest (a.put o.dst undef) w') : wpList Try.prog ops Q (o :: rest) a w :=
  wpList_store_row hgd ty x y ho g cells hx hy t old hg hi hold h1 (h _ (setRow_blk hg) (setRow_ch w g cells))
theorem results_cell_tmp2 {fn : Func} {p t : Tmp} {ty : TypeId} (h : fn.results = #[.cell p ty, .tmp t]) (tmps : Array Value) (w : World) (g : Nat) (cs : Array Value)
    (hp : tmps.getD p undef = .pointer (some ⟨g, 0, none⟩)) (hl : (loadVar ty ⟨g, 0, none⟩).run Try.prog w = .ok (.agg cs) w) :
    (results fn tmps).run Try.prog w = .ok (.tuple #[.agg cs, tmps.getD t undef]) w := by
  have hp' : tmps[p]?.getD undef = .pointer (some ⟨g, 0, none⟩) := by simpa using hp
  simp [results, h, hp', asAddr, hl]
theorem acc_size : (Try.prog.info? 28).map (·.size) = some 5 := by kernel_rfl
end Go.Proofs.Ytpmhmikefkgbdab.Lt
