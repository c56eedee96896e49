/-
  The words in which the walks of layer 11 speak: one that waits, a channel, channels in memory. No conditions.
-/
import Derived.Test.YtalmiphddgmfbabGnList
import Derived.Lib.SliceRun
import Derived.Laws.Rows
namespace Go.Proofs.Ytalmiphddgmfbab.Lt
open Go.RowKit Wd

theorem al_blk {w : World} {x : Nat} {o : Obj} (h : w.heap[x]? = some o) (o' : Obj) : (w.alloc o').heap[x]? = some o := (Below.heap_alloc _ _ _ (lt_of_block h)).trans h
theorem al_at {w : World} {x : Nat} (o : Obj) (h : x = w.heap.size) : (w.alloc o).heap[x]? = some o := by
  subst h
  exact (MapKept.heap_alloc w o).1
theorem gr_blk {w w' : World} {x : Nat} {o : Obj} (h : w.heap[x]? = some o) (g : Gr w w') : w'.heap[x]? = some o := (g.block _ (lt_of_block h) (noB _)).trans h
theorem take_one {α : Type} {xs : List α} {j : Nat} {x : α} (h : xs[j]? = some x) : xs.take (j + 1) = xs.take j ++ [x] := by
  rw [List.take_add_one, h]
  rfl
def eI (n : Int) : List Value := [.int .i64 n]
theorem eI_len (n : Int) : (eI n).length = 1 := rfl
theorem eI_one (xs : List Int) : ∀ u ∈ xs.flatMap eI, u.oneCell' = true := by
  intro u hu
  rw [List.mem_flatMap] at hu
  obtain ⟨x, _, hx⟩ := hu
  simp only [eI, List.mem_cons, List.not_mem_nil, or_false] at hx
  rw [hx]
  rfl
/-- one that waits: its slot and generation, its case, its value -/
structure Wt where
  s : Int
  g : Int
  c : Int
  v : Int
def eW (x : Wt) : List Value := [.int .i64 x.s, .int .i64 x.g, .int .i64 x.c, .int .i64 x.v]
def Wt.val (x : Wt) : Value := .agg #[.int .i64 x.s, .int .i64 x.g, .int .i64 x.c, .int .i64 x.v]
def Wt.zero : Value := .agg #[.int .i64 0, .int .i64 0, .int .i64 0, .int .i64 0]
theorem eW_len (x : Wt) : (eW x).length = 4 := rfl
theorem eW_one (xs : List Wt) : ∀ u ∈ xs.flatMap eW, u.oneCell' = true := by
  intro u hu
  rw [List.mem_flatMap] at hu
  obtain ⟨x, _, hx⟩ := hu
  simp only [eW, List.mem_cons, List.not_mem_nil, or_false] at hx
  rcases hx with h | h | h | h <;> rw [h] <;> rfl
/-- a channel's cells -/
structure Rw where
  cap : Int
  v : Value
  s : Value
  r : Value
  cl : Bool
def eR (x : Rw) : List Value := [.int .i64 x.cap, x.v, x.s, x.r, .bool x.cl]
theorem eR_len (x : Rw) : (eR x).length = 5 := rfl
def Rw.val (x : Rw) : Value := .agg #[.int .i64 x.cap, x.v, x.s, x.r, .bool x.cl]
/-- a channel: its capacity, its values, those that wait to send and to receive, whether it is closed -/
structure Cn where
  cap : Int
  vs : List Int
  ss : List Wt
  rs : List Wt
  cl : Bool
/-- those that are not of a goroutine -/
def wo (l : List Wt) (s g : Int) : List Wt := l.filter (fun x => !(x.s == s && x.g == g))
/-- a channel without a goroutine -/
def Cn.wo (c : Cn) (s g : Int) : Cn := ⟨c.cap, c.vs, Lt.wo c.ss s g, Lt.wo c.rs s g, c.cl⟩
/-- in how many places of it a goroutine waits -/
def Cn.pl (c : Cn) (s g : Int) : Nat := (c.ss.length - (Lt.wo c.ss s g).length) + (c.rs.length - (Lt.wo c.rs s g).length)
def lvs (cs : List Cn) (s g : Int) : List Cn := cs.map (fun c => c.wo s g)
def pls (cs : List Cn) (s g : Int) : Nat := (cs.map (fun c => c.pl s g)).sum
theorem i64_info : (Try.prog.info? 2).map (fun i => (i.zero, i.size, i.bytes)) = some (some (.int .i64 0), 1, 8) := by kernel_rfl
theorem wtr_info : (Try.prog.info? 95).map (fun i => (i.zero, i.size, i.bytes)) = some (some Wt.zero, 4, 32) := by kernel_rfl
theorem chn_info : (Try.prog.info? 70).map (fun i => (i.zero, i.size, i.bytes)) = some (some (.agg #[.int .i64 0, .slice none 0 0, .slice none 0 0, .slice none 0 0, .bool false]), 5, 88) := by kernel_rfl
theorem ow_empty (e : Nat) (w : World) : Ow eI 1 e w.heap.size (w.alloc (.cells #[] e)) (.slice (some ⟨w.heap.size, 0, none⟩) 0 0) [] :=
  ⟨rfl, .inr ⟨w.heap.size, 0, #[], rfl, Nat.le_refl _, (MapKept.heap_alloc w _).1, Nat.le_refl _, by unfold maxLen; omega, rfl, rfl⟩⟩

theorem ow_emptyW (w : World) : Ow eW 4 95 w.heap.size (w.alloc (.cells #[] 95)) (.slice (some ⟨w.heap.size, 0, none⟩) 0 0) [] :=
  ⟨rfl, .inr ⟨w.heap.size, 0, #[], rfl, Nat.le_refl _, (MapKept.heap_alloc w _).1, Nat.le_refl _, by unfold maxLen; omega, rfl, rfl⟩⟩
theorem ow_emptyR (w : World) : Ow eR 5 70 w.heap.size (w.alloc (.cells #[] 70)) (.slice (some ⟨w.heap.size, 0, none⟩) 0 0) [] :=
  ⟨rfl, .inr ⟨w.heap.size, 0, #[], rfl, Nat.le_refl _, (MapKept.heap_alloc w _).1, Nat.le_refl _, by unfold maxLen; omega, rfl, rfl⟩⟩
set_option maxHeartbeats 1000000 in
/-- slices.Clone -/
theorem clone_any (P : Nat → Prop) (v : Value) (us : List Int) (w : World) (hx : Ls eI P w v us) (hl : us.length ≤ 17592186044416) :
    Calls Try.prog 48 #[v] w fun e w' => ∃ v', e = .returned v' ∧ Ow eI 1 2 w.heap.size w' v' us ∧ Gr w w' := by
  have hx' := hx
  obtain ⟨ao, cap, rfl, ⟨hcap, hnone⟩, hcase⟩ := hx'
  cases ao with
  | none =>
    have hys : us = [] := by
      rcases hcase with h0 | ⟨g, o, h1, _⟩
      · exact h0
      · cases h1
    subst hys
    have hc := hnone rfl
    subst hc
    have hN := fun w' => Lib.run_eql_slice_nil (P := Try.prog) w' 67 2 none 0 0 0 0 Try.underlying67
    go_enter Try.func48, Try.ntmps48
    go_wp2
    go_ret
    exact ⟨_, rfl, Ow.nil _ _ _ _ _, Gr.refl _⟩
  | some ad =>
    obtain ⟨n, hn⟩ : ∃ n, n = us.length := ⟨_, rfl⟩
    rw [← hn] at hx hl ⊢
    have HX := hid hx
    have HN := hid hn
    clear hx hcase hnone hcap hn
    have hN := fun w' => Lib.run_eql_slice_nil (P := Try.prog) w' 67 2 (some ad) n cap 0 0 Try.underlying67
    go_enter Try.func48, Try.ntmps48
    go_wp2_with (first | (at_builtin; refine wpList_append_ow eI_len rfl (.tmp 5) (.tmp 6) 67 2 8 (.int .i64 0) Try.underlying67 i64_info rfl (by omega) rfl w.heap.size _ [] rfl (ow_empty _ w) P _ us rfl (HX.out.alloc _) (eI_one us) n (by simp [HN.out]) (by omega) (by unfold maxLen; omega) (by simp) us rfl ?_; intro ao2 cap2 w2 ow2 cw2 bl2; have HO2 := hid ow2; have HG2 := hid cw2; clear ow2 cw2 bl2))
    go_ret
    exact ⟨_, rfl, HO2.out, ((Ch.refl NoB w).alloc _).trans HG2.out (fun q e => .inr (by have : some w.heap.size = some q := e; injection this with this; omega))⟩
set_option maxHeartbeats 1000000 in
/-- slices.Clone of those that wait -/
theorem clonew_any (P : Nat → Prop) (v : Value) (us : List Wt) (w : World) (hx : Ls eW P w v us) (hl : us.length ≤ 4398046511104) :
    Calls Try.prog 49 #[v] w fun e w' => ∃ v', e = .returned v' ∧ Ow eW 4 95 w.heap.size w' v' us ∧ Gr w w' := by
  have hx' := hx
  obtain ⟨ao, cap, rfl, ⟨hcap, hnone⟩, hcase⟩ := hx'
  cases ao with
  | none =>
    have hys : us = [] := by
      rcases hcase with h0 | ⟨g, o, h1, _⟩
      · exact h0
      · cases h1
    subst hys
    have hc := hnone rfl
    subst hc
    have hN := fun w' => Lib.run_eql_slice_nil (P := Try.prog) w' 68 95 none 0 0 0 0 Try.underlying68
    go_enter Try.func49, Try.ntmps49
    go_wp2
    go_ret
    exact ⟨_, rfl, Ow.nil _ _ _ _ _, Gr.refl _⟩
  | some ad =>
    obtain ⟨n, hn⟩ : ∃ n, n = us.length := ⟨_, rfl⟩
    rw [← hn] at hx hl ⊢
    have HX := hid hx
    have HN := hid hn
    clear hx hcase hnone hcap hn
    have hN := fun w' => Lib.run_eql_slice_nil (P := Try.prog) w' 68 95 (some ad) n cap 0 0 Try.underlying68
    go_enter Try.func49, Try.ntmps49
    go_wp2_with (first | (at_builtin; refine wpList_append_ow eW_len rfl (.tmp 5) (.tmp 6) 68 95 32 Wt.zero Try.underlying68 wtr_info rfl (by omega) rfl w.heap.size _ [] rfl (ow_emptyW w) P _ us rfl (HX.out.alloc _) (eW_one us) n (by simp [HN.out]) (by omega) (by unfold maxLen; omega) (by simp) us rfl ?_; intro ao2 cap2 w2 ow2 cw2 bl2; have HO2 := hid ow2; have HG2 := hid cw2; clear ow2 cw2 bl2))
    go_ret
    exact ⟨_, rfl, HO2.out, ((Ch.refl NoB w).alloc _).trans HG2.out (fun q e => .inr (by have : some w.heap.size = some q := e; injection this with this; omega))⟩
theorem setRow_blk {w : World} {g : Nat} {t : TypeId} {old c : Array Value} (hg : w.heap[g]? = some (.cells old t (0, 0))) : (w.setRow g c).heap[g]? = some (.cells c t (0, 0)) := by
  simp [World.setRow, Array.getElem?_modify, hg]
theorem setRow_ch (w : World) (g : Nat) (c : Array Value) : Ch (Only g) w (w.setRow g c) := by
  refine ⟨rfl, rfl, rfl, by simp [World.setRow], fun k _ hk => ?_⟩
  have : g ≠ k := fun e => hk e.symm
  simp [World.setRow, Array.getElem?_modify, this]
/-- a struct stored whole: what lies there then, and nothing else has turned -/
theorem st_row {ops : Array Oper} {rest : List Oper} {o : Oper} {a : Act} {w : World} {Q : Exit → Act → World → Prop} (hgd : o.guard = none) (ty : TypeId) (x y : Operand) (ho : o.op = .store ty x y)
    (g : Nat) (cells : Array Value) (hx : a.eval x = .pointer (some ⟨g, 0, none⟩)) (hy : a.eval y = .agg cells)
    (t : TypeId) (old : Array Value) (hg : w.heap[g]? = some (.cells old t (0, 0))) (hi : (Try.prog.info? ty).map (·.size) = some cells.size)
    (hold : old.size = cells.size) (h1 : cells.all (·.oneCell') = true)
    (h : ∀ w', w'.heap[g]? = some (.cells cells t (0, 0)) → Ch (Only g) w w' → wpList Try.prog ops Q rest (a.put o.dst undef) w') : wpList Try.prog ops Q (o :: rest) a w :=
  wpList_store_row hgd ty x y ho g cells hx hy t old hg hi hold h1 (h _ (setRow_blk hg) (setRow_ch w g cells))
theorem results_cell_tmp2 {fn : Func} {p t : Tmp} {ty : TypeId} (h : fn.results = #[.cell p ty, .tmp t]) (tmps : Array Value) (w : World) (g : Nat) (cs : Array Value)
    (hp : tmps.getD p undef = .pointer (some ⟨g, 0, none⟩)) (hl : (loadVar ty ⟨g, 0, none⟩).run Try.prog w = .ok (.agg cs) w) :
    (results fn tmps).run Try.prog w = .ok (.tuple #[.agg cs, tmps.getD t undef]) w := by
  have hp' : tmps[p]?.getD undef = .pointer (some ⟨g, 0, none⟩) := by simpa using hp
  simp [results, h, hp', asAddr, hl]
theorem wtr_size : (Try.prog.info? 95).map (·.size) = some 4 := by kernel_rfl
theorem gid_size : (Try.prog.info? 24).map (·.size) = some 2 := by kernel_rfl
theorem mov_size : (Try.prog.info? 43).map (·.size) = some 5 := by kernel_rfl
theorem chn_size : (Try.prog.info? 70).map (·.size) = some 5 := by kernel_rfl
end Go.Proofs.Ytalmiphddgmfbab.Lt
