/-
  What the walk of the document's Print leans on: its text in memory, appends, and how long it can be. No conditions.
-/
import Derived.Test.YtbehlhnnfdkmaaaGreatDoorLtRFit
import Derived.Test.YtbehlhnnfdkmaaaGreatDoorLtRLine
import Derived.Test.YtbehlhnnfdkmaaaGreatDoorLtMt
namespace Go.Proofs.YtbehlhnnfdkmaaaGreatDoor.Lt
open Go.RowKit Wd

/-- the document's text as far as it is, in memory: the program in its variable, the bytes that the call owns -/
structure Ot (w : World) (bx : Obj) (q : World) (v : Value) (T : ByteArray) : Prop where
  g : Gr w q
  b : q.heap[w.heap.size]? = some bx
  o : Ow eB 1 5 (w.heap.size + 1) q v T.data.toList
section
variable {w q q1 q2 : World} {bx : Obj} {v v' : Value} {T T' : ByteArray}
theorem Ot.gr (h : Ot w bx q v T) (k : Gr q q1) : Ot w bx q1 v T := ⟨Gr.trans h.g k, gr_blk h.b k, h.o.gr k⟩
theorem Ot.le (h : Ot w bx q v T) : w.heap.size + 1 ≤ q.heap.size := lt_of_block h.b
theorem Ot.put (h : Ot w bx q v T) (k1 : Gr q q1) (ow : Ow eB 1 5 (w.heap.size + 1) q2 v' T'.data.toList) (cw : Ch (Blk v) q1 q2) : Ot w bx q2 v' T' :=
  ⟨Ch.trans (Gr.trans h.g k1) cw (fun x e => .inr (by have := (h.o.blk e).1; omega)), (cw.block _ (Nat.lt_of_lt_of_le (lt_of_block h.b) k1.size) (fun e => by have := (h.o.blk e).1; omega)).trans (gr_blk h.b k1), ow⟩
theorem Ot.form (h : Ot w bx q v T) : ∃ ao cap, v = .slice ao T.size cap := by
  obtain ⟨ao, cap, e⟩ := h.o.form
  exact ⟨ao, cap, by rw [e]; rfl⟩
end
theorem Ot.new (w : World) {q : World} {c : Array Value} {t : TypeId} (g : Gr w q) (b : q.heap[w.heap.size]? = some (.cells c t (0, 0))) : Ot w (.cells c t (0, 0)) (q.alloc (.cells #[] 5)) (.slice (some ⟨q.heap.size, 0, none⟩) 0 0) { data := #[] } := by
  have hl : w.heap.size + 1 ≤ q.heap.size := lt_of_block b
  refine ⟨Ch.alloc g _, al_blk b _, rfl, .inr ⟨q.heap.size, 0, #[], rfl, hl, (MapKept.heap_alloc q _).1, Nat.le_refl _, by unfold maxLen; omega, rfl, rfl⟩⟩
theorem wpList_append_to {w : World} {ops : Array Oper} {rest : List Oper} {o : Oper} {a : Act} {Q : Exit → Act → World → Prop} (hgd : o.guard = none) (s x : Operand)
    (ho : o.op = .call { callee := .builtin .append, args := #[s, x], argTypes := #[84, 9] })
    (base : Nat) (v : Value) (T : ByteArray) (hs : a.eval s = v) (hown : Ow eB 1 5 base w v T.data.toList) (S : ByteArray) (hx : a.eval x = .string S) (U : ByteArray) (hU : U = T ++ S)
    (hb : U.size ≤ 140737488355328) (hbase : base ≤ w.heap.size)
    (h : ∀ ao cap w', Ow eB 1 5 base w' (.slice ao U.size cap) U.data.toList → Ch (Blk v) w w' → (∀ q, Blk (.slice ao U.size cap) q → Blk v q ∨ w.heap.size ≤ q) → wpList Tryz.prog ops Q rest (a.put o.dst (.slice ao U.size cap)) w') : wpList Tryz.prog ops Q (o :: rest) a w := by
  subst hU
  exact wpList_append_txt hgd s x ho base v T hs hown S hx _ ByteArray.size_append hb hbase h
theorem step_append_to {w : World} {ops : Array Oper} {o : Oper} {a : Act} {Kk : Act → World → Prop} {Q : Exit → Act → World → Prop} {E : Prop} (hgd : o.guard = none) (s x : Operand)
    (ho : o.op = .call { callee := .builtin .append, args := #[s, x], argTypes := #[84, 9] })
    (base : Nat) (v : Value) (T : ByteArray) (hs : a.eval s = v) (hown : Ow eB 1 5 base w v T.data.toList) (S : ByteArray) (hx : a.eval x = .string S) (U : ByteArray) (hU : U = T ++ S)
    (hb : U.size ≤ 140737488355328) (hbase : base ≤ w.heap.size)
    (h : ∀ ao cap w', Ow eB 1 5 base w' (.slice ao U.size cap) U.data.toList → Ch (Blk v) w w' → (∀ q, Blk (.slice ao U.size cap) q → Blk v q ∨ w.heap.size ≤ q) → Kk (a.put o.dst (.slice ao U.size cap)) w') :
    if Region.wanted o (yielded ops a.tmps) = true then Oper.wp Tryz.prog o a w Kk Q else E := by
  subst hU
  exact step_append_txt hgd s x ho base v T hs hown S hx _ ByteArray.size_append hb hbase h
theorem tl_len (T U : ByteArray) (h : U = T ++ nl) : U.size = T.data.toList.length + [(10 : UInt8)].length := by
  rw [h, ByteArray.size_append]
  rfl
theorem wpList_append_nl {W : World} {ops : Array Oper} {rest : List Oper} {o : Oper} {a : Act} {Q : Exit → Act → World → Prop} (hgd : o.guard = none) (s x : Operand)
    (ho : o.op = .call { callee := .builtin .append, args := #[s, x], argTypes := #[84, 84] })
    (base : Nat) (v : Value) (T : ByteArray) (hs : a.eval s = v) (hown : Ow eB 1 5 base W v T.data.toList) (hx : a.eval x = .slice (some ⟨W.heap.size, 0, none⟩) 1 1) (U : ByteArray) (hU : U = T ++ nl)
    (hb : U.size ≤ 140737488355328) (hbase : base ≤ W.heap.size)
    (h : ∀ ao cap w', Ow eB 1 5 base w' (.slice ao U.size cap) U.data.toList → Ch (Blk v) (W.alloc (.cells #[.int .u8 10] 5)) w' → wpList Tryz.prog ops Q rest (a.put o.dst (.slice ao U.size cap)) w') : wpList Tryz.prog ops Q (o :: rest) a (W.alloc (.cells #[.int .u8 10] 5)) := by
  refine wpList_append_ow eB_len hgd s x _ 5 1 _ Tryz.underlying84 u8_info rfl (by omega) ho base v T.data.toList hs (hown.alloc _) (fun g => g = W.heap.size) _ [(10 : UInt8)] hx (Ls.single (enc := eB) W (10 : UInt8) 5 #[.int .u8 10] rfl) (by intro u hu; simp [eB] at hu; rw [hu]; rfl) U.size (tl_len T U hU) (by omega) (by unfold maxLen; omega) (by simp; omega) U.data.toList (by rw [hU]; exact (txt_nl _).symm) ?_
  intro ao cap w' h1 h2 _
  exact h ao cap w' h1 h2
theorem strN (T : ByteArray) : strOfNums (T.data.toList.map (fun b => (b.toNat : Int))) = T := by
  unfold strOfNums
  apply ByteArray.ext
  apply Array.ext'
  simp only [List.map_map]
  exact (List.map_congr_left (fun b _ => by simp)).trans (List.map_id _)
theorem conv_ow {base : Nat} {W : World} {ao : Option Addr} {cap : Nat} {T : ByteArray} (h : Ow eB 1 5 base W (.slice ao T.size cap) T.data.toList) : (convert 84 9 (.slice ao T.size cap)).run Tryz.prog W = .ok (.string T) W := by
  cases ao with
  | none =>
    have h0 : T.data.toList = [] := by
      have h1 := h.2
      rcases h1 with ⟨_, h1⟩ | ⟨g, c, cur, h1, _⟩
      · exact List.eq_nil_of_length_eq_zero h1
      · cases h1
    have e : T = { data := #[] } := by
      apply ByteArray.ext
      apply Array.ext'
      simpa using h0
    rw [e]
    exact run_convert_bytes_nil (P := Tryz.prog) W 84 5 Tryz.underlying84 Tryz.underlying5 _ _ 9 Tryz.underlying9
  | some ad =>
    obtain ⟨b, off, ep⟩ := ad
    have hc := h.lst.news
    have hsp : ep = none := by
      rcases h.2 with ⟨h1, _⟩ | ⟨g, c, cur, h1, _⟩
      · cases h1
      · injection h1 with h1
        injection h1 with h1
        injection h1
    subst hsp
    have := run_convert_bytes_arg (P := Tryz.prog) W 84 5 Tryz.underlying84 Tryz.underlying5 b off T.size cap (T.data.toList.map (fun b => (b.toNat : Int))) (by simp) (fun i hi => by
      have hi' : i < T.data.toList.length := by simpa using hi
      have h2 := hc i (.int .u8 (T.data.toList[i].toNat : Int)) (by
        have e2 : T.data.toList.flatMap eB = T.data.toList.map (fun b => Value.int .u8 (b.toNat : Int)) := by
          generalize T.data.toList = l
          induction l with
          | nil => rfl
          | cons x r ih => rw [List.flatMap_cons, ih]; rfl
        rw [e2, List.getElem?_map, List.getElem?_eq_getElem hi']
        rfl)
      rw [add_none] at h2
      have hi2 : i < T.data.size := by simpa using hi'
      simpa [Array.getElem?_eq_getElem hi2] using h2) 9 Tryz.underlying9
    rw [this, strN]
theorem tbt (S : ByteArray) : ({ data := #[116, 97, 98, 108, 101, 32, 116] } : ByteArray) ++ S = { data := #[116, 97, 98, 108, 101, 32] } ++ ({ data := #[116] } ++ S) := by rw [← ba_assoc]; rfl
theorem fnf (S : ByteArray) : ({ data := #[102, 117, 110, 99, 32, 102] } : ByteArray) ++ S = { data := #[102, 117, 110, 99, 32] } ++ ({ data := #[102] } ++ S) := by rw [← ba_assoc]; rfl
theorem cal3 (n : Int) : cal 3 n = { data := #[116] } ++ itB n := rfl
theorem cal2 (n : Int) : cal 2 n = { data := #[102] } ++ itB n := rfl
theorem cal1 (n : Int) : cal 1 n = { data := #[76] } ++ itB n := rfl
theorem cs_send (a b d : Int) : (((({ data := #[115, 101, 110, 100, 32, 114] } ++ itB a) ++ { data := #[32, 114] }) ++ itB b) ++ { data := #[10] } : ByteArray) = csT ⟨true, a, b, d⟩ ++ nl := by
  have e : csT ⟨true, a, b, d⟩ = (({ data := #[115, 101, 110, 100] } ++ ({ data := #[32, 114] } ++ itB a)) ++ ({ data := #[32, 114] } ++ itB b) : ByteArray) := rfl
  have e1 : ({ data := #[115, 101, 110, 100, 32, 114] } : ByteArray) = { data := #[115, 101, 110, 100] } ++ { data := #[32, 114] } := rfl
  rw [e, e1]
  simp only [ba_assoc]
  rfl
theorem cs_recv (a b d : Int) : (((((({ data := #[114, 101, 99, 118, 32, 114] } ++ itB a) ++ { data := #[32, 114] }) ++ itB b) ++ { data := #[32, 114] }) ++ itB d) ++ { data := #[10] } : ByteArray) = csT ⟨false, a, b, d⟩ ++ nl := by
  have e : csT ⟨false, a, b, d⟩ = ((({ data := #[114, 101, 99, 118] } ++ ({ data := #[32, 114] } ++ itB a)) ++ ({ data := #[32, 114] } ++ itB b)) ++ ({ data := #[32, 114] } ++ itB d) : ByteArray) := rfl
  have e1 : ({ data := #[114, 101, 99, 118, 32, 114] } : ByteArray) = { data := #[114, 101, 99, 118] } ++ { data := #[32, 114] } := rfl
  rw [e, e1]
  simp only [ba_assoc]
  rfl
theorem jl_size : ∀ (ls : List ByteArray) (T : ByteArray), (∀ s ∈ ls, s.size ≤ 127) → (jl T ls).size ≤ T.size + 128 * ls.length := by
  intro ls
  induction ls with
  | nil => intro T _; exact Nat.le_refl _
  | cons s r ih =>
    intro T h
    have h1 := ih ((T ++ s) ++ nl) (fun x hx => h x (List.mem_cons_of_mem _ hx))
    have h2 := h s (List.mem_cons_self)
    rw [ByteArray.size_append, ByteArray.size_append] at h1
    have h3 : nl.size = 1 := rfl
    show (jl ((T ++ s) ++ nl) r).size ≤ T.size + 128 * (r.length + 1)
    omega
theorem ixl_app {α β : Type} (g : Nat → α → List β) : ∀ (a : List α) (n : Nat) (b : List α), ixl g n (a ++ b) = ixl g n a ++ ixl g (n + a.length) b := by
  intro a
  induction a with
  | nil => intro n b; rfl
  | cons x r ih =>
    intro n b
    show g n x ++ ixl g (n + 1) (r ++ b) = (g n x ++ ixl g (n + 1) r) ++ ixl g (n + (r.length + 1)) b
    rw [ih, List.append_assoc, show n + 1 + r.length = n + (r.length + 1) by omega]
theorem ixl_pre {α β : Type} (g : Nat → α → List β) (xs : List α) (j : Nat) : (ixl g 0 (xs.take j)).length ≤ (ixl g 0 xs).length := by
  have e : ixl g 0 xs = ixl g 0 (xs.take j ++ xs.drop j) := by rw [List.take_append_drop]
  rw [e, ixl_app, List.length_append]
  omega
theorem ixl_mem {α β : Type} (g : Nat → α → List β) : ∀ (xs : List α) (n : Nat) (b : β), b ∈ ixl g n xs → ∃ m a, a ∈ xs ∧ m < n + xs.length ∧ b ∈ g m a := by
  intro xs
  induction xs with
  | nil => intro n b h; cases h
  | cons x r ih =>
    intro n b h
    rcases List.mem_append.1 h with h | h
    · exact ⟨n, x, List.mem_cons_self, by simp, h⟩
    · obtain ⟨m, a, h1, h2, h3⟩ := ih (n + 1) b h
      exact ⟨m, a, List.mem_cons_of_mem _ h1, by simp; omega, h3⟩
theorem hdT_size (n : Nat) (hn : n ≤ 4398046511104) (d : Bool) : (hdT n d).size ≤ 36 := by
  have h := cal_size 3 (n : Nat) (by omega) (by omega)
  have e1 : ({ data := #[116, 97, 98, 108, 101, 32] } : ByteArray).size = 6 := rfl
  have e2 : ({ data := #[32, 100, 101, 102, 97, 117, 108, 116] } : ByteArray).size = 8 := rfl
  unfold hdT
  split
  · rw [ByteArray.size_append, ByteArray.size_append]; omega
  · rw [ByteArray.size_append]; omega
theorem tb_size {ts : List Tb} (hl : ts.length ≤ 4398046511104) (hc : cfs ts = true) : ∀ s ∈ ixl tbL 0 (ts.map tT), s.size ≤ 127 := by
  intro s hs
  obtain ⟨m, a, h1, h2, h3⟩ := ixl_mem tbL _ 0 s hs
  obtain ⟨t, ht, rfl⟩ := List.mem_map.1 h1
  rw [List.length_map] at h2
  rcases List.mem_cons.1 h3 with rfl | h3
  · have := hdT_size m (by omega) (tT t).2
    omega
  · obtain ⟨c, hc1, rfl⟩ := List.mem_map.1 h3
    have := csT_size (List.all_eq_true.1 (List.all_eq_true.1 hc t ht) c hc1)
    omega
/-- how long the tables' text is, as far as it is -/
theorem tb_le {ts : List Tb} (hl : ts.length ≤ 4398046511104) (hc : cfs ts = true) (hn : (ixl tbL 0 (ts.map tT)).length ≤ 262144) (ls ms : List ByteArray) (e : ls ++ ms = ixl tbL 0 (ts.map tT)) : (jl { data := #[] } ls).size ≤ 33554432 := by
  have h1 := jl_size ls { data := #[] } (fun s hs => tb_size hl hc s (by rw [← e]; exact List.mem_append_left _ hs))
  have h2 : ls.length ≤ 262144 := by rw [← e, List.length_append] at hn; omega
  have h3 : ({ data := #[] } : ByteArray).size = 0 := rfl
  omega
/-- a function's lines, some left out once the text is too long -/
def dG (cs : List Int) (n : Nat) (f : Int × Int) : List (Bool × List ByteArray) := [(false, [{ data := #[102, 117, 110, 99, 32] } ++ cal 2 (n : Nat)])] ++ (List.range' f.1.toNat (f.2 - f.1).toNat).map (fun a => (true, lbL cs a))
theorem dG_flat (cs : List Int) : ∀ (fs : List (Int × Int)) (n : Nat), (ixl (dG cs) n fs).flatMap (·.2) = ixl (fnL cs) n fs := by
  intro fs
  induction fs with
  | nil => intro n; rfl
  | cons f r ih =>
    intro n
    show (dG cs n f ++ ixl (dG cs) (n + 1) r).flatMap (·.2) = fnL cs n f ++ ixl (fnL cs) (n + 1) r
    rw [List.flatMap_append, ih]
    congr 1
    unfold dG fnL
    rw [List.flatMap_append, List.flatMap_map]
    rfl
theorem doc_full (cs : List Int) (fs : List (Int × Int)) (tb : List (List Cs × Bool)) : ((full cs fs tb).size ≤ 262144 → gls (jl { data := #[] } (ixl tbL 0 tb)) (ixl (dG cs) 0 fs) = full cs fs tb) ∧ (262144 < (full cs fs tb).size → 262144 < (gls (jl { data := #[] } (ixl tbL 0 tb)) (ixl (dG cs) 0 fs)).size) := by
  have := gls_jl (ixl (dG cs) 0 fs) (jl { data := #[] } (ixl tbL 0 tb))
  rw [dG_flat, ← jl_app] at this
  exact this
/-- a program's text, if it has one -/
def prE (cs : List Int) (fs : List (Int × Int)) (ts : List Tb) : Int := if chk cs fs ts = 0 then (if 262144 < (full cs fs (ts.map tT)).size then 75 else 0) else chk cs fs ts
def prT (cs : List Int) (fs : List (Int × Int)) (ts : List Tb) : ByteArray := if chk cs fs ts = 0 then (if 262144 < (full cs fs (ts.map tT)).size then { data := #[] } else full cs fs (ts.map tT)) else { data := #[] }
theorem wds {cs : List Int} {x a : Nat} (h : x ≤ a) : (List.range' x (a + 1 - x)).map (fun a => (true, lbL cs a)) = (List.range' x (a - x)).map (fun a => (true, lbL cs a)) ++ [(true, lbL cs a)] := by
  rw [show a + 1 - x = (a - x) + 1 by omega, List.range'_1_concat, List.map_append, List.map_singleton, show x + (a - x) = a by omega]

end Go.Proofs.YtbehlhnnfdkmaaaGreatDoor.Lt
