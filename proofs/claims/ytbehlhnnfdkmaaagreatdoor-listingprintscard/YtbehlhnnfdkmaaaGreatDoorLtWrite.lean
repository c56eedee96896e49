/-
  The writer of a text in memory: what its long and line answer and leave. Conditions: no longer than a text may become.
-/
import Derived.Test.YtbehlhnnfdkmaaaGreatDoorLtTarget
import Derived.Lib.AppendStr
namespace Go.Proofs.YtbehlhnnfdkmaaaGreatDoor.Lt
open Go.RowKit Wd

def eB (b : UInt8) : List Value := [.int .u8 b.toNat]
theorem eB_len (b : UInt8) : (eB b).length = 1 := rfl
theorem u8_info : (Tryz.prog.info? 5).map (fun i => (i.zero, i.size, i.bytes)) = some (some (.int .u8 0), 1, 1) := by kernel_rfl
theorem eB_cells (s : ByteArray) : s.data.toList.flatMap eB = Lib.strCells s := by
  unfold Lib.strCells
  generalize s.data.toList = l
  induction l with
  | nil => rfl
  | cons b r ih => rw [List.flatMap_cons, ih]; rfl
/-- a writer in memory: where it lies, its bytes, its text -/
structure Wr (base X : Nat) (w : World) (v : Value) (T : ByteArray) : Prop where
  blk : w.heap[X]? = some (.cells #[v] 86 (0, 0))
  own : Ow eB 1 5 base w v T.data.toList
  lt : X < base
  le : base ≤ w.heap.size
theorem Wr.gr {base X : Nat} {w w' : World} {v : Value} {T : ByteArray} (h : Wr base X w v T) (k : Gr w w') : Wr base X w' v T := ⟨gr_blk h.blk k, h.own.gr k, h.lt, Nat.le_trans h.le k.size⟩
theorem Wr.form {base X : Nat} {w : World} {v : Value} {T : ByteArray} (h : Wr base X w v T) : ∃ ao cap, v = .slice ao T.size cap := by
  obtain ⟨ao, cap, e⟩ := h.own.form
  exact ⟨ao, cap, by rw [e]; rfl⟩
theorem Wr.new {base X : Nat} {w w1 w2 : World} {v v' : Value} {T T' : ByteArray} (h : Wr base X w v T) (k1 : Gr w w1) (ho : Ow eB 1 5 base w2 v' T'.data.toList) (k : Ch (Blk v) w1 w2) : Wr base X (w2.setCell ⟨X, 0, none⟩ v') v' T' := by
  have nX : ¬ Blk v X := fun e => by have := (h.own.blk e).1; have := h.lt; omega
  have C := (Ch.refl (Only X) w2).own 0 v'
  have bX : w2.heap[X]? = some (.cells #[v] 86 (0, 0)) := (k.block X (Nat.lt_of_lt_of_le (lt_of_block h.blk) k1.size) nX).trans (gr_blk h.blk k1)
  exact ⟨by simpa using setCell_block bX 0 v', ho.ch C (fun g hg e => by have := (ho.blk hg).1; have e1 : g = X := e; have := h.lt; omega), h.lt, Nat.le_trans h.le (Nat.le_trans k1.size (Nat.le_trans k.size C.size))⟩
/-- where bytes lie behind a text's appending -/
theorem str_at {w w' : World} {base t u ty e : Nat} {i : TypeInfo} (ht : Tryz.prog.underlying t = some (.slice e)) (hu : Tryz.prog.underlying u = some .string) (hi : Tryz.prog.info? e = some i) (hz : i.zero = some (.int .u8 0)) (hsize : i.size = 1) (hby : i.bytes = 1)
    {v v' : Value} {n : Nat} {xs : List Value} (hown : w.ownsRow base e 1 v n xs) {s : ByteArray} (hbytes : n + s.size ≤ 140737488355328)
    (hr : (Builtin.append_ #[t, u] ty #[v, .string s]).run Tryz.prog w = .ok v' w') : ∀ q, Blk v' q → Blk v q ∨ w.heap.size ≤ q := by
  have hxl : xs.length = n := by simpa using hown.1
  rcases hown.2 with ⟨rfl, rfl⟩ | ⟨g, cap, cur, rfl, hbg, hg, hnc, hcm, hcs, htake⟩
  · by_cases hm : s.size = 0
    · have hf := Lib.run_firstCells_string (P := Tryz.prog) w 1 s
      rw [hm] at hf
      simp [Builtin.append_, run_underlying ht, run_underlying hu, sizeOf, typeInfo, hi, hsize, Builtin.lenOf, hm, hf] at hr
      obtain ⟨rfl, _⟩ := hr
      intro q hq
      cases hq
    · have hr2 := run_append_nil_string (P := Tryz.prog) w t u ty e i (.int .u8 0) ht hu hi hz s (by omega) (by omega) (by rw [hby]; omega)
      rw [hr2] at hr
      injection hr with h1 h2
      subst h1
      intro q hq
      right
      injection hq with hq
      exact Nat.le_of_eq hq
  · by_cases hroom : n + s.size ≤ cap
    · have hcs' : cur.size = cap := by simpa using hcs
      have hr2 := Lib.run_append_room_string (P := Tryz.prog) w t u ty e i ht hu hi hsize g n cap cur hg s hroom (by omega)
      rw [hr2] at hr
      injection hr with h1 h2
      subst h1
      intro q hq
      exact .inl hq
    · have holds : ∀ j u, xs[j]? = some u → w.cell? ((⟨g, 0, none⟩ : Addr).add j) = some u := hown.cells (g := g) rfl
      have hr2 := Lib.run_append_grow_string (P := Tryz.prog) w t u ty e i (.int .u8 0) ht hu hi hz ⟨g, 0, none⟩ n cap xs (by rw [hsize]; simpa using hxl) holds s (by omega) (by omega) (by rw [hby]; exact growslice_fits (by omega) (by omega))
      rw [hr2] at hr
      injection hr with h1 h2
      subst h1
      intro q hq
      right
      injection hq with hq
      exact Nat.le_of_eq hq
/-- a text is appended to bytes that the call owns -/
theorem wp_append_txt {w : World} {o : Oper} {a : Act} {Kk : Act → World → Prop} {Q : Exit → Act → World → Prop} (s x : Operand)
    (ho : o.op = .call { callee := .builtin .append, args := #[s, x], argTypes := #[84, 9] })
    (base : Nat) (v : Value) (T : ByteArray) (hs : a.eval s = v) (hown : Ow eB 1 5 base w v T.data.toList) (S : ByteArray) (hx : a.eval x = .string S)
    (k : Nat) (hk : k = T.size + S.size) (hb : k ≤ 140737488355328) (hbase : base ≤ w.heap.size)
    (h : ∀ ao cap w', Ow eB 1 5 base w' (.slice ao k cap) (T ++ S).data.toList → Ch (Blk v) w w' → (∀ q, Blk (.slice ao k cap) q → Blk v q ∨ w.heap.size ≤ q) → Kk (a.put o.dst (.slice ao k cap)) w') : Oper.wp Tryz.prog o a w Kk Q := by
  subst hk
  obtain ⟨i0, hi, hz0, hz1, hz2⟩ := info_parts u8_info
  have hown' : w.ownsRow base 5 1 v T.size (Lib.strCells T) := by
    have := hown
    unfold Ow at this
    rw [eB_cells] at this
    exact this
  obtain ⟨v', w', hr, h2, h3, _⟩ := Lib.run_append_own_string (P := Tryz.prog) w base 84 9 o.type _ i0 Tryz.underlying84 Tryz.underlying9 hi hz0 hz1 hz2 v T.size _ hown' S (by unfold maxLen; omega) hb hbase
  have hat := str_at Tryz.underlying84 Tryz.underlying9 hi hz0 hz1 hz2 hown' hb hr
  unfold Oper.wp execOp
  simp only [ho, resolve, invoke, builtin, Sem.run_bind, Sem.run_pure, Result.andThen_ok, List.map_toArray, List.map_cons, List.map_nil, hs, hx, hr]
  obtain ⟨ao', cap', rfl⟩ := own_form h2
  refine h ao' cap' w' ?_ ((Ch.refl _ _).grown h3 (fun k hk => .inl hk)) hat
  unfold Ow
  rw [eB_cells]
  have e1 : (T ++ S).data.toList.length = T.size + S.size := by
    have : (T ++ S).size = T.size + S.size := ByteArray.size_append
    exact this
  have e2 : Lib.strCells (T ++ S) = Lib.strCells T ++ Lib.strCells S := by
    unfold Lib.strCells
    simp
  rw [e1, e2]
  exact h2
/-- the same, at a step of a region that draws -/
theorem step_append_txt {w : World} {ops : Array Oper} {o : Oper} {a : Act} {Kk : Act → World → Prop} {Q : Exit → Act → World → Prop} {E : Prop} (hgd : o.guard = none) (s x : Operand)
    (ho : o.op = .call { callee := .builtin .append, args := #[s, x], argTypes := #[84, 9] })
    (base : Nat) (v : Value) (T : ByteArray) (hs : a.eval s = v) (hown : Ow eB 1 5 base w v T.data.toList) (S : ByteArray) (hx : a.eval x = .string S)
    (k : Nat) (hk : k = T.size + S.size) (hb : k ≤ 140737488355328) (hbase : base ≤ w.heap.size)
    (h : ∀ ao cap w', Ow eB 1 5 base w' (.slice ao k cap) (T ++ S).data.toList → Ch (Blk v) w w' → (∀ q, Blk (.slice ao k cap) q → Blk v q ∨ w.heap.size ≤ q) → Kk (a.put o.dst (.slice ao k cap)) w') :
    if Region.wanted o (yielded ops a.tmps) = true then Oper.wp Tryz.prog o a w Kk Q else E := by
  have hw : Region.wanted o (yielded ops a.tmps) = true := by simp [Region.wanted, hgd]
  rw [if_pos hw]
  exact wp_append_txt s x ho base v T hs hown S hx k hk hb hbase h
/-- the same, in order -/
theorem wpList_append_txt {w : World} {ops : Array Oper} {rest : List Oper} {o : Oper} {a : Act} {Q : Exit → Act → World → Prop} (hgd : o.guard = none) (s x : Operand)
    (ho : o.op = .call { callee := .builtin .append, args := #[s, x], argTypes := #[84, 9] })
    (base : Nat) (v : Value) (T : ByteArray) (hs : a.eval s = v) (hown : Ow eB 1 5 base w v T.data.toList) (S : ByteArray) (hx : a.eval x = .string S)
    (k : Nat) (hk : k = T.size + S.size) (hb : k ≤ 140737488355328) (hbase : base ≤ w.heap.size)
    (h : ∀ ao cap w', Ow eB 1 5 base w' (.slice ao k cap) (T ++ S).data.toList → Ch (Blk v) w w' → (∀ q, Blk (.slice ao k cap) q → Blk v q ∨ w.heap.size ≤ q) → wpList Tryz.prog ops Q rest (a.put o.dst (.slice ao k cap)) w') : wpList Tryz.prog ops Q (o :: rest) a w :=
  wpList_plain hgd fun _ hK => wp_append_txt s x ho base v T hs hown S hx k hk hb hbase (fun ao cap w' h1 h2 h3 => hK _ _ (h ao cap w' h1 h2 h3))
theorem long_any (base X : Nat) (w : World) (v : Value) (T : ByteArray) (h : Wr base X w v T) : Calls Tryz.prog 41 #[.pointer (some ⟨X, 0, none⟩)] w fun e w' => e = .returned (.bool (decide (262144 < T.size))) ∧ w' = w := by
  obtain ⟨ao, cap, rfl⟩ := h.form
  have c0 : w.cell? ⟨X, 0, none⟩ = some (.slice ao T.size cap) := (cell_of h.blk 0).trans rfl
  generalize T.size = n at c0 ⊢
  clear h
  by_cases hn : 262144 < n
  · have h1 : (262144 : Int) < (n : Int) := by omega
    rw [decide_eq_true hn]
    go_enter Tryz.func41, Tryz.ntmps41
    go_wp2
    go_ret
    exact ⟨rfl, rfl⟩
  · have h1 : ¬ (262144 : Int) < (n : Int) := by omega
    rw [decide_eq_false hn]
    go_enter Tryz.func41, Tryz.ntmps41
    go_wp2
    go_ret
    exact ⟨rfl, rfl⟩
/-- a line more, unless the text is too long already -/
def wl (T s : ByteArray) : ByteArray := if 262144 < T.size then T else (T ++ s) ++ { data := #[10] }
/-- what a writer may write -/
def SW (base X : Nat) : Nat → Prop := fun q => q = X ∨ base ≤ q
/-- what one line writes -/
def XV (X : Nat) (v : Value) : Nat → Prop := fun q => q = X ∨ Blk v q
/-- what a line leaves -/
structure Lnd (base X : Nat) (w : World) (v : Value) (w' : World) (v' : Value) (T : ByteArray) : Prop where
  wr : Wr base X w' v' T
  ch : Ch (XV X v) w w'
  nx : ∀ q, Blk v' q → Blk v q ∨ w.heap.size ≤ q
/-- a block that lines leave alone -/
structure Kp (X : Nat) (v : Value) (w : World) (b : Nat) (o : Obj) : Prop where
  blk : w.heap[b]? = some o
  ne : b ≠ X
  nb : ¬ Blk v b
theorem Kp.gr {X b : Nat} {v : Value} {w w' : World} {o : Obj} (h : Kp X v w b o) (k : Gr w w') : Kp X v w' b o := ⟨gr_blk h.blk k, h.ne, h.nb⟩
theorem Kp.ln {base X b : Nat} {v v' : Value} {w w' : World} {o : Obj} {T : ByteArray} (h : Kp X v w b o) (k : Lnd base X w v w' v' T) : Kp X v' w' b o :=
  ⟨(k.ch.block b (lt_of_block h.blk) (fun e => e.elim h.ne h.nb)).trans h.blk, h.ne, fun e => (k.nx b e).elim h.nb (fun q => by have := lt_of_block h.blk; omega)⟩
theorem Kp.new {base X : Nat} {v : Value} {w : World} {T : ByteArray} (h : Wr base X w v T) (c : Array Value) (t : TypeId) : Kp X v (w.alloc (.cells c t)) w.heap.size (.cells c t (0, 0)) :=
  ⟨(MapKept.heap_alloc w _).1, fun e => by have := lt_of_block h.blk; omega, fun e => by have := (h.own.blk e).2; omega⟩
theorem Lnd.sw {base X : Nat} {v v' : Value} {w w' : World} {T T' : ByteArray} (k : Lnd base X w v w' v' T') (h : Wr base X w v T) : Ch (SW base X) w w' := k.ch.mono (fun _ e => .inl (e.elim .inl (fun e => .inr (h.own.blk e).1)))
theorem txt_len (T s : ByteArray) : (T ++ s).data.toList.length = T.size + s.size := ByteArray.size_append
theorem txt_nl (T : ByteArray) : (T ++ { data := #[10] } : ByteArray).data.toList = T.data.toList ++ [10] := by simp
set_option maxHeartbeats 1000000 in
set_option maxRecDepth 20000 in
theorem wline_any (base X : Nat) (w : World) (v : Value) (T s : ByteArray) (h : Wr base X w v T) (hs : s.size ≤ 4294967296) :
    Calls Tryz.prog 84 #[.pointer (some ⟨X, 0, none⟩), .string s] w fun e w' => e = .returned (.tuple #[]) ∧ ∃ v', Lnd base X w v w' v' (wl T s) := by
  have HW := hid h
  have HL := hid (long_any base X w v T h)
  obtain ⟨ao, cap, rfl⟩ := h.form
  have lX := lt_of_block h.blk
  have c0 : w.cell? ⟨X, 0, none⟩ = some (.slice ao T.size cap) := (cell_of h.blk 0).trans rfl
  have z0 := frozen_of h.blk 0
  by_cases hn : 262144 < T.size
  · have e1 : wl T s = T := by unfold wl; rw [if_pos hn]
    rw [e1]
    rw [decide_eq_true hn] at HL
    clear h
    go_enter Tryz.func84, Tryz.ntmps84
    go_wp2_with (go_at_call 41; refine HL.out.mono ?_; rintro e w4 ⟨rfl, hw⟩; have hw := hw.symm; subst hw)
    go_end0
    exact ⟨rfl, _, HW.out, Ch.refl _ _, fun q e => .inl e⟩
  · have e1 : wl T s = (T ++ s) ++ { data := #[10] } := by unfold wl; rw [if_neg hn]
    rw [e1]
    rw [decide_eq_false hn] at HL
    clear h
    go_enter Tryz.func84, Tryz.ntmps84
    go_wp2_with (first | (go_at_call 41; refine HL.out.mono ?_; rintro e w4 ⟨rfl, hw⟩; have hw := hw.symm; subst hw) | (at_builtin; refine wpList_append_txt rfl (.tmp 11) (.tmp 12) rfl base _ T rfl HW.out.own s rfl (T.size + s.size) rfl (by omega) HW.out.le ?_; intro ao2 cap2 w2 ow2 cw2 bl2; have W2 := hid (HW.out.new (Gr.refl w) ow2 cw2); have HO2 := hid ow2; have HC2 := hid cw2; have HB2 := hid bl2; have nX : ¬ Blk (.slice ao T.size cap) X := fun e => by { have := (HW.out.own.blk e).1; have := HW.out.lt; omega }; have b2 := (cw2.block X lX nX).trans HW.out.blk; have d0 : w2.cell? ⟨X, 0, none⟩ = some (.slice ao T.size cap) := (cell_of b2 0).trans rfl; have y0 := frozen_of b2 0; have l2 := lt_of_block b2; clear ow2 cw2 bl2 b2 nX) | (at_builtin; refine wpList_append_ow eB_len rfl (.tmp 20) (.tmp 21) _ 5 1 _ Tryz.underlying84 u8_info rfl (by omega) rfl base _ (T ++ s).data.toList rfl (W2.out.own.alloc _) (fun g => g = w2.heap.size) (.slice (some ⟨w2.heap.size, 0, none⟩) 1 1) [(10 : UInt8)] rfl (by have q := Ls.single (enc := eB) (w2.setCell ⟨X, 0, none⟩ (.slice ao2 (T.size + s.size) cap2)) (10 : UInt8) 5 #[.int .u8 10] rfl; simpa using q) (by intro u hu; simp [eB] at hu; rw [hu]; rfl) (T.size + s.size + 1) (by rw [txt_len]; rfl) (by omega) (by unfold maxLen; omega) (by have := W2.out.le; simp at this ⊢; omega) ((T ++ s) ++ { data := #[10] } : ByteArray).data.toList (txt_nl _).symm ?_; intro ao3 cap3 w3 ow3 cw3 bl3; have W3 := hid (W2.out.new (Ch.alloc (Gr.refl _) _) ow3 cw3); have HC3 := hid cw3; have HB3 := hid bl3; have nX : ¬ Blk (.slice ao2 (T.size + s.size) cap2) X := fun e => by { have := (W2.out.own.blk e).1; have := W2.out.lt; omega }; have b3 := (cw3.block X (by have := lt_of_block W2.out.blk; simp at this ⊢; omega) nX).trans (al_blk W2.out.blk _); have x0 : w3.cell? ⟨X, 0, none⟩ = some (.slice ao2 (T.size + s.size) cap2) := (cell_of b3 0).trans rfl; have y3 := frozen_of b3 0; have l3 := lt_of_block b3; clear ow3 cw3 bl3 b3 nX))
    go_end0
    have s2 := HC2.out.size
    refine ⟨rfl, _, W3.out, ?_, ?_⟩
    · have k2 : Ch (XV X (.slice ao T.size cap)) w (w2.setCell ⟨X, 0, none⟩ (.slice ao2 (T.size + s.size) cap2)) := (Ch.trans (Ch.refl _ _) HC2.out (fun q e => .inl (.inr e))).setCell (p := ⟨X, 0, none⟩) (.inl (.inl rfl)) _
      exact (Ch.trans (Ch.alloc k2 _) HC3.out (fun q e => (HB2.out q e).elim (fun e => .inl (.inr e)) .inr)).setCell (p := ⟨X, 0, none⟩) (.inl (.inl rfl)) _
    · intro q e
      rcases HB3.out q e with e | e
      · exact HB2.out q e
      · right
        simp at e
        omega
end Go.Proofs.YtbehlhnnfdkmaaaGreatDoor.Lt
