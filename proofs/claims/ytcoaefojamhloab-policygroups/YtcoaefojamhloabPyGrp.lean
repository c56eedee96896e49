/-
  What Groups answers: the program and the document. Condition: the list is not too long.
-/
import Derived.Test.YtcoaefojamhloabPyAbv
namespace Go.Proofs.Ytcoaefojamhloab.Lt
open Go.RowKit Wd
attribute [local go_sem ↓] Go.wp_at_zero Go.wp_at_succ
set_option maxRecDepth 20000

theorem both_of {r : Rl} {d k : Nat} {b1 b2 : Bool} (h1 : r d k = b1) (h2 : r k d = b2) : both r d k = (b1 && b2) := by unfold both; rw [h1, h2]
set_option maxHeartbeats 4000000 in
theorem group_any (w : World) (p : Nat) (r : Rl) (h : RAt w p r) (d : Nat) (hd : d < 16) (hr : r d d = true) :
    Calls Try.prog 11 #[.pointer (some ⟨p, 0, none⟩), .int .i64 (d : Int)] w fun e w' => e = .returned (.int .i64 (grp r d : Int)) ∧ Gr w w' := by
  have HR := hide h
  have HS := hide (grp_spec hr)
  have HD := hide hr
  have d0 : (0 : Int) ≤ (d : Int) := by omega
  have d1 : (d : Int) < 16 := by omega
  clear h hr
  go_enter Try.func11, Try.ntmps11
  go_wp2_with fail
  go_loopg [5] d (fun z i wr => ∃ (k : Nat), k + z = d ∧ i = .int .i64 (k : Int) ∧ (∀ j, j < k → both r d j = false) ∧ Gr w wr)
  case atStart => exact ⟨0, by omega, rfl, fun j q => by omega, Gr.refl _⟩
  case round =>
    obtain ⟨k, hkz, rfl, hn, hg⟩ := hrel
    have HN := hide hn
    have G := hide hg
    have rr := HR.out.gr hg
    have c0 := rr.cell (i := d) (j := k) hd (by omega)
    have c1 := rr.cell (i := k) (j := d) (by omega) hd
    have pl := rr.lt
    have k0 : (0 : Int) ≤ (k : Int) := by omega
    have k1 : (k : Int) < 16 := by omega
    have hkd : both r d k = true ∨ k < d := by
      rcases Nat.lt_or_ge k d with q | q
      · exact .inr q
      · have : k = d := by omega
        subst this
        exact .inl (by rw [both_of HD.out HD.out]; rfl)
    have HK := hide hkd
    clear hn hg rr hkd
    cases h1 : r d k
    · have HB : Hid (both r d k = false) := hide (by unfold both; rw [h1]; rfl)
      have hlt : k < d := HK.out.resolve_left (by rw [HB.out]; decide)
      rw [h1] at c0
      go_wp2
      go_roundg (d - (k + 1))
      case measure => omega
      case rel =>
        refine ⟨k + 1, by omega, ?_, fun j q => ?_, G.out⟩
        · first | with_reducible rfl | simp
        · by_cases e : j = k
          · rw [e]; exact HB.out
          · exact HN.out j (by omega)
    · cases h2 : r k d
      · have HB : Hid (both r d k = false) := hide (by unfold both; rw [h2]; simp)
        have hlt : k < d := HK.out.resolve_left (by rw [HB.out]; decide)
        rw [h1] at c0
        rw [h2] at c1
        go_wp2
        go_roundg (d - (k + 1))
        case measure => omega
        case rel =>
          refine ⟨k + 1, by omega, ?_, fun j q => ?_, G.out⟩
          · first | with_reducible rfl | simp
          · by_cases e : j = k
            · rw [e]; exact HB.out
            · exact HN.out j (by omega)
      · have HE := hide (show k = grp r d from IsLst.uniq ⟨by rw [both_of h1 h2]; rfl, HN.out⟩ HS.out)
        rw [h1] at c0
        rw [h2] at c1
        go_wp2
        go_ret
        exact ⟨by rw [← HE.out]; rfl, G.out⟩
/-- numbers by a function -/
def gl (n : Nat) (f : Nat → Int) : List Int := (List.range n).map f
theorem gl_len (n : Nat) (f : Nat → Int) : (gl n f).length = n := by simp [gl]
theorem gl_get {n i : Nat} (f : Nat → Int) (h : i < n) : (gl n f)[i]? = some (f i) := by
  unfold gl
  rw [List.getElem?_map, List.getElem?_range h]
  rfl
theorem gl_set {n k : Nat} {f g : Nat → Int} (hk : k < n) (v : Int) (hv : v = g k) (h : ∀ i, i < n → i ≠ k → f i = g i) : (gl n f).set k v = gl n g := by
  refine List.ext_getElem? fun i => ?_
  by_cases hi : i < n
  · rw [gl_get _ hi, List.getElem?_set]
    by_cases e : k = i
    · subst e
      rw [if_pos rfl, if_pos (by rw [gl_len]; exact hk), hv]
    · rw [if_neg e, gl_get _ hi, h i hi (fun q => e q.symm)]
  · rw [List.getElem?_eq_none (by rw [List.length_set, gl_len]; omega), List.getElem?_eq_none (by rw [gl_len]; omega)]
theorem gl_zero {n : Nat} : List.replicate n (0 : Int) = gl n (fun _ => 0) := by
  refine List.ext_getElem? fun i => ?_
  by_cases hi : i < n
  · rw [gl_get _ hi, List.getElem?_replicate, if_pos hi]
  · rw [List.getElem?_eq_none (by simpa using hi), List.getElem?_eq_none (by rw [gl_len]; omega)]
theorem gl_congr {n : Nat} {f g : Nat → Int} (h : ∀ i, i < n → f i = g i) : gl n f = gl n g := by
  refine List.ext_getElem? fun i => ?_
  by_cases hi : i < n
  · rw [gl_get _ hi, gl_get _ hi, h i hi]
  · rw [List.getElem?_eq_none (by rw [gl_len]; omega), List.getElem?_eq_none (by rw [gl_len]; omega)]
theorem gl_succ (n : Nat) (f : Nat → Int) : gl (n + 1) f = gl n f ++ [f n] := by simp [gl, List.range_succ]
theorem flat_eI (n : Nat) (x : Int) : (List.replicate n x).flatMap eI = List.replicate n (.int .i64 x) := by
  induction n with
  | zero => rfl
  | succ n ih => rw [List.replicate_succ, List.flatMap_cons, ih, List.replicate_succ]; rfl
theorem wpList_make_ints {w : World} {ops : Array Oper} {rest : List Oper} {o : Oper} {a : Act} {Q : Exit → Act → World → Prop} (hg : o.guard = none) (l c : Operand) (hop : o.op = Op.makeSlice 25 l c) (n : Nat) (kl kc : IntKind) (hl : a.eval l = .int kl (n : Int)) (hc : a.eval c = .int kc (n : Int)) (hn : n ≤ 4096)
    (hK : ∀ w', Ow eI 1 3 w.heap.size w' (.slice (some ⟨w.heap.size, 0, none⟩) n n) (List.replicate n 0) → Gr w w' → wpList Try.prog ops Q rest (a.put o.dst (.slice (some ⟨w.heap.size, 0, none⟩) n n)) w') : wpList Try.prog ops Q (o :: rest) a w := by
  obtain ⟨i0, hi, hz0, hz1, hz2⟩ := info_parts int_info
  refine wpList_make_full w hg l c 25 hop w.heap.size 3 i0 _ 1 Try.underlying25 hi hz0 hz1 kl kc _ _ n hl hc rfl rfl (by rw [hz2]; omega) (by unfold maxLen; omega) (Nat.le_refl _) ?_
  intro w' r1 r2
  refine hK w' ?_ ((Ch.refl NoB w).grown r2 (fun k hk => by cases hk))
  have h2 := toList_madeCells_one (.int .i64 0) n
  unfold Ow
  rw [flat_eI, List.length_replicate, ← h2]
  rw [Nat.mul_one] at r1
  exact r1
/-- numbers in a block: what is read, that it may be written, what is there then -/
theorem Ow.num {base g n cap : Nat} {w : World} {xs : List Int} (h : Ow eI 1 3 base w (.slice (some ⟨g, 0, none⟩) n cap) xs) {i : Nat} {x : Int} (hx : xs[i]? = some x) :
    w.cell? ⟨g, i, none⟩ = some (.int .i64 x) ∧ w.frozen? ⟨g, i, none⟩ = false ∧ g < w.heap.size ∧ ∀ c, Ow eI 1 3 base (w.setCell ⟨g, i, none⟩ (.int .i64 c)) (.slice (some ⟨g, 0, none⟩) n cap) (xs.set i c) := by
  obtain ⟨g', cap', hv, h1, h2, h3, h4, h5, h6⟩ := h.get eI_len hx
  injection hv with a1 a2 a3
  injection a1 with a1
  injection a1 with a1
  subst a1
  have c0 := h4 0 _ rfl
  rw [Nat.mul_one, Nat.add_zero] at c0
  refine ⟨c0, h5 _, h2, fun c => ?_⟩
  have := h6 0 (.int .i64 c) c (by omega) rfl
  rw [Nat.mul_one, Nat.add_zero] at this
  exact this
theorem wrgP_nil {n : Int} {l : List Eg} : wrgP n l [] = (chkP n l).2 := by
  unfold wrgP
  by_cases h : (chkP n l).2 = 0
  · rw [if_pos h, h]; rfl
  · rw [if_neg h]
/-- what Groups tells -/
def grpI (n : Int) (l : List Eg) : List Int := if wrgP n l [] = 0 then gl n.toNat (fun d => (grp (pthR n.toNat l) d : Int)) else []
theorem grpI_len (n : Int) (l : List Eg) : (grpI n l).length ≤ 16 := by
  unfold grpI
  split
  · rename_i h
    have := (wrgP_ok h).2.1
    rw [gl_len]
    omega
  · simp
def grF (f : Nat → Int) (j : Nat) : Nat → Int := fun i => if i < j then f i else 0
set_option maxHeartbeats 8000000 in
theorem groups_any (w : World) (n : Int) (a : Option Addr) (m c : Nat) (l : List Eg) (h : Le w (.slice a m c) l) (hm : m ≤ 8796093022208) :
    Calls Try.prog 4 #[.int .i64 n, .slice a m c] w fun e w' => NumR w (grpI n l) (wrgP n l []) e w' := by
  have C := hide (wrong_any w n a m c l h hm AnyB none 0 0 [] (Ls.nil _ _ _) (by omega))
  unfold wrgE at C
  by_cases h0 : wrgP n l [] = 0
  · obtain ⟨n1, n2, ok, -⟩ := wrgP_ok h0
    have hI : grpI n l = gl n.toNat (fun d => (grp (pthR n.toNat l) d : Int)) := if_pos h0
    obtain ⟨N, rfl⟩ : ∃ N : Nat, n = (N : Int) := ⟨n.toNat, by omega⟩
    rw [Int.toNat_natCast] at hI
    have CP := hide (fun W (g : Gr w W) => paths_any W N (by omega) a m c l (h.gr g) hm ok)
    have hN : N ≤ 16 := by omega
    have hz := zrel_run
    have HRF := hide (show ∀ d, d < N → pthR N l d d = true from fun d hd => pth_refl hd)
    rw [h0] at C ⊢
    rw [hI]
    generalize pthR N l = r at CP HRF ⊢
    have HLN := hide (gl_len N fun d => (grp r d : Int))
    clear h ok n1 n2 h0 hI
    go_enter Try.func4, Try.ntmps4
    go_wp2_with fail
    refine C.out.mono ?_
    rintro e w1 ⟨rfl, g1⟩
    have G1 := hide g1
    clear g1
    go_wp2_with fail
    refine (CP.out _ G1.out).mono ?_
    rintro e w2 ⟨cs, rfl, ts, g2⟩
    have G2 := hide (Gr.trans G1.out g2)
    have TS := hide ts
    have hcs := ts.1
    have AL := hide (al_at (w := w2) (.cells zrel 39) rfl)
    clear g2 ts
    go_wp2_with (first
      | (refine st_row rfl 39 (.tmp 7) (.tmp 18) rfl w2.heap.size cs rfl rfl _ _ AL.out (by rw [hcs]; exact rel_size) (by rw [hcs]; simp [zrel]) TS.out.one ?_; intro w9 b9 k9; have B9 := hide b9; have K9 := hide k9; clear b9 k9)
      | (at_make; refine wpList_make_ints rfl _ _ rfl N _ _ rfl rfl (by omega) ?_; intro w3 o3 g3; have O3 := hide o3; have G3 := hide g3; clear o3 g3))
    have R9 := hide (show RAt w9 w2.heap.size r from ⟨cs, B9.out, TS.out⟩)
    have G9 := hide (show Gr w w9 from Ch.trans (Ch.alloc G2.out _) K9.out (fun q e => .inr (by have e1 : q = w2.heap.size := e; have := G2.out.size; omega)))
    have SZ := hide G9.out.size
    go_loopg [23] N (fun k i wr => ∃ (j : Nat), j + k = N ∧ i = .int .i64 (j : Int) ∧ Ow eI 1 3 w9.heap.size wr (.slice (some ⟨w9.heap.size, 0, none⟩) N N) (gl N (grF (fun d => (grp r d : Int)) j)) ∧ Gr w9 wr)
    case atStart => exact ⟨0, by omega, rfl, by have := O3.out; rw [gl_zero] at this; exact (gl_congr (f := fun _ => 0) (g := grF (fun d => (grp r d : Int)) 0) (n := N) (fun i _ => rfl)) ▸ this, G3.out⟩
    case round =>
      obtain ⟨j, hjk, rfl, ho, hg⟩ := hrel
      have HO := hide ho
      have G := hide hg
      by_cases hj : j < N
      · have hj' : (j : Int) < (N : Int) := by omega
        have hj0 : (0 : Int) ≤ (j : Int) := by omega
        have hj16 : (j : Int) < 16 := by omega
        have CG := hide (group_any wr w2.heap.size r (R9.out.gr hg) j (by omega) (HRF.out j hj))
        clear ho hg
        go_wp2_with fail
        refine CG.out.mono ?_
        rintro e w4 ⟨rfl, g4⟩
        obtain ⟨c0, cz, cl, cs4⟩ := (HO.out.gr g4).num (gl_get _ hj)
        have CS := hide (cs4 (grp r j : Int))
        generalize grF (fun d => (grp r d : Int)) j j = old at c0
        have G4 := hide (Gr.trans G.out g4)
        have HS := hide (gl_set (f := grF (fun d => (grp r d : Int)) j) (g := grF (fun d => (grp r d : Int)) (j + 1)) hj (grp r j : Int) (by simp [grF]) (fun i hi hne => by
          unfold grF
          by_cases q : i < j
          · rw [if_pos q, if_pos (by omega)]
          · rw [if_neg q, if_neg (by omega)]))
        clear g4 cs4
        go_wp2
        go_roundg (N - (j + 1))
        case measure => omega
        case rel =>
          refine ⟨j + 1, by omega, ?_, by rw [← HS.out]; exact CS.out, Ch.fresh G4.out (Nat.le_refl _) _ _⟩
          first | with_reducible rfl | simp
      · have hj' : ¬ ((j : Int) < (N : Int)) := by omega
        have hje : j = N := by omega
        subst hje
        have HE := hide (gl_congr (f := grF (fun d => (grp r d : Int)) j) (g := fun d => (grp r d : Int)) (n := j) (fun i hi => by unfold grF; rw [if_pos hi]))
        clear ho hg
        go_wp2
        go_ret2
        refine ⟨some ⟨w9.heap.size, 0, none⟩, j, by rw [HLN.out]; rfl, ?_, Gr.trans G9.out G.out⟩
        have := HO.out
        rw [HE.out] at this
        rw [HLN.out]
        exact this.lst.mono (fun _ _ q => by have := SZ.out; omega)
  · have hI : grpI n l = [] := if_neg h0
    rw [hI]
    generalize wrgP n l [] = E at *
    have hne : (E != 0) = true := by simpa using h0
    clear h hI h0
    go_enter Try.func4, Try.ntmps4
    go_wp2_with fail
    refine C.out.mono ?_
    rintro e w1 ⟨rfl, g1⟩
    have G1 := hide g1
    clear g1
    go_wp2
    go_ret2
    exact ⟨none, 0, rfl, Ls.nil _ _ _, G1.out⟩
end Go.Proofs.Ytcoaefojamhloab.Lt
