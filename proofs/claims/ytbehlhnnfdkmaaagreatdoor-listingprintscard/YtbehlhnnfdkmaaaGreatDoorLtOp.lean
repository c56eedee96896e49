/-
  What the program's readOp answers and leaves. Conditions: words are no longer than a text may be and lie apart from the reader; as many lines as a text may have; the line is an operation's.
-/
import Derived.Test.YtbehlhnnfdkmaaaGreatDoorLtMr
import Derived.Deep.DeepCutAuto
namespace Go.Proofs.YtbehlhnnfdkmaaaGreatDoor.Lt
open Go.RowKit Wd

theorem fields_any (P : Nat → Prop) (v : Value) (ws : List ByteArray) (k : Nat) (h1 : 1 ≤ k) (h2 : k < 59) (w : World) (hl : Ls eS P w v ws) (hz : Sml ws) (hg : Glb w) :
    Calls Tryz.prog 96 #[.int .i64 (k : Nat), v] w fun e w' => e = .returned (.tuple #[iV (fI k ws), .string (fA k ws), .int .i64 (fE k ws)]) ∧ Gr w w' := by
  by_cases h : ws.length = fR (sh k) + fN (sh k)
  · exact fields_eq P v ws k h1 h2 h w hl hz hg.n hg.f
  · exact fields_len v ws P k h1 h2 h w hl hg.n
theorem Ls.tail {α : Type} {enc : α → List Value} {K : Nat} (hK : ∀ x, (enc x).length = K) {P : Nat → Prop} {w : World} {g o n cap : Nat} {x : α} {xs : List α} (h : Ls enc P w (.slice (some ⟨g, o, none⟩) n cap) (x :: xs)) : Ls enc P w (.slice (some ⟨g, o + K, none⟩) (n - 1) (cap - 1)) xs := by
  obtain ⟨ao, cap', e, hc, hcase⟩ := h
  injection e with e1 e2 e3
  subst e1 e3
  have hn : n - 1 = xs.length := by rw [e2]; simp
  simp only [List.length_cons] at hc
  refine ⟨_, _, by rw [hn], ⟨by omega, fun h => by cases h⟩, .inr ?_⟩
  rcases hcase with h0 | ⟨g', o', h1, h2, h3, h4⟩
  · cases h0
  · injection h1 with h1
    injection h1 with h1 h1'
    subst h1 h1'
    refine ⟨g, o + K, rfl, h2, h3, fun j y hy => ?_⟩
    have := h4 (K + j) y (by rw [List.flatMap_cons, List.getElem?_append_right (by rw [hK]; omega), hK, Nat.add_sub_cancel_left]; exact hy)
    rwa [← Nat.add_assoc] at this

theorem slice_tail (g o n cap : Nat) (hn : 1 ≤ n) (hc : n ≤ cap) : ∃ o', (∀ W : World, (Instr.slice 54 (.slice (some ⟨g, o, none⟩) n cap) (some (.int .i64 1)) none none).run Tryz.prog W = .ok (.slice (some ⟨g, o', none⟩) (n - 1) (cap - 1)) W) ∧ ∀ (P : Nat → Prop) (w : World) (x : ByteArray) (xs : List ByteArray), Ls eS P w (.slice (some ⟨g, o, none⟩) n cap) (x :: xs) → Ls eS P w (.slice (some ⟨g, o', none⟩) (n - 1) (cap - 1)) xs := by
  by_cases h : cap = 1
  · refine ⟨o, fun W => ?_, fun P w x xs hl => ?_⟩
    · have hn1 : n = 1 := by omega
      subst hn1 h
      go_simp
    · have h1 := hl.len.1
      have hn1 : n = 1 := by omega
      have h2 : xs = [] := by
        rw [hn1] at h1
        simpa using h1.symm
      subst h2 hn1 h
      exact ⟨_, _, rfl, ⟨by simp, fun h => by cases h⟩, .inl rfl⟩
  · refine ⟨o + 1, fun W => ?_, fun P w x xs hl => hl.tail eS_len⟩
    have h1 : (1 : Int) ≤ (n : Int) := by omega
    have h2 : ¬ cap - 1 = 0 := by omega
    have h3 : ¬ cap ≤ 1 := by omega
    go_simp

/-- is a line a case? -/
def roC (x : Rs) (k : Nat) : Bool := x.inT && (decide (k = 29) || decide (k = 30))
def roE (x : Rs) (k : Nat) (ws : List ByteArray) : Int := if fE k ws = 0 then (if roC x k then 0 else if x.inF then 0 else 74) else fE k ws
def roN (x : Rs) (k : Nat) (ws : List ByteArray) : Nm := if 0 < (fA k ws).size then insN x (knd (k : Nat)) (fA k ws) else (0, 0, ⟨#[]⟩)
def roK (k : Nat) (ws : List ByteArray) : Cs := ⟨decide (k = 29), (fI k ws).2.1, (fI k ws).2.2.1, (fI k ws).2.2.2.1⟩
def roS (x : Rs) (num k : Nat) (ws : List ByteArray) : Rs :=
  if roC x k then { x with tb := x.tb.modify (x.tb.length - 1) (fun t => (t.1 ++ [roK k ws], t.2)) }
  else { x with ask := x.ask ++ [⟨num, fI k ws, roN x k ws⟩], fn := x.fn.modify (x.fn.length - 1) (fun f => (f.1, f.2 + 1)) }
/-- where instructions or cases may stand, there is what they belong to -/
structure Rok (x : Rs) : Prop where
  f : x.inF = true → x.fn ≠ []
  t : x.inT = true → x.tb ≠ []
/-- behind the fields -/
def Ro1 (V : World) (I : Int × Int × Int × Int × Int) (A : ByteArray) (E : Int) (p a e : Value) (wc : World) : Prop := ∃ kb, p = .pointer (some ⟨kb, 0, none⟩) ∧ a = .string A ∧ e = .int .i64 E ∧ V.heap.size ≤ kb ∧ wc.heap[kb]? = some (.cells #[.int .i64 I.1, .int .i64 I.2.1, .int .i64 I.2.2.1, .int .i64 I.2.2.2.1, .int .i64 I.2.2.2.2] 67 (0, 0)) ∧ Gr V wc

set_option maxHeartbeats 2000000 in
set_option maxRecDepth 20000 in
theorem readOp_bad (base R M : Nat) (w : World) (x : Rs) (num : Nat) (ws : List ByteArray) (wv : Value) (kind : Int) (op : Nat) (leads : Bool) (s : ByteArray) (wt : List ByteArray) (hws : ws = s :: wt) (h1 : 1 ≤ op) (h2 : op < 59) (hl : Ls eS (fun g => ¬ SR base R M g) w wv ws) (hz : Sml ws) (hf : Few x) (hok : Rok x) (hg : Glb w) (h : Red base R M w x) (hE : fE op wt ≠ 0) :
    Calls Tryz.prog 53 #[.pointer (some ⟨R, 0, none⟩), .agg #[.int .i64 (num : Nat), wv, .int .i64 kind, .int .i64 (op : Nat), .bool leads]] w (Dn base R M w (roE x op wt) (roS x num op wt)) := by
  obtain ⟨va, vf, vt, ts, h⟩ := h
  subst hws
  obtain ⟨g, o, cap, rfl, hP, hgl, hcap, hc⟩ := hl.get eS_len (i := 0) (a := s) rfl
  clear hc
  obtain ⟨n, hn⟩ : ∃ n, n = (s :: wt).length := ⟨_, rfl⟩
  have hn1 : 1 ≤ n := by rw [hn]; simp
  rw [← hn] at hcap hl ⊢
  have HN := hid hn
  clear hn
  obtain ⟨o', hsl, hlt⟩ := slice_tail g o n cap hn1 hcap
  have hlt1 := hlt _ _ _ _ hl
  have HFD := hid (fun (W : World) (q : Gr w W) => fields_any _ (.slice (some ⟨g, o', none⟩) (n - 1) (cap - 1)) wt op h1 h2 W (hlt1.gr q) (fun y hy => hz y (by simp [hy])) (hg.gr q))
  have HH := hid h
  have Hf := hid hf
  have HO := hid hok
  have HG := hid hg
  obtain ⟨I, hI⟩ : ∃ I, I = fI op wt := ⟨_, rfl⟩
  obtain ⟨A, hA⟩ : ∃ A, A = fA op wt := ⟨_, rfl⟩
  obtain ⟨E, hE⟩ : ∃ E, E = fE op wt := ⟨_, rfl⟩
  rw [← hI, ← hA, ← hE] at HFD
  unfold iV at HFD
  have HI := hid hI
  have HA := hid hA
  have HE := hid hE
  have hBx := (MapKept.heap_alloc w (.cells #[.int .i64 (num : Nat), .slice (some ⟨g, o, none⟩) n cap, .int .i64 kind, .int .i64 (op : Nat), .bool leads] 56)).1
  have hgV := Gr.alloc (Gr.refl w) #[.int .i64 (num : Nat), .slice (some ⟨g, o, none⟩) n cap, .int .i64 kind, .int .i64 (op : Nat), .bool leads] 56
  have hszV : (w.alloc (.cells #[.int .i64 (num : Nat), .slice (some ⟨g, o, none⟩) n cap, .int .i64 kind, .int .i64 (op : Nat), .bool leads] 56)).heap.size = w.heap.size + 1 := by simp
  clear hl hz hlt hlt1 hI hA hE h hf hok hg
  rw [← HE.out] at hE
  have eE : roE x op wt = E := by unfold roE; rw [← HE.out, if_neg hE]
  rw [eE]
  clear eE
  go_enter Tryz.func53, Tryz.ntmps53
  go_upto_region 1 with fail
  generalize w.alloc (.cells #[.int .i64 (num : Nat), .slice (some ⟨g, o, none⟩) n cap, .int .i64 kind, .int .i64 (op : Nat), .bool leads] 56) = V at hBx hgV hszV ⊢
  have HBx := hid hBx
  have HGV := hid hgV
  have HSV := hid hszV
  have x3 : V.cell? ⟨w.heap.size, 3, none⟩ = some (.int .i64 (op : Nat)) := (cell_of hBx 3).trans rfl
  have x1 : V.cell? ⟨w.heap.size, 1, none⟩ = some (.slice (some ⟨g, o, none⟩) n cap) := (cell_of hBx 1).trans rfl
  have lB : w.heap.size < V.heap.size := by omega
  clear hBx hgV hszV
  go_cut [5, 6, 7] (fun p a e wc => Ro1 V I A E p a e wc)
  case first =>
    have hS0 : (fun w' => w'.cell? ⟨w.heap.size, 3, none⟩ = some (.int .i64 (op : Nat)) ∧ w'.cell? ⟨w.heap.size, 1, none⟩ = some (.slice (some ⟨g, o, none⟩) n cap) ∧ w.heap.size < w'.heap.size) V.drew := ⟨x3, x1, lB⟩
    refine wp_region_held_drew (S := fun w' => w'.cell? ⟨w.heap.size, 3, none⟩ = some (.int .i64 (op : Nat)) ∧ w'.cell? ⟨w.heap.size, 1, none⟩ = some (.slice (some ⟨g, o, none⟩) n cap) ∧ w.heap.size < w'.heap.size) (by kernel_rfl) (by exact hS0) (fun hSx => ?_)
    clear hSx
    refine takeS_on (i := 0) 11 (v := ?v18) rfl rfl (by kernel_rfl) (by kernel_rfl) (by kernel_rfl) (fun _ _ _ h => h) (by kernel_rfl) ?hy18 (by exact hS0) ?_
    case hy18 => (intro w' hSw; go_simp; try (with_reducible rfl))
    simp only [Act.put, List.setIfInBounds_toArray, List.set_cons_zero, List.set_cons_succ]
    refine takeS_on (i := 1) 12 (v := ?v19) rfl rfl (by kernel_rfl) (by kernel_rfl) (by kernel_rfl) (fun _ _ _ h => h) (by kernel_rfl) ?hy19 (by exact hS0) ?_
    case hy19 => (intro w' hSw; go_simp; try (with_reducible rfl))
    simp only [Act.put, List.setIfInBounds_toArray, List.set_cons_zero, List.set_cons_succ]
    refine takeS_on (i := 2) 13 (v := ?v20) rfl rfl (by kernel_rfl) (by kernel_rfl) (by kernel_rfl) (fun _ _ _ h => h) (by kernel_rfl) ?hy20 (by exact hS0) ?_
    case hy20 => (intro w' hSw; go_simp; try (with_reducible rfl))
    simp only [Act.put, List.setIfInBounds_toArray, List.set_cons_zero, List.set_cons_succ]
    refine takeS_on (i := 3) 14 (v := ?v21) rfl rfl (by kernel_rfl) (by kernel_rfl) (by kernel_rfl) (fun _ _ _ h => h) (by kernel_rfl) ?hy21 (by exact hS0) ?_
    case hy21 => (intro w' hSw; go_simp; try (with_reducible rfl))
    simp only [Act.put, List.setIfInBounds_toArray, List.set_cons_zero, List.set_cons_succ]
    refine takeS_on (i := 4) 15 (v := ?v22) rfl rfl (by kernel_rfl) (by kernel_rfl) (by kernel_rfl) (fun _ _ _ h => h) (by kernel_rfl) ?hy22 (by exact hS0) ?_
    case hy22 => (intro w' hSw; go_simp; try (with_reducible rfl))
    simp only [Act.put, List.setIfInBounds_toArray, List.set_cons_zero, List.set_cons_succ]
    refine wpAnyH_ready (rs := [5, 10]) (by kernel_rfl) (by simp) (AllReadyH.cons rfl (fun K hK => ?_) (AllReadyH.cons rfl (fun K hK => ?_) AllReadyH.nil))
    · go_simp
      refine (HFD.out _ (Gr.trans HGV.out (Ch.drew (Gr.refl V)))).mono ?_
      rintro e w3 ⟨rfl, g3⟩
      have k3 : Gr V w3 := Gr.trans (Ch.drew (Gr.refl V)) g3
      have hS_w3 : (fun w' => w'.cell? ⟨w.heap.size, 3, none⟩ = some (.int .i64 (op : Nat)) ∧ w'.cell? ⟨w.heap.size, 1, none⟩ = some (.slice (some ⟨g, o, none⟩) n cap) ∧ w.heap.size < w'.heap.size) w3 := ⟨(Ch.cell k3 lB (noB _)).trans x3, (Ch.cell k3 lB (noB _)).trans x1, Nat.lt_of_lt_of_le lB (Ch.size k3)⟩
      have K3 := hid k3
      clear k3 g3
      refine hK.out _ _ (by exact hS_w3) (fun hSx => ?_)
      clear hSx hK K
      refine takeS_on (i := 6) 10 (v := ?v23) rfl rfl (by kernel_rfl) (by kernel_rfl) (by kernel_rfl) (fun _ _ _ h => h) (by kernel_rfl) ?hy23 (by exact hS_w3) ?_
      case hy23 => (intro w' hSw; go_simp; try (with_reducible rfl))
      simp only [Act.put, List.setIfInBounds_toArray, List.set_cons_zero, List.set_cons_succ]
      refine takeS_on (i := 7) 17 (v := ?v24) rfl rfl (by kernel_rfl) (by kernel_rfl) (by kernel_rfl) (fun _ _ _ h => h) (by kernel_rfl) ?hy24 (by exact hS_w3) ?_
      case hy24 => (intro w' hSw; go_simp; try (with_reducible rfl))
      simp only [Act.put, List.setIfInBounds_toArray, List.set_cons_zero, List.set_cons_succ]
      refine takeS_on (i := 8) 18 (v := ?v25) rfl rfl (by kernel_rfl) (by kernel_rfl) (by kernel_rfl) (fun _ _ _ h => h) (by kernel_rfl) ?hy25 (by exact hS_w3) ?_
      case hy25 => (intro w' hSw; go_simp; try (with_reducible rfl))
      simp only [Act.put, List.setIfInBounds_toArray, List.set_cons_zero, List.set_cons_succ]
      refine takeS_on (i := 9) 19 (v := ?v26) rfl rfl (by kernel_rfl) (by kernel_rfl) (by kernel_rfl) (fun _ _ _ h => h) (by kernel_rfl) ?hy26 (by exact hS_w3) ?_
      case hy26 => (intro w' hSw; go_simp; try (with_reducible rfl))
      simp only [Act.put, List.setIfInBounds_toArray, List.set_cons_zero, List.set_cons_succ]
      refine wpAnyH_ready (rs := [10]) (by kernel_rfl) (by simp) (AllReadyH.cons rfl (fun K hK => ?_) AllReadyH.nil)
      go_simp
      have hS_a : (fun w' => w'.cell? ⟨w.heap.size, 3, none⟩ = some (.int .i64 (op : Nat)) ∧ w'.cell? ⟨w.heap.size, 1, none⟩ = some (.slice (some ⟨g, o, none⟩) n cap) ∧ w.heap.size < w'.heap.size) (w3.alloc (.cells #[.int .i64 0, .int .i64 0, .int .i64 0, .int .i64 0, .int .i64 0] 67)) := ⟨(Ch.cell (Ch.alloc K3.out _) lB (noB _)).trans x3, (Ch.cell (Ch.alloc K3.out _) lB (noB _)).trans x1, Nat.lt_of_lt_of_le lB (Ch.size (Ch.alloc K3.out (.cells #[.int .i64 0, .int .i64 0, .int .i64 0, .int .i64 0, .int .i64 0] 67)))⟩
      refine hK.out _ _ (by exact hS_a) (fun hSx => ?_)
      clear hSx hK K
      refine wpAnyH_ready (rs := [11]) (by kernel_rfl) (by simp) (AllReadyH.cons rfl (fun K hK => ?_) AllReadyH.nil)
      go_simp
      have hS_b : (fun w' => w'.cell? ⟨w.heap.size, 3, none⟩ = some (.int .i64 (op : Nat)) ∧ w'.cell? ⟨w.heap.size, 1, none⟩ = some (.slice (some ⟨g, o, none⟩) n cap) ∧ w.heap.size < w'.heap.size) (w3.alloc (.cells #[.int .i64 I.1, .int .i64 I.2.1, .int .i64 I.2.2.1, .int .i64 I.2.2.2.1, .int .i64 I.2.2.2.2] 67)) := ⟨(Ch.cell (Ch.alloc K3.out _) lB (noB _)).trans x3, (Ch.cell (Ch.alloc K3.out _) lB (noB _)).trans x1, Nat.lt_of_lt_of_le lB (Ch.size (Ch.alloc K3.out (.cells #[.int .i64 I.1, .int .i64 I.2.1, .int .i64 I.2.2.1, .int .i64 I.2.2.2.1, .int .i64 I.2.2.2.2] 67)))⟩
      refine hK.out _ _ (by exact hS_b) (fun hSx => ?_)
      clear hSx hK K
      refine takeS_on (i := 12) 6 (v := ?v27) rfl rfl (by kernel_rfl) (by kernel_rfl) (by kernel_rfl) (fun _ _ _ h => h) (by kernel_rfl) ?hy27 (by exact hS_b) ?_
      case hy27 => (intro w' hSw; go_simp; try (with_reducible rfl))
      simp only [Act.put, List.setIfInBounds_toArray, List.set_cons_zero, List.set_cons_succ]
      refine takeS_on (i := 13) 7 (v := ?v28) rfl rfl (by kernel_rfl) (by kernel_rfl) (by kernel_rfl) (fun _ _ _ h => h) (by kernel_rfl) ?hy28 (by exact hS_b) ?_
      case hy28 => (intro w' hSw; go_simp; try (with_reducible rfl))
      simp only [Act.put, List.setIfInBounds_toArray, List.set_cons_zero, List.set_cons_succ]
      refine wpAnyH_done (by kernel_rfl) ?_ _
      clear hS0 hS_w3 hS_a hS_b
      go_wp2_with fail
      go_meet
      exact ⟨w3.heap.size, rfl, rfl, rfl, K3.out.size, (MapKept.heap_alloc w3 _).1, Ch.alloc K3.out _⟩
    · go_simp
      have hS_a : (fun w' => w'.cell? ⟨w.heap.size, 3, none⟩ = some (.int .i64 (op : Nat)) ∧ w'.cell? ⟨w.heap.size, 1, none⟩ = some (.slice (some ⟨g, o, none⟩) n cap) ∧ w.heap.size < w'.heap.size) (V.alloc (.cells #[.int .i64 0, .int .i64 0, .int .i64 0, .int .i64 0, .int .i64 0] 67)).drew := ⟨(Ch.cell (Ch.drew (Ch.alloc (Gr.refl V) _)) lB (noB _)).trans x3, (Ch.cell (Ch.drew (Ch.alloc (Gr.refl V) _)) lB (noB _)).trans x1, Nat.lt_of_lt_of_le lB (Ch.size (Ch.drew (Ch.alloc (Gr.refl V) (.cells #[.int .i64 0, .int .i64 0, .int .i64 0, .int .i64 0, .int .i64 0] 67))))⟩
      refine hK.out _ _ (by exact hS_a) (fun hSx => ?_)
      clear hSx hK K
      refine wpAnyH_ready (rs := [5]) (by kernel_rfl) (by simp) (AllReadyH.cons rfl (fun K hK => ?_) AllReadyH.nil)
      go_simp
      refine (HFD.out _ (Gr.trans HGV.out (Ch.drew (Ch.alloc (Gr.refl V) _)))).mono ?_
      rintro e w3 ⟨rfl, g3⟩
      have hb3 : w3.heap[V.heap.size]? = some (.cells #[.int .i64 0, .int .i64 0, .int .i64 0, .int .i64 0, .int .i64 0] 67 (0, 0)) := gr_blk (w := (V.alloc (.cells #[.int .i64 0, .int .i64 0, .int .i64 0, .int .i64 0, .int .i64 0] 67)).drew) (MapKept.heap_alloc V (.cells #[.int .i64 0, .int .i64 0, .int .i64 0, .int .i64 0, .int .i64 0] 67)).1 g3
      have k3 : Gr V w3 := Gr.trans (Ch.drew (Ch.alloc (Gr.refl V) _)) g3
      have hS_w3 : (fun w' => w'.cell? ⟨w.heap.size, 3, none⟩ = some (.int .i64 (op : Nat)) ∧ w'.cell? ⟨w.heap.size, 1, none⟩ = some (.slice (some ⟨g, o, none⟩) n cap) ∧ w.heap.size < w'.heap.size) w3 := ⟨(Ch.cell k3 lB (noB _)).trans x3, (Ch.cell k3 lB (noB _)).trans x1, Nat.lt_of_lt_of_le lB (Ch.size k3)⟩
      have K3 := hid k3
      have HB3 := hid hb3
      obtain ⟨u0, u1, u2, u3, u4, uz, ul⟩ := Box.of hb3
      have y0 := uz 0
      have y1 := uz 1
      have y2 := uz 2
      have y3 := uz 3
      have y4 := uz 4
      clear k3 g3 hb3 uz
      refine hK.out _ _ (by exact hS_w3) (fun hSx => ?_)
      clear hSx hK K
      refine takeS_on (i := 6) 10 (v := ?v29) rfl rfl (by kernel_rfl) (by kernel_rfl) (by kernel_rfl) (fun _ _ _ h => h) (by kernel_rfl) ?hy29 (by exact hS_w3) ?_
      case hy29 => (intro w' hSw; go_simp; try (with_reducible rfl))
      simp only [Act.put, List.setIfInBounds_toArray, List.set_cons_zero, List.set_cons_succ]
      refine takeS_on (i := 7) 17 (v := ?v30) rfl rfl (by kernel_rfl) (by kernel_rfl) (by kernel_rfl) (fun _ _ _ h => h) (by kernel_rfl) ?hy30 (by exact hS_w3) ?_
      case hy30 => (intro w' hSw; go_simp; try (with_reducible rfl))
      simp only [Act.put, List.setIfInBounds_toArray, List.set_cons_zero, List.set_cons_succ]
      refine takeS_on (i := 8) 18 (v := ?v31) rfl rfl (by kernel_rfl) (by kernel_rfl) (by kernel_rfl) (fun _ _ _ h => h) (by kernel_rfl) ?hy31 (by exact hS_w3) ?_
      case hy31 => (intro w' hSw; go_simp; try (with_reducible rfl))
      simp only [Act.put, List.setIfInBounds_toArray, List.set_cons_zero, List.set_cons_succ]
      refine takeS_on (i := 9) 19 (v := ?v32) rfl rfl (by kernel_rfl) (by kernel_rfl) (by kernel_rfl) (fun _ _ _ h => h) (by kernel_rfl) ?hy32 (by exact hS_w3) ?_
      case hy32 => (intro w' hSw; go_simp; try (with_reducible rfl))
      simp only [Act.put, List.setIfInBounds_toArray, List.set_cons_zero, List.set_cons_succ]
      refine wpAnyH_ready (rs := [11]) (by kernel_rfl) (by simp) (AllReadyH.cons rfl (fun K hK => ?_) AllReadyH.nil)
      go_simp
      have k4 : Gr V (((((w3.setCell ⟨V.heap.size, 0, none⟩ (.int .i64 I.1)).setCell ⟨V.heap.size, 1, none⟩ (.int .i64 I.2.1)).setCell ⟨V.heap.size, 2, none⟩ (.int .i64 I.2.2.1)).setCell ⟨V.heap.size, 3, none⟩ (.int .i64 I.2.2.2.1)).setCell ⟨V.heap.size, 4, none⟩ (.int .i64 I.2.2.2.2)) := fr5 K3.out (Nat.le_refl _) _ _ _ _ _
      have hS_b : (fun w' => w'.cell? ⟨w.heap.size, 3, none⟩ = some (.int .i64 (op : Nat)) ∧ w'.cell? ⟨w.heap.size, 1, none⟩ = some (.slice (some ⟨g, o, none⟩) n cap) ∧ w.heap.size < w'.heap.size) (((((w3.setCell ⟨V.heap.size, 0, none⟩ (.int .i64 I.1)).setCell ⟨V.heap.size, 1, none⟩ (.int .i64 I.2.1)).setCell ⟨V.heap.size, 2, none⟩ (.int .i64 I.2.2.1)).setCell ⟨V.heap.size, 3, none⟩ (.int .i64 I.2.2.2.1)).setCell ⟨V.heap.size, 4, none⟩ (.int .i64 I.2.2.2.2)) := ⟨(Ch.cell k4 lB (noB _)).trans x3, (Ch.cell k4 lB (noB _)).trans x1, Nat.lt_of_lt_of_le lB (Ch.size k4)⟩
      clear k4
      refine hK.out _ _ (by exact hS_b) (fun hSx => ?_)
      clear hSx hK K
      refine takeS_on (i := 12) 6 (v := ?v33) rfl rfl (by kernel_rfl) (by kernel_rfl) (by kernel_rfl) (fun _ _ _ h => h) (by kernel_rfl) ?hy33 (by exact hS_b) ?_
      case hy33 => (intro w' hSw; go_simp; try (with_reducible rfl))
      simp only [Act.put, List.setIfInBounds_toArray, List.set_cons_zero, List.set_cons_succ]
      refine takeS_on (i := 13) 7 (v := ?v34) rfl rfl (by kernel_rfl) (by kernel_rfl) (by kernel_rfl) (fun _ _ _ h => h) (by kernel_rfl) ?hy34 (by exact hS_b) ?_
      case hy34 => (intro w' hSw; go_simp; try (with_reducible rfl))
      simp only [Act.put, List.setIfInBounds_toArray, List.set_cons_zero, List.set_cons_succ]
      refine wpAnyH_done (by kernel_rfl) ?_ _
      clear hS0 hS_w3 hS_a hS_b u0 u1 u2 u3 u4 y0 y1 y2 y3 y4 ul
      go_wp2_with fail
      go_meet
      exact ⟨V.heap.size, rfl, rfl, rfl, Nat.le_refl _, st5 HB3.out _ _ _ _ _, fr5 K3.out (Nat.le_refl _) _ _ _ _ _⟩
  case rest =>
    obtain ⟨kb, rfl, rfl, rfl, hkb, hbk, hgc⟩ := hcut
    have hbx := gr_blk HBx.out hgc
    obtain ⟨b0, b1, b2, b3, b4, -, bl⟩ := Box.of hbx
    obtain ⟨i0, i1, i2, i3, i4, iz, il⟩ := Box.of hbk
    have hrd := HH.out.gr (Gr.trans HGV.out hgc)
    have hbR := hrd.blk
    obtain ⟨r0, r1, r2, r3, r4, r5, rz, rl⟩ := Six.of hbR
    have HRD := hid hrd
    have HGC := hid hgc
    have HKB := hid hkb
    have HBK := hid hbk
    clear hbx hrd hbR hgc hkb hbk rz iz x3 x1 lB
    go_wp2
    go_ret
    exact Dn.bad hE (Ch.any (Gr.trans HGV.out HGC.out))

set_option maxHeartbeats 2000000 in
set_option maxRecDepth 20000 in
theorem readOp_place (base R M : Nat) (w : World) (x : Rs) (num : Nat) (ws : List ByteArray) (wv : Value) (kind : Int) (op : Nat) (leads : Bool) (s : ByteArray) (wt : List ByteArray) (hws : ws = s :: wt) (h1 : 1 ≤ op) (h2 : op < 59) (hl : Ls eS (fun g => ¬ SR base R M g) w wv ws) (hz : Sml ws) (hf : Few x) (hok : Rok x) (hg : Glb w) (h : Red base R M w x) (hE : fE op wt = 0) (iT : Bool) (hiT : x.inT = iT) (hiF : x.inF = false) (hnc : iT = false ∨ (op ≠ 29 ∧ op ≠ 30)) :
    Calls Tryz.prog 53 #[.pointer (some ⟨R, 0, none⟩), .agg #[.int .i64 (num : Nat), wv, .int .i64 kind, .int .i64 (op : Nat), .bool leads]] w (Dn base R M w (roE x op wt) (roS x num op wt)) := by
  obtain ⟨va, vf, vt, ts, h⟩ := h
  subst hws
  obtain ⟨g, o, cap, rfl, hP, hgl, hcap, hc⟩ := hl.get eS_len (i := 0) (a := s) rfl
  clear hc
  obtain ⟨n, hn⟩ : ∃ n, n = (s :: wt).length := ⟨_, rfl⟩
  have hn1 : 1 ≤ n := by rw [hn]; simp
  rw [← hn] at hcap hl ⊢
  have HN := hid hn
  clear hn
  obtain ⟨o', hsl, hlt⟩ := slice_tail g o n cap hn1 hcap
  have hlt1 := hlt _ _ _ _ hl
  have HFD := hid (fun (W : World) (q : Gr w W) => fields_any _ (.slice (some ⟨g, o', none⟩) (n - 1) (cap - 1)) wt op h1 h2 W (hlt1.gr q) (fun y hy => hz y (by simp [hy])) (hg.gr q))
  have HH := hid h
  have Hf := hid hf
  have HO := hid hok
  have HG := hid hg
  obtain ⟨I, hI⟩ : ∃ I, I = fI op wt := ⟨_, rfl⟩
  obtain ⟨A, hA⟩ : ∃ A, A = fA op wt := ⟨_, rfl⟩
  obtain ⟨E, hE⟩ : ∃ E, E = fE op wt := ⟨_, rfl⟩
  rw [← hI, ← hA, ← hE] at HFD
  unfold iV at HFD
  have HI := hid hI
  have HA := hid hA
  have HE := hid hE
  have hBx := (MapKept.heap_alloc w (.cells #[.int .i64 (num : Nat), .slice (some ⟨g, o, none⟩) n cap, .int .i64 kind, .int .i64 (op : Nat), .bool leads] 56)).1
  have hgV := Gr.alloc (Gr.refl w) #[.int .i64 (num : Nat), .slice (some ⟨g, o, none⟩) n cap, .int .i64 kind, .int .i64 (op : Nat), .bool leads] 56
  have hszV : (w.alloc (.cells #[.int .i64 (num : Nat), .slice (some ⟨g, o, none⟩) n cap, .int .i64 kind, .int .i64 (op : Nat), .bool leads] 56)).heap.size = w.heap.size + 1 := by simp
  clear hl hz hlt hlt1 hI hA hE h hf hok hg
  rw [← HE.out] at hE
  have hC : roC x op = false := by unfold roC; rw [hiT]; rcases hnc with rfl | ⟨q1, q2⟩ <;> simp [*]
  have eE : roE x op wt = 74 := by unfold roE; rw [← HE.out, if_pos hE, hC, hiF]; rfl
  rw [eE]
  have HE0 := hid hE
  clear eE hC hE
  go_enter Tryz.func53, Tryz.ntmps53
  go_upto_region 1 with fail
  generalize w.alloc (.cells #[.int .i64 (num : Nat), .slice (some ⟨g, o, none⟩) n cap, .int .i64 kind, .int .i64 (op : Nat), .bool leads] 56) = V at hBx hgV hszV ⊢
  have HBx := hid hBx
  have HGV := hid hgV
  have HSV := hid hszV
  have x3 : V.cell? ⟨w.heap.size, 3, none⟩ = some (.int .i64 (op : Nat)) := (cell_of hBx 3).trans rfl
  have x1 : V.cell? ⟨w.heap.size, 1, none⟩ = some (.slice (some ⟨g, o, none⟩) n cap) := (cell_of hBx 1).trans rfl
  have lB : w.heap.size < V.heap.size := by omega
  clear hBx hgV hszV
  go_cut [5, 6, 7] (fun p a e wc => Ro1 V I A E p a e wc)
  case first =>
    have hS0 : (fun w' => w'.cell? ⟨w.heap.size, 3, none⟩ = some (.int .i64 (op : Nat)) ∧ w'.cell? ⟨w.heap.size, 1, none⟩ = some (.slice (some ⟨g, o, none⟩) n cap) ∧ w.heap.size < w'.heap.size) V.drew := ⟨x3, x1, lB⟩
    refine wp_region_held_drew (S := fun w' => w'.cell? ⟨w.heap.size, 3, none⟩ = some (.int .i64 (op : Nat)) ∧ w'.cell? ⟨w.heap.size, 1, none⟩ = some (.slice (some ⟨g, o, none⟩) n cap) ∧ w.heap.size < w'.heap.size) (by kernel_rfl) (by exact hS0) (fun hSx => ?_)
    clear hSx
    refine takeS_on (i := 0) 11 (v := ?v18) rfl rfl (by kernel_rfl) (by kernel_rfl) (by kernel_rfl) (fun _ _ _ h => h) (by kernel_rfl) ?hy18 (by exact hS0) ?_
    case hy18 => (intro w' hSw; go_simp; try (with_reducible rfl))
    simp only [Act.put, List.setIfInBounds_toArray, List.set_cons_zero, List.set_cons_succ]
    refine takeS_on (i := 1) 12 (v := ?v19) rfl rfl (by kernel_rfl) (by kernel_rfl) (by kernel_rfl) (fun _ _ _ h => h) (by kernel_rfl) ?hy19 (by exact hS0) ?_
    case hy19 => (intro w' hSw; go_simp; try (with_reducible rfl))
    simp only [Act.put, List.setIfInBounds_toArray, List.set_cons_zero, List.set_cons_succ]
    refine takeS_on (i := 2) 13 (v := ?v20) rfl rfl (by kernel_rfl) (by kernel_rfl) (by kernel_rfl) (fun _ _ _ h => h) (by kernel_rfl) ?hy20 (by exact hS0) ?_
    case hy20 => (intro w' hSw; go_simp; try (with_reducible rfl))
    simp only [Act.put, List.setIfInBounds_toArray, List.set_cons_zero, List.set_cons_succ]
    refine takeS_on (i := 3) 14 (v := ?v21) rfl rfl (by kernel_rfl) (by kernel_rfl) (by kernel_rfl) (fun _ _ _ h => h) (by kernel_rfl) ?hy21 (by exact hS0) ?_
    case hy21 => (intro w' hSw; go_simp; try (with_reducible rfl))
    simp only [Act.put, List.setIfInBounds_toArray, List.set_cons_zero, List.set_cons_succ]
    refine takeS_on (i := 4) 15 (v := ?v22) rfl rfl (by kernel_rfl) (by kernel_rfl) (by kernel_rfl) (fun _ _ _ h => h) (by kernel_rfl) ?hy22 (by exact hS0) ?_
    case hy22 => (intro w' hSw; go_simp; try (with_reducible rfl))
    simp only [Act.put, List.setIfInBounds_toArray, List.set_cons_zero, List.set_cons_succ]
    refine wpAnyH_ready (rs := [5, 10]) (by kernel_rfl) (by simp) (AllReadyH.cons rfl (fun K hK => ?_) (AllReadyH.cons rfl (fun K hK => ?_) AllReadyH.nil))
    · go_simp
      refine (HFD.out _ (Gr.trans HGV.out (Ch.drew (Gr.refl V)))).mono ?_
      rintro e w3 ⟨rfl, g3⟩
      have k3 : Gr V w3 := Gr.trans (Ch.drew (Gr.refl V)) g3
      have hS_w3 : (fun w' => w'.cell? ⟨w.heap.size, 3, none⟩ = some (.int .i64 (op : Nat)) ∧ w'.cell? ⟨w.heap.size, 1, none⟩ = some (.slice (some ⟨g, o, none⟩) n cap) ∧ w.heap.size < w'.heap.size) w3 := ⟨(Ch.cell k3 lB (noB _)).trans x3, (Ch.cell k3 lB (noB _)).trans x1, Nat.lt_of_lt_of_le lB (Ch.size k3)⟩
      have K3 := hid k3
      clear k3 g3
      refine hK.out _ _ (by exact hS_w3) (fun hSx => ?_)
      clear hSx hK K
      refine takeS_on (i := 6) 10 (v := ?v23) rfl rfl (by kernel_rfl) (by kernel_rfl) (by kernel_rfl) (fun _ _ _ h => h) (by kernel_rfl) ?hy23 (by exact hS_w3) ?_
      case hy23 => (intro w' hSw; go_simp; try (with_reducible rfl))
      simp only [Act.put, List.setIfInBounds_toArray, List.set_cons_zero, List.set_cons_succ]
      refine takeS_on (i := 7) 17 (v := ?v24) rfl rfl (by kernel_rfl) (by kernel_rfl) (by kernel_rfl) (fun _ _ _ h => h) (by kernel_rfl) ?hy24 (by exact hS_w3) ?_
      case hy24 => (intro w' hSw; go_simp; try (with_reducible rfl))
      simp only [Act.put, List.setIfInBounds_toArray, List.set_cons_zero, List.set_cons_succ]
      refine takeS_on (i := 8) 18 (v := ?v25) rfl rfl (by kernel_rfl) (by kernel_rfl) (by kernel_rfl) (fun _ _ _ h => h) (by kernel_rfl) ?hy25 (by exact hS_w3) ?_
      case hy25 => (intro w' hSw; go_simp; try (with_reducible rfl))
      simp only [Act.put, List.setIfInBounds_toArray, List.set_cons_zero, List.set_cons_succ]
      refine takeS_on (i := 9) 19 (v := ?v26) rfl rfl (by kernel_rfl) (by kernel_rfl) (by kernel_rfl) (fun _ _ _ h => h) (by kernel_rfl) ?hy26 (by exact hS_w3) ?_
      case hy26 => (intro w' hSw; go_simp; try (with_reducible rfl))
      simp only [Act.put, List.setIfInBounds_toArray, List.set_cons_zero, List.set_cons_succ]
      refine wpAnyH_ready (rs := [10]) (by kernel_rfl) (by simp) (AllReadyH.cons rfl (fun K hK => ?_) AllReadyH.nil)
      go_simp
      have hS_a : (fun w' => w'.cell? ⟨w.heap.size, 3, none⟩ = some (.int .i64 (op : Nat)) ∧ w'.cell? ⟨w.heap.size, 1, none⟩ = some (.slice (some ⟨g, o, none⟩) n cap) ∧ w.heap.size < w'.heap.size) (w3.alloc (.cells #[.int .i64 0, .int .i64 0, .int .i64 0, .int .i64 0, .int .i64 0] 67)) := ⟨(Ch.cell (Ch.alloc K3.out _) lB (noB _)).trans x3, (Ch.cell (Ch.alloc K3.out _) lB (noB _)).trans x1, Nat.lt_of_lt_of_le lB (Ch.size (Ch.alloc K3.out (.cells #[.int .i64 0, .int .i64 0, .int .i64 0, .int .i64 0, .int .i64 0] 67)))⟩
      refine hK.out _ _ (by exact hS_a) (fun hSx => ?_)
      clear hSx hK K
      refine wpAnyH_ready (rs := [11]) (by kernel_rfl) (by simp) (AllReadyH.cons rfl (fun K hK => ?_) AllReadyH.nil)
      go_simp
      have hS_b : (fun w' => w'.cell? ⟨w.heap.size, 3, none⟩ = some (.int .i64 (op : Nat)) ∧ w'.cell? ⟨w.heap.size, 1, none⟩ = some (.slice (some ⟨g, o, none⟩) n cap) ∧ w.heap.size < w'.heap.size) (w3.alloc (.cells #[.int .i64 I.1, .int .i64 I.2.1, .int .i64 I.2.2.1, .int .i64 I.2.2.2.1, .int .i64 I.2.2.2.2] 67)) := ⟨(Ch.cell (Ch.alloc K3.out _) lB (noB _)).trans x3, (Ch.cell (Ch.alloc K3.out _) lB (noB _)).trans x1, Nat.lt_of_lt_of_le lB (Ch.size (Ch.alloc K3.out (.cells #[.int .i64 I.1, .int .i64 I.2.1, .int .i64 I.2.2.1, .int .i64 I.2.2.2.1, .int .i64 I.2.2.2.2] 67)))⟩
      refine hK.out _ _ (by exact hS_b) (fun hSx => ?_)
      clear hSx hK K
      refine takeS_on (i := 12) 6 (v := ?v27) rfl rfl (by kernel_rfl) (by kernel_rfl) (by kernel_rfl) (fun _ _ _ h => h) (by kernel_rfl) ?hy27 (by exact hS_b) ?_
      case hy27 => (intro w' hSw; go_simp; try (with_reducible rfl))
      simp only [Act.put, List.setIfInBounds_toArray, List.set_cons_zero, List.set_cons_succ]
      refine takeS_on (i := 13) 7 (v := ?v28) rfl rfl (by kernel_rfl) (by kernel_rfl) (by kernel_rfl) (fun _ _ _ h => h) (by kernel_rfl) ?hy28 (by exact hS_b) ?_
      case hy28 => (intro w' hSw; go_simp; try (with_reducible rfl))
      simp only [Act.put, List.setIfInBounds_toArray, List.set_cons_zero, List.set_cons_succ]
      refine wpAnyH_done (by kernel_rfl) ?_ _
      clear hS0 hS_w3 hS_a hS_b
      go_wp2_with fail
      go_meet
      exact ⟨w3.heap.size, rfl, rfl, rfl, K3.out.size, (MapKept.heap_alloc w3 _).1, Ch.alloc K3.out _⟩
    · go_simp
      have hS_a : (fun w' => w'.cell? ⟨w.heap.size, 3, none⟩ = some (.int .i64 (op : Nat)) ∧ w'.cell? ⟨w.heap.size, 1, none⟩ = some (.slice (some ⟨g, o, none⟩) n cap) ∧ w.heap.size < w'.heap.size) (V.alloc (.cells #[.int .i64 0, .int .i64 0, .int .i64 0, .int .i64 0, .int .i64 0] 67)).drew := ⟨(Ch.cell (Ch.drew (Ch.alloc (Gr.refl V) _)) lB (noB _)).trans x3, (Ch.cell (Ch.drew (Ch.alloc (Gr.refl V) _)) lB (noB _)).trans x1, Nat.lt_of_lt_of_le lB (Ch.size (Ch.drew (Ch.alloc (Gr.refl V) (.cells #[.int .i64 0, .int .i64 0, .int .i64 0, .int .i64 0, .int .i64 0] 67))))⟩
      refine hK.out _ _ (by exact hS_a) (fun hSx => ?_)
      clear hSx hK K
      refine wpAnyH_ready (rs := [5]) (by kernel_rfl) (by simp) (AllReadyH.cons rfl (fun K hK => ?_) AllReadyH.nil)
      go_simp
      refine (HFD.out _ (Gr.trans HGV.out (Ch.drew (Ch.alloc (Gr.refl V) _)))).mono ?_
      rintro e w3 ⟨rfl, g3⟩
      have hb3 : w3.heap[V.heap.size]? = some (.cells #[.int .i64 0, .int .i64 0, .int .i64 0, .int .i64 0, .int .i64 0] 67 (0, 0)) := gr_blk (w := (V.alloc (.cells #[.int .i64 0, .int .i64 0, .int .i64 0, .int .i64 0, .int .i64 0] 67)).drew) (MapKept.heap_alloc V (.cells #[.int .i64 0, .int .i64 0, .int .i64 0, .int .i64 0, .int .i64 0] 67)).1 g3
      have k3 : Gr V w3 := Gr.trans (Ch.drew (Ch.alloc (Gr.refl V) _)) g3
      have hS_w3 : (fun w' => w'.cell? ⟨w.heap.size, 3, none⟩ = some (.int .i64 (op : Nat)) ∧ w'.cell? ⟨w.heap.size, 1, none⟩ = some (.slice (some ⟨g, o, none⟩) n cap) ∧ w.heap.size < w'.heap.size) w3 := ⟨(Ch.cell k3 lB (noB _)).trans x3, (Ch.cell k3 lB (noB _)).trans x1, Nat.lt_of_lt_of_le lB (Ch.size k3)⟩
      have K3 := hid k3
      have HB3 := hid hb3
      obtain ⟨u0, u1, u2, u3, u4, uz, ul⟩ := Box.of hb3
      have y0 := uz 0
      have y1 := uz 1
      have y2 := uz 2
      have y3 := uz 3
      have y4 := uz 4
      clear k3 g3 hb3 uz
      refine hK.out _ _ (by exact hS_w3) (fun hSx => ?_)
      clear hSx hK K
      refine takeS_on (i := 6) 10 (v := ?v29) rfl rfl (by kernel_rfl) (by kernel_rfl) (by kernel_rfl) (fun _ _ _ h => h) (by kernel_rfl) ?hy29 (by exact hS_w3) ?_
      case hy29 => (intro w' hSw; go_simp; try (with_reducible rfl))
      simp only [Act.put, List.setIfInBounds_toArray, List.set_cons_zero, List.set_cons_succ]
      refine takeS_on (i := 7) 17 (v := ?v30) rfl rfl (by kernel_rfl) (by kernel_rfl) (by kernel_rfl) (fun _ _ _ h => h) (by kernel_rfl) ?hy30 (by exact hS_w3) ?_
      case hy30 => (intro w' hSw; go_simp; try (with_reducible rfl))
      simp only [Act.put, List.setIfInBounds_toArray, List.set_cons_zero, List.set_cons_succ]
      refine takeS_on (i := 8) 18 (v := ?v31) rfl rfl (by kernel_rfl) (by kernel_rfl) (by kernel_rfl) (fun _ _ _ h => h) (by kernel_rfl) ?hy31 (by exact hS_w3) ?_
      case hy31 => (intro w' hSw; go_simp; try (with_reducible rfl))
      simp only [Act.put, List.setIfInBounds_toArray, List.set_cons_zero, List.set_cons_succ]
      refine takeS_on (i := 9) 19 (v := ?v32) rfl rfl (by kernel_rfl) (by kernel_rfl) (by kernel_rfl) (fun _ _ _ h => h) (by kernel_rfl) ?hy32 (by exact hS_w3) ?_
      case hy32 => (intro w' hSw; go_simp; try (with_reducible rfl))
      simp only [Act.put, List.setIfInBounds_toArray, List.set_cons_zero, List.set_cons_succ]
      refine wpAnyH_ready (rs := [11]) (by kernel_rfl) (by simp) (AllReadyH.cons rfl (fun K hK => ?_) AllReadyH.nil)
      go_simp
      have k4 : Gr V (((((w3.setCell ⟨V.heap.size, 0, none⟩ (.int .i64 I.1)).setCell ⟨V.heap.size, 1, none⟩ (.int .i64 I.2.1)).setCell ⟨V.heap.size, 2, none⟩ (.int .i64 I.2.2.1)).setCell ⟨V.heap.size, 3, none⟩ (.int .i64 I.2.2.2.1)).setCell ⟨V.heap.size, 4, none⟩ (.int .i64 I.2.2.2.2)) := fr5 K3.out (Nat.le_refl _) _ _ _ _ _
      have hS_b : (fun w' => w'.cell? ⟨w.heap.size, 3, none⟩ = some (.int .i64 (op : Nat)) ∧ w'.cell? ⟨w.heap.size, 1, none⟩ = some (.slice (some ⟨g, o, none⟩) n cap) ∧ w.heap.size < w'.heap.size) (((((w3.setCell ⟨V.heap.size, 0, none⟩ (.int .i64 I.1)).setCell ⟨V.heap.size, 1, none⟩ (.int .i64 I.2.1)).setCell ⟨V.heap.size, 2, none⟩ (.int .i64 I.2.2.1)).setCell ⟨V.heap.size, 3, none⟩ (.int .i64 I.2.2.2.1)).setCell ⟨V.heap.size, 4, none⟩ (.int .i64 I.2.2.2.2)) := ⟨(Ch.cell k4 lB (noB _)).trans x3, (Ch.cell k4 lB (noB _)).trans x1, Nat.lt_of_lt_of_le lB (Ch.size k4)⟩
      clear k4
      refine hK.out _ _ (by exact hS_b) (fun hSx => ?_)
      clear hSx hK K
      refine takeS_on (i := 12) 6 (v := ?v33) rfl rfl (by kernel_rfl) (by kernel_rfl) (by kernel_rfl) (fun _ _ _ h => h) (by kernel_rfl) ?hy33 (by exact hS_b) ?_
      case hy33 => (intro w' hSw; go_simp; try (with_reducible rfl))
      simp only [Act.put, List.setIfInBounds_toArray, List.set_cons_zero, List.set_cons_succ]
      refine takeS_on (i := 13) 7 (v := ?v34) rfl rfl (by kernel_rfl) (by kernel_rfl) (by kernel_rfl) (fun _ _ _ h => h) (by kernel_rfl) ?hy34 (by exact hS_b) ?_
      case hy34 => (intro w' hSw; go_simp; try (with_reducible rfl))
      simp only [Act.put, List.setIfInBounds_toArray, List.set_cons_zero, List.set_cons_succ]
      refine wpAnyH_done (by kernel_rfl) ?_ _
      clear hS0 hS_w3 hS_a hS_b u0 u1 u2 u3 u4 y0 y1 y2 y3 y4 ul
      go_wp2_with fail
      go_meet
      exact ⟨V.heap.size, rfl, rfl, rfl, Nat.le_refl _, st5 HB3.out _ _ _ _ _, fr5 K3.out (Nat.le_refl _) _ _ _ _ _⟩
  case rest =>
    obtain ⟨kb, rfl, rfl, rfl, hkb, hbk, hgc⟩ := hcut
    have hbx := gr_blk HBx.out hgc
    obtain ⟨b0, b1, b2, b3, b4, -, bl⟩ := Box.of hbx
    obtain ⟨i0, i1, i2, i3, i4, iz, il⟩ := Box.of hbk
    have hrd := HH.out.gr (Gr.trans HGV.out hgc)
    have hbR := hrd.blk
    obtain ⟨r0, r1, r2, r3, r4, r5, rz, rl⟩ := Six.of hbR
    have HRD := hid hrd
    have HGC := hid hgc
    have HKB := hid hkb
    have HBK := hid hbk
    clear hbx hrd hbR hgc hkb hbk rz iz x3 x1 lB
    have hE := HE0.out
    subst hE
    rw [hiF] at r4
    rw [hiT] at r5
    rcases hnc with rfl | ⟨q1, q2⟩
    · go_wp2
      go_ret
      exact Dn.bad (by omega) (Ch.any (Gr.trans HGV.out HGC.out))
    · have q3 : (((op : Nat) : Int) == 29) = false := by simp; omega
      have q4 : (((op : Nat) : Int) == 30) = false := by simp; omega
      cases iT
      · go_wp2
        go_ret
        exact Dn.bad (by omega) (Ch.any (Gr.trans HGV.out HGC.out))
      · go_wp2
        go_ret
        exact Dn.bad (by omega) (Ch.any (Gr.trans HGV.out HGC.out))

end Go.Proofs.YtbehlhnnfdkmaaaGreatDoor.Lt
