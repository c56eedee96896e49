/-
  What the document's next answers. Conditions: a place is a word's; words are words.
-/
import Derived.Test.YtollfepggicehabDoorPpIn
namespace Go.Proofs.YtollfepggicehabDoor.Lt
open Go.RowKit Wd

/-- where an instruction at a place goes on, rising, each once -/
def nxt (i : Int × Int × Int × Int × Int) (a : Int) : List Int :=
  if i.1 = 17 then [i.2.2.2.2] else if en i.1 = true then [] else if hT i.1 = false ∨ i.2.2.2.2 = a + 1 then [a + 1] else if i.2.2.2.2 < a + 1 then [i.2.2.2.2, a + 1] else [a + 1, i.2.2.2.2]
/-- a list of numbers that the call owns is told -/
def NxR (w : World) (xs : List Int) (e : Ending) (w' : World) : Prop := ∃ v, e = .returned v ∧ Ow eI 1 3 w.heap.size w' v xs ∧ Gr w w'
theorem ow_new {w q : World} (h : w.heap.size ≤ q.heap.size) (xs : List Int) (c : Array Value) (hc : c.toList = xs.flatMap eI) (n : Nat) (hn : n = xs.length) (hl : n ≤ 4) (b : Nat) (hb : b = q.heap.size) : Ow eI 1 3 w.heap.size (q.alloc (.cells c 3)) (.slice (some ⟨b, 0, none⟩) n n) xs := by
  subst hn hb
  have e1 : (xs.flatMap eI).length = xs.length * 1 := flat_len eI_len xs
  have e2 : c.size = xs.length := by rw [← Array.length_toList, hc, e1, Nat.mul_one]
  exact ⟨e1, .inr ⟨q.heap.size, xs.length, c, rfl, h, (MapKept.heap_alloc q _).1, Nat.le_refl _, by unfold maxLen; omega, by rw [e2, Nat.mul_one], by rw [hc, ← e1, List.take_length]⟩⟩
set_option maxHeartbeats 1000000 in
set_option maxRecDepth 20000 in
theorem rnext_any (P : Nat → Prop) (w : World) (aoc aof aot : Option Addr) (nc nf nt cac caf cat : Nat) (cs : List Int) (h : Ls eU P w (.slice aoc nc cac) cs) (hu : U32s cs) (hc : nc ≤ 4096) (a : Nat) (n : Int) (hx : cs[a]? = some n) :
    Calls Tryd.prog 55 #[.agg #[.slice aoc nc cac, .slice aof nf caf, .slice aot nt cat], .int .i64 (a : Nat)] w (NxR w (nxt (dI n) (a : Nat))) := by
  obtain ⟨u0, u1⟩ := hu n (List.mem_of_getElem? hx)
  have HD := hid (fun (W : World) => rdecode_all n u0 u1 W)
  have hlen : a < nc := by rw [h.len.1]; exact (List.getElem?_eq_some_iff.1 hx).1
  obtain ⟨g, o, cap', hv, _, hgl, _, hcs⟩ := h.get eU_len hx
  injection hv with hv1 hv2 hv3
  subst hv1
  have c0 := hcs 0 _ rfl
  rw [Nat.mul_one, Nat.add_zero] at c0
  have HH := hid (fun (o : Int) (W : World) => jumps_any o W)
  have HN := hid (fun (o : Int) (W : World) => ends_any o W)
  have K1 := hid (Gr.alloc (Gr.refl w) #[.slice (some ⟨g, o, none⟩) nc cac, .slice aof nf caf, .slice aot nt cat] 26)
  have q0 : (0 : Int) ≤ (a : Int) := by omega
  have q1 : (a : Int) < (nc : Int) := by omega
  obtain ⟨X, hX⟩ : ∃ r, r = nxt (dI n) (a : Nat) := ⟨_, rfl⟩
  rw [← hX]
  unfold nxt at hX
  have HX := hid hX
  unfold iV at HD
  generalize dI n = I at HD HX
  generalize dE n = E at HD
  obtain ⟨o1, o2, o3, o4, im⟩ := I
  simp only at HD HX
  clear hX hv2 hv3 hcs hx h u0 u1 hu
  by_cases k0 : o1 = 17
  · subst k0
    have hr : X = [im] := by rw [HX.out]; simp
    subst hr
    go_enter Tryd.func55, Tryd.ntmps55
    go_wp2_with (first | (go_at_call 10; refine (HD.out _).mono ?_; rintro e w3 ⟨rfl, g3⟩; have G3 := hid (Gr.trans K1.out g3); have G4 := hid (Gr.alloc (Gr.trans K1.out g3) #[.int .i64 (17 : Int), .int .i64 o2, .int .i64 o3, .int .i64 o4, .int .i64 im] 37); clear g3) | (go_at_call 52; refine (HH.out _ _).mono ?_; rintro e w4 ⟨rfl, hw⟩; have hw := hw.symm; subst hw) | (go_at_call 53; refine (HN.out _ _).mono ?_; rintro e w4 ⟨rfl, hw⟩; have hw := hw.symm; subst hw))
    go_ret
    exact ⟨_, rfl, ow_new (q := w3.alloc (.cells #[.int .i64 (17 : Int), .int .i64 o2, .int .i64 o3, .int .i64 o4, .int .i64 im] 37)) (by have := G4.out.size; exact this) [im] #[.int .i64 (im)] rfl 1 rfl (by omega) _ (by simp), Ch.alloc G4.out _⟩
  · have k0' : (o1 == 17) = false := by simpa using k0
    cases k1 : en o1 with
    | true =>
      have hr : X = [] := by rw [HX.out]; simp [k0, k1]
      subst hr
      go_enter Tryd.func55, Tryd.ntmps55
      go_wp2_with (first | (go_at_call 10; refine (HD.out _).mono ?_; rintro e w3 ⟨rfl, g3⟩; have G3 := hid (Gr.trans K1.out g3); have G4 := hid (Gr.alloc (Gr.trans K1.out g3) #[.int .i64 o1, .int .i64 o2, .int .i64 o3, .int .i64 o4, .int .i64 im] 37); clear g3) | (go_at_call 52; refine (HH.out _ _).mono ?_; rintro e w4 ⟨rfl, hw⟩; have hw := hw.symm; subst hw) | (go_at_call 53; refine (HN.out _ _).mono ?_; rintro e w4 ⟨rfl, hw⟩; have hw := hw.symm; subst hw))
      go_ret
      exact ⟨_, rfl, Ow.nil _ _ _ _ _, G4.out⟩
    | false =>
      cases k2 : hT o1 with
      | false =>
        have hr : X = [(a : Int) + 1] := by rw [HX.out]; simp [k0, k1, k2]
        subst hr
        go_enter Tryd.func55, Tryd.ntmps55
        go_wp2_with (first | (go_at_call 10; refine (HD.out _).mono ?_; rintro e w3 ⟨rfl, g3⟩; have G3 := hid (Gr.trans K1.out g3); have G4 := hid (Gr.alloc (Gr.trans K1.out g3) #[.int .i64 o1, .int .i64 o2, .int .i64 o3, .int .i64 o4, .int .i64 im] 37); clear g3) | (go_at_call 52; refine (HH.out _ _).mono ?_; rintro e w4 ⟨rfl, hw⟩; have hw := hw.symm; subst hw) | (go_at_call 53; refine (HN.out _ _).mono ?_; rintro e w4 ⟨rfl, hw⟩; have hw := hw.symm; subst hw))
        go_ret
        exact ⟨_, rfl, ow_new (q := w3.alloc (.cells #[.int .i64 o1, .int .i64 o2, .int .i64 o3, .int .i64 o4, .int .i64 im] 37)) (by have := G4.out.size; exact this) [(a : Int) + 1] #[.int .i64 ((a : Int) + 1)] rfl 1 rfl (by omega) _ (by simp), Ch.alloc G4.out _⟩
      | true =>
        by_cases k3 : im = (a : Int) + 1
        · subst k3
          have hr : X = [(a : Int) + 1] := by rw [HX.out]; simp [k0, k1, k2]
          subst hr
          go_enter Tryd.func55, Tryd.ntmps55
          go_wp2_with (first | (go_at_call 10; refine (HD.out _).mono ?_; rintro e w3 ⟨rfl, g3⟩; have G3 := hid (Gr.trans K1.out g3); have G4 := hid (Gr.alloc (Gr.trans K1.out g3) #[.int .i64 o1, .int .i64 o2, .int .i64 o3, .int .i64 o4, .int .i64 ((a : Int) + 1)] 37); clear g3) | (go_at_call 52; refine (HH.out _ _).mono ?_; rintro e w4 ⟨rfl, hw⟩; have hw := hw.symm; subst hw) | (go_at_call 53; refine (HN.out _ _).mono ?_; rintro e w4 ⟨rfl, hw⟩; have hw := hw.symm; subst hw))
          go_ret
          exact ⟨_, rfl, ow_new (q := w3.alloc (.cells #[.int .i64 o1, .int .i64 o2, .int .i64 o3, .int .i64 o4, .int .i64 ((a : Int) + 1)] 37)) (by have := G4.out.size; exact this) [(a : Int) + 1] #[.int .i64 ((a : Int) + 1)] rfl 1 rfl (by omega) _ (by simp), Ch.alloc G4.out _⟩
        · have k3' : (im == (a : Int) + 1) = false := by simpa using k3
          by_cases k4 : im < (a : Int) + 1
          · have d4 : decide (im < (a : Int) + 1) = true := decide_eq_true k4
            have hr : X = [im, (a : Int) + 1] := by rw [HX.out]; simp [k0, k1, k2, k3, k4]
            subst hr
            go_enter Tryd.func55, Tryd.ntmps55
            go_wp2_with (first | (go_at_call 10; refine (HD.out _).mono ?_; rintro e w3 ⟨rfl, g3⟩; have G3 := hid (Gr.trans K1.out g3); have G4 := hid (Gr.alloc (Gr.trans K1.out g3) #[.int .i64 o1, .int .i64 o2, .int .i64 o3, .int .i64 o4, .int .i64 im] 37); clear g3) | (go_at_call 52; refine (HH.out _ _).mono ?_; rintro e w4 ⟨rfl, hw⟩; have hw := hw.symm; subst hw) | (go_at_call 53; refine (HN.out _ _).mono ?_; rintro e w4 ⟨rfl, hw⟩; have hw := hw.symm; subst hw))
            go_ret
            exact ⟨_, rfl, ow_new (q := w3.alloc (.cells #[.int .i64 o1, .int .i64 o2, .int .i64 o3, .int .i64 o4, .int .i64 im] 37)) (by have := G4.out.size; exact this) [im, (a : Int) + 1] #[.int .i64 (im), .int .i64 ((a : Int) + 1)] rfl 2 rfl (by omega) _ (by simp), Ch.alloc G4.out _⟩
          · have d4 : decide (im < (a : Int) + 1) = false := decide_eq_false k4
            have hr : X = [(a : Int) + 1, im] := by rw [HX.out]; simp [k0, k1, k2, k3, k4]
            subst hr
            go_enter Tryd.func55, Tryd.ntmps55
            go_wp2_with (first | (go_at_call 10; refine (HD.out _).mono ?_; rintro e w3 ⟨rfl, g3⟩; have G3 := hid (Gr.trans K1.out g3); have G4 := hid (Gr.alloc (Gr.trans K1.out g3) #[.int .i64 o1, .int .i64 o2, .int .i64 o3, .int .i64 o4, .int .i64 im] 37); clear g3) | (go_at_call 52; refine (HH.out _ _).mono ?_; rintro e w4 ⟨rfl, hw⟩; have hw := hw.symm; subst hw) | (go_at_call 53; refine (HN.out _ _).mono ?_; rintro e w4 ⟨rfl, hw⟩; have hw := hw.symm; subst hw))
            go_ret
            exact ⟨_, rfl, ow_new (q := w3.alloc (.cells #[.int .i64 o1, .int .i64 o2, .int .i64 o3, .int .i64 o4, .int .i64 im] 37)) (by have := G4.out.size; exact this) [(a : Int) + 1, im] #[.int .i64 ((a : Int) + 1), .int .i64 (im)] rfl 2 rfl (by omega) _ (by simp), Ch.alloc G4.out _⟩
end Go.Proofs.YtollfepggicehabDoor.Lt
