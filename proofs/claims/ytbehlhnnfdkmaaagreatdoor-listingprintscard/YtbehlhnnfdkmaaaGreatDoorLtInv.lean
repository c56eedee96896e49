/-
  What holds of a reader behind any lines. No conditions.
-/
import Derived.Test.YtbehlhnnfdkmaaaGreatDoorLtProg
namespace Go.Proofs.YtbehlhnnfdkmaaaGreatDoor.Lt
open Go.RowKit Wd

/-- as many of each as lines were read -/
structure Inv (j : Nat) (x : Rs) : Prop where
  a : x.ask.length ≤ j
  f : x.fn.length ≤ j
  t : x.tb.length ≤ j
  fb : ∀ f ∈ x.fn, f.2 ≤ j
  cb : ∀ cs, (∃ d, (cs, d) ∈ x.tb) → cs.length ≤ j
  ok : Rok x
  xor : x.inF = true → x.inT = false
  ak : ∀ a ∈ x.ask, Aok a
theorem Inv.bnd {j : Nat} {x : Rs} (h : Inv j x) (hj : j ≤ 4294967296) : Bnd x :=
  ⟨⟨by have := h.a; omega, by have := h.f; omega, by have := h.t; omega⟩, h.ok, h.xor, fun f hf => by have := h.fb f hf; omega, fun cs hc => by have := h.cb cs hc; omega⟩
def x0 : Rs := ⟨[], [], [], [], false, false⟩
theorem Inv.zero : Inv 0 x0 := ⟨by simp [x0], by simp [x0], by simp [x0], by simp [x0], by simp [x0], ⟨by simp [x0], by simp [x0]⟩, by simp [x0], by simp [x0]⟩
theorem Inv.up {j : Nat} {x : Rs} (h : Inv j x) : Inv (j + 1) x := ⟨by have := h.a; omega, by have := h.f; omega, by have := h.t; omega, fun f hf => by have := h.fb f hf; omega, fun cs hc => by have := h.cb cs hc; omega, h.ok, h.xor, h.ak⟩
theorem Inv.give {j : Nat} {x : Rs} (h : Inv j x) (k : Nm) (v : Int) : Inv j (giveS x k v) := by
  unfold giveS
  split
  · exact h
  · exact ⟨h.a, h.f, h.t, h.fb, h.cb, ⟨h.ok.f, h.ok.t⟩, h.xor, h.ak⟩
theorem giveS_same (x : Rs) (k : Nm) (v : Int) : (giveS x k v).ask = x.ask ∧ (giveS x k v).fn = x.fn ∧ (giveS x k v).tb = x.tb := by
  unfold giveS
  split <;> exact ⟨rfl, rfl, rfl⟩
theorem knd_bd (o : Int) : 0 ≤ knd o ∧ knd o ≤ 3 := by
  unfold knd
  repeat' split
  all_goals omega
theorem rnA_le (k : Int) (s : ByteArray) : (rnA k s).size ≤ s.size := by
  unfold rnA
  split
  · show (0 : Nat) ≤ _; omega
  · split
    · exact Nat.le_refl _
    · show (0 : Nat) ≤ _; omega
theorem fA_le (k : Nat) (ws : List ByteArray) (hz : Sml ws) : (fA k ws).size ≤ 4294967296 := by
  unfold fA
  split
  · unfold aN
    split
    · refine Nat.le_trans (rnA_le _ _) ?_
      unfold wN
      cases h : ws[fR (sh k)]? with
      | none => show (0 : Nat) ≤ _; omega
      | some s => exact hz s (List.mem_of_getElem? h)
    · show (0 : Nat) ≤ _; omega
  · show (0 : Nat) ≤ _; omega
theorem Inv.next {j : Nat} {x : Rs} {P : Nat → Prop} {w : World} {l : Ln} (h : Inv j x) (hj : j ≤ 4294967295) (hk : LnOk P w l) (hE : rdE x l = 0) : Inv (j + 1) (rdS x l) := by
  unfold rdE at hE
  unfold rdS
  split at hE
  · rename_i c
    rw [if_pos c]
    unfold rfS
    have g := (h.give (rfN l.ws.tail) (x.fn.length : Nat))
    obtain ⟨e1, e2, e3⟩ := giveS_same x (rfN l.ws.tail) (x.fn.length : Nat)
    refine ⟨by have := g.a; simpa using Nat.le_succ_of_le this, by have := h.f; simp; omega, by have := g.t; simpa using Nat.le_succ_of_le this, fun f hf => ?_, fun cs hc => Nat.le_succ_of_le (g.cb cs hc), ⟨fun _ => (by simp), fun e => (by cases e)⟩, fun _ => rfl, g.ak⟩
    rcases List.mem_append.1 hf with hf | hf
    · exact Nat.le_succ_of_le (h.fb f hf)
    · have e : f = (x.ask.length, x.ask.length) := by simpa using hf
      rw [e]
      exact Nat.le_succ_of_le h.a
  · rename_i c1
    split at hE
    · rename_i c
      rw [if_neg c1, if_pos c]
      unfold rtS
      have g := (h.give (rtN l.ws.tail) (x.tb.length : Nat))
      refine ⟨by have := g.a; simpa using Nat.le_succ_of_le this, by have := g.f; simpa using Nat.le_succ_of_le this, by have := h.t; simp; omega, fun f hf => Nat.le_succ_of_le (g.fb f hf), fun cs hc => ?_, ⟨fun e => (by cases e), fun _ => (by simp)⟩, fun e => (by cases e), g.ak⟩
      obtain ⟨d, hd⟩ := hc
      rcases List.mem_append.1 hd with hd | hd
      · exact Nat.le_succ_of_le (h.cb cs ⟨d, hd⟩)
      · have e : cs = [] := by
          have := List.mem_singleton.1 hd
          injection this
        rw [e]
        simp
    · rename_i c2
      split at hE
      · rename_i c
        rw [if_neg c1, if_neg c2, if_pos c]
        exact (h.give _ _).up
      · rename_i c3
        rw [if_neg c1, if_neg c2, if_neg c3]
        split at hE
        · rename_i c4
          have hop : 1 ≤ l.op ∧ l.op < 59 := by
            have k1 := hk.kind
            have k2 := hk.op
            have hfl := fop_lt (l.ws.headD ⟨#[]⟩)
            unfold kd at k1 k2
            rw [c4] at k1
            split at k1
            · cases k1
            · split at k1
              · cases k1
              · split at k1
                · cases k1
                · split at k1
                  · cases k1
                  · rename_i q1 q2 q3 q4
                    rw [if_neg q1, if_neg q2, if_neg q3, if_neg q4] at k2
                    have k3 : l.op = fop (l.ws.headD ⟨#[]⟩) := k2
                    omega
          unfold roE at hE
          split at hE
          · rename_i f0
            unfold roS
            by_cases hC : roC x l.op = true
            · rw [if_pos hC]
              refine ⟨Nat.le_succ_of_le h.a, Nat.le_succ_of_le h.f, by have := h.t; simp; omega, fun f hf => Nat.le_succ_of_le (h.fb f hf), fun cs hc => ?_, ⟨h.ok.f, fun e => ?_⟩, h.xor, h.ak⟩
              · obtain ⟨d, hd⟩ := hc
                obtain ⟨i, hi⟩ := List.getElem?_of_mem hd
                rw [List.getElem?_modify] at hi
                cases hx : x.tb[i]? with
                | none => rw [hx] at hi; cases hi
                | some y =>
                  rw [hx] at hi
                  have hy := h.cb y.1 ⟨y.2, List.mem_of_getElem? hx⟩
                  simp only [Option.map_eq_map, Option.map_some, Option.some.injEq] at hi
                  split at hi
                  · injection hi with e1 e2
                    rw [← e1]
                    simp
                    omega
                  · rw [hi] at hy
                    exact Nat.le_succ_of_le hy
              · have := h.ok.t e
                intro e2
                apply this
                have e3 := congrArg List.length e2
                simp at e3
                exact e3
            · rw [if_neg hC]
              rw [if_neg hC] at hE
              split at hE
              · rename_i iF
                refine ⟨by have := h.a; simp; omega, by have := h.f; simp; omega, Nat.le_succ_of_le h.t, fun f hf => ?_, fun cs hc => Nat.le_succ_of_le (h.cb cs hc), ⟨fun e => ?_, h.ok.t⟩, h.xor, fun a ha => ?_⟩
                · obtain ⟨i, hi⟩ := List.getElem?_of_mem hf
                  rw [List.getElem?_modify] at hi
                  cases hx : x.fn[i]? with
                  | none => rw [hx] at hi; cases hi
                  | some y =>
                    rw [hx] at hi
                    have hy := h.fb y (List.mem_of_getElem? hx)
                    simp only [Option.map_eq_map, Option.map_some, Option.some.injEq] at hi
                    split at hi
                    · rw [← hi]
                      simp
                      omega
                    · rw [← hi]
                      omega
                · have := h.ok.f e
                  intro e2
                  apply this
                  have e3 := congrArg List.length e2
                  simp at e3
                  exact e3
                · rcases List.mem_append.1 ha with ha | ha
                  · exact h.ak a ha
                  · have e : a = ⟨l.num, fI l.op l.ws.tail, roN x l.op l.ws.tail⟩ := by simpa using ha
                    subst e
                    refine ⟨⟨l.op, hop.1, hop.2, ?_⟩, ?_⟩
                    · show (fI l.op l.ws.tail).1 = _
                      unfold fI
                      rw [if_pos f0]
                    · show Nok (roN x l.op l.ws.tail)
                      unfold roN
                      split
                      · have kb := knd_bd (l.op : Nat)
                        have hfl := h.f
                        refine ⟨kb, ?_, fA_le _ _ (fun y hy => hk.small y (List.mem_of_mem_tail hy))⟩
                        unfold insN
                        simp only
                        split <;> omega
                      · exact ⟨⟨by show (0 : Int) ≤ 0; omega, by show (0 : Int) ≤ 3; omega⟩, ⟨by show (-1 : Int) ≤ 0; omega, by show (0 : Int) ≤ 4294967296; omega⟩, by show (0 : Nat) ≤ _; omega⟩
              · cases hE
          · exact absurd hE ‹_›
        · cases hE
end Go.Proofs.YtbehlhnnfdkmaaaGreatDoor.Lt
