/-
  A case's text, and how long an instruction's text may be. Condition: the tables lie where they lie.
-/
import Derived.Test.YtbehlhnnfdkmaaaGreatDoorLtWrite
import Derived.Test.YtbehlhnnfdkmaaaGreatDoorLtText
namespace Go.Proofs.YtbehlhnnfdkmaaaGreatDoor.Lt
open Go.RowKit Wd

theorem insT_size (k : Nat) (a b c m : Int) (ha : I64 a) (hb : I64 b) (hc : I64 c) (hm : I64 m) : (insT k a b c m).size ≤ 101 := by
  have hv : ∀ v ∈ [a, b, c].take (fR (sh k)), -9223372036854775808 ≤ v ∧ v ≤ 9223372036854775807 := fun v hv => by
    have := List.mem_of_mem_take hv
    simp only [List.mem_cons, List.not_mem_nil, or_false] at this
    rcases this with rfl | rfl | rfl
    · exact ha
    · exact hb
    · exact hc
  have h1 := rgT_size (nm k) (nm_le k) ([a, b, c].take (fR (sh k))) hv
  have h2 : ([a, b, c].take (fR (sh k))).length ≤ 3 := by rw [List.length_take]; simp; omega
  have h3 := cal_size (knd (k : Nat)) m hm.1 hm.2
  unfold insT
  split
  · rw [ByteArray.size_append, ByteArray.size_append]
    have : ({ data := #[32] } : ByteArray).size = 1 := rfl
    omega
  · omega
/-- a case's text -/
def csT (c : Cs) : ByteArray := if c.send = true then insT 29 c.ch c.val 0 0 else insT 30 c.ch c.val c.ok 0
theorem csT_size {c : Cs} (h : cf c = true) : (csT c).size ≤ 101 := by
  unfold cf at h
  unfold csT
  split
  · rename_i q
    rw [if_pos q] at h
    obtain ⟨⟨a0, a1⟩, ⟨b0, b1⟩, _⟩ := fit_bd (sh_lt 29) h
    exact insT_size _ _ _ _ _ ⟨by omega, by omega⟩ ⟨by omega, by omega⟩ ⟨by omega, by omega⟩ ⟨by omega, by omega⟩
  · rename_i q
    rw [if_neg q] at h
    obtain ⟨⟨a0, a1⟩, ⟨b0, b1⟩, h3⟩ := fit_bd (sh_lt 30) h
    exact insT_size _ _ _ _ _ ⟨by omega, by omega⟩ ⟨by omega, by omega⟩ ⟨by omega, by omega⟩ ⟨by omega, by omega⟩
theorem caseText_any (c : Cs) (h : cf c = true) (w : World) (hg : Glb w) : Calls Tryz.prog 31 #[iV (cI c)] w fun e w' => e = .returned (.string (csT c)) ∧ Gr w w' := by
  obtain ⟨s, a, b, d⟩ := c
  cases s with
  | true =>
    have h' : fit (sh 29) a b 0 0 = true := h
    obtain ⟨⟨a0, a1⟩, ⟨b0, b1⟩, _⟩ := fit_bd (sh_lt 29) h'
    exact instruction_any 29 (by omega) (by omega) a b 0 0 ⟨by omega, by omega⟩ ⟨by omega, by omega⟩ ⟨by omega, by omega⟩ ⟨by omega, by omega⟩ w hg
  | false =>
    have h' : fit (sh 30) a b d 0 = true := h
    obtain ⟨⟨a0, a1⟩, ⟨b0, b1⟩, h3⟩ := fit_bd (sh_lt 30) h'
    exact instruction_any 30 (by omega) (by omega) a b d 0 ⟨by omega, by omega⟩ ⟨by omega, by omega⟩ ⟨by omega, by omega⟩ ⟨by omega, by omega⟩ w hg
section
variable {base X : Nat} {w w' : World}
theorem Pin.sw {P : Nat → Prop} {vc vf vt : Value} {cs : List Int} {fs : List (Int × Int)} {ts : List Tb} (h : Pin P w vc vf vt cs fs ts) (hp : ∀ g, P g → g < base ∧ g ≠ X) (k : Ch (SW base X) w w') : Pin P w' vc vf vt cs fs ts := by
  have n : ∀ g, g < w.heap.size → P g → ¬ SW base X g := fun g _ q e => by
    have := hp g q
    rcases e with e | e
    · exact this.2 e
    · omega
  exact ⟨h.c.ch k n, h.f.ch k n, h.t.ch k n, fun t ht => (h.cs t ht).ch k n⟩
theorem Glb.sw (h : Glb w) (hX : 10 < X) (hb : X < base) (k : Ch (SW base X) w w') : Glb w' := h.ch k (fun x e => by
  rcases e with e | e
  · rw [e]
    exact hX
  · omega)
end
end Go.Proofs.YtbehlhnnfdkmaaaGreatDoor.Lt
