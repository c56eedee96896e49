/-
  What Line answers, the program's and the document's. Conditions: the tables lie where they lie; a word is one.
-/
import Derived.Test.YtbehlhnnfdkmaaaGreatDoorLtDec
import Derived.Test.YtbehlhnnfdkmaaaGreatDoorLtRDec
import Derived.Test.YtbehlhnnfdkmaaaGreatDoorLtMp
namespace Go.Proofs.YtbehlhnnfdkmaaaGreatDoor.Lt
open Go.RowKit Wd

/-- a word's operation, if there is one -/
def opOf (n : Int) : Nat := (n / 16777216).toNat
/-- does a word decode? -/
def dE (n : Int) : Int := if n / 16777216 < 1 ∨ 58 < n / 16777216 then 60 else if fit (sh (opOf n)) (dA n) (dB n) (dC (sh (opOf n)) n) (dM (sh (opOf n)) n) = true then 0 else 61
/-- its fields -/
def dI (n : Int) : Int × Int × Int × Int × Int := if dE n = 0 then ((opOf n : Nat), dA n, dB n, dC (sh (opOf n)) n, dM (sh (opOf n)) n) else (0, 0, 0, 0, 0)
theorem decode_all (n : Int) (h0 : 0 ≤ n) (h1 : n < 4294967296) (w : World) (hg : Glb w) : Calls Tryz.prog 30 #[.int .u32 n] w fun e w' => e = .returned (.tuple #[iV (dI n), .int .i64 (dE n)]) ∧ Gr w w' := by
  rcases kn_cases (n / 16777216) with h | ⟨k, k1, k2, hk⟩
  · have e1 : dE n = 60 := by unfold dE; rw [if_pos h]
    have e2 : dI n = (0, 0, 0, 0, 0) := by unfold dI; rw [e1]; rfl
    rw [e1, e2]
    exact decode_no n h0 h1 h w
  · have hop : opOf n = k := by unfold opOf; omega
    have hno : ¬ (n / 16777216 < 1 ∨ 58 < n / 16777216) := by omega
    refine (decode_yes k n k1 k2 h0 h1 hk w hg.n hg.f).mono ?_
    rintro e w1 ⟨rfl, g⟩
    refine ⟨?_, g⟩
    cases hq : fit (sh k) (dA n) (dB n) (dC (sh k) n) (dM (sh k) n) with
    | true =>
      have e1 : dE n = 0 := by unfold dE; rw [if_neg hno, hop, hq]; rfl
      have e2 : dI n = (((k : Nat) : Int), dA n, dB n, dC (sh k) n, dM (sh k) n) := by unfold dI; rw [e1, hop]; rfl
      rw [e1, e2]
      rfl
    | false =>
      have e1 : dE n = 61 := by unfold dE; rw [if_neg hno, hop, hq]; rfl
      have e2 : dI n = (0, 0, 0, 0, 0) := by unfold dI; rw [e1]; rfl
      rw [e1, e2]
      rfl
theorem rdecode_all (n : Int) (h0 : 0 ≤ n) (h1 : n < 4294967296) (w : World) : Calls Tryz.prog 32 #[.int .u32 n] w fun e w' => e = .returned (.tuple #[iV (dI n), .int .i64 (dE n)]) ∧ Gr w w' := by
  rcases kn_cases (n / 16777216) with h | ⟨k, k1, k2, hk⟩
  · have e1 : dE n = 60 := by unfold dE; rw [if_pos h]
    have e2 : dI n = (0, 0, 0, 0, 0) := by unfold dI; rw [e1]; rfl
    rw [e1, e2]
    exact rdecode_no n h0 h1 h w
  · have hop : opOf n = k := by unfold opOf; omega
    have hno : ¬ (n / 16777216 < 1 ∨ 58 < n / 16777216) := by omega
    refine (rdec_yes k n k1 k2 h0 h1 hk w).mono ?_
    rintro e w1 ⟨rfl, g⟩
    refine ⟨?_, g⟩
    cases hq : fit (sh k) (dA n) (dB n) (dC (sh k) n) (dM (sh k) n) with
    | true =>
      have e1 : dE n = 0 := by unfold dE; rw [if_neg hno, hop, hq]; rfl
      have e2 : dI n = (((k : Nat) : Int), dA n, dB n, dC (sh k) n, dM (sh k) n) := by unfold dI; rw [e1, hop]; rfl
      rw [e1, e2]
      rfl
    | false =>
      have e1 : dE n = 61 := by unfold dE; rw [if_neg hno, hop, hq]; rfl
      have e2 : dI n = (0, 0, 0, 0, 0) := by unfold dI; rw [e1]; rfl
      rw [e1, e2]
      rfl
/-- a word's text -/
def wT (n : Int) : ByteArray := if dE n = 0 then insT (opOf n) (dA n) (dB n) (dC (sh (opOf n)) n) (dM (sh (opOf n)) n) else { data := #[] }
theorem dE_ok {n : Int} (h : dE n = 0) : (1 ≤ opOf n ∧ opOf n < 59) ∧ dI n = (((opOf n : Nat) : Int), dA n, dB n, dC (sh (opOf n)) n, dM (sh (opOf n)) n) := by
  constructor
  · unfold dE at h
    split at h
    · cases h
    · unfold opOf; omega
  · unfold dI; rw [h]; rfl
theorem d_bd (n : Int) (_h0 : 0 ≤ n) (_h1 : n < 4294967296) (s : Nat) : I64 (dA n) ∧ I64 (dB n) ∧ I64 (dC s n) ∧ I64 (dM s n) := by
  unfold I64 dA dB dC dM lowC lowM
  refine ⟨by omega, by omega, ?_, ?_⟩
  · split <;> omega
  · split
    · omega
    · split
      · split <;> omega
      · omega
/-- what Line answers of words -/
def lnT (cs : List Int) (at_ : Int) : ByteArray := if 0 ≤ at_ then (match cs[at_.toNat]? with | some n => wT n | none => { data := #[] }) else { data := #[] }
def lnE (cs : List Int) (at_ : Int) : Int := if 0 ≤ at_ then (match cs[at_.toNat]? with | some n => dE n | none => 1) else 1
/-- words -/
def U32s (cs : List Int) : Prop := ∀ n ∈ cs, 0 ≤ n ∧ n < 4294967296

set_option maxHeartbeats 1000000 in
set_option maxRecDepth 20000 in
theorem line_any (P : Nat → Prop) (w : World) (vc vf vt : Value) (cs : List Int) (at_ : Int) (hl : Ls eU P w vc cs) (hu : U32s cs) (hg : Glb w) :
    Calls Tryz.prog 13 #[.agg #[vc, vf, vt], .int .i64 at_] w fun e w' => e = .returned (.tuple #[.string (lnT cs at_), .int .i64 (lnE cs at_)]) ∧ Gr w w' := by
  obtain ⟨ao, cap, rfl⟩ := hl.form
  have hcap := hl.len.2.1
  obtain ⟨n, hn⟩ : ∃ n, n = cs.length := ⟨_, rfl⟩
  by_cases h0 : 0 ≤ at_
  · obtain ⟨j, rfl⟩ : ∃ j : Nat, at_ = (j : Int) := ⟨at_.toNat, by omega⟩
    by_cases hj : j < cs.length
    · obtain ⟨x, hx⟩ : ∃ x, cs[j]? = some x := ⟨_, List.getElem?_eq_getElem hj⟩
      have e1 : lnT cs (j : Int) = wT x := by unfold lnT; rw [if_pos (by omega)]; simp [hx]
      have e2 : lnE cs (j : Int) = dE x := by unfold lnE; rw [if_pos (by omega)]; simp [hx]
      rw [e1, e2]
      obtain ⟨x0, x1⟩ := hu x (List.mem_of_getElem? hx)
      obtain ⟨g, o, cap', hv, _, hgl, _, hc⟩ := hl.get eU_len hx
      injection hv with hv1 hv2 hv3
      subst hv1
      have c0 := hc 0 _ rfl
      rw [Nat.mul_one, Nat.add_zero] at c0
      have K1 := hid (Gr.alloc (Gr.refl w) #[.slice (some ⟨g, o, none⟩) n cap, vf, vt] 26)
      have HD := hid (decode_all x x0 x1 _ (hg.gr K1.out))
      have HG := hid hg
      rw [← hn] at hcap hj ⊢
      have j0 : ¬ (j : Int) < 0 := by omega
      have j1 : (j : Int) < (n : Int) := by omega
      have j2 : ¬ (n : Int) ≤ (j : Int) := by omega
      have gne : ¬ g = w.heap.size := by omega
      clear hc hv2 hv3 hl hu hx e1 e2 hg hn
      by_cases hE : dE x = 0
      · obtain ⟨⟨k1, k2⟩, hI⟩ := dE_ok hE
        obtain ⟨b1, b2, b3, b4⟩ := d_bd x x0 x1 (sh (opOf x))
        have HIN := hid (fun (W : World) (q : Glb W) => instruction_any (opOf x) k1 k2 (dA x) (dB x) (dC (sh (opOf x)) x) (dM (sh (opOf x)) x) b1 b2 b3 b4 W q)
        have hT : wT x = insT (opOf x) (dA x) (dB x) (dC (sh (opOf x)) x) (dM (sh (opOf x)) x) := by unfold wT; rw [if_pos hE]
        rw [hT, hE]
        rw [hI, hE] at HD
        unfold iV at HD
        simp only at HD
        obtain ⟨TX, hTX⟩ : ∃ s, s = insT (opOf x) (dA x) (dB x) (dC (sh (opOf x)) x) (dM (sh (opOf x)) x) := ⟨_, rfl⟩
        rw [← hTX] at HIN ⊢
        generalize dA x = q1 at HD HIN
        generalize dB x = q2 at HD HIN
        generalize dC (sh (opOf x)) x = q3 at HD HIN
        generalize dM (sh (opOf x)) x = q4 at HD HIN
        generalize opOf x = kk at HD HIN
        clear hT hTX hI hE b1 b2 b3 b4 k1 k2
        go_enter Tryz.func13, Tryz.ntmps13
        go_wp2_with (first | (go_at_call 30; refine HD.out.mono ?_; rintro e w1 ⟨rfl, g1⟩; have G1 := hid (Gr.trans K1.out g1); clear g1) | (go_at_call 31; refine (HIN.out _ (HG.out.gr (Ch.alloc G1.out _))).mono ?_; rintro e w2 ⟨rfl, g2⟩; have G2 := hid (Gr.trans (Ch.alloc G1.out _) g2); clear g2))
        go_ret2
        exact ⟨rfl, G2.out⟩
      · have hT : wT x = { data := #[] } := by unfold wT; rw [if_neg hE]
        rw [hT]
        have hI : dI x = (0, 0, 0, 0, 0) := by unfold dI; rw [if_neg hE]
        rw [hI] at HD
        unfold iV at HD
        simp only at HD
        generalize dE x = E at HD hE ⊢
        clear hT hI
        go_enter Tryz.func13, Tryz.ntmps13
        go_wp2_with (go_at_call 30; refine HD.out.mono ?_; rintro e w1 ⟨rfl, g1⟩; have G1 := hid (Gr.trans K1.out g1); clear g1)
        go_ret2
        exact ⟨rfl, Ch.alloc G1.out _⟩
    · have e1 : lnT cs (j : Int) = { data := #[] } := by unfold lnT; rw [if_pos (by omega)]; simp [List.getElem?_eq_none (Nat.le_of_not_lt hj)]
      have e2 : lnE cs (j : Int) = 1 := by unfold lnE; rw [if_pos (by omega)]; simp [List.getElem?_eq_none (Nat.le_of_not_lt hj)]
      rw [e1, e2, ← hn]
      rw [← hn] at hj
      have j0 : ¬ (j : Int) < 0 := by omega
      have j2 : (n : Int) ≤ (j : Int) := by omega
      clear hl hu e1 e2 hg hn hcap
      go_enter Tryz.func13, Tryz.ntmps13
      go_wp2
      go_ret2
      exact ⟨rfl, Gr.alloc (Gr.refl w) _ _⟩
  · have e1 : lnT cs at_ = { data := #[] } := by unfold lnT; rw [if_neg h0]
    have e2 : lnE cs at_ = 1 := by unfold lnE; rw [if_neg h0]
    rw [e1, e2, ← hn]
    have j0 : at_ < 0 := by omega
    clear hl hu e1 e2 hg hn hcap h0
    go_enter Tryz.func13, Tryz.ntmps13
    go_wp2
    go_ret2
    exact ⟨rfl, Gr.alloc (Gr.refl w) _ _⟩
end Go.Proofs.YtbehlhnnfdkmaaaGreatDoor.Lt
