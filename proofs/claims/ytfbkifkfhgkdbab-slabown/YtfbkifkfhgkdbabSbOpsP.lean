/-
  What the program's Take, Give and Flush tell and leave, of a slab that may be. Condition: the slab is there and may be.
-/
import Derived.Test.YtfbkifkfhgkdbabSbGood2
namespace Go.Proofs.Ytfbkifkfhgkdbab.Sb
open Go.RowKit
open Classical
/-- the name and the error that Take tells -/
def tookN : Option Int → Sl → Int × Int × Int
  | some z, x => (z, (x.G[z.toNat]?).getD 0 + 1, 0)
  | none, _ => (0, 0, 2)
theorem tookN_some {x : Sl} {k : Nat} {g : Int} (h : x.G[k]? = some g) : tookN (some (k : Int)) x = ((k : Int), g + 1, 0) := by simp [tookN, h]
theorem tookV_fst (r : Option Int) (x : Sl) : (tookV r x).1 = .tuple #[.agg #[.int .i64 (tookN r x).1, .int .i64 (tookN r x).2.1], .int .i64 (tookN r x).2.2] := by cases r <;> rfl
theorem hasP_nat {x : Sl} {p : Int} (h : HasP x p) : ∃ (n : Nat) (c : List Int), p = (n : Int) ∧ x.C[n]? = some c := by
  obtain ⟨h1, h2⟩ := h
  obtain ⟨n, rfl⟩ : ∃ n : Nat, p = (n : Int) := ⟨p.toNat, by omega⟩
  exact ⟨n, _, rfl, List.getElem?_eq_getElem (by omega)⟩

/-- what Take tells and leaves -/
def TakeR (L : Int) (x : Sl) (p : Int) (n : Int × Int × Int) (x' : Sl) : Prop :=
  (¬ HasP x p ∧ n = (0, 0, 1) ∧ x' = x) ∨ ∃ (k : Nat) (c : List Int) (r : Option Int) (x1 : Sl), p = (k : Int) ∧ x.C[k]? = some c ∧ Freed L (refillS x k c) k r x1 ∧ n = tookN r x1 ∧ x' = (tookV r x1).2
theorem TakeR.may {L : Int} {x x' : Sl} {p : Int} {n : Int × Int × Int} (h : TakeR L x p n x') (hm : May L x) : May L x' := by
  rcases h with ⟨_, _, rfl⟩ | ⟨k, c, r, x1, _, hc, hf, _, rfl⟩
  · exact hm
  · exact ((hm.refill hc).freed hf).2

theorem take_may (S : Nat → Prop) (base b : Nat) (p L : Int) (x : Sl) (w : World) (h : SlabIn S base w b L x) (hbase : base ≤ w.heap.size) (hm : May L x) :
    Calls Try.prog 10 #[.pointer (some ⟨b, 0, none⟩), .int .i64 p] w fun e w' => ∃ n x', TakeR L x p n x' ∧ e = .returned (.tuple #[.agg #[.int .i64 n.1, .int .i64 n.2.1], .int .i64 n.2.2]) ∧ Left S base w w' b L x' := by
  by_cases hp : HasP x p
  · obtain ⟨k, c, rfl, hc⟩ := hasP_nat hp
    have hr := hm.refill hc
    have hgl := hr.gl2
    have hal := hr.ag
    have hcn := hr.c2
    have hcp : k < (refillS x k c).C.length := by
      have := (List.getElem?_eq_some_iff.1 hc).1
      unfold refillS fillS
      split
      · simpa using this
      · exact this
    refine (take_good S base b k L x c w h hbase hc (by have := hm.fl; omega) (by have := hm.cl k c hc; omega) (by omega) (by omega) (by omega) (fun q c' hq => by have := hr.cl q c' hq; omega) (fun r x' hf => (hr.freed hf).1) _ (List.getElem?_eq_getElem hcp)).mono ?_
    rintro e w' ⟨r, x1, hf, rfl, hl⟩
    exact ⟨tookN r x1, (tookV r x1).2, .inr ⟨k, c, r, x1, rfl, hc, hf, rfl, rfl⟩, by rw [tookV_fst], hl⟩
  · refine (take_bad base b p L x w h.at hp).mono ?_
    rintro e w' ⟨rfl, g⟩
    exact ⟨(0, 0, 1), x, .inl ⟨hp, rfl, rfl⟩, rfl, (Left.refl h).still g⟩
/-- what Give tells and leaves -/
def giveR (x : Sl) (p s gn : Int) : Int × Sl :=
  @ite _ (HasP x p) (inferInstanceAs (Decidable (0 ≤ p ∧ p < (x.C.length : Int)))) (if aliveB x s gn = true then (0, giveS x p.toNat s.toNat gn ((x.C[p.toNat]?).getD [])) else (41, x)) (1, x)
theorem alive_nat {x : Sl} {s gn : Int} (hag : x.A.length = x.G.length) (h : aliveB x s gn = true) : ∃ k : Nat, s = (k : Int) ∧ x.G[k]? = some gn ∧ x.A[k]? = some true := by
  unfold aliveB at h
  split at h
  · rename_i hs
    obtain ⟨k, rfl⟩ : ∃ k : Nat, s = (k : Int) := ⟨s.toNat, by omega⟩
    have hk : k < x.G.length := by omega
    rw [Bool.and_eq_true] at h
    obtain ⟨h1, h2⟩ := h
    have e1 : ((k : Int).toNat) = k := by omega
    rw [e1] at h1 h2
    rw [List.getElem?_eq_getElem (by omega)] at h1 h2
    refine ⟨k, rfl, ?_, ?_⟩
    · rw [List.getElem?_eq_getElem hk]
      simpa using h2
    · rw [List.getElem?_eq_getElem (by omega)]
      simpa using h1
  · cases h
theorem giveR_good {x : Sl} {p k : Nat} {gn : Int} {c : List Int} (hc : x.C[p]? = some c) (hG : x.G[k]? = some gn) (hA : x.A[k]? = some true) : giveR x (p : Int) (k : Int) gn = (0, giveS x p k gn c) := by
  have hp : HasP x (p : Int) := ⟨by omega, by have := (List.getElem?_eq_some_iff.1 hc).1; omega⟩
  have ha : aliveB x (k : Int) gn = true := by rw [aliveB_in hG hA]; simp
  rw [giveR, if_pos hp, if_pos ha]
  simp [hc]
theorem giveR_may {L : Int} {x : Sl} {p s gn : Int} (hm : May L x) : May L (giveR x p s gn).2 := by
  by_cases hp : HasP x p
  · by_cases ha : aliveB x s gn = true
    · obtain ⟨n, c, rfl, hc⟩ := hasP_nat hp
      obtain ⟨k, rfl, hG, hA⟩ := alive_nat hm.ag ha
      rw [giveR_good hc hG hA]
      exact hm.give hc hG hA
    · rw [giveR, if_pos hp, if_neg ha]
      exact hm
  · rw [giveR, if_neg hp]
    exact hm
theorem give_may (S : Nat → Prop) (base b : Nat) (p s gn L : Int) (x : Sl) (w : World) (h : SlabIn S base w b L x) (hbase : base ≤ w.heap.size) (hm : May L x) :
    Calls Try.prog 13 #[.pointer (some ⟨b, 0, none⟩), .int .i64 p, .agg #[.int .i64 s, .int .i64 gn]] w fun e w' => e = .returned (.int .i64 (giveR x p s gn).1) ∧ Left S base w w' b L (giveR x p s gn).2 := by
  by_cases hp : HasP x p
  · by_cases ha : aliveB x s gn = true
    · obtain ⟨n, c, rfl, hc⟩ := hasP_nat hp
      obtain ⟨k, rfl, hG, hA⟩ := alive_nat hm.ag ha
      rw [giveR_good hc hG hA]
      exact give_good S base b n k L gn x c w h hbase hc (by have := hm.cl n c hc; omega) (by have := hm.fl; omega) hm.ag.symm hG hA
    · rw [giveR, if_pos hp, if_neg ha]
      refine (give_stale base b p s gn L x w h.at hp hm.ag.symm (by simpa using ha)).mono ?_
      rintro e w' ⟨rfl, g⟩
      exact ⟨rfl, (Left.refl h).still g⟩
  · rw [giveR, if_neg hp]
    refine (give_bad base b p s gn L x w h.at hp).mono ?_
    rintro e w' ⟨rfl, g⟩
    exact ⟨rfl, (Left.refl h).still g⟩
/-- what Flush tells and leaves -/
def flushR (x : Sl) (p : Int) : Int × Sl := @ite _ (HasP x p) (inferInstanceAs (Decidable (0 ≤ p ∧ p < (x.C.length : Int)))) (0, flushS x p.toNat ((x.C[p.toNat]?).getD [])) (1, x)
theorem flushR_good {x : Sl} {p : Nat} {c : List Int} (hc : x.C[p]? = some c) : flushR x (p : Int) = (0, flushS x p c) := by
  have hp : HasP x (p : Int) := ⟨by omega, by have := (List.getElem?_eq_some_iff.1 hc).1; omega⟩
  rw [flushR, if_pos hp]
  simp [hc]
theorem flushR_may {L : Int} {x : Sl} {p : Int} (hm : May L x) : May L (flushR x p).2 := by
  by_cases hp : HasP x p
  · obtain ⟨n, c, rfl, hc⟩ := hasP_nat hp
    rw [flushR_good hc]
    exact hm.flush hc
  · rw [flushR, if_neg hp]
    exact hm
theorem flush_may (S : Nat → Prop) (base b : Nat) (p L : Int) (x : Sl) (w : World) (h : SlabIn S base w b L x) (hbase : base ≤ w.heap.size) (hm : May L x) :
    Calls Try.prog 15 #[.pointer (some ⟨b, 0, none⟩), .int .i64 p] w fun e w' => e = .returned (.int .i64 (flushR x p).1) ∧ Left S base w w' b L (flushR x p).2 := by
  by_cases hp : HasP x p
  · obtain ⟨n, c, rfl, hc⟩ := hasP_nat hp
    rw [flushR_good hc]
    exact flush_good S base b n L x c w h hbase hc (by have := hm.cl n c hc; omega) (by have := hm.fl; omega)
  · rw [flushR, if_neg hp]
    refine (flush_bad base b p L x w h.at hp).mono ?_
    rintro e w' ⟨rfl, rfl⟩
    exact ⟨rfl, Left.refl h⟩
end Go.Proofs.Ytfbkifkfhgkdbab.Sb
