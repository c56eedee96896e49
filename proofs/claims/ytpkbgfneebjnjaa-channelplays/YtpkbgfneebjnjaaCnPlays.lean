/-
  ChannelPlays walked: it answers true. Conditions: the script is not too long, goroutines' numbers are ints.
-/
import Derived.Test.YtpkbgfneebjnjaaCnMd
import Derived.Deep.Cut
namespace Go.Proofs.Ytpkbgfneebjnjaa.Lt
open Go.RowKit Wd
attribute [local go_sem ↓] Go.wp_at_zero Go.wp_at_succ

/-- the channels behind acts -/
def runF (cs : List Cn) (l : List Ac) : List Cn := l.foldl actF cs
theorem runF_snoc (cs : List Cn) (l : List Ac) (a : Ac) : runF cs (l ++ [a]) = actF (runF cs l) a := by unfold runF; rw [List.foldl_append]; rfl
theorem gd_nil : Gd 0 [] := ⟨Nat.zero_le _, fun c hc => (by cases hc), fun c hc => (by cases hc), Nat.le_refl _, fun c hc => (by cases hc)⟩
theorem gd_run {N : Nat} {cs : List Cn} (h : Gd N cs) : ∀ l : List Ac, (∀ a ∈ l, Gok a.s a.g) → Gd (N + l.length) (runF cs l) := by
  intro l
  induction l generalizing N cs with
  | nil => intro _; exact h
  | cons a r ih =>
    intro hk
    have := ih (h.act a (hk a List.mem_cons_self)) (fun b hb => hk b (List.mem_cons_of_mem _ hb))
    refine (show Gd (N + (a :: r).length) (runF (actF cs a) r) from ?_)
    rw [List.length_cons, show N + (r.length + 1) = N + 1 + r.length by omega]
    exact this
theorem rds_empty (w : World) (T : TypeId) (P : Nat → Prop) : Rds P (w.alloc (.cells #[] T)) (.slice (some ⟨w.heap.size, 0, none⟩) 0 0) [] := by
  exact ⟨[], ⟨_, _, rfl, ⟨Nat.le_refl _, fun e => (by cases e)⟩, .inl rfl⟩, rfl, fun i x c hx => (by simp at hx)⟩
set_option maxRecDepth 20000 in
set_option maxHeartbeats 4000000 in
theorem plays_walk (P : Nat → Prop) (w : World) (ao : Option Addr) (n cap : Nat) (acts : List Ac) (h : Ls eA P w (.slice ao n cap) acts) (hk : ∀ a ∈ acts, Gok a.s a.g) (hn : n ≤ 2513169434843) :
    Calls Try.prog 3 #[.slice ao n cap] w fun e w' => e = .returned (.bool true) ∧ Gr w w' := by
  have HLS := hid h
  have HLL := hid h.len.1
  have HK := hid hk
  have HNW := hid (new_any w)
  have HLV := hid lives_any
  clear h hk
  go_enter Try.func3, Try.ntmps3
  go_wp2_with (first
    | (go_at_call 9; refine HNW.out.mono ?_; rintro e w1 ⟨b, t1, rfl, c1, g1, z1⟩; have C1 := hid c1; have G1 := hid g1; have Z1 := hid z1; clear c1 g1 z1)
    | (go_at_call 10; refine (HLV.out _).mono ?_; rintro e w2 ⟨rfl, g2⟩; have C2 := hid (C1.out.gr g2); have G2 := hid (Gr.trans G1.out g2); clear g2))
  have GE := hid (show Gr w2 (w2.alloc (.cells #[] 64)) from Ch.alloc (Gr.refl _) _)
  have RE := hid (rds_empty w2 64 (fun q => t1 q = .no))
  go_loopg [4, 6] n (fun q v4 v6 wr => ∃ (j : Nat) (t : Nat → Tg), j + q = n ∧ v6 = .int .i64 (j : Int) ∧ Cs t wr b (runF [] (acts.take j)) ∧ Rds (fun q => t q = .no) wr v4 (runF [] (acts.take j)) ∧ (∀ q, q < w.heap.size → t q = .no) ∧ Gr w wr)
  case atStart => exact ⟨0, t1, by omega, rfl, C2.out.gr GE.out, RE.out, Z1.out, Gr.trans G2.out GE.out⟩
  case round =>
    obtain ⟨j, t, hjq, rfl, hC, hR, hZ, hG⟩ := hrel
    have CJ := hid hC
    have RJ := hid hR
    have ZJ := hid hZ
    have GJ := hid hG
    clear hC hR hZ hG C1 C2 G1 G2 Z1 GE RE
    have HGD := hid (show Gd j (runF [] (acts.take j)) from by
      have := gd_run gd_nil (acts.take j) (fun a ha => HK.out a (List.mem_of_mem_take ha))
      rw [List.length_take] at this
      exact this.up (by omega))
    by_cases hj : j < n
    · obtain ⟨⟨k, ch, s, g, v, c, sd⟩, hx⟩ : ∃ x, acts[j]? = some x := ⟨_, List.getElem?_eq_getElem (by rw [← HLL.out]; exact hj)⟩
      obtain ⟨gg, oo, cap', hv, _, hgl, _, hcs⟩ := (HLS.out.gr GJ.out).get eA_len hx
      injection hv with hv1 hv2 hv3
      subst hv1
      clear hv2 hv3
      have c0 := hcs 0 _ rfl
      have c1 := hcs 1 _ rfl
      have c2 := hcs 2 _ rfl
      have c3 := hcs 3 _ rfl
      have c4 := hcs 4 _ rfl
      have c5 := hcs 5 _ rfl
      have c6 := hcs 6 _ rfl
      simp only [Nat.add_zero] at c0
      have j0 : (0 : Int) ≤ (j : Int) := by omega
      have j1 : (j : Int) < (n : Int) := by omega
      have HD := hid (does_any CJ.out RJ.out HGD.out (by omega) ⟨k, ch, s, g, v, c, sd⟩ (HK.out _ (List.mem_of_getElem? hx)))
      dsimp only [Ac.row] at HD
      rw [← runF_snoc, ← take_one hx] at HD
      clear hcs hx hgl
      go_wp2_with (go_at_call 11; refine HD.out.mono ?_; rintro e w3 ⟨l3, rfl, t3, c3', r3, n3⟩; have C3 := hid c3'; have R3 := hid r3; obtain ⟨g3, z3⟩ := Tn.base ZJ.out GJ.out n3; have G3 := hid g3; have Z3 := hid z3; clear c3' r3 n3 g3 z3)
      go_roundg (gk - 1)
      case measure => omega
      case rel =>
        refine ⟨j + 1, t3, ?_, ?_, C3.out, R3.out, Z3.out, G3.out⟩
        · omega
        · first | with_reducible rfl | simp
    · have jn : ¬ (j : Int) < (n : Int) := by omega
      have HT1 := hid (fun (W : World) (p : Gr wr W) => told_any (CJ.out.gr p) (RJ.out.gr p) HGD.out (by omega) ⟨0, 1, 0, 0, 0, 0, false⟩ (by unfold Gok; dsimp only; omega))
      have HT2 := hid (fun (W : World) (p : Gr wr W) => told_any (CJ.out.gr p) (RJ.out.gr p) HGD.out (by omega) ⟨0, -1, 0, 0, 0, 0, false⟩ (by unfold Gok; dsimp only; omega))
      dsimp only [Ac.row] at HT1 HT2
      go_wp2_with (first
        | (go_at_call 12; refine (HT2.out _ G3.out).mono ?_; rintro e w4 ⟨rfl, g4⟩; have G4 := hid (Gr.trans G3.out g4); clear g4)
        | (go_at_call 12; refine (HT1.out _ (Gr.refl _)).mono ?_; rintro e w3 ⟨rfl, g3⟩; have G3 := hid g3; clear g3))
      go_ret
      exact ⟨rfl, Gr.trans GJ.out G4.out⟩
theorem plays_any (P : Nat → Prop) (v : Value) (acts : List Ac) (w : World) (h : Ls eA P w v acts) (hb : acts.length * 56 ≤ 140737488351232) (hk : ∀ a ∈ acts, Gok a.s a.g) :
    Calls Try.prog 3 #[v] w fun e w' => e = .returned (.bool true) ∧ Gr w w' := by
  obtain ⟨ao, cap, rfl⟩ := h.form
  exact plays_walk P w ao acts.length cap acts h hk (by omega)
end Go.Proofs.Ytpkbgfneebjnjaa.Lt
