/-
  ChannelSettled holds: for any script of calls the call returns true, and its arguments read afterwards as they read before. No condition but that of every argument.
-/
import Derived.Test.YtpkbgfneebjnjaaCpLdm
import Derived.Deep.Cut
import Derived.Test.YtpkbgfneebjnjaaCpFrameE
namespace Go.Proofs.Ytpkbgfneebjnjaa.Lt
open Go.RowKit Wd
attribute [local go_sem ↓] Go.wp_at_zero Go.wp_at_succ

theorem gd_ldB {N : Nat} {cs : List Cn} (h : Gd N cs) (m : MayL cs) : ldB cs = true := by
  unfold ldB
  rw [decide_eq_true h.n, Bool.true_and]
  refine List.all_eq_true.2 (fun c hc => ?_)
  unfold mayT
  rw [decide_eq_true ⟨(h.cap c hc).1, (h.cap c hc).2, h.v c hc⟩, Bool.true_and]
  exact m c hc
theorem may_nil : MayL [] := fun c hc => by cases hc
set_option maxRecDepth 20000 in
set_option maxHeartbeats 4000000 in
theorem settled_walk (P : Nat → Prop) (w : World) (ao : Option Addr) (n cap : Nat) (acts : List Ac) (h : Ls eA P w (.slice ao n cap) acts) (hk : ∀ a ∈ acts, Gok a.s a.g) (hn : n ≤ 2513169434843) :
    Calls Try.prog 6 #[.slice ao n cap] w fun e w' => e = .returned (.bool true) ∧ Gr w w' := by
  have HLS := hid h
  have HLL := hid h.len.1
  have HK := hid hk
  have HNW := hid (new_any w)
  have HLV := hid lives_any
  clear h hk
  go_enter Try.func6, Try.ntmps6
  go_wp2_with (first
    | (go_at_call 9; refine HNW.out.mono ?_; rintro e w1 ⟨b, t1, rfl, c1, g1, z1⟩; have C1 := hid c1; have G1 := hid g1; have Z1 := hid z1; clear c1 g1 z1)
    | (go_at_call 10; refine (HLV.out _).mono ?_; rintro e w2 ⟨rfl, g2⟩; have C2 := hid (C1.out.gr g2); have G2 := hid (Gr.trans G1.out g2); clear g2))
  have GE := hid (show Gr w2 (w2.alloc (.cells #[] 64)) from Ch.alloc (Gr.refl _) _)
  have RE := hid (rdr_empty w2 64 (fun q => t1 q = .no))
  go_loopg [4, 6] n (fun q v4 v6 wr => ∃ (j : Nat) (t : Nat → Tg), j + q = n ∧ v6 = .int .i64 (j : Int) ∧ Cs t wr b (runR [] (acts.take j)) ∧ Rds (fun q => t q = .no) wr v4 (runR [] (acts.take j)) ∧ (∀ q, q < w.heap.size → t q = .no) ∧ Gr w wr)
  case atStart => exact ⟨0, t1, by omega, rfl, C2.out.gr GE.out, RE.out, Z1.out, Gr.trans G2.out GE.out⟩
  case round =>
    obtain ⟨j, t, hjq, rfl, hC, hR, hZ, hG⟩ := hrel
    have CJ := hid hC
    have RJ := hid hR
    have ZJ := hid hZ
    have GJ := hid hG
    clear hC hR hZ hG C1 C2 G1 G2 Z1 GE RE
    have HGD := hid (show Gd j (runR [] (acts.take j)) from by
      have := gr_run gr_nil (acts.take j) (fun a ha => HK.out a (List.mem_of_mem_take ha))
      rw [List.length_take] at this
      exact this.up (by omega))
    by_cases hj : j < n
    · obtain ⟨⟨k, ch, s, g, v, c, sd⟩, hx⟩ : ∃ x, acts[j]? = some x := ⟨_, List.getElem?_eq_getElem (by rw [← HLL.out]; exact hj)⟩
      obtain ⟨gg, oo, cap', hv, _, hgl, _, hcs⟩ := (HLS.out.gr GJ.out).get eA_len hx
      injection hv with hv1 hv2 hv3
      subst hv1
      clear hv2 hv3
      have c0 := hcs 0 _ rfl
      have c1 := hcs 1 _ rfl
      have c2 := hcs 2 _ rfl
      have c3 := hcs 3 _ rfl
      have c4 := hcs 4 _ rfl
      have c5 := hcs 5 _ rfl
      have c6 := hcs 6 _ rfl
      simp only [Nat.add_zero] at c0
      have j0 : (0 : Int) ≤ (j : Int) := by omega
      have j1 : (j : Int) < (n : Int) := by omega
      have HD := hid (does_any CJ.out RJ.out (fun q hq => hq) HGD.out (by omega) ⟨k, ch, s, g, v, c, sd⟩ (HK.out _ (List.mem_of_getElem? hx)))
      dsimp only [Ac.row] at HD
      rw [← runR_snoc, ← take_one hx] at HD
      have HGE := hid (show Gd (j + 1) (runR [] (acts.take (j + 1))) from by
        have := gr_run gr_nil (acts.take (j + 1)) (fun a ha => HK.out a (List.mem_of_mem_take ha))
        rw [List.length_take] at this
        exact this.up (by omega))
      have HMY := hid (may_run may_nil (acts.take (j + 1)))
      clear hcs hx hgl
      obtain ⟨cs', hcs'⟩ : ∃ cs', cs' = runR [] (acts.take (j + 1)) := ⟨_, rfl⟩
      rw [← hcs'] at HD HGE HMY
      have HCE := hid hcs'
      clear hcs'
      have HJ := hid (show j + 1 < 2932031007402 from by omega)
      go_wp2_with (first
        | (go_at_call 13; refine (load_any (N4.out.rds) (HGE.out.bd (by have := HJ.out; omega)) (Nat.le_trans HGE.out.w (by have := HJ.out; omega)) HGE.out.g).mono ?_; rintro e w5 ⟨y5, -, g5⟩; obtain ⟨b5, t5, rfl, -, -⟩ := y5 (gd_ldB HGE.out HMY.out); have G5 := hid g5; clear g5 y5)
        | (go_at_call 16; refine (state_any C3.out HGE.out.n (HGE.out.bd (by have := HJ.out; omega))).mono ?_; rintro e w4 ⟨v4, rfl, nx4, g4⟩; have N4 := hid nx4; have G4 := hid g4; clear nx4 g4)
        | (go_at_call 11; refine HD.out.mono ?_; rintro e w3 ⟨l3, rfl, t3, c3', r3, n3⟩; have C3 := hid c3'; have R3 := hid (r3.mono (Q := fun q => t3 q = .no) (fun q _ hq => hq.2)); obtain ⟨g3, z3⟩ := Tn.base ZJ.out GJ.out n3; have G3 := hid g3; have Z3 := hid z3; clear c3' r3 n3 g3 z3))
      go_roundg (gk - 1)
      case measure => omega
      case rel =>
        refine ⟨j + 1, t3, by omega, ?_, ?_, ?_, Z3.out, Gr.trans G3.out (Gr.trans G4.out G5.out)⟩
        · first | with_reducible rfl | simp
        · rw [← HCE.out]; exact C3.out.gr (Gr.trans G4.out G5.out)
        · rw [← HCE.out]; exact R3.out.gr (Gr.trans G4.out G5.out)
    · have jn : ¬ (j : Int) < (n : Int) := by omega
      go_wp2_with fail
      go_ret
      exact ⟨rfl, GJ.out⟩
theorem settled_any (P : Nat → Prop) (v : Value) (acts : List Ac) (w : World) (h : Ls eA P w v acts) (hb : acts.length * 56 ≤ 140737488351232) (hk : ∀ a ∈ acts, Gok a.s a.g) :
    Calls Try.prog 6 #[v] w fun e w' => e = .returned (.bool true) ∧ Gr w w' := by
  obtain ⟨ao, cap, rfl⟩ := h.form
  exact settled_walk P w ao acts.length cap acts h hk (by omega)
end Go.Proofs.Ytpkbgfneebjnjaa.Lt

namespace Go.Proofs.Ytpkbgfneebjnjaa.Lt
open Go.ChangeShapes Go.WideShapes Go.ChangeAt Go.RowKit Wd

set_option maxRecDepth 100000 in
theorem settled_lifted (os : Os) (started : os.Started) (H : Type) (enc : TypeId × Value → H) :
    ReturnsInHanded {} Try.checked os 6 .any (Rows.channelSettledSpec.pre6 enc Try.prog Try.f6 Rows.channelSettledRow.domain false) (Rows.channelSettledSpec.post enc Try.prog Try.f6 false true false false) := by
  refine returnsInHanded_of_change_sized (C := Try.checked) own started (by kernel_rfl) Try.func6
    (ChangeSpec.witness6 (enc := enc) (C := Try.checked) false ⟨#[], #[.slice none 0 0], []⟩ 8 (by kernel_rfl) (by kernel_rfl) (by kernel_rfl) (by kernel_rfl)) ?_
  intro W base args ds gs before hval0 hW hcnd hsz _
  have hval : ∀ (j : Nat) t v, Try.f6.params[j]? = some t → args[j]? = some v → Value.okWide Try.prog W .any base t v := hval0
  have hW' := hW
  obtain ⟨p, q, hA0, hV, rfl, hfz, hnd⟩ := hW
  have hA : DataW.TrodAll enc Try.prog W 0 (fun _ => true) true Try.f6.params.toList args.toList ds p := hA0
  have hsz' : (DataW.weightsEach Try.prog (Try.f6.params.toList ++ Rows.channelSettledSpec.plain.varTypes Try.prog) (ds ++ gs)).all (· ≤ reachBytes) = true := hsz
  rw [Try.params6] at hA hval hsz'
  obtain ⟨v0, d0, rfl, rfl, h0⟩ := trodAll_one hA
  obtain ⟨rfl, rfl⟩ := trodVars_none hV
  obtain ⟨xs0, lx0, bx0, kx0⟩ := open_acts (j := 0) (hval 0 22 v0 rfl rfl) h0 hsz' rfl rfl
  clear hA0 hval0
  simp only [List.append_nil] at hW'
  refine (settled_any (· < W.heap.size) v0 xs0 W lx0 bx0 kx0).mono fun e W' ⟨he, hg⟩ => ?_
  subst he
  exact ⟨_, rfl, post_law1 hW' (by rw [Try.params6]) rfl Try.underlying4 rfl rfl (by kernel_rfl) (of_decide_eq_true (by kernel_rfl)) h0 (hg.below (fun _ x => x.elim) (Nat.le_refl _))⟩

theorem settled_holds : Rows.ChannelSettledSaid :=
  OpenClaim.holds_of_wide 6 Try.f6 rfl rfl rfl rfl rfl rfl rfl ⟨rfl, rfl, rfl, rfl, rfl⟩ rfl rfl rfl rfl rfl (by kernel_rfl) Try.func6 (by kernel_rfl)
    (of_decide_eq_true (by kernel_rfl)) (by unfold Func.isWrapper; first | (rw [if_pos (by decide +kernel)]; kernel_rfl) | (rw [if_neg (by decide +kernel)]; exact ⟨rfl, rfl⟩))
    (fun os started H enc _ => settled_lifted os started H enc)
end Go.Proofs.Ytpkbgfneebjnjaa.Lt
