/-
  How long some windows are together; how a tick is told apart into frames and a rest. No conditions but those that each theorem names.
-/
import Derived.Test.YtbghagpjkkmhpabTbSupP
import Derived.Test.YtbghagpjkkmhpabTbCntP
import Derived.Test.YtbghagpjkkmhpabTbNum
namespace Go.Proofs.Ytbghagpjkkmhpab.Lt
open Go.RowKit Wd
attribute [local go_sem ↓] Go.wp_at_zero Go.wp_at_succ
set_option maxRecDepth 20000

theorem win_at {w : World} {P : Nat → Prop} {ao : Option Addr} {n cap : Nat} {ws : List (Int × Int)} (h : Ls eW P w (.slice ao n cap) ws) {i : Nat} {q : Int × Int} (hi : ws[i]? = some q) :
    ∃ g o, ao = some ⟨g, o, none⟩ ∧ g < w.heap.size ∧ n ≤ cap ∧ w.cell? ⟨g, o + i * 2, none⟩ = some (.int .u64 q.1) ∧ w.cell? ⟨g, o + i * 2 + 1, none⟩ = some (.int .u64 q.2) := by
  obtain ⟨g, o, cp, e, _, hg, hc, hx⟩ := h.get eW_len hi
  injection e with e1 e2 e3
  have h0 := hx 0 _ rfl
  have h1 := hx 1 _ rfl
  rw [Nat.add_zero] at h0
  exact ⟨g, o, e1, hg, by omega, h0, h1⟩
theorem snd_take {ws : List (Int × Int)} (h : ∀ q ∈ ws, 0 ≤ q.2) (k : Nat) : 0 ≤ ls (ws.take k) Prod.snd ∧ ls (ws.take k) Prod.snd ≤ ls ws Prod.snd := by
  refine ⟨ls_nonneg fun q hq => h q (List.mem_of_mem_take hq), ?_⟩
  have h3 : ls ws Prod.snd = ls (ws.take k) Prod.snd + ls (ws.drop k) Prod.snd := by rw [← ls_app, List.take_append_drop]
  have h4 : 0 ≤ ls (ws.drop k) Prod.snd := ls_nonneg fun q hq => h q (List.mem_of_mem_drop hq)
  omega
set_option maxHeartbeats 4000000 in
theorem lengths_any (w : World) (P : Nat → Prop) (ao : Option Addr) (n cap : Nat) (ws : List (Int × Int)) (h : Ls eW P w (.slice ao n cap) ws) (hb : ∀ q ∈ ws, 0 ≤ q.2) (hs : ls ws Prod.snd ≤ 4294967296) (hn : n ≤ 65536) :
    Calls Try.prog 36 #[.slice ao n cap] w fun e w' => e = .returned (.int .u64 (ls ws Prod.snd)) ∧ Gr w w' := by
  have HX := hide (show ∀ W, Gr w W → Ls eW P W (.slice ao n cap) ws from fun W g => h.gr g)
  have HN := hide h.len.1
  have HB := hide (fun k => snd_take hb k)
  have HS := hide hs
  clear h hb hs
  go_enter Try.func36, Try.ntmps36
  go_wp2_with fail
  go_loopg [3, 8] n (fun k sv i wr => ∃ (j : Nat), j + k = n ∧ i = .int .i64 (j : Int) ∧ sv = .int .u64 (ls (ws.take j) Prod.snd) ∧ Gr w wr)
  case atStart => exact ⟨0, by omega, rfl, rfl, Gr.refl _⟩
  case round =>
    obtain ⟨j, hjk, rfl, rfl, hg⟩ := hrel
    obtain ⟨V, hV⟩ : ∃ W, W = wr := ⟨_, rfl⟩
    subst hV
    have G := hide hg
    obtain ⟨b1, b2⟩ := HB.out j
    obtain ⟨b3, b4⟩ := HB.out (j + 1)
    have hs := HS.out
    by_cases hj : j < n
    · have hj' : (j : Int) < (n : Int) := by omega
      have hj0 : (0 : Int) ≤ (j : Int) := by omega
      have hjl : j < ws.length := by rw [← HN.out]; exact hj
      have hjx : ws[j]? = some ws[j] := List.getElem?_eq_getElem hjl
      generalize ws[j] = q at hjx
      obtain ⟨g, o, e1, hgl, hcap, c0, c1⟩ := win_at (HX.out _ hg) hjx
      subst e1
      have HT := hide (ls_take_snoc Prod.snd hjx)
      rw [ls_take_snoc Prod.snd hjx] at b3 b4
      generalize ls (ws.take j) Prod.snd = s at *
      have k2 : s + q.2 ≤ 18446744073709551615 := by omega
      clear hjx hg
      go_wp2
      go_roundg (gk - 1)
      case measure => omega
      case rel =>
        refine ⟨j + 1, by omega, ?_, by rw [HT.out], Ch.alloc G.out _⟩
        first | with_reducible rfl | simp
    · have hj' : ¬ ((j : Int) < (n : Int)) := by omega
      have HE := hide (show ls (ws.take j) Prod.snd = ls ws Prod.snd by rw [List.take_of_length_le (by rw [← HN.out]; omega)])
      rw [HE.out]
      clear hg b1 b2 b3 b4
      go_wp2
      go_ret
      exact ⟨rfl, G.out⟩
set_option maxHeartbeats 4000000 in
theorem place_any (w : World) (t F : Int) (ht : Tk.U t) (hF : 1 ≤ F) (hF2 : F ≤ 65536) :
    Calls Try.prog 35 #[.int .u64 t, .int .u64 F] w fun e w' => e = .returned (.tuple #[.int .u64 (t % F), .int .u64 (t / F), .int .i64 0]) ∧ Gr w w' := by
  obtain ⟨h0, h1⟩ := ht
  have hne : ¬ (F = 0) := by omega
  have hnb : (F == 0) = false := by simpa using hne
  have htm : t.tmod F = t % F := Int.tmod_eq_emod_of_nonneg h0
  have htd : t.tdiv F = t / F := Int.tdiv_eq_ediv_of_nonneg h0
  have m0 : 0 ≤ t % F := Int.emod_nonneg _ (by omega)
  have m1 : t % F < F := Int.emod_lt_of_pos _ (by omega)
  have d0 : 0 ≤ t / F := Int.ediv_nonneg h0 (by omega)
  have d1 : t / F ≤ t := Int.ediv_le_self _ h0
  have HM := hide (show IntKind.u64.wrap (t.tmod F) = t % F by rw [htm]; exact IntWalk.u64_in _ ⟨m0, by omega⟩)
  have HD := hide (show IntKind.u64.wrap (t.tdiv F) = t / F by rw [htd]; exact IntWalk.u64_in _ ⟨d0, by omega⟩)
  have hm := HM.out
  have hd := HD.out
  clear htm htd m0 m1 d0 d1
  go_enter Try.func35, Try.ntmps35
  go_wp2_with fail
  go_quiet (fail)
  go_wp2
  refine bodyPost_ret (v := .tuple #[.int .u64 (t % F), .int .u64 (t / F), .int .i64 0]) (by simp [results, Try.results35, go_sem]) rfl ⟨rfl, ?_⟩
  first | exact Gr.refl _ | exact Ch.drew (Gr.refl _) | exact Ch.drewN (Gr.refl _) _
end Go.Proofs.Ytbghagpjkkmhpab.Lt
