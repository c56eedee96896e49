/-
  How long some windows are together; how a tick is told apart into frames and a rest. No conditions but those that each theorem names.
-/
import Derived.Test.YtbghagpjkkmhpaaTbSupP
import Derived.Test.YtbghagpjkkmhpaaTbCntP
import Derived.Test.YtbghagpjkkmhpaaTbNum
namespace Go.Proofs.Ytbghagpjkkmhpaa.Lt
open Go.RowKit Wd
attribute [local go_sem ↓] Go.wp_at_zero Go.wp_at_succ
set_option maxRecDepth 20000

theorem win_at {w : World} {P : Nat → Prop} {ao : Option Addr} {n cap : Nat} {ws : List (Int × Int)} (h : Ls eW P w (.slice ao n cap) ws) {i : Nat} {q : Int × Int} (hi : ws[i]? = some q) :
    ∃ g o, ao = some ⟨g, o, none⟩ ∧ g < w.heap.size ∧ n ≤ cap ∧ w.cell? ⟨g, o + i * 2, none⟩ = some (.int .u64 q.1) ∧ w.cell? ⟨g, o + i * 2 + 1, none⟩ = some (.int .u64 q.2) := by
  obtain ⟨g, o, cp, e, _, hg, hc, hx⟩ := h.get eW_len hi
  injection e with e1 e2 e3
  have h0 := hx 0 _ rfl
  have h1 := hx 1 _ rfl
  rw [Nat.add_zero] at h0
  exact ⟨g, o, e1, hg, by omega, h0, h1⟩
theorem snd_take {ws : List (Int × Int)} (h : ∀ q ∈ ws, 0 ≤ q.2) (k : Nat) : 0 ≤ ls (ws.take k) Prod.snd ∧ ls (ws.take k) Prod.snd ≤ ls ws Prod.snd := by
  refine ⟨ls_nonneg fun q hq => h q (List.mem_of_mem_take hq), ?_⟩
  have h3 : ls ws Prod.snd = ls (ws.take k) Prod.snd + ls (ws.drop k) Prod.snd := by rw [← ls_app, List.take_append_drop]
  have h4 : 0 ≤ ls (ws.drop k) Prod.snd := ls_nonneg fun q hq => h q (List.mem_of_mem_drop hq)
  omega
end Go.Proofs.Ytbghagpjkkmhpaa.Lt
