/-
  What the law's lives answers. Condition: the tables lie where they lie.
-/
import Derived.Test.YtcdlhfodeckleaaDoorStStep1
namespace Go.Proofs.YtcdlhfodeckleaaDoor.Lt
open Go.RowKit Wd

theorem nI7 : nI [36700167] 0 = (2, 3, 0, 0, 7) := by decide +kernel
theorem nB7 : nB [36700167] 0 = true := by decide +kernel
theorem eqW (w : World) : (Op.equalIn 10000 49 (.agg #[.int .i64 0, .int .i64 0, .int .i64 0, .int .i64 0, .int .i64 0, .int .i64 0, .int .i64 0, .int .i64 0, .int .i64 0, .int .i64 0, .int .i64 0]) (.agg #[.int .i64 0, .int .i64 0, .int .i64 0, .int .i64 0, .int .i64 0, .int .i64 0, .int .i64 0, .int .i64 0, .int .i64 0, .int .i64 0, .int .i64 0])).run Tryd.prog w = .ok true w := by kernel_rfl
theorem enc7 (w : World) : Calls Tryd.prog 22 #[.agg #[.int .i64 2, .int .i64 3, .int .i64 0, .int .i64 0, .int .i64 7]] w fun e w' => e = .returned (.tuple #[.int .u32 36700167, .int .i64 0]) ∧ Gr w w' := (rencode_ok 2 3 0 0 7 (by omega) (by omega) (by decide +kernel) w).mono (fun e w' ⟨he, hg⟩ => ⟨by rw [he]; rfl, hg⟩)
theorem ls_word (w : World) (b : Nat) (hb : w.heap[b]? = some (.cells #[.int .u32 36700167] 65 (0, 0))) : Ls eU (fun _ => True) w (.slice (some ⟨b, 0, none⟩) 1 1) [36700167] := by
  refine ⟨_, _, rfl, ⟨Nat.le_refl _, fun q => by cases q⟩, .inr ⟨b, 0, rfl, trivial, lt_of_block hb, fun j x hx => ?_⟩⟩
  have e : ([36700167] : List Int).flatMap eU = [.int .u32 36700167] := rfl
  rw [e] at hx
  rw [cell_of hb, Nat.zero_add]
  cases j with
  | zero => simpa using hx
  | succ j => simp at hx
theorem step7 (w : World) (hg : Glb w) (b : Nat) (hb : w.heap[b]? = some (.cells #[.int .u32 36700167] 65 (0, 0))) : Calls Tryd.prog 16 #[.agg #[.slice (some ⟨b, 0, none⟩) 1 1, .slice none 0 0, .slice none 0 0], .agg #[.int .i64 0, .int .i64 0, .int .i64 0, .int .i64 0, .int .i64 0, .int .i64 0, .int .i64 0, .int .i64 0, .int .i64 0, .int .i64 0, .int .i64 0, .int .i64 0, .int .i64 0, .int .i64 0, .int .i64 0, .int .i64 0, .int .i64 0, .slice none 0 0], .agg #[.int .u64 0, .int .i64 0, .int .i64 0]] w (StR w 1 [0, 0, 0, 7, 0, 0, 0, 0, 0, 0, 0, 0, 0, 0, 0, 0] [] #[.int .i64 0, .int .i64 0, .int .i64 0, .int .i64 0, .int .i64 0, .int .i64 0, .int .i64 0, .int .i64 0, .int .i64 0, .int .i64 0, .int .i64 0]) := by
  have := step_reckon (fun _ => True) w (some ⟨b, 0, none⟩) none none 1 0 0 1 0 0 [36700167] (ls_word w b hb) (fun n hn => by have e : n = 36700167 := (by simpa using hn); omega) hg (by omega) 0 [0, 0, 0, 0, 0, 0, 0, 0, 0, 0, 0, 0, 0, 0, 0, 0] rfl none 0 0 [] (Ls.nil _ _ _) (by omega) 0 0 0 2 3 0 0 7 nI7 nB7 (by omega) (by omega) (by omega) (by omega) 3 rfl (by omega) 7 (fun W => reckon_lives W)
  exact this
set_option maxHeartbeats 1000000 in
set_option maxRecDepth 20000 in
theorem lives9_any (w : World) (hg : Glb w) : Calls Tryd.prog 11 #[] w fun e w' => e = .returned (.bool true) ∧ Gr w w' := by
  have HG := hid hg
  have HE := hid (fun (W : World) => enc7 W)
  have HS := hid (fun (W : World) (p : Glb W) (b : Nat) (hb : W.heap[b]? = some (.cells #[.int .u32 36700167] 65 (0, 0))) => step7 W p b hb)
  have heq := eqW
  clear hg
  go_enter Tryd.func11, Tryd.ntmps11
  go_wp2_with (first | (go_at_call 22; refine (HE.out _).mono ?_; rintro e w1 ⟨rfl, g1⟩; have G1 := hid (show Gr w (w1.alloc (.cells #[.int .u32 36700167] 65)) from Ch.alloc g1 _); have B1 := hid (MapKept.heap_alloc w1 (.cells #[.int .u32 36700167] 65)).1; clear g1) | (go_at_call 16; refine (HS.out _ (HG.out.gr G1.out) _ B1.out).mono ?_; rintro e w2 ⟨ao, n, cap, rfl, o2, g2⟩; rw [cC_is]; have G2 := hid (show Gr w ((w2.alloc (.cells #[.int .i64 1, .int .i64 0, .int .i64 0, .int .i64 0, .int .i64 7, .int .i64 0, .int .i64 0, .int .i64 0, .int .i64 0, .int .i64 0, .int .i64 0, .int .i64 0, .int .i64 0, .int .i64 0, .int .i64 0, .int .i64 0, .int .i64 0, .slice ao n cap] 30)).alloc (.cells #[.int .i64 0, .int .i64 0, .int .i64 0, .int .i64 0, .int .i64 0, .int .i64 0, .int .i64 0, .int .i64 0, .int .i64 0, .int .i64 0, .int .i64 0] 49)) from Ch.alloc (Ch.alloc (Gr.trans G1.out g2) _) _); clear o2 g2))
  go_ret
  exact ⟨rfl, G2.out⟩
end Go.Proofs.YtcdlhfodeckleaaDoor.Lt
