/-
  What next and Cost answer on both sides: the instruction at a place, if there is one. Conditions: words are words; the tables lie where they lie.
-/
import Derived.Test.YtcdlhfodeckleaaDoorStApart
namespace Go.Proofs.YtcdlhfodeckleaaDoor.Lt
open Go.RowKit Wd

theorem ins_size : (Tryd.prog.info? 46).map (·.size) = some 5 := by kernel_rfl
theorem one5 (a b c d e : Int) : (#[.int .i64 a, .int .i64 b, .int .i64 c, .int .i64 d, .int .i64 e] : Array Value).all (·.oneCell') = true := by simp [Value.oneCell']
theorem results_cell_tmp2 {fn : Func} {p t : Tmp} {ty : TypeId} (h : fn.results = #[.cell p ty, .tmp t]) (tmps : Array Value) (w : World) (g : Nat) (cs : Array Value)
    (hp : tmps.getD p undef = .pointer (some ⟨g, 0, none⟩)) (hl : (loadVar ty ⟨g, 0, none⟩).run Tryd.prog w = .ok (.agg cs) w) :
    (results fn tmps).run Tryd.prog w = .ok (.tuple #[.agg cs, tmps.getD t undef]) w := by
  have hp' : tmps[p]?.getD undef = .pointer (some ⟨g, 0, none⟩) := by simpa using hp
  simp [results, h, hp', asAddr, hl]
theorem results_cell_cell {fn : Func} {p q : Tmp} {ty ty' : TypeId} (h : fn.results = #[.cell p ty, .cell q ty']) (tmps : Array Value) (w : World) (g g' : Nat) (cs cs' : Array Value)
    (hp : tmps.getD p undef = .pointer (some ⟨g, 0, none⟩)) (hl : (loadVar ty ⟨g, 0, none⟩).run Tryd.prog w = .ok (.agg cs) w)
    (hq : tmps.getD q undef = .pointer (some ⟨g', 0, none⟩)) (hl' : (loadVar ty' ⟨g', 0, none⟩).run Tryd.prog w = .ok (.agg cs') w) :
    (results fn tmps).run Tryd.prog w = .ok (.tuple #[.agg cs, .agg cs']) w := by
  have hp' : tmps[p]?.getD undef = .pointer (some ⟨g, 0, none⟩) := by simpa using hp
  have hq' : tmps[q]?.getD undef = .pointer (some ⟨g', 0, none⟩) := by simpa using hq
  simp [results, h, hp', hq', asAddr, hl, hl']
/-- is there a next instruction? -/
def nB (cs : List Int) (pc : Int) : Bool := if 0 ≤ pc ∧ pc < (cs.length : Int) then dE (cs[pc.toNat]?.getD 0) == 0 else false
/-- the next instruction -/
def nI (cs : List Int) (pc : Int) : Int × Int × Int × Int × Int := if 0 ≤ pc ∧ pc < (cs.length : Int) then dI (cs[pc.toNat]?.getD 0) else (0, 0, 0, 0, 0)
set_option maxHeartbeats 1000000 in
set_option maxRecDepth 20000 in
theorem pnext9_any (P : Nat → Prop) (w : World) (aoc aof aot : Option Addr) (nc nf nt cac caf cat : Nat) (cs : List Int) (h : Ls eU P w (.slice aoc nc cac) cs) (hu : U32s cs) (hg : Glb w) (pc : Int) :
    Calls Tryd.prog 23 #[.agg #[.slice aoc nc cac, .slice aof nf caf, .slice aot nt cat], .int .i64 pc] w fun e w' => e = .returned (.tuple #[iV (nI cs pc), .bool (nB cs pc)]) ∧ Gr w w' := by
  have hlen := h.len.1
  by_cases hin : 0 ≤ pc ∧ pc < (nc : Int)
  · obtain ⟨p0, p1⟩ := hin
    obtain ⟨k, rfl⟩ : ∃ k : Nat, pc = (k : Int) := ⟨pc.toNat, by omega⟩
    obtain ⟨n, hn⟩ : ∃ n, cs[k]? = some n := ⟨_, List.getElem?_eq_getElem (by omega)⟩
    have e1 : nI cs (k : Int) = dI n := by unfold nI; rw [if_pos ⟨p0, by omega⟩, Int.toNat_natCast, hn]; rfl
    have e2 : nB cs (k : Int) = (dE n == 0) := by unfold nB; rw [if_pos ⟨p0, by omega⟩, Int.toNat_natCast, hn]; rfl
    rw [e1, e2]
    obtain ⟨u0, u1⟩ := hu n (List.mem_of_getElem? hn)
    have HD := hid (fun (W : World) (p : Gr w W) => decode_all n u0 u1 W (hg.gr p))
    obtain ⟨g, o, cap', hv, _, hgl, _, hcs⟩ := h.get eU_len hn
    injection hv with hv1 hv2 hv3
    subst hv1
    have c0 := hcs 0 _ rfl
    rw [Nat.mul_one, Nat.add_zero] at c0
    have hgl1 : g < w.heap.size + 1 := by omega
    have hgl2 : g < w.heap.size + 1 + 1 := by omega
    have q1 : decide ((k : Int) < 0) = false := decide_eq_false (by omega)
    have q2 : decide ((nc : Int) ≤ (k : Int)) = false := decide_eq_false (by omega)
    have q3 : decide (nc ≤ k) = false := decide_eq_false (by omega)
    have K0 := hid (show Gr w ((w.alloc (.cells #[.slice (some ⟨g, o, none⟩) nc cac, .slice aof nf caf, .slice aot nt cat] 26)).alloc (.cells #[.int .i64 0, .int .i64 0, .int .i64 0, .int .i64 0, .int .i64 0] 46)) from Ch.alloc (Gr.alloc (Gr.refl w) #[.slice (some ⟨g, o, none⟩) nc cac, .slice aof nf caf, .slice aot nt cat] 26) _)
    have BT := hid (show ((w.alloc (.cells #[.slice (some ⟨g, o, none⟩) nc cac, .slice aof nf caf, .slice aot nt cat] 26)).alloc (.cells #[.int .i64 0, .int .i64 0, .int .i64 0, .int .i64 0, .int .i64 0] 46)).heap[w.heap.size + 1]? = some (.cells #[.int .i64 0, .int .i64 0, .int .i64 0, .int .i64 0, .int .i64 0] 46 (0, 0)) from by simpa using (MapKept.heap_alloc (w.alloc (.cells #[.slice (some ⟨g, o, none⟩) nc cac, .slice aof nf caf, .slice aot nt cat] 26)) (.cells #[.int .i64 0, .int .i64 0, .int .i64 0, .int .i64 0, .int .i64 0] 46)).1)
    unfold iV at HD ⊢
    generalize dI n = II at HD ⊢
    generalize dE n = E at HD ⊢
    obtain ⟨o1, o2, o3, o4, im⟩ := II
    simp only at HD ⊢
    clear h hu hg hlen hn e1 e2 hcs hv2 hv3 u0 u1
    go_enter Tryd.func23, Tryd.ntmps23
    go_wp2_with (first | (go_at_call 47; refine (HD.out _ K0.out).mono ?_; rintro e w3 ⟨rfl, g3⟩; have G4 := hid (show Gr w (w3.alloc (.cells #[.int .i64 o1, .int .i64 o2, .int .i64 o3, .int .i64 o4, .int .i64 im] 46)) from Ch.alloc (Gr.trans K0.out g3) _); have BT4 := hid (al_blk (gr_blk BT.out g3) (.cells #[.int .i64 o1, .int .i64 o2, .int .i64 o3, .int .i64 o4, .int .i64 im] 46)); clear g3) | (refine st_row rfl 46 (.tmp 4) (.tmp 27) rfl (w.heap.size + 1) _ rfl rfl _ _ BT4.out ins_size rfl (one5 _ _ _ _ _) ?_; intro w5 b5 k5; have B5 := hid b5; have K5 := hid k5; clear b5 k5))
    refine bodyPost_ret (results_cell_tmp2 rfl _ _ (w.heap.size + 1) _ rfl (run_loadVar_row _ _ _ _ _ _ _ B5.out Tryd.underlying46 rfl ins_size)) rfl ?_
    exact ⟨rfl, Ch.trans G4.out K5.out (fun q e => .inr (by have e1 : q = w.heap.size + 1 := e; omega))⟩
  · have hin' : ¬ (0 ≤ pc ∧ pc < (cs.length : Int)) := by rw [← hlen]; exact hin
    have e1 : nI cs pc = (0, 0, 0, 0, 0) := by unfold nI; rw [if_neg hin']
    have e2 : nB cs pc = false := by unfold nB; rw [if_neg hin']
    rw [e1, e2]
    unfold iV
    simp only
    have K0 := hid (show Gr w ((w.alloc (.cells #[.slice aoc nc cac, .slice aof nf caf, .slice aot nt cat] 26)).alloc (.cells #[.int .i64 0, .int .i64 0, .int .i64 0, .int .i64 0, .int .i64 0] 46)) from Ch.alloc (Gr.alloc (Gr.refl w) #[.slice aoc nc cac, .slice aof nf caf, .slice aot nt cat] 26) _)
    have BT := hid (show ((w.alloc (.cells #[.slice aoc nc cac, .slice aof nf caf, .slice aot nt cat] 26)).alloc (.cells #[.int .i64 0, .int .i64 0, .int .i64 0, .int .i64 0, .int .i64 0] 46)).heap[w.heap.size + 1]? = some (.cells #[.int .i64 0, .int .i64 0, .int .i64 0, .int .i64 0, .int .i64 0] 46 (0, 0)) from by simpa using (MapKept.heap_alloc (w.alloc (.cells #[.slice aoc nc cac, .slice aof nf caf, .slice aot nt cat] 26)) (.cells #[.int .i64 0, .int .i64 0, .int .i64 0, .int .i64 0, .int .i64 0] 46)).1)
    clear h hu hg hlen hin' e1 e2
    by_cases q1 : pc < 0
    · have d1 : decide (pc < 0) = true := decide_eq_true q1
      clear hin
      go_enter Tryd.func23, Tryd.ntmps23
      go_wp2
      refine bodyPost_ret (results_cell_tmp2 rfl _ _ (w.heap.size + 1) _ rfl (run_loadVar_row _ _ _ _ _ _ _ BT.out Tryd.underlying46 rfl ins_size)) rfl ?_
      exact ⟨rfl, K0.out⟩
    · have d1 : decide (pc < 0) = false := decide_eq_false q1
      have q2 : (nc : Int) ≤ pc := by omega
      have d2 : decide ((nc : Int) ≤ pc) = true := decide_eq_true q2
      clear hin
      go_enter Tryd.func23, Tryd.ntmps23
      go_wp2
      refine bodyPost_ret (results_cell_tmp2 rfl _ _ (w.heap.size + 1) _ rfl (run_loadVar_row _ _ _ _ _ _ _ BT.out Tryd.underlying46 rfl ins_size)) rfl ?_
      exact ⟨rfl, K0.out⟩
set_option maxHeartbeats 1000000 in
set_option maxRecDepth 20000 in
theorem rnext9_any (P : Nat → Prop) (w : World) (aoc aof aot : Option Addr) (nc nf nt cac caf cat : Nat) (cs : List Int) (h : Ls eU P w (.slice aoc nc cac) cs) (hu : U32s cs) (pc : Int) (r : List Int) (hr : r.length = 16) (ao : Option Addr) (n0 cap : Nat) :
    Calls Tryd.prog 26 #[.agg #[.slice aoc nc cac, .slice aof nf caf, .slice aot nt cat], .agg (cC pc r (.slice ao n0 cap))] w fun e w' => e = .returned (.tuple #[iV (nI cs pc), .bool (nB cs pc)]) ∧ Gr w w' := by
  obtain ⟨r0, r1, r2, r3, r4, r5, r6, r7, r8, r9, r10, r11, r12, r13, r14, r15, rfl⟩ := regs16 hr
  rw [cC_is]
  clear hr
  have hlen := h.len.1
  by_cases hin : 0 ≤ pc ∧ pc < (nc : Int)
  · obtain ⟨p0, p1⟩ := hin
    obtain ⟨k, rfl⟩ : ∃ k : Nat, pc = (k : Int) := ⟨pc.toNat, by omega⟩
    obtain ⟨n, hn⟩ : ∃ n, cs[k]? = some n := ⟨_, List.getElem?_eq_getElem (by omega)⟩
    have e1 : nI cs (k : Int) = dI n := by unfold nI; rw [if_pos ⟨p0, by omega⟩, Int.toNat_natCast, hn]; rfl
    have e2 : nB cs (k : Int) = (dE n == 0) := by unfold nB; rw [if_pos ⟨p0, by omega⟩, Int.toNat_natCast, hn]; rfl
    rw [e1, e2]
    obtain ⟨u0, u1⟩ := hu n (List.mem_of_getElem? hn)
    have HD := hid (fun (W : World) (p : Gr w W) => rdecode_all n u0 u1 W)
    obtain ⟨g, o, cap', hv, _, hgl, _, hcs⟩ := h.get eU_len hn
    injection hv with hv1 hv2 hv3
    subst hv1
    have c0 := hcs 0 _ rfl
    rw [Nat.mul_one, Nat.add_zero] at c0
    have hgl1 : g < w.heap.size + 1 := by omega
    have hgl2 : g < w.heap.size + 1 + 1 := by omega
    have q1 : decide ((k : Int) < 0) = false := decide_eq_false (by omega)
    have q2 : decide ((nc : Int) ≤ (k : Int)) = false := decide_eq_false (by omega)
    have q3 : decide (nc ≤ k) = false := decide_eq_false (by omega)
    have K0 := hid (show Gr w (((w.alloc (.cells #[.slice (some ⟨g, o, none⟩) nc cac, .slice aof nf caf, .slice aot nt cat] 26)).alloc (.cells #[.int .i64 (k : Int), .int .i64 r0, .int .i64 r1, .int .i64 r2, .int .i64 r3, .int .i64 r4, .int .i64 r5, .int .i64 r6, .int .i64 r7, .int .i64 r8, .int .i64 r9, .int .i64 r10, .int .i64 r11, .int .i64 r12, .int .i64 r13, .int .i64 r14, .int .i64 r15, .slice ao n0 cap] 30)).alloc (.cells #[.int .i64 0, .int .i64 0, .int .i64 0, .int .i64 0, .int .i64 0] 46)) from Ch.alloc (Ch.alloc (Gr.alloc (Gr.refl w) #[.slice (some ⟨g, o, none⟩) nc cac, .slice aof nf caf, .slice aot nt cat] 26) _) _)
    have BT := hid (show (((w.alloc (.cells #[.slice (some ⟨g, o, none⟩) nc cac, .slice aof nf caf, .slice aot nt cat] 26)).alloc (.cells #[.int .i64 (k : Int), .int .i64 r0, .int .i64 r1, .int .i64 r2, .int .i64 r3, .int .i64 r4, .int .i64 r5, .int .i64 r6, .int .i64 r7, .int .i64 r8, .int .i64 r9, .int .i64 r10, .int .i64 r11, .int .i64 r12, .int .i64 r13, .int .i64 r14, .int .i64 r15, .slice ao n0 cap] 30)).alloc (.cells #[.int .i64 0, .int .i64 0, .int .i64 0, .int .i64 0, .int .i64 0] 46)).heap[w.heap.size + 2]? = some (.cells #[.int .i64 0, .int .i64 0, .int .i64 0, .int .i64 0, .int .i64 0] 46 (0, 0)) from by simpa using (MapKept.heap_alloc ((w.alloc (.cells #[.slice (some ⟨g, o, none⟩) nc cac, .slice aof nf caf, .slice aot nt cat] 26)).alloc (.cells #[.int .i64 (k : Int), .int .i64 r0, .int .i64 r1, .int .i64 r2, .int .i64 r3, .int .i64 r4, .int .i64 r5, .int .i64 r6, .int .i64 r7, .int .i64 r8, .int .i64 r9, .int .i64 r10, .int .i64 r11, .int .i64 r12, .int .i64 r13, .int .i64 r14, .int .i64 r15, .slice ao n0 cap] 30)) (.cells #[.int .i64 0, .int .i64 0, .int .i64 0, .int .i64 0, .int .i64 0] 46)).1)
    unfold iV at HD ⊢
    generalize dI n = II at HD ⊢
    generalize dE n = E at HD ⊢
    obtain ⟨o1, o2, o3, o4, im⟩ := II
    simp only at HD ⊢
    clear h hu hlen hn e1 e2 hcs hv2 hv3 u0 u1
    go_enter Tryd.func26, Tryd.ntmps26
    go_wp2_with (first | (go_at_call 49; refine (HD.out _ K0.out).mono ?_; rintro e w3 ⟨rfl, g3⟩; have G4 := hid (show Gr w (w3.alloc (.cells #[.int .i64 o1, .int .i64 o2, .int .i64 o3, .int .i64 o4, .int .i64 im] 46)) from Ch.alloc (Gr.trans K0.out g3) _); have BT4 := hid (al_blk (gr_blk BT.out g3) (.cells #[.int .i64 o1, .int .i64 o2, .int .i64 o3, .int .i64 o4, .int .i64 im] 46)); clear g3) | (refine st_row rfl 46 (.tmp 4) (.tmp 30) rfl (w.heap.size + 2) _ rfl rfl _ _ BT4.out ins_size rfl (one5 _ _ _ _ _) ?_; intro w5 b5 k5; have B5 := hid b5; have K5 := hid k5; clear b5 k5))
    refine bodyPost_ret (results_cell_tmp2 rfl _ _ (w.heap.size + 2) _ rfl (run_loadVar_row _ _ _ _ _ _ _ B5.out Tryd.underlying46 rfl ins_size)) rfl ?_
    exact ⟨rfl, Ch.trans G4.out K5.out (fun q e => .inr (by have e1 : q = w.heap.size + 2 := e; omega))⟩
  · have hin' : ¬ (0 ≤ pc ∧ pc < (cs.length : Int)) := by rw [← hlen]; exact hin
    have e1 : nI cs pc = (0, 0, 0, 0, 0) := by unfold nI; rw [if_neg hin']
    have e2 : nB cs pc = false := by unfold nB; rw [if_neg hin']
    rw [e1, e2]
    unfold iV
    simp only
    have K0 := hid (show Gr w (((w.alloc (.cells #[.slice aoc nc cac, .slice aof nf caf, .slice aot nt cat] 26)).alloc (.cells #[.int .i64 pc, .int .i64 r0, .int .i64 r1, .int .i64 r2, .int .i64 r3, .int .i64 r4, .int .i64 r5, .int .i64 r6, .int .i64 r7, .int .i64 r8, .int .i64 r9, .int .i64 r10, .int .i64 r11, .int .i64 r12, .int .i64 r13, .int .i64 r14, .int .i64 r15, .slice ao n0 cap] 30)).alloc (.cells #[.int .i64 0, .int .i64 0, .int .i64 0, .int .i64 0, .int .i64 0] 46)) from Ch.alloc (Ch.alloc (Gr.alloc (Gr.refl w) #[.slice aoc nc cac, .slice aof nf caf, .slice aot nt cat] 26) _) _)
    have BT := hid (show (((w.alloc (.cells #[.slice aoc nc cac, .slice aof nf caf, .slice aot nt cat] 26)).alloc (.cells #[.int .i64 pc, .int .i64 r0, .int .i64 r1, .int .i64 r2, .int .i64 r3, .int .i64 r4, .int .i64 r5, .int .i64 r6, .int .i64 r7, .int .i64 r8, .int .i64 r9, .int .i64 r10, .int .i64 r11, .int .i64 r12, .int .i64 r13, .int .i64 r14, .int .i64 r15, .slice ao n0 cap] 30)).alloc (.cells #[.int .i64 0, .int .i64 0, .int .i64 0, .int .i64 0, .int .i64 0] 46)).heap[w.heap.size + 2]? = some (.cells #[.int .i64 0, .int .i64 0, .int .i64 0, .int .i64 0, .int .i64 0] 46 (0, 0)) from by simpa using (MapKept.heap_alloc ((w.alloc (.cells #[.slice aoc nc cac, .slice aof nf caf, .slice aot nt cat] 26)).alloc (.cells #[.int .i64 pc, .int .i64 r0, .int .i64 r1, .int .i64 r2, .int .i64 r3, .int .i64 r4, .int .i64 r5, .int .i64 r6, .int .i64 r7, .int .i64 r8, .int .i64 r9, .int .i64 r10, .int .i64 r11, .int .i64 r12, .int .i64 r13, .int .i64 r14, .int .i64 r15, .slice ao n0 cap] 30)) (.cells #[.int .i64 0, .int .i64 0, .int .i64 0, .int .i64 0, .int .i64 0] 46)).1)
    clear h hu hlen hin' e1 e2
    by_cases q1 : pc < 0
    · have d1 : decide (pc < 0) = true := decide_eq_true q1
      clear hin
      go_enter Tryd.func26, Tryd.ntmps26
      go_wp2
      refine bodyPost_ret (results_cell_tmp2 rfl _ _ (w.heap.size + 2) _ rfl (run_loadVar_row _ _ _ _ _ _ _ BT.out Tryd.underlying46 rfl ins_size)) rfl ?_
      exact ⟨rfl, K0.out⟩
    · have d1 : decide (pc < 0) = false := decide_eq_false q1
      have q2 : (nc : Int) ≤ pc := by omega
      have d2 : decide ((nc : Int) ≤ pc) = true := decide_eq_true q2
      clear hin
      go_enter Tryd.func26, Tryd.ntmps26
      go_wp2
      refine bodyPost_ret (results_cell_tmp2 rfl _ _ (w.heap.size + 2) _ rfl (run_loadVar_row _ _ _ _ _ _ _ BT.out Tryd.underlying46 rfl ins_size)) rfl ?_
      exact ⟨rfl, K0.out⟩
/-- what the next instruction costs -/
def cst (cs : List Int) (pc : Int) : Int := if nB cs pc = true then co (nI cs pc).1.toNat else 1
theorem nI_op {cs : List Int} {pc : Int} (h : nB cs pc = true) : ∃ k : Nat, 1 ≤ k ∧ k < 59 ∧ (nI cs pc).1 = ((k : Nat) : Int) := by
  unfold nB at h
  split at h
  · rename_i q
    unfold nI
    rw [if_pos q]
    have hl : pc.toNat < cs.length := by omega
    obtain ⟨n, hn⟩ : ∃ n, cs[pc.toNat]? = some n := ⟨_, List.getElem?_eq_getElem hl⟩
    rw [hn] at h ⊢
    simp only [Option.getD_some, beq_iff_eq] at h ⊢
    have h' := h
    unfold dE at h
    split at h
    · cases h
    · unfold dI
      rw [if_pos h']
      exact ⟨opOf n, by unfold opOf; omega, by unfold opOf; omega, rfl⟩
  · cases h
set_option maxRecDepth 20000 in
theorem pcost_any (P : Nat → Prop) (w : World) (aoc aof aot : Option Addr) (nc nf nt cac caf cat : Nat) (cs : List Int) (h : Ls eU P w (.slice aoc nc cac) cs) (hu : U32s cs) (hg : Glb w) (pc : Int) (r : List Int) (hr : r.length = 16) (ao : Option Addr) (n cap : Nat) :
    Calls Tryd.prog 13 #[.agg #[.slice aoc nc cac, .slice aof nf caf, .slice aot nt cat], .agg (cC pc r (.slice ao n cap))] w fun e w' => e = .returned (.int .i64 (cst cs pc)) ∧ Gr w w' := by
  obtain ⟨r0, r1, r2, r3, r4, r5, r6, r7, r8, r9, r10, r11, r12, r13, r14, r15, rfl⟩ := regs16 hr
  have HN := hid (fun (W : World) (p : Gr w W) => pnext9_any P W aoc aof aot nc nf nt cac caf cat cs (h.gr p) hu (hg.gr p) pc)
  rw [cC_is]
  have K0 := hid (show Gr w ((w.alloc (.cells #[.slice aoc nc cac, .slice aof nf caf, .slice aot nt cat] 26)).alloc (.cells #[.int .i64 pc, .int .i64 r0, .int .i64 r1, .int .i64 r2, .int .i64 r3, .int .i64 r4, .int .i64 r5, .int .i64 r6, .int .i64 r7, .int .i64 r8, .int .i64 r9, .int .i64 r10, .int .i64 r11, .int .i64 r12, .int .i64 r13, .int .i64 r14, .int .i64 r15, .slice ao n cap] 30)) from Ch.alloc (Gr.alloc (Gr.refl w) #[.slice aoc nc cac, .slice aof nf caf, .slice aot nt cat] 26) _)
  have HC := hid (fun (W : World) (p : Gr w W) (k1 : Nat) (a1 : 1 ≤ k1) (a2 : k1 < 59) => cost_yes k1 a1 a2 W (hg.gr p).n)
  unfold cst
  try rw [cC_is] at HN
  have HOP := hid (fun (q : nB cs pc = true) => nI_op q)
  generalize nB cs pc = B at HN HOP ⊢
  unfold iV at HN
  generalize nI cs pc = II at HN HOP ⊢
  obtain ⟨o1, o2, o3, o4, im⟩ := II
  simp only at HN HOP ⊢
  clear h hu hr
  cases B with
  | false =>
    simp only [Bool.false_eq_true, if_false]
    go_enter Tryd.func13, Tryd.ntmps13
    go_wp2_with (go_at_call 23; refine (HN.out _ K0.out).mono ?_; rintro e w3 ⟨rfl, g3⟩; have G3 := hid (show Gr w (w3.alloc (.cells #[.int .i64 o1, .int .i64 o2, .int .i64 o3, .int .i64 o4, .int .i64 im] 46)) from Ch.alloc (Gr.trans K0.out g3) _); clear g3)
    go_ret
    exact ⟨rfl, G3.out⟩
  | true =>
    obtain ⟨k1, a1, a2, ha⟩ := HOP.out (by first | rfl | trivial)
    subst ha
    simp only [if_true, Int.toNat_natCast]
    go_enter Tryd.func13, Tryd.ntmps13
    go_wp2_with (first | (go_at_call 23; refine (HN.out _ K0.out).mono ?_; rintro e w3 ⟨rfl, g3⟩; have G3 := hid (show Gr w (w3.alloc (.cells #[.int .i64 ((k1 : Nat) : Int), .int .i64 o2, .int .i64 o3, .int .i64 o4, .int .i64 im] 46)) from Ch.alloc (Gr.trans K0.out g3) _); clear g3) | (go_at_call 24; refine (HC.out _ G3.out k1 a1 a2).mono ?_; rintro e w4 ⟨rfl, hw⟩; have hw := hw.symm; subst hw; have G4 := hid G3.out))
    go_ret
    exact ⟨rfl, G4.out⟩
set_option maxRecDepth 20000 in
theorem rcost9_any (P : Nat → Prop) (w : World) (aoc aof aot : Option Addr) (nc nf nt cac caf cat : Nat) (cs : List Int) (h : Ls eU P w (.slice aoc nc cac) cs) (hu : U32s cs) (pc : Int) (r : List Int) (hr : r.length = 16) (ao : Option Addr) (n cap : Nat) :
    Calls Tryd.prog 15 #[.agg #[.slice aoc nc cac, .slice aof nf caf, .slice aot nt cat], .agg (cC pc r (.slice ao n cap))] w fun e w' => e = .returned (.int .i64 (cst cs pc)) ∧ Gr w w' := by
  obtain ⟨r0, r1, r2, r3, r4, r5, r6, r7, r8, r9, r10, r11, r12, r13, r14, r15, rfl⟩ := regs16 hr
  have HN := hid (fun (W : World) (p : Gr w W) => rnext9_any P W aoc aof aot nc nf nt cac caf cat cs (h.gr p) hu pc [r0, r1, r2, r3, r4, r5, r6, r7, r8, r9, r10, r11, r12, r13, r14, r15] rfl ao n cap)
  rw [cC_is]
  have K0 := hid (show Gr w ((w.alloc (.cells #[.slice aoc nc cac, .slice aof nf caf, .slice aot nt cat] 26)).alloc (.cells #[.int .i64 pc, .int .i64 r0, .int .i64 r1, .int .i64 r2, .int .i64 r3, .int .i64 r4, .int .i64 r5, .int .i64 r6, .int .i64 r7, .int .i64 r8, .int .i64 r9, .int .i64 r10, .int .i64 r11, .int .i64 r12, .int .i64 r13, .int .i64 r14, .int .i64 r15, .slice ao n cap] 30)) from Ch.alloc (Gr.alloc (Gr.refl w) #[.slice aoc nc cac, .slice aof nf caf, .slice aot nt cat] 26) _)
  have HC := hid (fun (W : World) (p : Gr w W) (k1 : Nat) (a1 : 1 ≤ k1) (a2 : k1 < 59) => rcost_yes k1 a1 a2 W)
  unfold cst
  try rw [cC_is] at HN
  have HOP := hid (fun (q : nB cs pc = true) => nI_op q)
  generalize nB cs pc = B at HN HOP ⊢
  unfold iV at HN
  generalize nI cs pc = II at HN HOP ⊢
  obtain ⟨o1, o2, o3, o4, im⟩ := II
  simp only at HN HOP ⊢
  clear h hu hr
  cases B with
  | false =>
    simp only [Bool.false_eq_true, if_false]
    go_enter Tryd.func15, Tryd.ntmps15
    go_wp2_with (go_at_call 26; refine (HN.out _ K0.out).mono ?_; rintro e w3 ⟨rfl, g3⟩; have G3 := hid (show Gr w (w3.alloc (.cells #[.int .i64 o1, .int .i64 o2, .int .i64 o3, .int .i64 o4, .int .i64 im] 46)) from Ch.alloc (Gr.trans K0.out g3) _); clear g3)
    go_ret
    exact ⟨rfl, G3.out⟩
  | true =>
    obtain ⟨k1, a1, a2, ha⟩ := HOP.out (by first | rfl | trivial)
    subst ha
    simp only [if_true, Int.toNat_natCast]
    go_enter Tryd.func15, Tryd.ntmps15
    go_wp2_with (first | (go_at_call 26; refine (HN.out _ K0.out).mono ?_; rintro e w3 ⟨rfl, g3⟩; have G3 := hid (show Gr w (w3.alloc (.cells #[.int .i64 ((k1 : Nat) : Int), .int .i64 o2, .int .i64 o3, .int .i64 o4, .int .i64 im] 46)) from Ch.alloc (Gr.trans K0.out g3) _); clear g3) | (go_at_call 27; refine (HC.out _ G3.out k1 a1 a2).mono ?_; rintro e w4 ⟨rfl, g4⟩; have G4 := hid (Gr.trans G3.out g4)))
    go_ret
    exact ⟨rfl, G4.out⟩
end Go.Proofs.YtcdlhfodeckleaaDoor.Lt
