/-
  What the program's reach, named, Reach and Calls answer: rising lists of what can be come to. Conditions: the program may be; words are words; the tables lie where they lie.
-/
import Derived.Test.YtollfepggicehabDoorPpCome
import Derived.Test.YtollfepggicehabDoorPpNext
namespace Go.Proofs.YtollfepggicehabDoor.Lt
open Go.RowKit Wd

/-- the words of each function that can be come to -/
def Rcs (cs : List Int) (fs : List (Int × Int)) (rch : Nat → List Int) : Prop := ∀ j, Rl cs.length (wN cs) (fs[j]?.getD (0, 0)).1 (rch j)
theorem rcs_ex (cs : List Int) (fs : List (Int × Int)) : ∃ rch, Rcs cs fs rch := ⟨fun j => Classical.choose (Rl.ex cs.length (wN cs) (fs[j]?.getD (0, 0)).1), fun j => Classical.choose_spec (Rl.ex cs.length (wN cs) (fs[j]?.getD (0, 0)).1)⟩
/-- what a function's words that can be come to name -/
def wF2 (cs : List Int) (rch : Nat → List Int) (sp : Bool) (x : Int) : List Int := nmL cs sp (rch x.toNat)
theorem wN_in {cs : List Int} {fs : List (Int × Int)} {nt : Nat} (h : May cs fs nt) : WyIn cs.length (wN cs) := fun x hx y hy => by
  obtain ⟨j, f, hf, f1, f2⟩ := h.p.has x hx
  have h1 := h.next hf f1 f2 hy
  have h2 := h.p.i f (List.mem_of_getElem? hf)
  omega
theorem wF_in {cs : List Int} {fs : List (Int × Int)} {nt : Nat} {rch : Nat → List Int} (h : May cs fs nt) (hr : Rcs cs fs rch) (sp : Bool) : WyIn fs.length (wF2 cs rch sp) := fun x _ y hy => by
  unfold wF2 at hy
  rw [Int.toNat_natCast, nmL_mem] at hy
  obtain ⟨z, hz, hw⟩ := hy
  have := ((hr x).2 z).1 hz
  exact h.named this.1.1 this.1.2 hw
theorem rs_len : ∀ {xs : List Int} {N : Nat} {b : Int}, Rs xs → (∀ x ∈ xs, b ≤ x ∧ x < b + (N : Int)) → xs.length ≤ N := by
  intro xs
  induction xs with
  | nil => intro N b _ _; exact Nat.zero_le _
  | cons x xs ih =>
    intro N b h hb
    have h' := List.pairwise_cons.1 h
    have hx := hb x (by simp)
    cases N with
    | zero => omega
    | succ N =>
      have := ih (N := N) (b := b + 1) h'.2 (fun y hy => by have := h'.1 y hy; have := hb y (List.mem_cons_of_mem _ hy); omega)
      rw [List.length_cons]
      omega
theorem Rl.len {N : Nat} {wy : Int → List Int} {a : Int} {xs : List Int} (h : Rl N wy a xs) : xs.length ≤ N := rs_len (b := 0) h.1 (fun x hx => by have := ((h.2 x).1 hx).1; omega)
theorem wF_len {cs : List Int} {fs : List (Int × Int)} {nt : Nat} {rch : Nat → List Int} (h : May cs fs nt) (hr : Rcs cs fs rch) (sp : Bool) (x : Int) : (wF2 cs rch sp x).length ≤ 4096 := by
  unfold wF2 nmL
  have h1 := List.length_filterMap_le (cW cs sp) (rch x.toNat)
  have h2 := (hr x.toNat).len
  have h3 := h.nc
  omega
set_option maxRecDepth 20000 in
theorem reachC_any (P : Nat → Prop) (w : World) (aoc aof aot : Option Addr) (nc nf nt cac caf cat : Nat) (cs : List Int) (h : Ls eU P w (.slice aoc nc cac) cs) (hu : U32s cs) (hg : Glb w) (hc : nc ≤ 4096) (X : Nat) (hX : w.heap[X]? = some (.cells #[.slice aoc nc cac, .slice aof nf caf, .slice aot nt cat] 26 (0, 0))) (x : Nat) (hx : x < nc) (W : World) (p : Gr w W) :
    Calls Tryd.prog 39 #[.int .i64 (x : Nat), .pointer (some ⟨X, 0, none⟩)] W (NxR W (wN cs (x : Int))) := by
  obtain ⟨n, hn⟩ : ∃ n, cs[x]? = some n := ⟨_, List.getElem?_eq_getElem (by rw [← h.len.1]; exact hx)⟩
  have HN := hid (fun (V : World) (q : Gr w V) => pnext_any P V aoc aof aot nc nf nt cac caf cat cs (h.gr q) hu (hg.gr q) hc x n hn)
  rw [← wN_at hn] at HN
  generalize wN cs (x : Int) = L at HN ⊢
  obtain ⟨c0, c1, c2, l⟩ := p_cells (gr_blk hX p)
  have HG := hid p
  clear h hu hg hX hn p
  go_enter Tryd.func39, Tryd.ntmps39
  go_wp2_with (go_at_call 40; refine (HN.out _ HG.out).mono ?_; rintro e w2 ⟨v, rfl, o2, g2⟩; have O2 := hid o2; have G2 := hid g2; clear o2 g2)
  go_ret
  exact ⟨_, rfl, O2.out, G2.out⟩
set_option maxHeartbeats 2000000 in
set_option maxRecDepth 20000 in
theorem preach_any (P : Nat → Prop) (w : World) (aoc aof aot : Option Addr) (nc nf nt cac caf cat : Nat) (cs : List Int) (fs : List (Int × Int)) (h : Ls eU P w (.slice aoc nc cac) cs) (hf : Ls eG P w (.slice aof nf caf) fs) (hu : U32s cs) (hm : May cs fs nt) (hg : Glb w) (rch : Nat → List Int) (hr : Rcs cs fs rch) (f : Nat) (hfl : f < nf) :
    Calls Tryd.prog 23 #[.agg #[.slice aoc nc cac, .slice aof nf caf, .slice aot nt cat], .int .i64 (f : Nat)] w (NxR w (rch f)) := by
  obtain ⟨⟨fb, fe⟩, hff⟩ : ∃ x, fs[f]? = some x := ⟨_, List.getElem?_eq_getElem (by rw [← hf.len.1]; exact hfl)⟩
  have hi := hm.p.i _ (List.mem_of_getElem? hff)
  simp only at hi
  obtain ⟨b, rfl⟩ : ∃ b : Nat, fb = (b : Int) := ⟨fb.toNat, by omega⟩
  have hnc := h.len.1
  have hrf := hr f
  rw [hff] at hrf
  simp only [Option.getD_some] at hrf
  have HCO := hid (fun (W : World) (X : Nat) (p : Gr w W) (q : W.heap[X]? = some (.cells #[.slice aoc nc cac, .slice aof nf caf, .slice aot nt cat] 26 (0, 0))) => comeW_any W X (wN cs) nc b (rch f) (by rw [hnc]; exact hm.nc) (by omega) (by rw [hnc]; exact wN_in hm) (fun x _ => wN_len cs _) (by rw [hnc]; exact hrf) (fun x V hx g => reachC_any P W aoc aof aot nc nf nt cac caf cat cs (h.gr p) hu (hg.gr p) (by rw [hnc]; exact hm.nc) X q x hx V g))
  obtain ⟨g, o, cap', hv, _, hgl, _, hcs⟩ := hf.get eG_len hff
  injection hv with hv1 hv2 hv3
  subst hv1
  have c0 := hcs 0 _ rfl
  rw [Nat.add_zero] at c0
  have q0 : (0 : Int) ≤ (f : Int) := by omega
  have q1 : (f : Int) < (nf : Int) := by omega
  have K1 := hid (Gr.alloc (Gr.refl w) #[.slice aoc nc cac, .slice (some ⟨g, o, none⟩) nf caf, .slice aot nt cat] 26)
  have B1 := hid (MapKept.heap_alloc w (.cells #[.slice aoc nc cac, .slice (some ⟨g, o, none⟩) nf caf, .slice aot nt cat] 26)).1
  generalize rch f = L at HCO ⊢
  clear h hf hu hg hm hr hrf hff hcs hv2 hv3 hi hnc
  go_enter Tryd.func23, Tryd.ntmps23
  go_wp2_with fail
  go_region_with (go_at_call 20; refine (HCO.out _ _ (by first | exact K1.out | exact Ch.drew K1.out | exact Ch.drewN K1.out _) (by first | exact B1.out | exact B1.out)).mono ?_; rintro e w2 ⟨v, rfl, o2, g2⟩; have O2 := hid (o2.lower (by first | exact K1.out.size | exact K1.out.size)); have G2 := hid (show Gr w w2 from Gr.trans (by first | exact K1.out | exact Ch.drew K1.out | exact Ch.drewN K1.out _) g2); clear o2 g2)
  all_goals go_wp2_with fail
  all_goals go_ret
  all_goals exact ⟨_, rfl, O2.out, G2.out⟩
end Go.Proofs.YtollfepggicehabDoor.Lt
