/-
  What the program's In answers: as the document's. Conditions: the tables lie where they lie; words are words.
-/
import Derived.Test.YtollfepggicehabDoorPpAsk
namespace Go.Proofs.YtollfepggicehabDoor.Lt
open Go.RowKit Wd

/-- does function j end behind the place? -/
def eF (fs : List (Int × Int)) (a : Int) (j : Nat) : Int := if a < (fs[j]?.getD (0, 0)).2 then 1 else 0
/-- the first that does, -1: none -/
def enx (fs : List (Int × Int)) (a : Int) : Int := if (fR (eF fs a) 0 fs.length).2 = 0 then -1 else (fR (eF fs a) 0 fs.length).1
/-- of functions that part the code the first that ends behind a place is the place's -/
theorem enx_inx {fs : List (Int × Int)} {nc : Nat} (hp : Prt fs nc) {a : Int} (h0 : 0 ≤ a) (h1 : a < (nc : Int)) : enx fs a = inx fs a := by
  obtain ⟨b, rfl⟩ : ∃ b : Nat, a = (b : Nat) := ⟨a.toNat, by omega⟩
  obtain ⟨j, f, hf, f1, f2⟩ := hp.has b (by omega)
  rw [(hp.inx hf (b : Int)).2 ⟨f1, f2⟩]
  have ev : ∀ (l : Nat) g, fs[l]? = some g → eF fs (b : Int) l = if (b : Int) < g.2 then 1 else 0 := fun l g hg => by unfold eF; rw [hg]; rfl
  have e : fR (eF fs (b : Int)) 0 fs.length = ((j : Int), eF fs (b : Int) j) := fR_at (Nat.zero_le _) (List.getElem?_eq_some_iff.1 hf).1 (fun l _ ql => by
    obtain ⟨g, hg⟩ : ∃ g, fs[l]? = some g := ⟨_, List.getElem?_eq_getElem (by have := (List.getElem?_eq_some_iff.1 hf).1; omega)⟩
    have := hp.mono j l g f ql hg hf
    rw [ev l g hg, if_neg (by omega)]) (by rw [ev j f hf, if_pos f2]; decide)
  unfold enx
  rw [e, ev j f hf, if_pos f2]
  rfl
end Go.Proofs.YtollfepggicehabDoor.Lt
