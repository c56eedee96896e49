/-
  What a statement of three arguments leaves: they read as they read before. No conditions.
-/
import Derived.Test.YtcdlhfodeckleaaDoorPpFrame
namespace Go.Proofs.YtcdlhfodeckleaaDoor.Lt
open Go.ChangeShapes Go.WideShapes Go.ChangeAt Go.RowKit Wd

theorem post_law3 {H : Type} {enc : TypeId × Value → H} {f : Func} {s : ChangeSpec} {W W' : World} {v0 v1 v2 : Value} {d0 d1 d2 : DataW H} {p0 p1 p2 : List MemPlace} {t0 t1 t2 tb : TypeId}
    (hW : DataW.Whole enc Tryd.prog f.params.toList s.vars false W [v0, v1, v2] [d0, d1, d2] [] (p0 ++ p1 ++ p2)) (hf : f.params.toList = [t0, t1, t2]) (hr : f.resultTypes = #[tb]) (hb : Tryd.prog.underlying tb = some .bool) (hs : s.vars = [])
    (hfn : s.fn H [d0, d1, d2] = { results := [.lit (.bool true)], args := [d0, d1, d2] }) (rd0 : Tryd.prog.readableRec t0 = true) (hl0 : t0 < Tryd.prog.types.size) (rd1 : Tryd.prog.readableRec t1 = true) (hl1 : t1 < Tryd.prog.types.size) (rd2 : Tryd.prog.readableRec t2 = true) (hl2 : t2 < Tryd.prog.types.size)
    (h0 : DataW.Trod enc Tryd.prog W 0 (fun _ => true) true t0 v0 d0 p0) (h1 : DataW.Trod enc Tryd.prog W 0 (fun _ => true) true t1 v1 d1 p1) (h2 : DataW.Trod enc Tryd.prog W 0 (fun _ => true) true t2 v2 d2 p2)
    (k : Below W.heap.size W W') : s.post enc Tryd.prog f false true false false W #[v0, v1, v2] (.bool true) W' := by
  have hlt : ∀ x ∈ p0 ++ p1 ++ p2, x.block < W.heap.size := fun x hx => hW.lt x hx
  refine ⟨[d0, d1, d2], [], p0 ++ p1 ++ p2, [], p0 ++ p1 ++ p2, [], hW, ?_, ?_, ?_, k.frame _, fun h => by cases h⟩
  · rw [hr, List.append_nil, hfn]
    exact trodAll_mk1 (shut_bool hb _)
  · rw [hf, List.append_nil, hfn]
    have := trodAll_mk3 (Below.trod laid rd0 hl0 h0 k (fun x hx => hlt x (List.mem_append_left _ (List.mem_append_left _ hx)))) (Below.trod laid rd1 hl1 h1 k (fun x hx => hlt x (List.mem_append_left _ (List.mem_append_right _ hx)))) (Below.trod laid rd2 hl2 h2 k (fun x hx => hlt x (List.mem_append_right _ hx)))
    simpa using this
  · rw [hs, List.append_nil, hfn]
    rfl
theorem rng_U {x : Int} (h : (Lit.int .u32 x).wf = true) : 0 ≤ x ∧ x < 4294967296 := by
  simp [Lit.wf, IntKind.min, IntKind.max, IntKind.signed, IntKind.bits] at h
  omega
end Go.Proofs.YtcdlhfodeckleaaDoor.Lt
