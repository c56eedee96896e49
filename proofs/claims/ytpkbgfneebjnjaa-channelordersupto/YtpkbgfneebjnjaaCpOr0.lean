/-
  First in, first out: one channel, that is sent on and received from in turns, in plain words. No conditions.
-/
import Derived.Test.YtpkbgfneebjnjaaCpLives
namespace Go.Proofs.Ytpkbgfneebjnjaa.Lt
open Go.RowKit Wd

/-- what came out, what is held and what waits to be sent is what was sent, in order -/
structure Oi (capa : Int) (sends : List Int) (i sent : Nat) (gt : List Int) (c : Cn) : Prop where
  cap : c.cap = capa
  cl : c.cl = false
  v : (c.vs.length : Int) ≤ capa
  q : gt ++ c.vs ++ c.ss.map (·.v) = sends.take sent
  sl : sent ≤ sends.length
  full : c.ss ≠ [] → (c.vs.length : Int) = capa
  rs : c.rs ≠ [] → c.vs = [] ∧ c.ss = []
  so : ∀ x ∈ c.ss, ∃ j : Nat, j < i ∧ x.s = 2 * (j : Int) + 1 ∧ x.g = 0
  ro : ∀ x ∈ c.rs, ∃ j : Nat, j < i ∧ x.s = 2 * (j : Int) ∧ x.g = 0
  nd : (c.ss.map (·.s)).Nodup
  nr : (c.rs.map (·.s)).Nodup
  w : c.ss.length + c.rs.length ≤ i
theorem wo_self {l : List Wt} {s g : Int} (h : ∀ x ∈ l, ¬ (x.s = s ∧ x.g = g)) : wo l s g = l := by
  unfold wo
  refine List.filter_eq_self.2 (fun x hx => ?_)
  have := h x hx
  by_cases e : x.s = s
  · have e2 : ¬ x.g = g := fun q => this ⟨e, q⟩
    simp [e2]
  · simp [e]
theorem wo_head {x : Wt} {r : List Wt} (h : ((x :: r).map (·.s)).Nodup) : wo (x :: r) x.s x.g = r := by
  have e1 : wo (x :: r) x.s x.g = wo r x.s x.g := by unfold wo; rw [List.filter_cons]; simp
  rw [e1]
  refine wo_self (fun y hy e => ?_)
  rw [List.map_cons, List.nodup_cons] at h
  exact h.1 (List.mem_map.2 ⟨y, hy, e.1⟩)
theorem pl_none {c : Cn} {s g : Int} (h1 : ∀ x ∈ c.ss, ¬ (x.s = s ∧ x.g = g)) (h2 : ∀ x ∈ c.rs, ¬ (x.s = s ∧ x.g = g)) : c.pl s g = 0 := by
  unfold Cn.pl
  rw [wo_self h1, wo_self h2]
  omega
theorem pls_one (c : Cn) (s g : Int) : pls [c] s g = c.pl s g := by simp [pls]
section
variable {capa : Int} {sends : List Int} {i sent : Nat} {gt : List Int} {c : Cn}
theorem Oi.skip (h : Oi capa sends i sent gt c) : Oi capa sends (i + 1) sent gt c :=
  ⟨h.cap, h.cl, h.v, h.q, h.sl, h.full, h.rs, fun x hx => by obtain ⟨j, h1, h2⟩ := h.so x hx; exact ⟨j, by omega, h2⟩, fun x hx => by obtain ⟨j, h1, h2⟩ := h.ro x hx; exact ⟨j, by omega, h2⟩, h.nd, h.nr, Nat.le_succ_of_le h.w⟩
theorem Oi.gd (h : Oi capa sends i sent gt c) (h0 : 0 ≤ capa) (h1 : capa ≤ 1024) (hi : i ≤ 4398046511104) : Gd i [c] := by
  refine ⟨by simp, ?_, ?_, ?_, ?_⟩
  · intro d hd; rw [List.mem_singleton] at hd; subst hd; rw [h.cap]; exact ⟨h0, h1⟩
  · intro d hd; rw [List.mem_singleton] at hd; subst hd; rw [h.cap]; exact h.v
  · unfold tot wl; simp; exact h.w
  · intro d hd x hx
    rw [List.mem_singleton] at hd
    subst hd
    rcases hx with hx | hx
    · obtain ⟨j, h2, h3, h4⟩ := h.so x hx
      unfold Gok
      omega
    · obtain ⟨j, h2, h3, h4⟩ := h.ro x hx
      unfold Gok
      omega
theorem Oi.send (h : Oi capa sends i sent gt c) {v : Int} (hv : sends[sent]? = some v) : (sndF [c] 1 (2 * (i : Int) + 1) 0 v).er = 0 ∧ (sndF [c] 1 (2 * (i : Int) + 1) 0 v).tr = 0 ∧ (sndF [c] 1 (2 * (i : Int) + 1) 0 v).ks.length ≤ 1 ∧ ∃ c', (sndF [c] 1 (2 * (i : Int) + 1) 0 v).cs = [c'] ∧ Oi capa sends (i + 1) (sent + 1) (gt ++ (sndF [c] 1 (2 * (i : Int) + 1) 0 v).ks.map (·.v)) c' := by
  have hlt := (List.getElem?_eq_some_iff.1 hv).1
  have hp : ¬ 0 < pls [c] (2 * (i : Int) + 1) 0 := by
    rw [pls_one, pl_none (fun x hx e => ?_) (fun x hx e => ?_)]
    · omega
    · obtain ⟨j, h1, h2, h3⟩ := h.so x hx; omega
    · obtain ⟨j, h1, h2, h3⟩ := h.ro x hx; omega
  have hc : cAt [c] 1 = some (0, c) := rfl
  have e0 : sndF [c] 1 (2 * (i : Int) + 1) 0 v = sndI [c] 0 c (2 * (i : Int) + 1) 0 v := by unfold sndF; rw [if_neg hp, hc]
  have hcl : ¬ c.cl = true := by rw [h.cl]; simp
  have htk : sends.take (sent + 1) = sends.take sent ++ [v] := take_one hv
  rw [e0]
  unfold sndI
  rw [if_neg hcl]
  cases hr : c.rs with
  | cons r rr =>
    obtain ⟨hv0, hs0⟩ := h.rs (by rw [hr]; simp)
    have hnr := h.nr
    rw [hr] at hnr
    refine ⟨rfl, rfl, Nat.le_refl _, c.wo r.s r.g, rfl, ?_⟩
    have e1 : (c.wo r.s r.g).rs = rr := by show wo c.rs r.s r.g = rr; rw [hr]; exact wo_head hnr
    have e2 : (c.wo r.s r.g).ss = [] := by show wo c.ss r.s r.g = []; rw [hs0]; rfl
    have e3 : (c.wo r.s r.g).vs = [] := hv0
    refine ⟨h.cap, h.cl, h.v, ?_, by omega, fun e => (e e2).elim, fun _ => ⟨e3, e2⟩, fun x hx => (by rw [e2] at hx; cases hx), fun x hx => ?_, by rw [e2]; exact List.nodup_nil, ?_, ?_⟩
    · rw [e3, e2, htk, ← h.q, hv0, hs0]
      simp
    · rw [e1] at hx
      obtain ⟨j, h1, h2⟩ := h.ro x (by rw [hr]; exact List.mem_cons_of_mem _ hx)
      exact ⟨j, by omega, h2⟩
    · rw [e1]
      rw [List.map_cons, List.nodup_cons] at hnr
      exact hnr.2
    · rw [e1, e2]
      have := h.w
      rw [hr, hs0] at this
      simp only [List.length_cons, List.length_nil] at this ⊢
      omega
  | nil =>
    dsimp only
    by_cases hroom : (c.vs.length : Int) < c.cap
    · rw [if_pos hroom]
      have hs0 : c.ss = [] := by
        rcases Classical.em (c.ss = []) with e | e
        · exact e
        · have := h.full e; have := h.cap; omega
      refine ⟨rfl, rfl, Nat.zero_le _, ⟨c.cap, c.vs ++ [v], c.ss, [], c.cl⟩, rfl, h.cap, h.cl, ?_, ?_, by omega, fun e => (e hs0).elim, fun e => (e rfl).elim, fun x hx => (by dsimp only at hx; rw [hs0] at hx; cases hx), fun x hx => (by cases hx), h.nd, List.nodup_nil, ?_⟩
      · have := h.cap
        dsimp only
        rw [List.length_append, List.length_singleton]
        omega
      · rw [htk, ← h.q]
        simp [hs0]
      · dsimp only
        have := h.w
        rw [hr] at this
        simp only [List.length_nil] at this ⊢
        omega
    · rw [if_neg hroom]
      refine ⟨rfl, rfl, Nat.zero_le _, ⟨c.cap, c.vs, c.ss ++ [⟨2 * (i : Int) + 1, 0, 0, v⟩], [], c.cl⟩, rfl, h.cap, h.cl, h.v, ?_, by omega, fun _ => ?_, fun e => (e rfl).elim, fun x hx => ?_, fun x hx => (by cases hx), ?_, List.nodup_nil, ?_⟩
      · rw [htk, ← h.q]
        simp
      · have := h.cap; have := h.v
        dsimp only
        omega
      · dsimp only at hx
        rcases List.mem_append.1 hx with hx | hx
        · obtain ⟨j, h1, h2⟩ := h.so x hx
          exact ⟨j, by omega, h2⟩
        · rw [List.mem_singleton] at hx
          subst hx
          exact ⟨i, by omega, rfl, rfl⟩
      · dsimp only
        rw [List.map_append, List.nodup_append]
        refine ⟨h.nd, by simp, fun a ha b hb => ?_⟩
        obtain ⟨x, hx, rfl⟩ := List.mem_map.1 ha
        simp at hb
        obtain ⟨j, h1, h2, h3⟩ := h.so x hx
        omega
      · dsimp only
        have := h.w
        rw [hr] at this
        simp only [List.length_append, List.length_cons, List.length_nil] at this ⊢
        omega
theorem Oi.recv (h : Oi capa sends i sent gt c) : (rcvF [c] 1 (2 * (i : Int)) 0).er = 0 ∧ (rcvF [c] 1 (2 * (i : Int)) 0).tr = 0 ∧ ∃ c', (rcvF [c] 1 (2 * (i : Int)) 0).cs = [c'] ∧ Oi capa sends (i + 1) sent (if (rcvF [c] 1 (2 * (i : Int)) 0).wa = true then gt else gt ++ [(rcvF [c] 1 (2 * (i : Int)) 0).va]) c' := by
  have hp : ¬ 0 < pls [c] (2 * (i : Int)) 0 := by
    rw [pls_one, pl_none (fun x hx e => ?_) (fun x hx e => ?_)]
    · omega
    · obtain ⟨j, h1, h2, h3⟩ := h.so x hx; omega
    · obtain ⟨j, h1, h2, h3⟩ := h.ro x hx; omega
  have hc : cAt [c] 1 = some (0, c) := rfl
  have e0 : rcvF [c] 1 (2 * (i : Int)) 0 = rcvI [c] 0 c (2 * (i : Int)) 0 := by unfold rcvF; rw [if_neg hp, hc]
  rw [e0]
  unfold rcvI
  cases hs : c.ss with
  | cons x r =>
    have hr0 : c.rs = [] := by
      rcases Classical.em (c.rs = []) with e | e
      · exact e
      · have := (h.rs e).2; rw [hs] at this; cases this
    have hnd := h.nd
    rw [hs] at hnd
    have hso := h.so
    rw [hs] at hso
    have hw := h.w
    rw [hs] at hw
    have hfull := h.full (by rw [hs]; simp)
    have hnd2 := hnd
    rw [List.map_cons, List.nodup_cons] at hnd2
    have hq := h.q
    rw [hs] at hq
    cases hvs : c.vs with
    | cons u us =>
      dsimp only
      refine ⟨rfl, rfl, ⟨c.cap, us ++ [x.v], wo (x :: r) x.s x.g, wo c.rs x.s x.g, c.cl⟩, rfl, ?_⟩
      rw [if_neg (by simp), wo_head hnd, hr0, show wo [] x.s x.g = [] from rfl]
      rw [hvs] at hfull
      refine ⟨h.cap, h.cl, ?_, ?_, h.sl, fun _ => ?_, fun e => (e rfl).elim, fun y hy => ?_, fun y hy => (by cases hy), hnd2.2, List.nodup_nil, ?_⟩
      · dsimp only
        simp only [List.length_append, List.length_cons, List.length_nil] at hfull ⊢
        omega
      · rw [← hq, hvs]
        simp
      · dsimp only
        simp only [List.length_append, List.length_cons, List.length_nil] at hfull ⊢
        omega
      · obtain ⟨j, h1, h2⟩ := hso y (List.mem_cons_of_mem _ hy)
        exact ⟨j, by omega, h2⟩
      · dsimp only
        simp only [List.length_cons, List.length_nil] at hw ⊢
        omega
    | nil =>
      dsimp only
      refine ⟨rfl, rfl, c.wo x.s x.g, rfl, ?_⟩
      rw [if_neg (by simp)]
      have e1 : (c.wo x.s x.g).ss = r := by show wo c.ss x.s x.g = r; rw [hs]; exact wo_head hnd
      have e2 : (c.wo x.s x.g).rs = [] := by show wo c.rs x.s x.g = []; rw [hr0]; rfl
      have e3 : (c.wo x.s x.g).vs = [] := hvs
      rw [hvs] at hfull
      refine ⟨h.cap, h.cl, h.v, ?_, h.sl, fun _ => by rw [e3]; exact hfull, fun e => (e e2).elim, fun y hy => ?_, fun y hy => (by rw [e2] at hy; cases hy), by rw [e1]; exact hnd2.2, by rw [e2]; exact List.nodup_nil, ?_⟩
      · rw [e3, e1, ← hq, hvs]
        simp
      · rw [e1] at hy
        obtain ⟨j, h1, h2⟩ := hso y (List.mem_cons_of_mem _ hy)
        exact ⟨j, by omega, h2⟩
      · rw [e1, e2]
        simp only [List.length_cons, List.length_nil] at hw ⊢
        omega
  | nil =>
    have hq := h.q
    rw [hs] at hq
    cases hvs : c.vs with
    | cons u us =>
      dsimp only
      have hr0 : c.rs = [] := by
        rcases Classical.em (c.rs = []) with e | e
        · exact e
        · have := (h.rs e).1; rw [hvs] at this; cases this
      refine ⟨rfl, rfl, ⟨c.cap, us, [], c.rs, c.cl⟩, rfl, ?_⟩
      rw [if_neg (by simp), hr0]
      have hv := h.v
      rw [hvs] at hv
      refine ⟨h.cap, h.cl, ?_, ?_, h.sl, fun e => (e rfl).elim, fun e => (e rfl).elim, fun y hy => (by cases hy), fun y hy => (by cases hy), List.nodup_nil, List.nodup_nil, Nat.zero_le _⟩
      · dsimp only
        rw [List.length_cons] at hv
        omega
      · rw [← hq, hvs]
        simp
    | nil =>
      dsimp only
      have hcl : ¬ c.cl = true := by rw [h.cl]; simp
      rw [if_neg hcl]
      refine ⟨rfl, rfl, ⟨c.cap, [], [], c.rs ++ [⟨2 * (i : Int), 0, 0, 0⟩], c.cl⟩, rfl, ?_⟩
      rw [if_pos rfl]
      have hv := h.v
      rw [hvs] at hv
      have hw := h.w
      rw [hs] at hw
      refine ⟨h.cap, h.cl, hv, ?_, h.sl, fun e => (e rfl).elim, fun _ => ⟨rfl, rfl⟩, fun y hy => (by cases hy), fun y hy => ?_, List.nodup_nil, ?_, ?_⟩
      · rw [← hq, hvs]
      · rcases List.mem_append.1 hy with hy | hy
        · obtain ⟨j, h1, h2⟩ := h.ro y hy
          exact ⟨j, by omega, h2⟩
        · rw [List.mem_singleton] at hy
          subst hy
          exact ⟨i, by omega, rfl, rfl⟩
      · dsimp only
        rw [List.map_append, List.nodup_append]
        refine ⟨h.nr, by simp, fun a ha b hb => ?_⟩
        obtain ⟨x, hx, rfl⟩ := List.mem_map.1 ha
        simp at hb
        obtain ⟨j, h1, h2, h3⟩ := h.ro x hx
        omega
      · dsimp only
        simp only [List.length_append, List.length_cons, List.length_nil] at hw ⊢
        omega
end
end Go.Proofs.Ytpkbgfneebjnjaa.Lt
