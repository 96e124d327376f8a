/-
  The filling of a partial automaton's gaps, on lists alone: whatever stood at the gaps, the filling is the same.
-/
import Derived.Test.YtikimfncpemmkaaGaps
namespace Go.Proofs.Ytikimfncpemmkaa
open Go.RowKit Go.Deep Go.ChangeShapes Go.WideShapes

def stL (X : List (List Int)) (k s : Nat) (v : Int) : List (List Int) := X.set k ((X.getD k []).set s v)
def fillG : List (Nat × Nat) → List Int → List (List Int) → List (List Int)
  | g :: gs, v :: vs, X => fillG gs vs (stL X g.1 g.2 v)
  | _, _, X => X
theorem fillG_nil (vs : List Int) (X : List (List Int)) : fillG [] vs X = X := by unfold fillG; rfl
theorem fillG_snoc : ∀ (gs : List (Nat × Nat)) (vs : List Int) (X : List (List Int)) (i : Nat) (g : Nat × Nat) (v : Int), gs[i]? = some g → vs[i]? = some v → fillG (gs.take (i + 1)) (vs.take (i + 1)) X = stL (fillG (gs.take i) (vs.take i) X) g.1 g.2 v
  | [], _, _, _, _, _, h, _ => by simp at h
  | _ :: _, [], _, _, _, _, _, h => by simp at h
  | g0 :: gs, v0 :: vs, X, 0, g, v, h1, h2 => by
    obtain rfl : g0 = g := by simpa using h1
    obtain rfl : v0 = v := by simpa using h2
    simp [fillG]
  | g0 :: gs, v0 :: vs, X, i + 1, g, v, h1, h2 => by
    have h1' : gs[i]? = some g := by simpa using h1
    have h2' : vs[i]? = some v := by simpa using h2
    show fillG (gs.take (i + 1)) (vs.take (i + 1)) (stL X g0.1 g0.2 v0) = stL (fillG (gs.take i) (vs.take i) (stL X g0.1 g0.2 v0)) g.1 g.2 v
    exact fillG_snoc gs vs _ i g v h1' h2'
theorem stL_lens (X : List (List Int)) (k s : Nat) (v : Int) : (stL X k s v).map List.length = X.map List.length := by
  unfold stL
  apply List.ext_getElem?
  intro r
  rw [List.getElem?_map, List.getElem?_map, List.getElem?_set]
  by_cases h : k = r
  · subst h
    by_cases hk : k < X.length
    · simp [hk]
    · simp [hk]
  · simp [h]
theorem fillG_lens : ∀ (gs : List (Nat × Nat)) (vs : List Int) (X : List (List Int)), (fillG gs vs X).map List.length = X.map List.length
  | [], _, _ => by unfold fillG; rfl
  | _ :: _, [], _ => by unfold fillG; rfl
  | g :: gs, v :: vs, X => by
    show (fillG gs vs (stL X g.1 g.2 v)).map List.length = _
    rw [fillG_lens gs vs, stL_lens]
def at2 (X : List (List Int)) (k s : Nat) : Option Int := (X[k]?).bind fun r => r[s]?
theorem at2_stL (X : List (List Int)) (k s : Nat) (v : Int) (r q : Nat) : at2 (stL X k s v) r q = if k = r ∧ s = q then (at2 X r q).map (fun _ => v) else at2 X r q := by
  unfold at2 stL
  rw [List.getElem?_set]
  by_cases h : k = r
  · subst h
    by_cases hk : k < X.length
    · simp only [if_true, hk, List.getD_eq_getElem?_getD, List.getElem?_eq_getElem hk, Option.getD_some, Option.bind_some, List.getElem?_set]
      by_cases hs : s = q
      · subst hs
        by_cases hl : s < X[k].length <;> simp [hl]
      · simp [hs]
    · simp [hk]
  · simp [h]
theorem ext2 {X Y : List (List Int)} (hl : X.map List.length = Y.map List.length) (h : ∀ r q, at2 X r q = at2 Y r q) : X = Y := by
  apply List.ext_getElem?
  intro r
  have hr : (X[r]?).map List.length = (Y[r]?).map List.length := by rw [← List.getElem?_map, ← List.getElem?_map, hl]
  rcases hx : X[r]? with _ | x
  · rw [hx] at hr
    rcases hy : Y[r]? with _ | y
    · rfl
    · rw [hy] at hr; simp at hr
  · rw [hx] at hr
    rcases hy : Y[r]? with _ | y
    · rw [hy] at hr; simp at hr
    · congr 1
      apply List.ext_getElem?
      intro q
      have := h r q
      unfold at2 at this
      rw [hx, hy] at this
      exact this
theorem fillG_same : ∀ (gs : List (Nat × Nat)) (vs : List Int) (X Y : List (List Int)), gs.length = vs.length → X.map List.length = Y.map List.length → (∀ r q, (r, q) ∉ gs → at2 X r q = at2 Y r q) → fillG gs vs X = fillG gs vs Y
  | [], vs, X, Y, _, hl, h => by rw [fillG_nil, fillG_nil]; exact ext2 hl fun r q => h r q (by simp)
  | _ :: _, [], _, _, hv, _, _ => by simp at hv
  | g :: gs, v :: vs, X, Y, hv, hl, h => by
    show fillG gs vs (stL X g.1 g.2 v) = fillG gs vs (stL Y g.1 g.2 v)
    refine fillG_same gs vs _ _ (by simpa using hv) (by rw [stL_lens, stL_lens, hl]) fun r q hn => ?_
    rw [at2_stL, at2_stL]
    have hd : (at2 X r q).isSome = (at2 Y r q).isSome := by
      have e : ∀ Z : List (List Int), (at2 Z r q).isSome = decide (q < ((Z.map List.length)[r]?).getD 0) := fun Z => by
        unfold at2
        rw [List.getElem?_map]
        rcases Z[r]? with _ | z
        · simp
        · by_cases hq : q < z.length <;> simp [hq]
      rw [e, e, hl]
    by_cases he : g.1 = r ∧ g.2 = q
    · rw [if_pos he, if_pos he]
      rcases hx : at2 X r q with _ | x <;> rcases hy : at2 Y r q with _ | y <;> rw [hx, hy] at hd <;> simp at hd ⊢
    · rw [if_neg he, if_neg he]
      exact h r q (fun hm => by
        rcases List.mem_cons.1 hm with e | e
        · exact he (by rw [← e]; exact ⟨rfl, rfl⟩)
        · exact hn e)

theorem gapsL_mem {xss : List (List Int)} {k a b : Nat} (h : (a, b) ∈ gapsL xss k) : a < k ∧ b < (xss.getD a []).length ∧ (xss.getD a []).getD b 0 < 0 := by
  rw [gapsL, List.mem_flatMap] at h
  obtain ⟨i, hi, h⟩ := h
  rw [List.mem_range] at hi
  rw [gapsUpTo, List.mem_map] at h
  obtain ⟨s, hs, e⟩ := h
  rw [List.mem_filter, List.mem_range] at hs
  obtain ⟨rfl, rfl⟩ := Prod.mk.inj e
  exact ⟨hi, hs.1, by simpa using hs.2⟩
theorem gcells_at : ∀ (gs : List (Nat × Nat)) (k : Nat) (p : Nat × Nat), gs[k]? = some p → (gcells gs)[k * 2]? = some (.int .i64 (p.1 : Int)) ∧ (gcells gs)[k * 2 + 1]? = some (.int .i64 (p.2 : Int))
  | [], _, _, h => by simp at h
  | g :: gs, 0, p, h => by
    obtain rfl : g = p := by simpa using h
    exact ⟨rfl, rfl⟩
  | g :: gs, k + 1, p, h => by
    have ih := gcells_at gs k p (by simpa using h)
    have e : gcells (g :: gs) = .int .i64 (g.1 : Int) :: .int .i64 (g.2 : Int) :: gcells gs := rfl
    rw [e, show (k + 1) * 2 = k * 2 + 1 + 1 by omega]
    exact ih

end Go.Proofs.Ytikimfncpemmkaa
