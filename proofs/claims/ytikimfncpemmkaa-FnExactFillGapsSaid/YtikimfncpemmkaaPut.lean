/-
  A number put to its place: the contracts of l00Put, l01Image and of the model's ImageOf.
-/
import Derived.Test.YtikimfncpemmkaaPreI
namespace Go.Proofs.Ytikimfncpemmkaa
open Go.RowKit Go.Deep Go.ChangeShapes Go.WideShapes

def putStep (v : Int) (r : List Int × Bool) (x : Int) : List Int × Bool :=
  if r.2 = false ∧ v ≤ x then ((if v < x then r.1 ++ [v] else r.1) ++ [x], true) else (r.1 ++ [x], r.2)
def putF (v : Int) (L : List Int) (k : Nat) : List Int × Bool := (L.take k).foldl (putStep v) ([], false)
def putL (v : Int) (L : List Int) : List Int := if (putF v L L.length).2 = true then (putF v L L.length).1 else (putF v L L.length).1 ++ [v]
theorem putF_succ {v x : Int} {L : List Int} {k : Nat} (hx : L[k]? = some x) : putF v L (k + 1) = putStep v (putF v L k) x := by
  unfold putF
  rw [take_snoc hx, List.foldl_append]
  rfl
theorem putStep_done {v x : Int} {O : List Int} : putStep v (O, true) x = (O ++ [x], true) := by simp [putStep]
theorem putStep_low {v x : Int} {O : List Int} (h : ¬ v ≤ x) : putStep v (O, false) x = (O ++ [x], false) := by simp [putStep, h]
theorem putStep_eq {v x : Int} {O : List Int} (h : v ≤ x) (h' : ¬ v < x) : putStep v (O, false) x = (O ++ [x], true) := by simp [putStep, h, h']
theorem putStep_gt {v x : Int} {O : List Int} (h : v < x) : putStep v (O, false) x = (O ++ [v] ++ [x], true) := by
  have : v ≤ x := by omega
  simp [putStep, h, this]

/-! ### Putting a state among the marked ones marks it -/
theorem setL_below {f : Nat → Bool} {v : Nat} : ∀ k, k ≤ v → setL (upd f v true) k = setL f k
  | 0, _ => rfl
  | k + 1, h => by
    have e : upd f v true k = f k := by unfold upd; rw [if_neg (by omega)]
    have ih := setL_below (f := f) (v := v) k (by omega)
    rcases hf : f k with _ | _
    · rw [setL_f (e.trans hf), setL_f hf, ih]
    · rw [setL_t (e.trans hf), setL_t hf, ih]
theorem setL_gap {f : Nat → Bool} {v : Nat} : ∀ k, v < k → (∀ q, v ≤ q → q < k → f q = false) → setL (upd f v true) k = setL f k ++ [(v : Int)]
  | 0, h, _ => by omega
  | k + 1, h, hf => by
    have hk := hf k (by omega) (by omega)
    rw [setL_f hk]
    rcases Nat.eq_or_lt_of_le (show v ≤ k by omega) with e | hlt
    · subst e
      rw [setL_t (show upd f v true v = true by simp [upd]), setL_below v (Nat.le_refl v)]
    · rw [setL_f (show upd f v true k = false by unfold upd; rw [if_neg (by omega)]; exact hk)]
      exact setL_gap k hlt fun q h1 h2 => hf q h1 (by omega)
theorem fold_setL {f : Nat → Bool} {v : Nat} : ∀ k,
    ((∃ q, q < k ∧ v ≤ q ∧ f q = true) → (setL f k).foldl (putStep (v : Int)) ([], false) = (setL (upd f v true) k, true)) ∧
    ((∀ q, v ≤ q → q < k → f q = false) → (setL f k).foldl (putStep (v : Int)) ([], false) = (setL f k, false))
  | 0 => ⟨fun ⟨q, h, _⟩ => by omega, fun _ => rfl⟩
  | k + 1 => by
    obtain ⟨i1, i2⟩ := fold_setL (f := f) (v := v) k
    rcases hf : f k with _ | _
    · rw [setL_f hf]
      refine ⟨fun ⟨q, h1, h2, h3⟩ => ?_, fun h => ?_⟩
      · have hq : q ≠ k := fun e => by rw [e, hf] at h3; cases h3
        have hk : upd f v true k = false := by unfold upd; rw [if_neg (by omega)]; exact hf
        rw [setL_f hk]
        exact i1 ⟨q, by omega, h2, h3⟩
      · exact i2 fun q h1 h2 => h q h1 (by omega)
    · rw [setL_t hf, List.foldl_append]
      refine ⟨fun ⟨q, h1, h2, h3⟩ => ?_, fun h => ?_⟩
      · have hk : upd f v true k = true := by unfold upd; split <;> simp_all
        rw [setL_t hk]
        by_cases hd : ∃ q, q < k ∧ v ≤ q ∧ f q = true
        · rw [i1 hd]
          simp only [List.foldl_cons, List.foldl_nil, putStep_done]
        · have hno : ∀ q, v ≤ q → q < k → f q = false := fun q a b => by
            rcases hq : f q with _ | _
            · rfl
            · exact absurd ⟨q, b, a, hq⟩ hd
          have hqk : q = k := by
            rcases Nat.lt_or_ge q k with a | a
            · rw [hno q h2 a] at h3; cases h3
            · omega
          subst hqk
          rw [i2 hno]
          simp only [List.foldl_cons, List.foldl_nil]
          rcases Nat.eq_or_lt_of_le h2 with e | hlt
          · subst e
            rw [putStep_eq (by omega) (by omega), setL_below v (Nat.le_refl v)]
          · rw [putStep_gt (by omega), setL_gap q hlt hno]
      · have hk := h k
        have hkv : k < v := by
          rcases Nat.lt_or_ge k v with a | a
          · exact a
          · rw [hk a (by omega)] at hf; cases hf
        rw [i2 fun q a b => h q a (by omega)]
        simp only [List.foldl_cons, List.foldl_nil]
        rw [putStep_low (by omega)]
theorem put_setL {f : Nat → Bool} {v k : Nat} (hv : v < k) : putL (v : Int) (setL f k) = setL (upd f v true) k := by
  obtain ⟨i1, i2⟩ := fold_setL (f := f) (v := v) k
  unfold putL putF
  rw [List.take_length]
  by_cases hd : ∃ q, q < k ∧ v ≤ q ∧ f q = true
  · rw [i1 hd]; simp
  · have hno : ∀ q, v ≤ q → q < k → f q = false := fun q a b => by
      rcases hq : f q with _ | _
      · rfl
      · exact absurd ⟨q, b, a, hq⟩ hd
    rw [i2 hno, setL_gap k hv hno]; simp

end Go.Proofs.Ytikimfncpemmkaa
