/-
  The pairs of states: rows of structs with two cells; the contract of pairsBelow.
-/
import Derived.Test.YtcglncepmieaaaaOwn2
import Derived.Deep.AppendLies
namespace Go.Proofs.Ytcglncepmieaaaa
open Go.RowKit Go.Deep Go.ChangeShapes Go.WideShapes

/-- The pairs with the lesser state k, c of them; all pairs with lesser states below k. -/
def prU (k c : Nat) : List (Nat × Nat) := (List.range c).map fun i => (k, k + 1 + i)
def prL (n k : Nat) : List (Nat × Nat) := (List.range k).flatMap fun s => prU s (n - 1 - s)
theorem prU_succ (k c : Nat) : prU k (c + 1) = prU k c ++ [(k, k + 1 + c)] := by simp [prU, List.range_succ]
theorem prL_succ (n k : Nat) : prL n (k + 1) = prL n k ++ prU k (n - 1 - k) := by simp [prL, List.range_succ]
theorem prU_len (k c : Nat) : (prU k c).length = c := by simp [prU]
theorem prL_len (n : Nat) : ∀ k, (prL n k).length ≤ k * n
  | 0 => by simp [prL]
  | k + 1 => by
    rw [prL_succ, List.length_append, prU_len]
    have := prL_len n k
    rw [Nat.add_mul]
    omega
theorem prL_mem {n k s t : Nat} (h : (s, t) ∈ prL n k) : s < k ∧ s < t ∧ t < n := by
  simp only [prL, prU, List.mem_flatMap, List.mem_map, List.mem_range] at h
  obtain ⟨a, ha, i, hi, he⟩ := h
  simp only [Prod.mk.injEq] at he
  omega
theorem prL_has {n s t : Nat} (h : s < t) (ht : t < n) : (s, t) ∈ prL n n := by
  simp only [prL, prU, List.mem_flatMap, List.mem_map, List.mem_range]
  exact ⟨s, by omega, t - (s + 1), by omega, by simp only [Prod.mk.injEq, true_and]; omega⟩
def pcells (gs : List (Nat × Nat)) : List Value := gs.flatMap fun g => [.int .i64 (g.1 : Int), .int .i64 (g.2 : Int)]
theorem pcells_append (a b : List (Nat × Nat)) : pcells (a ++ b) = pcells a ++ pcells b := by simp [pcells]
theorem pcells_at : ∀ {gs : List (Nat × Nat)} {j : Nat} {s t : Nat}, gs[j]? = some (s, t) → (pcells gs)[j * 2]? = some (.int .i64 (s : Int)) ∧ (pcells gs)[j * 2 + 1]? = some (.int .i64 (t : Int))
  | [], j, s, t, h => by simp at h
  | g :: gs, 0, s, t, h => by
    simp only [List.getElem?_cons_zero, Option.some.injEq] at h
    subst h
    exact ⟨rfl, rfl⟩
  | g :: gs, j + 1, s, t, h => by
    simp only [List.getElem?_cons_succ] at h
    have := pcells_at h
    rw [show (j + 1) * 2 = j * 2 + 2 by omega]
    exact this
theorem ones_two (k j : Int) : ∀ u ∈ [Value.int .i64 k, Value.int .i64 j], u.oneCell' = true := by
  intro u hu
  simp at hu
  rcases hu with rfl | rfl <;> rfl

end Go.Proofs.Ytcglncepmieaaaa
