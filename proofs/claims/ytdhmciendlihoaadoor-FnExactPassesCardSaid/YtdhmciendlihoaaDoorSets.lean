/-
  Sets of states: the contracts of isSet, l00Rises, l01Set, l00Has, checkSetAndWord, markSet, set and l01Back.
-/
import Derived.Test.YtdhmciendlihoaaDoorHelp
namespace Go.Proofs.YtdhmciendlihoaaDoor
open Go.RowKit Go.Deep Go.ChangeShapes Go.WideShapes

def hasB (xs : List Int) (v : Int) : Bool := xs.any (fun x => decide (x = v))
theorem hasB_t {xs : List Int} {k : Nat} {x v : Int} (hx : xs[k]? = some x) (h : x = v) : hasB xs v = true := by
  simp only [hasB, List.any_eq_true, decide_eq_true_eq]
  exact ⟨x, List.mem_of_getElem? hx, h⟩
theorem hasB_snoc {xs : List Int} {k : Nat} {x v : Int} (hx : xs[k]? = some x) : hasB (xs.take (k + 1)) v = (hasB (xs.take k) v || decide (x = v)) := by
  rw [take_snoc hx]; simp [hasB]

/-- The place k of a set of states is right. -/
def setAt (s : Int) (xs : List Int) (k : Nat) : Bool := belowB s (xs.getD k 0) && (decide (k = 0) || decide (xs.getD (k - 1) 0 < xs.getD k 0))
def setB (s : Int) (xs : List Int) : Bool := (List.range xs.length).all (setAt s xs)
theorem setB_t {s : Int} {xs : List Int} {n : Nat} (hn : xs.length = n) (h : ∀ j, j < n → setAt s xs j = true) : setB s xs = true := by
  subst hn; simpa [setB] using h
theorem setB_f {s : Int} {xs : List Int} {n k : Nat} (hn : xs.length = n) (hk : k < n) (h : setAt s xs k = false) : setB s xs = false := by
  subst hn
  rw [setB, List.all_eq_false]
  exact ⟨k, List.mem_range.2 hk, by simp [h]⟩
theorem setB_mem {s : Int} {xs : List Int} (h : setB s xs = true) : ∀ x ∈ xs, 0 ≤ x ∧ x < s := by
  intro x hx
  obtain ⟨k, hk⟩ := List.getElem?_of_mem hx
  have hlt : k < xs.length := by
    rcases Nat.lt_or_ge k xs.length with h | h
    · exact h
    · rw [List.getElem?_eq_none h] at hk; cases hk
  simp only [setB, List.all_eq_true, List.mem_range, setAt, Bool.and_eq_true, belowB, decide_eq_true_eq] at h
  have := (h k hlt).1
  rw [List.getD, hk] at this
  exact this
theorem setAt_low {s x : Int} {xs : List Int} {k : Nat} (hx : xs[k]? = some x) (hb : belowB s x = false) : setAt s xs k = false := by
  simp [setAt, List.getD, hx, hb]
theorem setAt_first {s x : Int} {xs : List Int} (hx : xs[0]? = some x) (hb : belowB s x = true) : setAt s xs 0 = true := by
  simp [setAt, List.getD, hx, hb]
theorem setAt_next {s x y : Int} {xs : List Int} {k : Nat} (hx : xs[k + 1]? = some x) (hy : xs[k]? = some y) (hb : belowB s x = true) : setAt s xs (k + 1) = decide (y < x) := by
  simp [setAt, List.getD, hx, hy, hb]
theorem setAt_done {s : Int} {xs : List Int} {k : Nat} (h : ∀ j, j < k → setAt s xs j = true) (hk : setAt s xs k = true) : ∀ j, j < k + 1 → setAt s xs j = true := by
  intro j hj
  rcases Nat.lt_or_ge j k with h1 | h1
  · exact h j h1
  · obtain rfl : j = k := by omega
    exact hk

end Go.Proofs.YtdhmciendlihoaaDoor
