/-
  Which lists are words of an automaton: the contracts of l01Word, isLetterList and of both ValidWord.
-/
import Derived.Test.YtdelanjkaokiaaaValid
namespace Go.Proofs.Ytdelanjkaokiaaa
open Go.RowKit Go.Deep Go.ChangeShapes Go.WideShapes

def isWordB (m : Int) (xs : List Int) : Bool := decide (xs.length ≤ 400) && xs.all (belowB m)
theorem isWordB_t {m : Int} {xs : List Int} (h : xs.length ≤ 400) (h' : xs.all (belowB m) = true) : isWordB m xs = true := by simp [isWordB, h, h']
theorem isWordB_f {m : Int} {xs : List Int} (h : ¬ xs.length ≤ 400) : isWordB m xs = false := by simp [isWordB, h]
theorem isWordB_g {m : Int} {xs : List Int} (h : xs.all (belowB m) = false) : isWordB m xs = false := by simp [isWordB, h]

theorem okA_parts {s : Int} {xss : List (List Int)} (h : okA s xss = true) : (1 ≤ s ∧ s ≤ 10) ∧ (1 ≤ xss.length ∧ xss.length ≤ 3) ∧ ∀ (r : Nat) (xs : List Int), xss[r]? = some xs → (xs.length : Int) = s ∧ ∀ x ∈ xs, 0 ≤ x ∧ x < s := by
  simp only [okA, Bool.and_eq_true, inB, decide_eq_true_eq, List.all_eq_true] at h
  obtain ⟨⟨h1, h2⟩, h3⟩ := h
  refine ⟨h1, ⟨by omega, by omega⟩, fun r xs hx => ?_⟩
  have := h3 xs (List.mem_of_getElem? hx)
  simp only [mapB, Bool.and_eq_true, decide_eq_true_eq, List.all_eq_true, belowB] at this
  exact ⟨this.2, this.1⟩

end Go.Proofs.Ytdelanjkaokiaaa
