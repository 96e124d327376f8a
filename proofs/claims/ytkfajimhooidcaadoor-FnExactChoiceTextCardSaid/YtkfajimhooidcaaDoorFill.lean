/-
  Which automata are valid, in the program: the contracts of IndexFunc, ContainsFunc and isFilled, for whatever function tells which elements are right.
-/
import Derived.Test.YtkfajimhooidcaaDoorAuto
namespace Go.Proofs.YtkfajimhooidcaaDoor
open Go.RowKit Go.Deep Go.ChangeShapes Go.WideShapes

/-- Valid: the numbers of states and letters are right, and each letter has a list with a right element for each state. -/
def lineF (s : Int) (p : Int → Bool) (xs : List Int) : Bool := xs.all p && decide ((xs.length : Int) = s)
def okF (s : Int) (p : Int → Bool) (xss : List (List Int)) : Bool := inB 1 10 s && inB 1 3 (xss.length : Int) && xss.all (lineF s p)
theorem lineF_of {s : Int} {p : Int → Bool} {xs : List Int} (h : (xs.length : Int) = s) : lineF s p xs = !xs.any (fun x => !p x) := by
  simp [lineF, h, List.all_eq_not_any_not]
theorem lineF_no {s : Int} {p : Int → Bool} {xs : List Int} (h : ¬ (xs.length : Int) = s) : lineF s p xs = false := by simp [lineF, h]
theorem okF_1 {s : Int} {p : Int → Bool} {xss : List (List Int)} (h : ¬ (1 ≤ s ∧ s ≤ 10)) : okF s p xss = false := by rw [okF, inB_f h]; rfl
theorem okF_2 {s : Int} {p : Int → Bool} {xss : List (List Int)} (h : ¬ (1 ≤ (xss.length : Int) ∧ (xss.length : Int) ≤ 3)) : okF s p xss = false := by rw [okF, inB_f h]; simp
theorem okF_3 {s : Int} {p : Int → Bool} {xss : List (List Int)} {k : Nat} {xs : List Int} (hx : xss[k]? = some xs) (h : lineF s p xs = false) : okF s p xss = false := by
  have : xss.all (lineF s p) = false := by rw [List.all_eq_false]; exact ⟨xs, List.mem_of_getElem? hx, by simp [h]⟩
  simp [okF, this]
theorem okF_t {s : Int} {p : Int → Bool} {xss : List (List Int)} (h1 : 1 ≤ s ∧ s ≤ 10) (h2 : 1 ≤ (xss.length : Int) ∧ (xss.length : Int) ≤ 3) (h3 : xss.all (lineF s p) = true) : okF s p xss = true := by
  rw [okF, inB_t h1, inB_t h2, h3]; rfl
theorem fill_snoc {q : List Int → Bool} {xss : List (List Int)} {k : Nat} {x : List Int} (h : (xss.take k).all q = true) (hx : xss[k]? = some x) (hp : q x = true) : (xss.take (k + 1)).all q = true := by
  rw [List.take_add_one, hx]
  simp [hp]
  simpa using h

end Go.Proofs.YtkfajimhooidcaaDoor
