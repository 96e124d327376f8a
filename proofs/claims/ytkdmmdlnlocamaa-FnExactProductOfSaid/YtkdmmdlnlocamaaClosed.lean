/-
  Closed sets: the contracts of isClosed and l01Closed.
-/
import Derived.Test.YtkdmmdlnlocamaaSel
import Derived.Test.YtkdmmdlnlocamaaPre
namespace Go.Proofs.Ytkdmmdlnlocamaa
open Go.RowKit Go.Deep Go.ChangeShapes Go.WideShapes

def Closed (m : Nat) (xss : List (List Int)) (set : List Int) : Prop := ∀ x, x < m → ∀ (k : Nat) (y : Int), set[k]? = some y → hasB set ((nx xss x y.toNat : Nat) : Int) = true
noncomputable def closedB (m : Nat) (xss : List (List Int)) (set : List Int) : Bool := @decide (Closed m xss set) (Classical.propDecidable _)
theorem closedB_t {m : Nat} {xss : List (List Int)} {set : List Int} (h : Closed m xss set) : closedB m xss set = true := by
  unfold closedB; exact @decide_eq_true _ (Classical.propDecidable _) h
theorem closedB_f {m : Nat} {xss : List (List Int)} {set : List Int} (h : ¬ Closed m xss set) : closedB m xss set = false := by
  unfold closedB; exact @decide_eq_false _ (Classical.propDecidable _) h
theorem closedB_is {m : Nat} {xss : List (List Int)} {set : List Int} (h : closedB m xss set = true) : Closed m xss set := by
  unfold closedB at h; exact @of_decide_eq_true _ (Classical.propDecidable _) h

end Go.Proofs.Ytkdmmdlnlocamaa
