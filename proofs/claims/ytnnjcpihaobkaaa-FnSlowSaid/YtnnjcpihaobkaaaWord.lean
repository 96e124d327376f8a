/-
  The model's first words: the contracts of (*l02Walk).word and of l02Shrink.
-/
import Derived.Test.YtnnjcpihaobkaaaFrom
import Derived.Deep.LoopGhost
namespace Go.Proofs.Ytnnjcpihaobkaaa
open Go.RowKit Go.Deep Go.ChangeShapes Go.WideShapes

namespace From
open Hunt Srch Moved

/-- The letters from a place on, back to the root: the rest of the word. -/
theorem word_back {aft : Nat → Nat → Nat} {m cap b0 i : Nat} {T : List Fnd} (h : Inv aft m cap b0 T i) {j : Nat} {e : Fnd} (hj : T[j]? = some e) : (j = 0 ∧ e.par = -1 ∧ e.word = []) ∨ ∃ (p : Nat) (f : Fnd), p < j ∧ T[p]? = some f ∧ e.par = (p : Int) ∧ e.word = f.word ++ [e.ltr] ∧ 0 ≤ e.ltr ∧ e.ltr < (m : Int) := by
  rcases h.par j e hj with a | ⟨p, f, h1, _, h2, h3, h4, h5, h6⟩
  · exact .inl a
  · exact .inr ⟨p, f, h1, h2, h3, h4, h5, h6⟩

/-- Whether there is one. -/
def hitB (o : Option Fnd) : Bool := o.isSome
theorem fnd_len {n m b : Nat} {xss : List (List Int)} (hg : Good n m xss) (hb : b < 1024) : (fnd n m xss 1024 b).length ≤ 1024 := all_len (small hg hb)
end From

end Go.Proofs.Ytnnjcpihaobkaaa
