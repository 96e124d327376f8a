/-
  The first words to one state: the contract of mergingWord, and what both sides answer.
-/
import Derived.Test.YtcdchnddmeofgaaFirst
import Derived.Test.YtcdchnddmeofgaaWord
import Derived.Test.YtcdchnddmeofgaaLaw
namespace Go.Proofs.Ytcdchnddmeofgaa
open Go.RowKit Go.Deep Go.ChangeShapes Go.WideShapes

namespace Srch
open Hunt Room From Moved

/-- What is told of the first word that the program finds. -/
noncomputable def cutW (n m : Nat) (xss : List (List Int)) (b0 : Nat) : List Int × Int := toldW (firstF mergedB (fnd n m xss 400 b0))
noncomputable def freeW (n m : Nat) (xss : List (List Int)) (b0 : Nat) : List Int × Int := toldW (firstF mergedB (fnd n m xss 1024 b0))
end Srch

end Go.Proofs.Ytcdchnddmeofgaa
