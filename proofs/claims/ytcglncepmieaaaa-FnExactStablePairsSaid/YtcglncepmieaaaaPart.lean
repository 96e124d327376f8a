/-
  Partial automata as the laws hold them: the contracts of what the laws do with them.
-/
import Derived.Test.YtcglncepmieaaaaLaw
namespace Go.Proofs.Ytcglncepmieaaaa
open Go.RowKit Go.Deep Go.ChangeShapes Go.WideShapes

end Go.Proofs.Ytcglncepmieaaaa
