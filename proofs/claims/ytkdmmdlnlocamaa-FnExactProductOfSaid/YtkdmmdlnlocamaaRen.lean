/-
  The model's automata of some states: the contracts of l01Renumbered and of the model's RestrictTo.
-/
import Derived.Test.YtkdmmdlnlocamaaClosed
import Derived.Deep.AppendLies
namespace Go.Proofs.Ytkdmmdlnlocamaa
open Go.RowKit Go.Deep Go.ChangeShapes Go.WideShapes

theorem only_of_below' {B : Nat} {w w' : World} (h : Below B w w') : Only B w.heap.size w w' := ⟨h.os, h.tape, h.output, h.size, fun k hk hb => h.block k (by omega)⟩
theorem tabV_nil (lo hi : Nat) (w : World) (n : Nat) (f : Nat → Nat → Int) : TabV lo hi w (.slice none 0 0) [] (rowsF n f 0) := by
  refine ⟨rfl, World.ownsRow_nil _ _ _ _, fun g hg => ?_, fun r u xs hu => ?_, fun r r' u u' g hu => ?_, fun r u g hu => ?_⟩
  · simp [Value.ownBlock] at hg
  · simp at hu
  · simp at hu
  · simp at hu

end Go.Proofs.Ytkdmmdlnlocamaa
