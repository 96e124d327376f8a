/-
  The place of a number in a list; the automaton of some states: the contracts of l01Place, slices.Index and selectStates.
-/
import Derived.Test.YtkdmmdlnlocamaaBuild
import Derived.Test.YtkdmmdlnlocamaaPlace
import Derived.Test.YtkdmmdlnlocamaaKeeps
namespace Go.Proofs.Ytkdmmdlnlocamaa
open Go.RowKit Go.Deep Go.ChangeShapes Go.WideShapes

/-- Where a letter leads from the state at a place of a list: its place. -/
def selF (xss : List (List Int)) (L : List Int) (x q : Nat) : Int := placeOf L ((nx xss x (L.getD q 0).toNat : Nat) : Int) 0

theorem box2_set {w : World} {B : Nat} {x0 x1 : Value} {T : TypeId} (h : w.heap[B]? = some (.cells #[x0, x1] T (0, 0))) (y0 y1 : Value) :
    (w.setCell ⟨B, 0, none⟩ y0).cell? ⟨B, 0, none⟩ = some y0 ∧ ((w.setCell ⟨B, 0, none⟩ y0).setCell ⟨B, 1, none⟩ y1).cell? ⟨B, 1, none⟩ = some y1 := by
  have g0 : (w.setCell ⟨B, 0, none⟩ y0).heap[B]? = some (.cells #[y0, x1] T (0, 0)) := by rw [heap_setCell_same w B 0 _ _ _ h]; rfl
  have g1 : ((w.setCell ⟨B, 0, none⟩ y0).setCell ⟨B, 1, none⟩ y1).heap[B]? = some (.cells #[y0, y1] T (0, 0)) := by rw [heap_setCell_same _ B 1 _ _ _ g0]; rfl
  exact ⟨cell_of_row _ B 0 _ _ _ g0, cell_of_row _ B 1 _ _ _ g1⟩
theorem box2_cells {w : World} {B : Nat} {x0 x1 : Value} {T : TypeId} (h : w.heap[B]? = some (.cells #[x0, x1] T (0, 0))) :
    w.cell? ⟨B, 0, none⟩ = some x0 ∧ w.cell? ⟨B, 1, none⟩ = some x1 ∧ w.frozen? ⟨B, 0, none⟩ = false ∧ w.frozen? ⟨B, 1, none⟩ = false :=
  ⟨cell_of_row _ B 0 _ _ _ h, cell_of_row _ B 1 _ _ _ h, frozen_of_row _ B 0 _ _ h, frozen_of_row _ B 1 _ _ h⟩
theorem set2_only (w : World) (B : Nat) (y0 y1 : Value) : Only B (B + 1) w ((w.setCell ⟨B, 0, none⟩ y0).setCell ⟨B, 1, none⟩ y1) := (only_setCell w B 0 y0).trans (only_setCell _ B 1 y1)
theorem set2_size (w : World) (B : Nat) (y0 y1 : Value) : ((w.setCell ⟨B, 0, none⟩ y0).setCell ⟨B, 1, none⟩ y1).heap.size = w.heap.size := by rw [World.size_setCell, World.size_setCell]

end Go.Proofs.Ytkdmmdlnlocamaa
