/-
  Which partial automata are valid: the contracts of l04Size, l04Ok and of both ValidPartial.
-/
import Derived.Test.YtcglncepmieaaaaGapD
namespace Go.Proofs.Ytcglncepmieaaaa
open Go.RowKit Go.Deep Go.ChangeShapes Go.WideShapes

def sizeB (s : Int) (m : Nat) : Bool := inB 1 10 s && inB 1 3 (m : Int)
theorem sizeB_f {s : Int} {m : Nat} {p : Int → Bool} {xss : List (List Int)} (hm : xss.length = m) (h : sizeB s m = false) : okF s p xss = false := by
  subst hm
  unfold sizeB at h
  unfold okF
  rw [h]; rfl
theorem sizeB_t {s : Int} {m : Nat} (h : sizeB s m = true) : (1 ≤ s ∧ s ≤ 10) ∧ 1 ≤ (m : Int) ∧ (m : Int) ≤ 3 := by
  simp only [sizeB, inB, Bool.and_eq_true, decide_eq_true_eq] at h
  exact h

theorem okF_low {s : Int} {p : Int → Bool} {xss : List (List Int)} (hs : ¬ 1 ≤ s) : okF s p xss = okF s (inB (-1) (s - 1)) xss := by
  rw [okF_1 (fun h => hs h.1), okF_1 (fun h => hs h.1)]
end Go.Proofs.Ytcglncepmieaaaa
