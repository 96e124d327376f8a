/-
  Which partial automata are valid: the contracts of l04Size, l04Ok and of both ValidPartial.
-/
import Derived.Test.YtkfajimhooidcaaDoorGapD
namespace Go.Proofs.YtkfajimhooidcaaDoor
open Go.RowKit Go.Deep Go.ChangeShapes Go.WideShapes

def sizeB (s : Int) (m : Nat) : Bool := inB 1 10 s && inB 1 3 (m : Int)
theorem l04Size_any (s : Int) (m : Nat) (w : World) : Calls Tryd.prog 44 #[.int .i64 s, .int .i64 (m : Int)] w fun e w' => e = .returned (.bool (sizeB s m)) ∧ w = w' := by
  unfold sizeB
  rcases hs : inB 1 10 s with _ | _
  · go_enter Tryd.func44, Tryd.ntmps44
    go_wp2_with (go_at_call 38; refine (l00In_any _ _ _ _).mono ?_; rintro e w' ⟨rfl, rfl⟩)
    go_ret
    exact ⟨rfl, rfl⟩
  · go_enter Tryd.func44, Tryd.ntmps44
    go_wp2_with (go_at_call 38; refine (l00In_any _ _ _ _).mono ?_; rintro e w' ⟨rfl, rfl⟩)
    go_ret
    exact ⟨rfl, rfl⟩
theorem sizeB_f {s : Int} {m : Nat} {p : Int → Bool} {xss : List (List Int)} (hm : xss.length = m) (h : sizeB s m = false) : okF s p xss = false := by
  subst hm
  unfold sizeB at h
  unfold okF
  rw [h]; rfl
theorem sizeB_t {s : Int} {m : Nat} (h : sizeB s m = true) : (1 ≤ s ∧ s ≤ 10) ∧ 1 ≤ (m : Int) ∧ (m : Int) ≤ 3 := by
  simp only [sizeB, inB, Bool.and_eq_true, decide_eq_true_eq] at h
  exact h

theorem okF_low {s : Int} {p : Int → Bool} {xss : List (List Int)} (hs : ¬ 1 ≤ s) : okF s p xss = okF s (inB (-1) (s - 1)) xss := by
  rw [okF_1 (fun h => hs h.1), okF_1 (fun h => hs h.1)]
end Go.Proofs.YtkfajimhooidcaaDoor
