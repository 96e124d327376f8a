/-
  The program's PreimageOf.
-/
import Derived.Test.YtcglncepmieaaaaPre
namespace Go.Proofs.Ytcglncepmieaaaa
open Go.RowKit Go.Deep Go.ChangeShapes Go.WideShapes

/-- The states below k from which the word leads to the set, as marks. -/
def preM (xss : List (List Int)) (set ws : List Int) (k : Nat) : Nat → Bool := fun q => decide (q < k) && hasB set ((toS xss ws q : Nat) : Int)
theorem preM_0 (xss : List (List Int)) (set ws : List Int) : preM xss set ws 0 = fun _ => false := by funext q; simp [preM]
theorem preM_step (xss : List (List Int)) (set ws : List Int) (k : Nat) : upd (preM xss set ws k) k (hasB set ((toS xss ws k : Nat) : Int)) = preM xss set ws (k + 1) := by
  funext q
  unfold upd preM
  by_cases h : q = k
  · subst h; simp
  · have e : decide (q < k + 1) = decide (q < k) := by congr 1; exact propext ⟨fun _ => by omega, fun _ => by omega⟩
    rw [if_neg h, e]
theorem setL_pre {xss : List (List Int)} {set ws : List Int} {n : Nat} (hn : n ≤ 10) : setL (preM xss set ws n) 10 = backL xss set ws n := by
  obtain ⟨d, hd⟩ : ∃ d, 10 = n + d := ⟨10 - n, by omega⟩
  rw [hd]
  unfold setL backL
  congr 1
  clear hd
  induction d with
  | zero =>
    apply List.filter_congr
    intro q hq
    have : q < n := by simpa using hq
    simp [preM, this]
  | succ d ih =>
    rw [show n + (d + 1) = (n + d) + 1 from rfl, List.range_succ, List.filter_append, ih]
    have : ¬ n + d < n := by omega
    simp [preM, this]

end Go.Proofs.Ytcglncepmieaaaa
