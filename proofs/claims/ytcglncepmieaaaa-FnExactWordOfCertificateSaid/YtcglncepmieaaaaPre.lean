/-
  PreimageOf: the contracts of set and of both PreimageOf.
-/
import Derived.Test.YtcglncepmieaaaaMarks
namespace Go.Proofs.Ytcglncepmieaaaa
open Go.RowKit Go.Deep Go.ChangeShapes Go.WideShapes

/-- The marked states below k. -/
def setL (f : Nat → Bool) (k : Nat) : List Int := ((List.range k).filter f).map fun q => ((q : Nat) : Int)
theorem setL_t {f : Nat → Bool} {k : Nat} (h : f k = true) : setL f (k + 1) = setL f k ++ [(k : Int)] := by
  simp [setL, List.range_succ, List.filter_append, h]
theorem setL_f {f : Nat → Bool} {k : Nat} (h : f k = false) : setL f (k + 1) = setL f k := by
  simp [setL, List.range_succ, List.filter_append, h]
theorem setL_len (f : Nat → Bool) (k : Nat) : (setL f k).length ≤ k := by
  rw [setL, List.length_map]
  exact Nat.le_trans (List.length_filter_le _ _) (by simp)

/-- What PreimageOf answers. -/
def preimageOf (s : Int) (xss : List (List Int)) (set ws : List Int) : List Int × Int :=
  if codeB s xss set ws = 0 then (backL xss set ws s.toNat, 0) else ([], codeB s xss set ws)
theorem preimageOf_no {s : Int} {xss : List (List Int)} {set ws : List Int} {c : Int} (h : codeB s xss set ws = c) (hc : ¬ c = 0) : preimageOf s xss set ws = ([], c) := by
  unfold preimageOf; rw [h, if_neg hc]
theorem preimageOf_0 {s : Int} {xss : List (List Int)} {set ws : List Int} (h : codeB s xss set ws = 0) : preimageOf s xss set ws = (backL xss set ws s.toNat, 0) := by
  unfold preimageOf; rw [if_pos h]
theorem code_parts {s : Int} {xss : List (List Int)} {set ws : List Int} (h : codeB s xss set ws = 0) : okA s xss = true ∧ setB s set = true ∧ isWordB (xss.length : Int) ws = true := by
  unfold codeB at h
  split at h
  · rename_i h1
    split at h
    · rename_i h2; exact ⟨h1, h2⟩
    · cases h
  · cases h

end Go.Proofs.Ytcglncepmieaaaa
