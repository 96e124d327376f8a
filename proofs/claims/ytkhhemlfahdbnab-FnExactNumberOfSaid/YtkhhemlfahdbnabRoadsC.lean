/-
  The roads of an automaton: what RoadsOf answers, and the contracts of both RoadsOf.
-/
import Derived.Test.YtkhhemlfahdbnabRoadS
namespace Go.Proofs.Ytkhhemlfahdbnab
open Go.RowKit Go.Deep Go.ChangeShapes Go.WideShapes

theorem roadL_sum (xss : List (List Int)) (m k : Nat) : sumLens (roadL xss m k) = k * m := by
  induction k with
  | zero => simp [roadL, sumLens]
  | succ k ih =>
    unfold sumLens at ih ⊢
    rw [roadL_succ, List.map_append, List.sum_append, ih, Nat.add_mul, Nat.one_mul]
    simp [sortF_len, leadF_len]
/-- What RoadsOf answers. -/
def roadsOf (s : Int) (xss : List (List Int)) : Int × List (List Int) × Int :=
  if okA s xss = true then (if 7 < s then (0, [], 3) else (s, roadL xss xss.length s.toNat, 0)) else (0, [], 1)
theorem roadsOf_1 {s : Int} {xss : List (List Int)} (h : okA s xss = false) : roadsOf s xss = (0, [], 1) := by unfold roadsOf; rw [if_neg (by simp [h])]
theorem roadsOf_3 {s : Int} {xss : List (List Int)} (h : okA s xss = true) (h' : 7 < s) : roadsOf s xss = (0, [], 3) := by unfold roadsOf; rw [if_pos h, if_pos h']
theorem roadsOf_0 {n m : Nat} {xss : List (List Int)} (h : okA (n : Int) xss = true) (hm : xss.length = m) (h' : ¬ 7 < (n : Int)) : roadsOf (n : Int) xss = ((n : Int), roadL xss m n, 0) := by
  unfold roadsOf; rw [if_pos h, if_neg h', hm, Int.toNat_natCast]
theorem roadsOf_len (s : Int) (xss : List (List Int)) : (roadsOf s xss).2.1.length ≤ 10 := by
  unfold roadsOf
  split
  · rename_i hok
    obtain ⟨n, rfl, hg⟩ := good_of hok rfl
    split
    · exact Nat.zero_le _
    · rw [roadL_len]; exact hg.n10
  · exact Nat.zero_le _
theorem roadsOf_sum (s : Int) (xss : List (List Int)) : sumLens (roadsOf s xss).2.1 ≤ 30 := by
  unfold roadsOf
  split
  · rename_i hok
    obtain ⟨n, rfl, hg⟩ := good_of hok rfl
    split
    · exact Nat.zero_le _
    · show sumLens (roadL xss xss.length ((n : Int)).toNat) ≤ 30
      rw [roadL_sum, Int.toNat_natCast]
      have h1 := hg.m3
      have h2 := hg.n10
      exact Nat.mul_le_mul h2 h1
  · exact Nat.zero_le _
theorem tab_only2 {lo hi : Nat} {w : World} {v : Value} {xss : List (List Int)} {B : Nat} {y0 y1 : Value} (h : TabIn lo hi w v xss) (hd : B < lo) : TabIn lo hi ((w.setCell ⟨B, 0, none⟩ y0).setCell ⟨B, 1, none⟩ y1) v xss := h.only (set2_onlyR _ _ _ _) (.inr hd)

end Go.Proofs.Ytkhhemlfahdbnab
