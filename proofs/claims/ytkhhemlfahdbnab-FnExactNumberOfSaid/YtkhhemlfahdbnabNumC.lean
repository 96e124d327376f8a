/-
  The number of a colouring: both NumberOf.
-/
import Derived.Test.YtkhhemlfahdbnabColK
import Derived.Test.YtkhhemlfahdbnabColC
import Derived.Test.YtkhhemlfahdbnabFindL
namespace Go.Proofs.Ytkhhemlfahdbnab
open Go.RowKit Go.Deep Go.ChangeShapes Go.WideShapes

theorem Grid.rowsCN {w : World} {g n : Nat} {xss : List (List Int)} (h : Grid w g xss) (hl : xss.length = n) : RowsC w (some ⟨g, 0, none⟩) n xss := by subst hl; exact (tab_of_grid h).rowsC rfl

/-- The digit of the town k. -/
def digF (X : List (List (List Int))) (yss : List (List Int)) (m k : Nat) : Int := findL (X.getD k []) (leadF yss m k) 0
def horF (X : List (List (List Int))) (yss : List (List Int)) (m : Nat) : Nat → Int
  | 0 => 0
  | k + 1 => horF X yss m k * ((X.getD k []).length : Int) + digF X yss m k
theorem digF_range {X : List (List (List Int))} {n m' : Nat} (hX : GoodX n m' X) {yss : List (List Int)} {m k : Nat} (hk : k < n) : -1 ≤ digF X yss m k ∧ digF X yss m k ≤ 6 := by
  have h1 := findL_range (xs := leadF yss m k) (Y := X.getD k []) (k0 := 0)
  have h2 := (hX.some_ k hk).2
  unfold digF
  exact ⟨h1.1, by have := h1.2; omega⟩
theorem mul_le6 {V B : Int} {L : Nat} (h1 : -B ≤ V) (h2 : V ≤ B) (hL : L ≤ 6) : -(6 * B) ≤ V * (L : Int) ∧ V * (L : Int) ≤ 6 * B := by
  rcases (show L = 0 ∨ L = 1 ∨ L = 2 ∨ L = 3 ∨ L = 4 ∨ L = 5 ∨ L = 6 by omega) with rfl | rfl | rfl | rfl | rfl | rfl | rfl <;> constructor <;> push_cast <;> omega
theorem horF_small {X : List (List (List Int))} {n m' : Nat} (hX : GoodX n m' X) (yss : List (List Int)) (m : Nat) : ∀ k, k ≤ n → -((12 : Int) ^ k) ≤ horF X yss m k ∧ horF X yss m k ≤ (12 : Int) ^ k
  | 0, _ => by simp [horF]
  | k + 1, hk => by
    obtain ⟨h1, h2⟩ := horF_small hX yss m k (by omega)
    obtain ⟨h3, h4⟩ := digF_range hX (yss := yss) (m := m) (show k < n by omega)
    obtain ⟨h5, h6⟩ := mul_le6 h1 h2 (hX.some_ k (by omega)).2
    have hp : (1 : Int) ≤ (12 : Int) ^ k := by
      have h0 : 0 < (12 : Nat) ^ k := Nat.pow_pos (by decide)
      have e : (12 : Int) ^ k = (((12 : Nat) ^ k : Nat) : Int) := by push_cast; rfl
      omega
    have he : (12 : Int) ^ (k + 1) = 12 * (12 : Int) ^ k := by rw [Int.pow_succ, Int.mul_comm]
    rw [horF, he]
    constructor <;> omega
theorem pow12 {k : Nat} (h : k ≤ 7) : (12 : Int) ^ k ≤ 35831808 := by
  rcases (show k = 0 ∨ k = 1 ∨ k = 2 ∨ k = 3 ∨ k = 4 ∨ k = 5 ∨ k = 6 ∨ k = 7 by omega) with rfl | rfl | rfl | rfl | rfl | rfl | rfl | rfl <;> decide

/-- What NumberOf answers. -/
def numberOf (s : Int) (xss : List (List Int)) (s' : Int) (yss : List (List Int)) : Int × Int :=
  if okR s xss = true ∧ okA s' yss = true then (if colB s xss s' yss = true then (horF (choF (xss.getD 0 []).length xss) yss yss.length xss.length, 0) else (0, 4)) else (0, 1)
theorem numberOf_1 {s s' : Int} {xss yss : List (List Int)} (h : ¬ (okR s xss = true ∧ okA s' yss = true)) : numberOf s xss s' yss = (0, 1) := by unfold numberOf; rw [if_neg h]
theorem numberOf_4 {s s' : Int} {xss yss : List (List Int)} (h : okR s xss = true) (h' : okA s' yss = true) (hc : colB s xss s' yss = false) : numberOf s xss s' yss = (0, 4) := by unfold numberOf; rw [if_pos ⟨h, h'⟩, if_neg (by simp [hc])]
theorem numberOf_0 {s s' : Int} {n m m' : Nat} {xss yss : List (List Int)} (h : okR s xss = true) (h' : okA s' yss = true) (hc : colB s xss s' yss = true) (hn : xss.length = n) (hm : (xss.getD 0 []).length = m) (hm' : yss.length = m') : numberOf s xss s' yss = (horF (choF m xss) yss m' n, 0) := by unfold numberOf; rw [if_pos ⟨h, h'⟩, if_pos hc, hn, hm, hm']
theorem two_mkn {r : Int × Int} {b : Int} {c : Int} (h : r = (b, c)) : Ending.returned (.tuple #[.int .i64 b, .int .i64 c]) = .returned (.tuple #[.int .i64 r.1, .int .i64 r.2]) := by rw [h]
theorem colB_states {s : Int} {n' : Nat} {xss yss : List (List Int)} (h : colB s xss (n' : Int) yss = true) : s = (n' : Int) := by
  rw [colB_is rfl] at h
  simp only [sameA, decide_eq_true_eq] at h
  exact h.1

end Go.Proofs.Ytkhhemlfahdbnab
