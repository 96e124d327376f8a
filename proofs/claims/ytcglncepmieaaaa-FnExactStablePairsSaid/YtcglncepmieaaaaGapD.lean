/-
  Partial automata: which are valid (lists alone).
-/
import Derived.Test.YtcglncepmieaaaaFill
import Derived.Test.YtcglncepmieaaaaPart
import Derived.Test.YtcglncepmieaaaaWords
namespace Go.Proofs.Ytcglncepmieaaaa
open Go.RowKit Go.Deep Go.ChangeShapes Go.WideShapes

def okP (s : Int) (xss : List (List Int)) : Bool := okF s (inB (-1) (s - 1)) xss

/-- A valid partial automaton with n states and m letters. -/
structure GoodP (n m : Nat) (xss : List (List Int)) : Prop where
  n1 : 1 ≤ n
  n10 : n ≤ 10
  m1 : 1 ≤ m
  m3 : m ≤ 3
  len : xss.length = m
  row : ∀ x, x < m → ∃ row, xss[x]? = some row ∧ row.length = n ∧ ∀ y ∈ row, -1 ≤ y ∧ y < (n : Int)
theorem goodP_of {s : Int} {m : Nat} {xss : List (List Int)} (h : okP s xss = true) (hm : xss.length = m) : ∃ n : Nat, s = (n : Int) ∧ GoodP n m xss := by
  simp only [okP, okF, Bool.and_eq_true, inB, decide_eq_true_eq, List.all_eq_true] at h
  obtain ⟨⟨h1, h2⟩, h3⟩ := h
  refine ⟨s.toNat, by omega, by omega, by omega, by omega, by omega, hm, fun x hx => ?_⟩
  have hx' : x < xss.length := by omega
  have := h3 xss[x] (List.getElem_mem hx')
  simp only [lineF, Bool.and_eq_true, decide_eq_true_eq, List.all_eq_true, inB] at this
  exact ⟨xss[x], List.getElem?_eq_getElem hx', by omega, fun y hy => by have := this.1 y hy; omega⟩
theorem GoodP.at_ {n m : Nat} {xss : List (List Int)} (h : GoodP n m xss) {x : Nat} (hx : x < m) : (xss.getD x []).length = n ∧ ∀ y ∈ xss.getD x [], -1 ≤ y ∧ y < (n : Int) := by
  obtain ⟨row, h1, h2⟩ := h.row x hx
  rw [List.getD_eq_getElem?_getD, h1]
  exact h2

end Go.Proofs.Ytcglncepmieaaaa
