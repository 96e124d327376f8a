/-
  Roads, on lists alone: which are valid, lists in order, sorting by insertion.
-/
import Derived.Test.YtogbglbmkkbhcaaDoorRoad
namespace Go.Proofs.YtogbglbmkkbhcaaDoor
open Go.RowKit Go.Deep Go.ChangeShapes Go.WideShapes

/-- The first q elements are in order. -/
def upB (xs : List Int) (q : Nat) : Bool := decide (∀ k, k < q - 1 → xs.getD k 0 ≤ xs.getD (k + 1) 0)
theorem upB_0 (xs : List Int) : upB xs 0 = true := by simp [upB]
theorem upB_step {xs : List Int} {q : Nat} (h : upB xs q = true) (h2 : q = 0 ∨ xs.getD (q - 1) 0 ≤ xs.getD q 0) : upB xs (q + 1) = true := by
  simp only [upB, decide_eq_true_eq] at h ⊢
  intro k hk
  by_cases e : k < q - 1
  · exact h k e
  · have : k = q - 1 := by omega
    subst this
    rcases h2 with rfl | h2
    · omega
    · have e2 : q - 1 + 1 = q := by omega
      rw [e2]
      exact h2
theorem upB_no {xs : List Int} {q : Nat} (hq : 0 < q) (hn : q < xs.length) (h : ¬ xs.getD (q - 1) 0 ≤ xs.getD q 0) : upB xs xs.length = false := by
  simp only [upB, decide_eq_false_iff_not]
  intro hh
  have := hh (q - 1) (by omega)
  have e2 : q - 1 + 1 = q := by omega
  rw [e2] at this
  exact h this
theorem upB_all {xs : List Int} (h : ∀ k, k + 1 < xs.length → xs.getD k 0 ≤ xs.getD (k + 1) 0) : upB xs xs.length = true := by
  simp only [upB, decide_eq_true_eq]
  intro k hk
  exact h k (by omega)
theorem getD_of {xs : List Int} {k : Nat} {x : Int} (h : xs[k]? = some x) : xs.getD k 0 = x := by
  rw [List.getD_eq_getElem?_getD, h]; rfl

/-- The roads of one town: m of them, to towns below s, in order. -/
def rowR (s : Int) (m : Nat) (xs : List Int) : Bool := decide (xs.length = m) && xs.all (belowB s) && upB xs xs.length
def okR (s : Int) (xss : List (List Int)) : Bool := inB 1 7 s && decide ((xss.length : Int) = s) && inB 1 3 ((xss.getD 0 []).length : Int) && xss.all (rowR s (xss.getD 0 []).length)
theorem rowR_1 {s : Int} {m : Nat} {xs : List Int} (h : ¬ xs.length = m) : rowR s m xs = false := by simp [rowR, h]
theorem rowR_2 {s : Int} {m : Nat} {xs : List Int} (h : xs.all (belowB s) = false) : rowR s m xs = false := by simp [rowR, h]
theorem rowR_3 {s : Int} {m : Nat} {xs : List Int} (h : upB xs xs.length = false) : rowR s m xs = false := by simp [rowR, h]
theorem rowR_t {s : Int} {m : Nat} {xs : List Int} (h1 : xs.length = m) (h2 : xs.all (belowB s) = true) (h3 : upB xs xs.length = true) : rowR s m xs = true := by unfold rowR; rw [decide_eq_true h1, h2, h3]; rfl
theorem okR_1 {s : Int} {xss : List (List Int)} (h : inB 1 7 s = false) : okR s xss = false := by simp [okR, h]
theorem okR_2 {s : Int} {xss : List (List Int)} (h : ¬ (xss.length : Int) = s) : okR s xss = false := by simp [okR, h]
theorem okR_3 {s : Int} {xss : List (List Int)} {m : Nat} (hm : (xss.getD 0 []).length = m) (h : inB 1 3 (m : Int) = false) : okR s xss = false := by unfold okR; rw [hm, h, Bool.and_false, Bool.false_and]
theorem okR_4 {s : Int} {xss : List (List Int)} {m k : Nat} {xs : List Int} (hm : (xss.getD 0 []).length = m) (hx : xss[k]? = some xs) (h : rowR s m xs = false) : okR s xss = false := by
  have : xss.all (rowR s (xss.getD 0 []).length) = false := by
    rw [List.all_eq_false]
    exact ⟨xs, List.mem_of_getElem? hx, by rw [hm, h]; simp⟩
  unfold okR
  rw [this, Bool.and_false]
theorem okR_t {s : Int} {xss : List (List Int)} {m : Nat} (h1 : inB 1 7 s = true) (h2 : (xss.length : Int) = s) (hm : (xss.getD 0 []).length = m) (h3 : inB 1 3 (m : Int) = true) (h4 : xss.all (rowR s m) = true) : okR s xss = true := by
  unfold okR
  rw [hm, h1, h3, h4, decide_eq_true h2]; rfl

/-- Valid roads: n towns, m roads out of each one. -/
structure GoodR (n m : Nat) (xss : List (List Int)) : Prop where
  len : xss.length = n
  n1 : 1 ≤ n
  n7 : n ≤ 7
  m1 : 1 ≤ m
  m3 : m ≤ 3
  row : ∀ k, k < n → ∃ xs, xss[k]? = some xs ∧ xs.length = m ∧ (∀ x ∈ xs, 0 ≤ x ∧ x < (n : Int)) ∧ upB xs xs.length = true
theorem goodR_of {s : Int} {xss : List (List Int)} {n : Nat} (h : okR s xss = true) (hn : xss.length = n) : ∃ m : Nat, s = (n : Int) ∧ (xss.getD 0 []).length = m ∧ GoodR n m xss := by
  unfold okR at h
  simp only [Bool.and_eq_true, decide_eq_true_eq, inB, List.all_eq_true] at h
  obtain ⟨⟨⟨h1, h2⟩, h3⟩, h4⟩ := h
  refine ⟨(xss.getD 0 []).length, by omega, rfl, hn, by omega, by omega, by omega, by omega, fun k hk => ?_⟩
  have hk' : k < xss.length := by omega
  have hr := h4 xss[k] (List.getElem_mem hk')
  simp only [rowR, Bool.and_eq_true, decide_eq_true_eq, List.all_eq_true, belowB] at hr
  exact ⟨xss[k], List.getElem?_eq_getElem hk', hr.1.1, fun x hx => by have := hr.1.2 x hx; omega, hr.2⟩

/-! ### Sorting by insertion -/
/-- The element at k sinks down to its place. -/
def sinkF : Nat → List Int → List Int
  | 0, xs => xs
  | k + 1, xs => if xs.getD (k + 1) 0 < xs.getD k 0 then sinkF k ((xs.set (k + 1) (xs.getD k 0)).set k (xs.getD (k + 1) 0)) else xs
def sortTo (xs : List Int) : Nat → List Int
  | 0 => xs
  | i + 1 => sinkF i (sortTo xs i)
def sortF (xs : List Int) : List Int := sortTo xs xs.length
theorem sinkF_len : ∀ (k : Nat) (xs : List Int), (sinkF k xs).length = xs.length
  | 0, _ => rfl
  | k + 1, xs => by
    unfold sinkF
    split
    · rw [sinkF_len k]; simp
    · rfl
theorem sortTo_len (xs : List Int) : ∀ i, (sortTo xs i).length = xs.length
  | 0 => rfl
  | i + 1 => by rw [sortTo, sinkF_len, sortTo_len xs i]
theorem sortF_len (xs : List Int) : (sortF xs).length = xs.length := sortTo_len xs _
theorem sinkF_go {k : Nat} {xs : List Int} (h : xs.getD (k + 1) 0 < xs.getD k 0) : sinkF (k + 1) xs = sinkF k ((xs.set (k + 1) (xs.getD k 0)).set k (xs.getD (k + 1) 0)) := by
  rw [sinkF, if_pos h]
theorem sinkF_stop {k : Nat} {xs : List Int} (h : ¬ xs.getD (k + 1) 0 < xs.getD k 0) : sinkF (k + 1) xs = xs := by
  rw [sinkF, if_neg h]

end Go.Proofs.YtogbglbmkkbhcaaDoor
