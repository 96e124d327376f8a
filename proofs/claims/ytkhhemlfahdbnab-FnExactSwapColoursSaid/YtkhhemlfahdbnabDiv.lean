/-
  Divisions and congruences: the contracts of l01Division, isDivision, leastStates, l01Congruent, keepsClasses.
-/
import Derived.Test.YtkhhemlfahdbnabHelp
namespace Go.Proofs.Ytkhhemlfahdbnab
open Go.RowKit Go.Deep Go.ChangeShapes Go.WideShapes

theorem nums_base {w : World} {A : Option Addr} {n : Nat} {xs : List Int} (h : NumsAt w A n xs) (hn : 0 < n) :
    ∃ b off, A = some ⟨b, off, none⟩ ∧ ∀ (k : Nat) (x : Int), xs[k]? = some x → w.cell? ⟨b, off + k, none⟩ = some (.int .i64 x) := by
  obtain ⟨x, b, off, hx, hA, hc⟩ := h.at_ hn
  refine ⟨b, off, hA, fun k y hy => ?_⟩
  obtain ⟨b', off', e, hc'⟩ := h.2 k y hy
  rw [hA] at e
  simp only [Option.some.injEq, Addr.mk.injEq, and_true] at e
  obtain ⟨rfl, rfl⟩ := e
  exact hc'

/-- How many classes the first k states have. -/
def cntK (cls : List Int) : Nat → Nat
  | 0 => 0
  | k + 1 => if cls.getD k 0 = (cntK cls k : Int) then cntK cls k + 1 else cntK cls k
theorem cntK_le (cls : List Int) : ∀ k, cntK cls k ≤ k
  | 0 => Nat.le_refl _
  | k + 1 => by have := cntK_le cls k; unfold cntK; split <;> omega
theorem cntK_eq {cls : List Int} {k : Nat} {c : Int} (hc : cls[k]? = some c) (h : c = (cntK cls k : Int)) : cntK cls (k + 1) = cntK cls k + 1 := by
  rw [cntK, if_pos (by rw [List.getD, hc]; exact h)]
theorem cntK_ne {cls : List Int} {k : Nat} {c : Int} (hc : cls[k]? = some c) (h : ¬ c = (cntK cls k : Int)) : cntK cls (k + 1) = cntK cls k := by
  rw [cntK, if_neg (by rw [List.getD, hc]; exact h)]
def divAt (cls : List Int) (k : Nat) : Bool := inB 0 (cntK cls k : Int) (cls.getD k 0)
theorem divAt_is {cls : List Int} {k : Nat} {c : Int} (hc : cls[k]? = some c) : divAt cls k = inB 0 (cntK cls k : Int) c := by
  rw [divAt, List.getD, hc]; rfl
def divB (s : Int) (cls : List Int) : Bool := (List.range cls.length).all (divAt cls) && decide ((cls.length : Int) = s)
theorem divB_t {s : Int} {cls : List Int} {n : Nat} (hn : cls.length = n) (hs : (n : Int) = s) (h : ∀ j, j < n → divAt cls j = true) : divB s cls = true := by
  subst hn; simpa [divB, hs] using h
theorem divB_f {s : Int} {cls : List Int} {n k : Nat} (hn : cls.length = n) (hk : k < n) (h : divAt cls k = false) : divB s cls = false := by
  subst hn
  have : (List.range cls.length).all (divAt cls) = false := by
    rw [List.all_eq_false]
    exact ⟨k, List.mem_range.2 hk, by simp [h]⟩
  simp [divB, this]
theorem divB_g {s : Int} {cls : List Int} {n : Nat} (hn : cls.length = n) (hs : ¬ (n : Int) = s) : divB s cls = false := by
  subst hn; simp [divB, hs]
theorem divAt_done {cls : List Int} {k : Nat} (h : ∀ j, j < k → divAt cls j = true) (hk : divAt cls k = true) : ∀ j, j < k + 1 → divAt cls j = true := by
  intro j hj
  rcases Nat.lt_or_ge j k with h1 | h1
  · exact h j h1
  · obtain rfl : j = k := by omega
    exact hk

end Go.Proofs.Ytkhhemlfahdbnab
