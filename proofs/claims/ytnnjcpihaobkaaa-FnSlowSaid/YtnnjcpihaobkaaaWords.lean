/-
  Which lists are words of an automaton: the contracts of l01Word, isLetterList and of both ValidWord.
-/
import Derived.Test.YtnnjcpihaobkaaaValid
namespace Go.Proofs.Ytnnjcpihaobkaaa
open Go.RowKit Go.Deep Go.ChangeShapes Go.WideShapes

def isWordB (m : Int) (xs : List Int) : Bool := decide (xs.length ≤ 400) && xs.all (belowB m)
theorem isWordB_t {m : Int} {xs : List Int} (h : xs.length ≤ 400) (h' : xs.all (belowB m) = true) : isWordB m xs = true := by simp [isWordB, h, h']
theorem isWordB_f {m : Int} {xs : List Int} (h : ¬ xs.length ≤ 400) : isWordB m xs = false := by simp [isWordB, h]
theorem isWordB_g {m : Int} {xs : List Int} (h : xs.all (belowB m) = false) : isWordB m xs = false := by simp [isWordB, h]

theorem isLetterList_any (_s : Int) (_A A' : Option Addr) (n _cap l cap' : Nat) (xs : List Int) (w : World) (h : NumsAt w A' l xs) (_hn : n ≤ 4611686018427387904) (hl : l ≤ 4611686018427387904) :
    Calls Try.prog 40 #[.int .i64 (n : Int), .slice A' l cap'] w fun e w' => e = .returned (.bool (isWordB (n : Int) xs)) ∧ Below w.heap.size w w' := by
  have HL := Lib.hid h.1
  by_cases h4 : l ≤ 400
  · have h4' : decide ((l : Int) ≤ 400) = true := by simp; omega
    rcases hb : xs.all (belowB (n : Int)) with _ | _
    · go_enter Try.func40, Try.ntmps40
      go_wp2_with (go_at_call 80; refine (areBelow_any _ _ _ xs _ _ h hl).mono ?_; rintro e w' ⟨rfl, rfl⟩)
      go_ret
      exact ⟨ret_bool (isWordB_g hb).symm, Below.refl _ _⟩
    · go_enter Try.func40, Try.ntmps40
      go_wp2_with (go_at_call 80; refine (areBelow_any _ _ _ xs _ _ h hl).mono ?_; rintro e w' ⟨rfl, rfl⟩)
      go_ret
      exact ⟨ret_bool (isWordB_t (by rw [HL.out]; exact h4) hb).symm, Below.refl _ _⟩
  · have h4' : decide ((l : Int) ≤ 400) = false := by simp; omega
    go_enter Try.func40, Try.ntmps40
    go_wp2_with fail
    go_ret
    exact ⟨ret_bool (isWordB_f (by rw [HL.out]; exact h4)).symm, Below.refl _ _⟩

theorem okA_parts {s : Int} {xss : List (List Int)} (h : okA s xss = true) : (1 ≤ s ∧ s ≤ 10) ∧ (1 ≤ xss.length ∧ xss.length ≤ 3) ∧ ∀ (r : Nat) (xs : List Int), xss[r]? = some xs → (xs.length : Int) = s ∧ ∀ x ∈ xs, 0 ≤ x ∧ x < s := by
  simp only [okA, Bool.and_eq_true, inB, decide_eq_true_eq, List.all_eq_true] at h
  obtain ⟨⟨h1, h2⟩, h3⟩ := h
  refine ⟨h1, ⟨by omega, by omega⟩, fun r xs hx => ?_⟩
  have := h3 xs (List.mem_of_getElem? hx)
  simp only [mapB, Bool.and_eq_true, decide_eq_true_eq, List.all_eq_true, belowB] at this
  exact ⟨this.2, this.1⟩

end Go.Proofs.Ytnnjcpihaobkaaa
