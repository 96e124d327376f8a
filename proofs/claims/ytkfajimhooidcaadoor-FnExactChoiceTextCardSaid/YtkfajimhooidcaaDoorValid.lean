/-
  Which automata are valid: the contracts of l01Map, l01Ok, isStateList and of both ValidAutomaton.
-/
import Derived.Test.YtkfajimhooidcaaDoorFill
import Derived.Lib.SmallJoins
namespace Go.Proofs.YtkfajimhooidcaaDoor
open Go.RowKit Go.Deep Go.ChangeShapes Go.WideShapes

def mapB (s : Int) (xs : List Int) : Bool := xs.all (belowB s) && decide ((xs.length : Int) = s)
def okA (s : Int) (xss : List (List Int)) : Bool := inB 1 10 s && inB 1 3 (xss.length : Int) && xss.all (mapB s)

theorem mapB_t {s : Int} {xs : List Int} (h : xs.all (belowB s) = true) (h' : (xs.length : Int) = s) : mapB s xs = true := by simp [mapB, h, h']
theorem mapB_f {s : Int} {xs : List Int} (h : ¬ (xs.length : Int) = s) : mapB s xs = false := by simp [mapB, h]
theorem mapB_g {s : Int} {xs : List Int} (h : xs.all (belowB s) = false) : mapB s xs = false := by simp [mapB, h]
theorem okA_t {s : Int} {xss : List (List Int)} (h1 : inB 1 10 s = true) (h2 : inB 1 3 (xss.length : Int) = true) (h3 : xss.all (mapB s) = true) : okA s xss = true := by simp [okA, h1, h2, h3]
theorem okA_1 {s : Int} {xss : List (List Int)} (h : inB 1 10 s = false) : okA s xss = false := by simp [okA, h]
theorem okA_2 {s : Int} {xss : List (List Int)} (h : inB 1 3 (xss.length : Int) = false) : okA s xss = false := by simp [okA, h]
theorem okA_3 {s : Int} {xss : List (List Int)} (h : xss.all (mapB s) = false) : okA s xss = false := by simp [okA, h]
theorem allR_snoc {p : List Int → Bool} {xss : List (List Int)} {k : Nat} {x : List Int} (h : (xss.take k).all p = true) (hx : xss[k]? = some x) (hp : p x = true) : (xss.take (k + 1)).all p = true := by
  rw [List.take_add_one, hx]
  simp [hp]
  simpa using h
theorem allR_stop {p : List Int → Bool} {xss : List (List Int)} {k : Nat} {x : List Int} (hx : xss[k]? = some x) (hp : p x = false) : xss.all p = false := by
  rw [List.all_eq_false]
  exact ⟨x, List.mem_of_getElem? hx, by simp [hp]⟩
theorem allR_done {p : List Int → Bool} {xss : List (List Int)} {n : Nat} (hn : xss.length = n) (h : (xss.take n).all p = true) : xss.all p = true := by
  subst hn
  rwa [List.take_length] at h

theorem quiet_eq {P : Program} {f : FuncId} {args : Array Value} {w : World} {n : Nat} {v : Value} (h : Calls P f args (w.drewN n) fun e w' => e = .returned v ∧ w.drewN n = w') :
    Calls P f args (w.drewN n) fun e w'' => e = .returned v ∧ ∃ m, w'' = w.drewN m := h.mono fun _ _ hh => ⟨hh.1, n, hh.2.symm⟩

/-! ### Arguments, and what szAutomaton tells of them -/
theorem sized_n {xss : List (List Int)} {r : Int} {n : Nat} (h : SizedTo xss 1048576 r) (hr : ¬ r < 0) (hn : xss.length = n) : n ≤ 1048576 := by
  rcases h with h | ⟨_, h⟩ <;> omega
theorem sized_rows {xss : List (List Int)} {r : Int} (h : SizedTo xss 1048576 r) (hr : ¬ r < 0) : ∀ (k : Nat) (xs : List Int), xss[k]? = some xs → xs.length ≤ 1048576 := by
  intro k xs hx
  have := len_le_sum hx
  rcases h with h | ⟨_, h⟩ <;> omega
theorem sized_left {xss : List (List Int)} {left r : Int} (h : SizedTo xss left r) (hr : ¬ r < 0) : 0 ≤ r ∧ r ≤ left := by
  rcases h with h | ⟨_, h⟩ <;> omega
theorem sized_n' {xss : List (List Int)} {left r : Int} {n : Nat} (h : SizedTo xss left r) (hl : left ≤ 1048576) (hr : ¬ r < 0) (hn : xss.length = n) : n ≤ 1048576 := by
  rcases h with h | ⟨_, h⟩ <;> omega
theorem sized_rows' {xss : List (List Int)} {left r : Int} (h : SizedTo xss left r) (hl : left ≤ 1048576) (hr : ¬ r < 0) : ∀ (k : Nat) (xs : List Int), xss[k]? = some xs → xs.length ≤ 1048576 := by
  intro k xs hx
  have := len_le_sum hx
  rcases h with h | ⟨_, h⟩ <;> omega

theorem rows_wide {xss : List (List Int)} (h : ∀ (k : Nat) (xs : List Int), xss[k]? = some xs → xs.length ≤ 1048576) : ∀ (k : Nat) (xs : List Int), xss[k]? = some xs → xs.length ≤ 4611686018427387904 :=
  fun k xs hx => by have := h k xs hx; omega

theorem Grid.rowsN {w : World} {g n : Nat} {xss : List (List Int)} (h : Grid w g xss) (hl : xss.length = n) : RowsAt w (some ⟨g, 0, none⟩) n xss := by subst hl; exact h.rows

end Go.Proofs.YtkfajimhooidcaaDoor
