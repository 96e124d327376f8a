/-
  Sets as ten marks, and where words lead backwards: the contracts of l01Set, l01Back, checkSetAndWord, markSet and set.
-/
import Derived.Test.YtcglncepmieaaaaSets
namespace Go.Proofs.Ytcglncepmieaaaa
open Go.RowKit Go.Deep Go.ChangeShapes Go.WideShapes

theorem l01Set_any (p : Nat) (s : Int) (A' : Option Addr) (l cap' : Nat) (xs : List Int) (w : World) (c0 : w.cell? ⟨p, 0, none⟩ = some (.int .i64 s)) (h : NumsAt w A' l xs) (h1 : 1 ≤ s) (h10 : s ≤ 10) (hl : l ≤ 4611686018427387904) :
    Calls Try.prog 144 #[.pointer (some ⟨p, 0, none⟩), .slice A' l cap'] w fun e w' => e = .returned (.bool (setB s xs)) ∧ ∃ m, w' = w.drewN m := by
  have hsub : IntKind.i64.wrap (s - 1) = s - 1 := IntWalk.i64_in _ (by omega)
  go_enter Try.func144, Try.ntmps144
  go_wp2_with fail
  refine (l00Rises_any A' l cap' xs s _ h hl).mono ?_
  rintro e w1 ⟨rfl, m, rfl⟩
  go_wp2_with fail
  go_ret
  exact ⟨rfl, _, rfl⟩

/-- The states from which a word leads to a set, below k. -/
def backL (xss : List (List Int)) (set ws : List Int) (k : Nat) : List Int := ((List.range k).filter fun q => hasB set ((toS xss ws q : Nat) : Int)).map fun q => ((q : Nat) : Int)
theorem backL_t {xss : List (List Int)} {set ws : List Int} {k : Nat} (h : hasB set ((toS xss ws k : Nat) : Int) = true) : backL xss set ws (k + 1) = backL xss set ws k ++ [(k : Int)] := by
  simp [backL, List.range_succ, List.filter_append, h]
theorem backL_f {xss : List (List Int)} {set ws : List Int} {k : Nat} (h : hasB set ((toS xss ws k : Nat) : Int) = false) : backL xss set ws (k + 1) = backL xss set ws k := by
  simp [backL, List.range_succ, List.filter_append, h]
theorem backL_len (xss : List (List Int)) (set ws : List Int) (k : Nat) : (backL xss set ws k).length ≤ k := by
  rw [backL, List.length_map]
  exact Nat.le_trans (List.length_filter_le _ _) (by simp)

/-- What the functions of a set and a word ask first. -/
def codeB (s : Int) (xss : List (List Int)) (set ws : List Int) : Int := if okA s xss = true then (if setB s set = true ∧ isWordB (xss.length : Int) ws = true then 0 else 2) else 1
theorem codeB_1 {s : Int} {xss : List (List Int)} {set ws : List Int} (h : okA s xss = false) : codeB s xss set ws = 1 := by simp [codeB, h]
theorem codeB_2 {s : Int} {xss : List (List Int)} {set ws : List Int} (h : okA s xss = true) (h' : setB s set = false) : codeB s xss set ws = 2 := by simp [codeB, h, h']
theorem codeB_3 {s : Int} {xss : List (List Int)} {set ws : List Int} (h : okA s xss = true) (h' : isWordB (xss.length : Int) ws = false) : codeB s xss set ws = 2 := by simp [codeB, h, h']
theorem codeB_0 {s : Int} {xss : List (List Int)} {set ws : List Int} (h : okA s xss = true) (h' : setB s set = true) (h2 : isWordB (xss.length : Int) ws = true) : codeB s xss set ws = 0 := by simp [codeB, h, h', h2]

/-! ### Ten marks -/
def marr (f : Nat → Bool) : Array Value := #[.bool (f 0), .bool (f 1), .bool (f 2), .bool (f 3), .bool (f 4), .bool (f 5), .bool (f 6), .bool (f 7), .bool (f 8), .bool (f 9)]
def upd (f : Nat → Bool) (k : Nat) (b : Bool) : Nat → Bool := fun j => if j = k then b else f j
theorem marr_at (f : Nat → Bool) {k : Nat} (h : k < 10) : (marr f)[k]? = some (.bool (f k)) := by
  rcases (show k = 0 ∨ k = 1 ∨ k = 2 ∨ k = 3 ∨ k = 4 ∨ k = 5 ∨ k = 6 ∨ k = 7 ∨ k = 8 ∨ k = 9 by omega) with rfl | rfl | rfl | rfl | rfl | rfl | rfl | rfl | rfl | rfl <;> rfl
theorem marr_set (f : Nat → Bool) {k : Nat} (h : k < 10) (b : Bool) : (marr f).setIfInBounds k (.bool b) = marr (upd f k b) := by
  rcases (show k = 0 ∨ k = 1 ∨ k = 2 ∨ k = 3 ∨ k = 4 ∨ k = 5 ∨ k = 6 ∨ k = 7 ∨ k = 8 ∨ k = 9 by omega) with rfl | rfl | rfl | rfl | rfl | rfl | rfl | rfl | rfl | rfl <;> rfl
theorem marr_one (f : Nat → Bool) : (marr f).all (·.oneCell') = true := by simp [marr, Value.oneCell']
theorem upd_has {set : List Int} {k : Nat} {x : Nat} (hx : set[k]? = some (x : Int)) : upd (fun q : Nat => hasB (set.take k) (q : Int)) x true = fun q : Nat => hasB (set.take (k + 1)) (q : Int) := by
  funext q
  rw [hasB_snoc hx]
  unfold upd
  by_cases h : q = x
  · simp [h]
  · have : ¬ (x : Int) = (q : Int) := by omega
    simp [h, this]

end Go.Proofs.Ytcglncepmieaaaa
