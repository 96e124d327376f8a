/-
  The texts of words: the contracts of both WordText.
-/
import Derived.Test.YtkfajimhooidcaaDoorBase
import Derived.Laws.BytesArg
import Derived.Maps.AppendAt
namespace Go.Proofs.YtkfajimhooidcaaDoor
open Go.RowKit Go.Deep

def letters (xs : List Int) : List Int := xs.map (97 + ·)
/-- The text of a list of letters, as numbers of bytes. -/
def wtext (xs : List Int) : List Int :=
  if xs.length ≤ 400 ∧ xs.all (belowB 3) = true then (if xs = [] then [45] else letters xs) else []

theorem wtext_long {xs : List Int} (h : ¬ xs.length ≤ 400) : wtext xs = [] := if_neg fun h' => h h'.1
theorem wtext_bad {xs : List Int} (h : xs.all (belowB 3) = false) : wtext xs = [] := if_neg fun h' => by rw [h] at h'; exact absurd h'.2 (by simp)
theorem wtext_nil : wtext [] = [45] := rfl
theorem wtext_ok {xs : List Int} (h : xs.length ≤ 400) (h' : xs.all (belowB 3) = true) (h0 : ¬ xs.length = 0) : wtext xs = letters xs := by
  unfold wtext
  rw [if_pos ⟨h, h'⟩, if_neg (by rintro rfl; exact h0 rfl)]

theorem info_u8 : (Tryd.prog.info? 5).map (fun i => (i.zero, i.size, i.bytes)) = some (some (.int .u8 0), 1, 1) := by kernel_rfl

theorem letters_snoc {xs : List Int} {k : Nat} {x : Int} (hx : xs[k]? = some x) : (letters (xs.take (k + 1))).map (Value.int .u8) = (letters (xs.take k)).map (Value.int .u8) ++ [Value.int .u8 (97 + x)] := by
  rw [take_snoc hx]; simp [letters]

theorem ones_u8 (xs : List Int) : ∀ u ∈ xs.map (Value.int .u8), u.oneCell' = true := ints_oneCell .u8 xs

theorem ret_text {xs ys : List Int} (h : xs = ys) : Ending.returned (.string (strOfNums xs)) = .returned (.string (strOfNums ys)) := by rw [h]

/-- string(b) of bytes that the call owns. -/
theorem convert_own {w : World} {base : Nat} {g n c : Nat} {xs : List Int} (h : w.ownsRow base 5 1 (.slice (some ⟨g, 0, none⟩) n c) n (xs.map (Value.int .u8))) :
    (convert 72 9 (.slice (some ⟨g, 0, none⟩) n c)).run Tryd.prog w = .ok (.string (strOfNums xs)) w := by
  have hl : xs.length = n := by simpa using h.1
  refine run_convert_bytes_arg (P := Tryd.prog) w 72 5 Tryd.underlying72 Tryd.underlying5 g 0 n c xs hl (fun i hi => ?_) 9 Tryd.underlying9
  rw [Nat.zero_add, h.cellAt i (by omega), List.getElem?_map, List.getElem?_eq_getElem (by omega)]
  simp [List.getD, List.getElem?_eq_getElem (show i < xs.length by omega)]

theorem bytes_step {xs : List Int} {k : Nat} {x : Int} (hx : xs[k]? = some x) :
    ((letters (xs.take k)).map (Value.int .u8) ++ List.replicate (xs.length - k) (Value.int .u8 0)).set k (.int .u8 (97 + x)) = (letters (xs.take (k + 1))).map (Value.int .u8) ++ List.replicate (xs.length - (k + 1)) (.int .u8 0) := by
  have hk : k < xs.length := by
    rcases Nat.lt_or_ge k xs.length with hlt | hge
    · exact hlt
    · rw [List.getElem?_eq_none hge] at hx; cases hx
  rw [take_snoc hx, show xs.length - k = (xs.length - (k + 1)) + 1 from by omega, List.replicate_succ, List.set_append_right _ _ (by simp [letters]; omega)]
  simp [letters, Nat.min_eq_left (Nat.le_of_lt hk)]
theorem bytes_done {xs : List Int} {n : Nat} (hn : xs.length = n) : (letters (xs.take n)).map (Value.int .u8) ++ List.replicate (xs.length - n) (Value.int .u8 0) = (letters xs).map (Value.int .u8) := by
  subst hn
  simp

end Go.Proofs.YtkfajimhooidcaaDoor
