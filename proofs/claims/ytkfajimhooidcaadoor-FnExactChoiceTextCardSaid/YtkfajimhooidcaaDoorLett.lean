/-
  Texts of letters: the contract of the program's lettersText for numbers: a kind, counts, and a line for each letter.
-/
import Derived.Test.YtkfajimhooidcaaDoorLineT
import Derived.Test.YtkfajimhooidcaaDoorTo
import Derived.Test.YtkfajimhooidcaaDoorShelf
namespace Go.Proofs.YtkfajimhooidcaaDoor
open Go.RowKit Go.Deep Go.ChangeShapes Go.WideShapes

/-- The line of a letter. -/
def letterT (txt : Int → List Int) (xs : List Int) : List Int := [108, 101, 116, 116, 101, 114] ++ (blankF txt xs ++ [10])
def lettersF (txt : Int → List Int) : List (List Int) → List Int
  | [] => []
  | xs :: xss => letterT txt xs ++ lettersF txt xss
theorem lettersF_snoc (txt : Int → List Int) : ∀ (xss : List (List Int)) (xs : List Int), lettersF txt (xss ++ [xs]) = lettersF txt xss ++ letterT txt xs
  | [], xs => by simp [lettersF]
  | y :: xss, xs => by
    show letterT txt y ++ lettersF txt (xss ++ [xs]) = _
    rw [lettersF_snoc txt xss xs]
    simp [lettersF]
theorem lettersF_take (txt : Int → List Int) {xss : List (List Int)} {k : Nat} {xs : List Int} (h : xss[k]? = some xs) : lettersF txt (xss.take (k + 1)) = lettersF txt (xss.take k) ++ letterT txt xs := by rw [take_snoc h, lettersF_snoc]
theorem letterT_len {txt : Int → List Int} (ht : ∀ x, (txt x).length ≤ 2) (xs : List Int) : (letterT txt xs).length ≤ 7 + 3 * xs.length := by
  have := blankF_len txt ht xs
  simp only [letterT, List.length_append, List.length_cons, List.length_nil]
  omega
theorem lettersF_len {txt : Int → List Int} (ht : ∀ x, (txt x).length ≤ 2) {m : Nat} : ∀ {xss : List (List Int)}, (∀ x ∈ xss, x.length ≤ m) → (lettersF txt xss).length ≤ (7 + 3 * m) * xss.length
  | [], _ => by simp [lettersF]
  | x :: xss, h => by
    have h1 := h x (List.mem_cons_self ..)
    have h2 := lettersF_len ht (xss := xss) (fun y hy => h y (List.mem_cons_of_mem _ hy))
    have h3 := letterT_len ht x
    rw [List.length_cons, Nat.mul_add, Nat.mul_one]
    simp only [lettersF, List.length_append]
    omega
theorem lettersF_room {txt : Int → List Int} (ht : ∀ x, (txt x).length ≤ 2) {n : Nat} {xss : List (List Int)} (hn : xss.length = n) (hn10 : n ≤ 10) (hr : ∀ (r : Nat) (xs : List Int), xss[r]? = some xs → xs.length ≤ 10) (k : Nat) : (lettersF txt (xss.take k)).length ≤ 370 := by
  have h1 := lettersF_len ht (m := 10) (xss := xss.take k) (fun x hx => by
    obtain ⟨r, hr'⟩ := List.getElem?_of_mem (List.mem_of_mem_take hx)
    exact hr r x hr')
  have h2 : (xss.take k).length ≤ 10 := by rw [List.length_take]; omega
  have := Nat.mul_le_mul_left 37 h2
  omega
theorem letter_cells : Lib.strCells (⟨#[108, 101, 116, 116, 101, 114]⟩ : ByteArray) = Lib.strCells (strOfNums [108, 101, 116, 116, 101, 114]) := rfl
theorem strCells_size (a : List Int) : (Lib.strCells (strOfNums a)).length = a.length := by rw [Lib.strCells_length, strOfNums_size]

theorem bldr_type {B : Nat} {bs : List Value} {w : World} (h : Bldr B bs w) : ∃ p v, w.heap[B]? = some (.cells #[p, v] 85 (0, 0)) := by
  rcases h with ⟨_, v, h, _⟩ | ⟨_, v, h, _⟩ <;> exact ⟨_, v, h⟩
theorem own_type {w : World} {base : Nat} {e : TypeId} {v : Value} {n : Nat} {xs : List Value} (h : w.ownsRow base e 1 v n xs) {g : Nat} (hg : v.ownBlock = some g) : ∃ cur, w.heap[g]? = some (.cells cur e (0, 0)) := by
  rcases h.2 with ⟨rfl, _⟩ | ⟨g', cap, cur, rfl, _, hgc, _⟩
  · simp [Value.ownBlock] at hg
  · have : g' = g := by simpa [Value.ownBlock] using hg
    subst this
    exact ⟨cur, hgc⟩
theorem type_ne {w : World} {g g' : Nat} {a b : Array Value} {t u : TypeId} {f f' : Nat × Nat} (h : w.heap[g]? = some (.cells a t f)) (h' : w.heap[g']? = some (.cells b u f')) (hne : t ≠ u) : g ≠ g' := fun e => by
  subst e
  rw [h] at h'
  exact hne (by simpa using (Obj.cells.inj (Option.some.inj h')).2.1)
/-- The builder stands when a list of numbers grows. -/
theorem bldr_grown {B base n : Nat} {bs xs : List Value} {v : Value} {w w' : World} (h : Bldr B bs w) (ho : w.ownsRow base 2 1 v n xs) (hg : w.grownBy w' v.ownBlock) : Bldr B bs w' := by
  have key : ∀ p, Lib.BuilderAt 85 5 B B p bs w → Lib.BuilderAt 85 5 B B p bs w' := fun p hb => by
    have hlt := hb.lt
    obtain ⟨hB, u, hc, hown, hne⟩ := hb
    refine ⟨hB, u, ?_, hown.kept hg ?_, hne⟩
    · rw [hg.block B hlt (fun e => ?_)]
      · exact hc
      · obtain ⟨cur, hcur⟩ := own_type ho e.symm
        exact type_ne hcur hc (by decide) rfl
    · rcases hu : u.ownBlock with _ | g
      · exact .inl rfl
      · refine .inr (fun e => ?_)
        obtain ⟨c1, h1⟩ := own_type hown hu
        obtain ⟨c2, h2⟩ := own_type ho e.symm
        exact type_ne h1 h2 (by decide) rfl
  exact h.elim (fun x => .inl (key _ x)) (fun x => .inr (key _ x))
/-- A list of numbers stands when the builder writes. -/
theorem own_kept {B base n : Nat} {bs xs : List Value} {v : Value} {w w' : World} (h : Bldr B bs w) (ho : w.ownsRow base 2 1 v n xs) (hk : Kept B w w') : w'.ownsRow base 2 1 v n xs := by
  obtain ⟨p, u, hb⟩ := bldr_type h
  obtain ⟨h1, h2⟩ := ho
  refine ⟨h1, ?_⟩
  rcases h2 with h2 | ⟨g, cap, cur, hv, hg, hh, rest⟩
  · exact .inl h2
  · refine .inr ⟨g, cap, cur, hv, hg, ?_, rest⟩
    exact (hk g cur 2 (0, 0) (by decide) (type_ne hh hb (by decide)) hh).trans hh

end Go.Proofs.YtkfajimhooidcaaDoor
