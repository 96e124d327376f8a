/-
  Where words lead: the contracts of l01To and l01Action, and of the model's ActionOf.
-/
import Derived.Test.YtkfajimhooidcaaDoorWords
import Derived.Maps.AppendAt
namespace Go.Proofs.YtkfajimhooidcaaDoor
open Go.RowKit Go.Deep Go.ChangeShapes Go.WideShapes

/-- A valid automaton with n states and m letters. -/
structure Good (n m : Nat) (xss : List (List Int)) : Prop where
  letters : xss.length = m
  n1 : 1 ≤ n
  n10 : n ≤ 10
  m1 : 1 ≤ m
  m3 : m ≤ 3
  rows : ∀ (r : Nat) (xs : List Int), xss[r]? = some xs → xs.length = n ∧ ∀ x ∈ xs, 0 ≤ x ∧ x < (n : Int)

theorem good_of {s : Int} {m : Nat} {xss : List (List Int)} (h : okA s xss = true) (hm : xss.length = m) : ∃ n : Nat, s = (n : Int) ∧ Good n m xss := by
  obtain ⟨h1, h2, h3⟩ := okA_parts h
  obtain ⟨n, rfl⟩ : ∃ n : Nat, s = (n : Int) := ⟨s.toNat, by omega⟩
  exact ⟨n, rfl, hm, by omega, by omega, by omega, by omega, fun r xs hx => ⟨by have := (h3 r xs hx).1; omega, (h3 r xs hx).2⟩⟩

/-- The state to which the letter x leads from the state q. -/
def nx (xss : List (List Int)) (x q : Nat) : Nat := ((xss.getD x []).getD q 0).toNat
/-- The state to which a word leads from the state q. -/
def toS (xss : List (List Int)) (ws : List Int) (q : Nat) : Nat := ws.foldl (fun q x => nx xss x.toNat q) q
def actS (xss : List (List Int)) (n : Nat) (ws : List Int) : List Int := (List.range n).map fun q => ((toS xss ws q : Nat) : Int)

theorem Good.row {n m : Nat} {xss : List (List Int)} (h : Good n m xss) {x : Nat} (hx : x < m) : ∃ row, xss[x]? = some row ∧ row.length = n := by
  have hl : x < xss.length := by rw [h.letters]; exact hx
  exact ⟨_, List.getElem?_eq_getElem hl, (h.rows x _ (List.getElem?_eq_getElem hl)).1⟩
theorem Good.next {n m : Nat} {xss : List (List Int)} (h : Good n m xss) {x q : Nat} {row : List Int} (hx : xss[x]? = some row) (hq : q < n) : row[q]? = some ((nx xss x q : Nat) : Int) ∧ nx xss x q < n := by
  obtain ⟨hl, hr⟩ := h.rows x row hx
  have hq' : q < row.length := by rw [hl]; exact hq
  have h1 := hr row[q] (List.getElem_mem hq')
  have e : nx xss x q = (row[q]).toNat := by simp [nx, List.getD, hx, List.getElem?_eq_getElem hq']
  rw [e, List.getElem?_eq_getElem hq']
  refine ⟨by congr 1; omega, by omega⟩
theorem Good.nextD {n m : Nat} {xss : List (List Int)} (h : Good n m xss) {x q : Nat} (hx : x < m) (hq : q < n) : nx xss x q < n := by
  obtain ⟨row, hr, _⟩ := h.row hx
  exact (h.next hr hq).2
theorem toS_snoc {xss : List (List Int)} {ws : List Int} {k : Nat} {x : Int} (hx : ws[k]? = some x) (q : Nat) : toS xss (ws.take (k + 1)) q = nx xss x.toNat (toS xss (ws.take k) q) := by
  rw [take_snoc hx]; simp [toS, List.foldl_append]
theorem Good.to {n m : Nat} {xss : List (List Int)} (h : Good n m xss) : ∀ (ws : List Int) (q : Nat), (∀ x ∈ ws, 0 ≤ x ∧ x < (m : Int)) → q < n → toS xss ws q < n
  | [], q, _, hq => hq
  | x :: ws, q, hw, hq => by
    have hx := hw x (by simp)
    show toS xss ws (nx xss x.toNat q) < n
    exact h.to ws _ (fun y hy => hw y (by simp [hy])) (h.nextD (by omega) hq)

def ListOut (L : List Int) (c : Int) (w : World) (e : Ending) (w' : World) : Prop :=
  ∃ v, e = .returned (.tuple #[v, .int .i64 c]) ∧ w'.ownsRow w.heap.size 2 1 v L.length (L.map (Value.int .i64)) ∧ Below w.heap.size w w'
theorem listOut_mk {w w' : World} {xs : List Int} {v : Value} {c : Int} (ho : w'.ownsRow w.heap.size 2 1 v xs.length (xs.map (Value.int .i64))) (hb : Below w.heap.size w w') :
    ListOut xs c w (.returned (.tuple #[v, .int .i64 c])) w' := ⟨v, rfl, ho, hb⟩
theorem own_none (w : World) (base : Nat) (hb : base ≤ w.heap.size) : (w.alloc (.cells #[] 2)).ownsRow base 2 1 (.slice (some ⟨w.heap.size, 0, none⟩) 0 0) 0 [] :=
  World.ownsRow_lit (e := 2) w #[] 0 hb (Nat.zero_le _) rfl
theorem own_none' {w : World} {base g : Nat} (hg : g = w.heap.size) (hb : base ≤ w.heap.size) : (w.alloc (.cells #[] 2)).ownsRow base 2 1 (.slice (some ⟨g, 0, none⟩) 0 0) 0 [] := by subst hg; exact own_none w base hb
theorem ones_i64 (xs : List Int) : ∀ u ∈ xs.map (Value.int .i64), u.oneCell' = true := ints_oneCell .i64 xs

def actTo (xss : List (List Int)) (ws : List Int) (k : Nat) : List Int := (List.range k).map fun q => ((toS xss ws q : Nat) : Int)
theorem actTo_len (xss : List (List Int)) (ws : List Int) (k : Nat) : (actTo xss ws k).length = k := by simp [actTo]
theorem actTo_succ (xss : List (List Int)) (ws : List Int) (k : Nat) : (actTo xss ws (k + 1)).map (Value.int .i64) = (actTo xss ws k).map (Value.int .i64) ++ [Value.int .i64 ((toS xss ws k : Nat) : Int)] := by
  simp [actTo, List.range_succ]

/-- What ActionOf answers. -/
def actionOf (s : Int) (xss : List (List Int)) (ws : List Int) : List Int × Int :=
  if okA s xss = true then (if isWordB (xss.length : Int) ws = true then (actTo xss ws s.toNat, 0) else ([], 2)) else ([], 1)
theorem actionOf_1 {s : Int} {xss : List (List Int)} {ws : List Int} (h : okA s xss = false) : actionOf s xss ws = ([], 1) := by unfold actionOf; rw [if_neg (by simp [h])]
theorem actionOf_2 {s : Int} {xss : List (List Int)} {ws : List Int} (h : okA s xss = true) (h' : isWordB (xss.length : Int) ws = false) : actionOf s xss ws = ([], 2) := by unfold actionOf; rw [if_pos h, if_neg (by simp [h'])]
theorem actionOf_0 {s : Int} {xss : List (List Int)} {ws : List Int} (h : okA s xss = true) (h' : isWordB (xss.length : Int) ws = true) : actionOf s xss ws = (actTo xss ws s.toNat, 0) := by unfold actionOf; rw [if_pos h, if_pos h']
theorem word_letters {m : Int} {ws : List Int} (h : isWordB m ws = true) : ∀ x ∈ ws, 0 ≤ x ∧ x < m := by
  simp only [isWordB, Bool.and_eq_true, List.all_eq_true, belowB, decide_eq_true_eq] at h
  exact h.2

def ListsTo (r : List Int × Int) (w : World) (e : Ending) (w' : World) : Prop := ListOut r.1 r.2 w e w'
theorem listsTo_mk {r : List Int × Int} {w w' : World} {xs : List Int} {v : Value} {c : Int} (h : r = (xs, c)) (ho : w'.ownsRow w.heap.size 2 1 v xs.length (xs.map (Value.int .i64))) (hb : Below w.heap.size w w') :
    ListsTo r w (.returned (.tuple #[v, .int .i64 c])) w' := by rw [h]; exact ⟨v, rfl, ho, hb⟩

end Go.Proofs.YtkfajimhooidcaaDoor
