/-
  Machines, on lists alone: which are valid, and what they output.
-/
import Derived.Test.YtogbglbmkkbhcaaDoorMach
namespace Go.Proofs.YtogbglbmkkbhcaaDoor
open Go.RowKit Go.Deep Go.ChangeShapes Go.WideShapes

def okM (s q : Int) (xss yss : List (List Int)) : Bool := okA s xss && inB 1 3 q && decide (yss.length = xss.length) && okF s (belowB q) yss
theorem okM_1 {s q : Int} {xss yss : List (List Int)} (h : okA s xss = false) : okM s q xss yss = false := by simp [okM, h]
theorem okM_2 {s q : Int} {xss yss : List (List Int)} (h : inB 1 3 q = false) : okM s q xss yss = false := by simp [okM, h]
theorem okM_3 {s q : Int} {xss yss : List (List Int)} (h : ¬ yss.length = xss.length) : okM s q xss yss = false := by simp [okM, h]
theorem okM_4 {s q : Int} {xss yss : List (List Int)} (h : okF s (belowB q) yss = false) : okM s q xss yss = false := by simp [okM, h]
theorem okM_t {s q : Int} {xss yss : List (List Int)} (h1 : okA s xss = true) (h2 : inB 1 3 q = true) (h3 : yss.length = xss.length) : okM s q xss yss = okF s (belowB q) yss := by simp [okM, h1, h2, h3]

/-- A valid machine with n states, m letters and k outputs. -/
structure GoodM (n m k : Nat) (xss yss : List (List Int)) : Prop where
  good : Good n m xss
  k1 : 1 ≤ k
  k3 : k ≤ 3
  outs : yss.length = m
  rows : ∀ (r : Nat) (ys : List Int), yss[r]? = some ys → ys.length = n ∧ ∀ x ∈ ys, 0 ≤ x ∧ x < (k : Int)

theorem goodM_of {s q : Int} {m : Nat} {xss yss : List (List Int)} (h : okM s q xss yss = true) (hm : xss.length = m) : ∃ n k : Nat, s = (n : Int) ∧ q = (k : Int) ∧ GoodM n m k xss yss := by
  simp only [okM, Bool.and_eq_true, decide_eq_true_eq, inB] at h
  obtain ⟨⟨⟨h1, h2⟩, h3⟩, h4⟩ := h
  obtain ⟨n, rfl, hg⟩ := good_of h1 hm
  obtain ⟨k, rfl⟩ : ∃ k : Nat, q = (k : Int) := ⟨q.toNat, by omega⟩
  refine ⟨n, k, rfl, rfl, hg, by omega, by omega, by omega, fun r ys hy => ?_⟩
  simp only [okF, Bool.and_eq_true, List.all_eq_true] at h4
  have h5 := h4.2 ys (List.mem_of_getElem? hy)
  simp only [lineF, Bool.and_eq_true, List.all_eq_true, belowB, decide_eq_true_eq] at h5
  exact ⟨by omega, h5.1⟩
theorem okM_auto {s q : Int} {xss yss : List (List Int)} (h : okM s q xss yss = true) : okA s xss = true := by
  simp only [okM, Bool.and_eq_true] at h
  exact h.1.1.1

theorem GoodM.row {n m k : Nat} {xss yss : List (List Int)} (h : GoodM n m k xss yss) {x : Nat} (hx : x < m) : ∃ row, yss[x]? = some row ∧ row.length = n := by
  have hl : x < yss.length := by rw [h.outs]; exact hx
  exact ⟨_, List.getElem?_eq_getElem hl, (h.rows x _ (List.getElem?_eq_getElem hl)).1⟩
theorem GoodM.out {n m k : Nat} {xss yss : List (List Int)} (h : GoodM n m k xss yss) {x q : Nat} {row : List Int} (hx : yss[x]? = some row) (hq : q < n) : row[q]? = some ((nx yss x q : Nat) : Int) ∧ nx yss x q < k := by
  obtain ⟨hl, hr⟩ := h.rows x row hx
  have hq' : q < row.length := by rw [hl]; exact hq
  have h1 := hr row[q] (List.getElem_mem hq')
  have e : nx yss x q = (row[q]).toNat := by simp [nx, List.getD, hx, List.getElem?_eq_getElem hq']
  rw [e, List.getElem?_eq_getElem hq']
  refine ⟨by congr 1; omega, by omega⟩
theorem GoodM.outD {n m k : Nat} {xss yss : List (List Int)} (h : GoodM n m k xss yss) {x q : Nat} (hx : x < m) (hq : q < n) : nx yss x q < k := by
  obtain ⟨row, hr, _⟩ := h.row hx
  exact (h.out hr hq).2

/-- The outputs for a word from the state q. -/
def outS (xss yss : List (List Int)) : List Int → Nat → List Int
  | [], _ => []
  | x :: ws, q => ((nx yss x.toNat q : Nat) : Int) :: outS xss yss ws (nx xss x.toNat q)
theorem outS_append (xss yss : List (List Int)) : ∀ (us : List Int) (x : Int) (q : Nat), outS xss yss (us ++ [x]) q = outS xss yss us q ++ [((nx yss x.toNat (toS xss us q) : Nat) : Int)]
  | [], x, q => rfl
  | u :: us, x, q => by
    show _ :: outS xss yss (us ++ [x]) _ = _
    rw [outS_append xss yss us x]
    rfl
theorem outS_snoc {xss yss : List (List Int)} {ws : List Int} {k : Nat} {x : Int} (hx : ws[k]? = some x) (q : Nat) : outS xss yss (ws.take (k + 1)) q = outS xss yss (ws.take k) q ++ [((nx yss x.toNat (toS xss (ws.take k) q) : Nat) : Int)] := by
  rw [take_snoc hx, outS_append]
theorem outS_len (xss yss : List (List Int)) : ∀ (us : List Int) (q : Nat), (outS xss yss us q).length = us.length
  | [], _ => rfl
  | u :: us, q => by show (_ :: outS xss yss us _).length = _; rw [List.length_cons, outS_len xss yss us]; rfl

/-- A function that answers a machine and a code. -/
def MachsTo (r : Int × Int × List (List Int) × List (List Int) × Int) (w : World) (e : Ending) (w' : World) : Prop :=
  ∃ v v', e = .returned (.tuple #[.agg #[.int .i64 r.1, .int .i64 r.2.1, v, v'], .int .i64 r.2.2.2.2]) ∧ MachIn w.heap.size w'.heap.size w' v v' r.2.2.1 r.2.2.2.1 ∧ Below w.heap.size w w'
theorem machsTo_mk {r : Int × Int × List (List Int) × List (List Int) × Int} {w w' : World} {s q c : Int} {xss yss : List (List Int)} {v v' : Value} (h : r = (s, q, xss, yss, c)) (ht : MachIn w.heap.size w'.heap.size w' v v' xss yss) (hb : Below w.heap.size w w') :
    MachsTo r w (.returned (.tuple #[.agg #[.int .i64 s, .int .i64 q, v, v'], .int .i64 c])) w' := by subst h; exact ⟨v, v', rfl, ht, hb⟩
theorem mach_nil (w : World) {lo hi : Nat} (h : lo ≤ hi) : MachIn lo hi w (.slice none 0 0) (.slice none 0 0) [] [] := MachIn.of_tabs (Nat.le_refl _) h (tab_nil _ _ _) (tab_nil _ _ _)

/-- A function that answers a list, a number and a code. -/
def Lists3To (r : List Int × Int × Int) (w : World) (e : Ending) (w' : World) : Prop :=
  ∃ v, e = .returned (.tuple #[v, .int .i64 r.2.1, .int .i64 r.2.2]) ∧ w'.ownsRow w.heap.size 2 1 v r.1.length (r.1.map (Value.int .i64)) ∧ Below w.heap.size w w'
theorem lists3To_mk {r : List Int × Int × Int} {w w' : World} {xs : List Int} {v : Value} {x c : Int} (h : r = (xs, x, c)) (ho : w'.ownsRow w.heap.size 2 1 v xs.length (xs.map (Value.int .i64))) (hb : Below w.heap.size w w') :
    Lists3To r w (.returned (.tuple #[v, .int .i64 x, .int .i64 c])) w' := by subst h; exact ⟨v, rfl, ho, hb⟩

/-- What OutputsOf answers. -/
def outputsOf (s q : Int) (xss yss : List (List Int)) (x : Int) (ws : List Int) : List Int × Int × Int :=
  if okM s q xss yss = true then (if (belowB s x && isWordB (xss.length : Int) ws) = true then (outS xss yss ws x.toNat, ((toS xss ws x.toNat : Nat) : Int), 0) else ([], 0, 2)) else ([], 0, 1)
theorem outputsOf_1 {s q : Int} {xss yss : List (List Int)} {x : Int} {ws : List Int} (h : okM s q xss yss = false) : outputsOf s q xss yss x ws = ([], 0, 1) := by unfold outputsOf; rw [if_neg (by simp [h])]
theorem outputsOf_2 {s q : Int} {xss yss : List (List Int)} {x : Int} {ws : List Int} (h : okM s q xss yss = true) (h' : belowB s x = false) : outputsOf s q xss yss x ws = ([], 0, 2) := by unfold outputsOf; rw [if_pos h, if_neg (by simp [h'])]
theorem outputsOf_3 {s q : Int} {m : Nat} {xss yss : List (List Int)} {x : Int} {ws : List Int} (h : okM s q xss yss = true) (hm : xss.length = m) (h' : isWordB (m : Int) ws = false) : outputsOf s q xss yss x ws = ([], 0, 2) := by unfold outputsOf; rw [if_pos h, hm, if_neg (by simp [h'])]
theorem outputsOf_0 {s q : Int} {m : Nat} {xss yss : List (List Int)} {x : Nat} {ws : List Int} (h : okM s q xss yss = true) (hx : belowB s (x : Int) = true) (hm : xss.length = m) (h' : isWordB (m : Int) ws = true) :
    outputsOf s q xss yss (x : Int) ws = (outS xss yss ws x, ((toS xss ws x : Nat) : Int), 0) := by unfold outputsOf; rw [if_pos h, hm, if_pos (by simp [hx, h']), Int.toNat_natCast]
theorem outputsOf_len (s q : Int) (xss yss : List (List Int)) (x : Int) (ws : List Int) : (outputsOf s q xss yss x ws).1.length ≤ 400 := by
  unfold outputsOf
  split
  · split
    · rename_i h
      rw [outS_len]
      simp only [Bool.and_eq_true, isWordB, decide_eq_true_eq] at h
      exact h.2.1
    · simp
  · simp

end Go.Proofs.YtogbglbmkkbhcaaDoor
