/-
  On lists alone: the first word, and the first letter of it, for which two machines have different outputs.
-/
import Derived.Test.YtdhmciendlihoaaDoorSuit
namespace Go.Proofs.YtdhmciendlihoaaDoor
open Go.RowKit Go.Deep Go.ChangeShapes Go.WideShapes

/-- The first place at which two lists are different. -/
def diffN : List Int → List Int → Option Nat
  | a :: us, b :: vs => if a = b then (diffN us vs).map (· + 1) else some 0
  | _, _ => none
theorem diffN_none : ∀ (us : List Int), diffN us us = none
  | [] => rfl
  | a :: us => by simp [diffN, diffN_none us]
theorem diffN_at : ∀ {us vs : List Int} {j : Nat} {a b : Int}, us.take j = vs.take j → us[j]? = some a → vs[j]? = some b → ¬ a = b → diffN us vs = some j
  | [], _, _, _, _, _, h1, _, _ => by simp at h1
  | _ :: _, [], _, _, _, _, _, h2, _ => by simp at h2
  | x :: us, y :: vs, 0, a, b, _, h1, h2, h3 => by
    simp at h1 h2
    subst h1 h2
    simp [diffN, h3]
  | x :: us, y :: vs, j + 1, a, b, h0, h1, h2, h3 => by
    simp only [List.take_succ_cons, List.cons.injEq] at h0
    simp only [List.getElem?_cons_succ] at h1 h2
    obtain ⟨rfl, h0⟩ := h0
    simp [diffN, diffN_at h0 h1 h2 h3]
theorem diffN_lt : ∀ {us vs : List Int} {j : Nat}, diffN us vs = some j → j < us.length ∧ j < vs.length
  | [], _, _, h => by simp [diffN] at h
  | _ :: _, [], _, h => by simp [diffN] at h
  | a :: us, b :: vs, j, h => by
    unfold diffN at h
    split at h
    · rcases hd : diffN us vs with _ | k
      · rw [hd] at h; simp at h
      · rw [hd] at h
        simp at h
        have := diffN_lt hd
        simp only [List.length_cons]
        omega
    · simp at h
      subst h
      simp

/-- The first letter of a word for which two machines that begin in the state 0 have different outputs. -/
def failN (xa ya xb yb : List (List Int)) (ws : List Int) : Option Nat := diffN (outS xa ya ws 0) (outS xb yb ws 0)

/-- The first list for which something is found, and what. -/
def failing (f : List Int → Option Nat) : List (List Int) → Option (Nat × Nat)
  | [] => none
  | w :: ws => match f w with
    | some j => some (0, j)
    | none => (failing f ws).map fun p => (p.1 + 1, p.2)
theorem failing_none {f : List Int → Option Nat} : ∀ {wss : List (List Int)}, (∀ ws ∈ wss, f ws = none) → failing f wss = none
  | [], _ => rfl
  | w :: ws, h => by
    have h1 := failing_none (wss := ws) (fun x hx => h x (List.mem_cons_of_mem _ hx))
    simp [failing, h w (List.mem_cons_self ..), h1]
theorem failing_at {f : List Int → Option Nat} : ∀ {wss : List (List Int)} {k j : Nat} {ws : List Int}, (∀ x ∈ wss.take k, f x = none) → wss[k]? = some ws → f ws = some j → failing f wss = some (k, j)
  | [], _, _, _, _, h1, _ => by simp at h1
  | w :: wss, 0, j, ws, _, h1, h2 => by
    simp at h1
    subst h1
    simp [failing, h2]
  | w :: wss, k + 1, j, ws, h0, h1, h2 => by
    simp only [List.getElem?_cons_succ] at h1
    have h3 := failing_at (wss := wss) (fun x hx => h0 x (by rw [List.take_succ_cons]; exact List.mem_cons_of_mem _ hx)) h1 h2
    simp [failing, h0 w (by rw [List.take_succ_cons]; exact List.mem_cons_self ..), h3]
theorem none_snoc {f : List Int → Option Nat} {wss : List (List Int)} {k : Nat} {ws : List Int} (h : ∀ x ∈ wss.take k, f x = none) (hx : wss[k]? = some ws) (hf : f ws = none) : ∀ x ∈ wss.take (k + 1), f x = none := by
  intro x h1
  rw [take_snoc hx] at h1
  rcases List.mem_append.1 h1 with h2 | h2
  · exact h x h2
  · rw [List.mem_singleton.1 h2]; exact hf
theorem none_done {f : List Int → Option Nat} {wss : List (List Int)} {n : Nat} (hn : wss.length = n) (h : ∀ x ∈ wss.take n, f x = none) : ∀ x ∈ wss, f x = none := by
  rwa [List.take_of_length_le (Nat.le_of_eq hn)] at h

theorem outS_at (xss yss : List (List Int)) : ∀ {ws : List Int} {j : Nat} {x : Int} (q : Nat), ws[j]? = some x → (outS xss yss ws q)[j]? = some ((nx yss x.toNat (toS xss (ws.take j) q) : Nat) : Int)
  | [], _, _, _, h => by simp at h
  | w :: ws, 0, x, q, h => by
    simp at h
    subst h
    rfl
  | w :: ws, j + 1, x, q, h => by
    simp only [List.getElem?_cons_succ] at h
    show (outS xss yss ws _)[j]? = _
    rw [outS_at xss yss _ h]
    rfl

def okTwo (s q : Int) (xss yss : List (List Int)) (s' q' : Int) (xss' yss' : List (List Int)) : Bool := okM s q xss yss && okM s' q' xss' yss'
def fitTwo (q q' : Int) (xss xss' wss : List (List Int)) : Bool := decide (q = q') && decide (xss.length = xss'.length) && isSuiteB (xss.length : Int) wss
/-- The code of two machines and a suite. -/
def codeTwo (s q : Int) (xss yss : List (List Int)) (s' q' : Int) (xss' yss' wss : List (List Int)) : Int :=
  if okTwo s q xss yss s' q' xss' yss' = true then (if fitTwo q q' xss xss' wss = true then 0 else 2) else 1
/-- What FirstFailing answers. -/
def firstFailing (s q : Int) (xss yss : List (List Int)) (s' q' : Int) (xss' yss' wss : List (List Int)) : Int × Int × Int :=
  if codeTwo s q xss yss s' q' xss' yss' wss = 0 then (match failing (failN xss yss xss' yss') wss with | some p => ((p.1 : Int), (p.2 : Int), 0) | none => (0, 0, 6)) else (0, 0, codeTwo s q xss yss s' q' xss' yss' wss)
/-- What Passes answers. -/
def passes (s q : Int) (xss yss : List (List Int)) (s' q' : Int) (xss' yss' wss : List (List Int)) : Bool × Int :=
  if codeTwo s q xss yss s' q' xss' yss' wss = 0 then ((failing (failN xss yss xss' yss') wss).isNone, 0) else (false, codeTwo s q xss yss s' q' xss' yss' wss)
theorem codeTwo_1 {s q : Int} {xss yss : List (List Int)} {s' q' : Int} {xss' yss' wss : List (List Int)} (h : okM s q xss yss = false) : codeTwo s q xss yss s' q' xss' yss' wss = 1 := by simp [codeTwo, okTwo, h]
theorem codeTwo_1' {s q : Int} {xss yss : List (List Int)} {s' q' : Int} {xss' yss' wss : List (List Int)} (h : okM s' q' xss' yss' = false) : codeTwo s q xss yss s' q' xss' yss' wss = 1 := by simp [codeTwo, okTwo, h]
theorem codeTwo_2 {s q : Int} {xss yss : List (List Int)} {s' q' : Int} {xss' yss' wss : List (List Int)} (h : okM s q xss yss = true) (h' : okM s' q' xss' yss' = true) (hf : fitTwo q q' xss xss' wss = false) : codeTwo s q xss yss s' q' xss' yss' wss = 2 := by simp [codeTwo, okTwo, h, h', hf]
theorem codeTwo_0 {s q : Int} {xss yss : List (List Int)} {s' q' : Int} {xss' yss' wss : List (List Int)} (h : okM s q xss yss = true) (h' : okM s' q' xss' yss' = true) (hf : fitTwo q q' xss xss' wss = true) : codeTwo s q xss yss s' q' xss' yss' wss = 0 := by simp [codeTwo, okTwo, h, h', hf]
theorem fitTwo_q {q q' : Int} {xss xss' wss : List (List Int)} (h : ¬ q = q') : fitTwo q q' xss xss' wss = false := by simp [fitTwo, h]
theorem fitTwo_n {q q' : Int} {xss xss' wss : List (List Int)} (h : ¬ xss.length = xss'.length) : fitTwo q q' xss xss' wss = false := by simp [fitTwo, h]
theorem fitTwo_t {q q' : Int} {xss xss' wss : List (List Int)} (h : q = q') (h' : xss.length = xss'.length) : fitTwo q q' xss xss' wss = isSuiteB (xss.length : Int) wss := by simp [fitTwo, h, h']

/-- The record of a machine: its outputs for the first k words. -/
def recF (xss yss wss : List (List Int)) (k : Nat) : List (List Int) := (wss.take k).map fun ws => outS xss yss ws 0
theorem recF_len (xss yss wss : List (List Int)) {k : Nat} (hk : k ≤ wss.length) : (recF xss yss wss k).length = k := by simp [recF, Nat.min_eq_left hk]
theorem recF_succ (xss yss : List (List Int)) {wss : List (List Int)} {k : Nat} {ws : List Int} (h : wss[k]? = some ws) : recF xss yss wss (k + 1) = recF xss yss wss k ++ [outS xss yss ws 0] := by
  unfold recF; rw [take_snoc h, List.map_append]; rfl
theorem recF_at (xss yss : List (List Int)) {wss : List (List Int)} {k l : Nat} {ws : List Int} (h : wss[k]? = some ws) (hl : wss.length = l) : (recF xss yss wss l)[k]? = some (outS xss yss ws 0) := by
  unfold recF; rw [List.take_of_length_le (Nat.le_of_eq hl), List.getElem?_map, h]; rfl

end Go.Proofs.YtdhmciendlihoaaDoor
