/-
  The contracts of l01Congruent and keepsClasses.
-/
import Derived.Test.YtkhhemlfahdbnabCong
namespace Go.Proofs.Ytkhhemlfahdbnab
open Go.RowKit Go.Deep Go.ChangeShapes Go.WideShapes

/-- What a round reads of the automaton's row x, at two states. -/
theorem row_base {w : World} {A : Option Addr} {n m : Nat} {xss : List (List Int)} (hg : Good n m xss) (h : RowsAt w A m xss) {x : Nat} (hx : x < m) :
    ∃ b off b2 off2 c, A = some ⟨b, off, none⟩ ∧ w.cell? ⟨b, off + x, none⟩ = some (.slice (some ⟨b2, off2, none⟩) n c) ∧ ∀ q, q < n → w.cell? ⟨b2, off2 + q, none⟩ = some (.int .i64 ((nx xss x q : Nat) : Int)) := by
  obtain ⟨row, b, off, A2, c, hrow, hA, hc, hnum⟩ := h.at_ hx
  have hrl : row.length = n := (hg.rows x row hrow).1
  obtain ⟨b2, off2, hA2, hcells⟩ := nums_base hnum (by rw [hrl]; exact hg.n1)
  subst hA2
  rw [hrl] at hc
  exact ⟨b, off, b2, off2, c, hA, hc, fun q hq => hcells q _ (hg.next hrow hq).1⟩

end Go.Proofs.Ytkhhemlfahdbnab
