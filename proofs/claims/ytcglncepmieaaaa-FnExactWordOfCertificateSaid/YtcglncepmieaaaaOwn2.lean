/-
  Rows whose elements have two cells.
-/
import Derived.Test.YtcglncepmieaaaaLaw
namespace Go.Proofs.Ytcglncepmieaaaa
open Go.RowKit Go.Deep Go.ChangeShapes Go.WideShapes

theorem own2_below {w w' : World} {base z : Nat} {e : TypeId} {v : Value} {n : Nat} {cs : List Value} (h : w.ownsRow base e z v n cs) (hb : Below w.heap.size w w') : w'.ownsRow base e z v n cs :=
  h.kept (row := none) ⟨hb.os, hb.tape, hb.output, hb.size, fun k hk _ => hb.block k hk⟩ (by
    rcases hv : v.ownBlock with _ | g
    · exact .inl rfl
    · exact .inr (by simp))
theorem own2_form {w : World} {base z : Nat} {e : TypeId} {v : Value} {n : Nat} {cs : List Value} (h : w.ownsRow base e z v n cs) : ∃ A c, v = .slice A n c := by
  rcases h.2 with ⟨rfl, rfl⟩ | ⟨g, cap, cur, rfl, _⟩
  · exact ⟨none, 0, rfl⟩
  · exact ⟨_, _, rfl⟩
theorem own2_nil (w : World) (base z : Nat) (e : TypeId) : w.ownsRow base e z (.slice none 0 0) 0 [] := ⟨by simp, .inl ⟨rfl, rfl⟩⟩
theorem own2_at {w : World} {base : Nat} {e : TypeId} {A : Option Addr} {n c j : Nat} {cs : List Value} (h : w.ownsRow base e 2 (.slice A n c) n cs) (hj : j < n) :
    ∃ g, A = some ⟨g, 0, none⟩ ∧ ∀ i, i < n * 2 → w.cell? ⟨g, i, none⟩ = cs[i]? := by
  rcases h.2 with ⟨hv, h0⟩ | ⟨g, cap', cur, hv, hg, hh, hn', hcap, hsz, htake⟩
  · omega
  · simp only [Value.slice.injEq] at hv
    obtain ⟨rfl, _, rfl⟩ := hv
    exact ⟨g, rfl, fun i hi => World.ownsRow.cellAt (cap := c) ⟨h.1, .inr ⟨g, c, cur, rfl, hg, hh, hn', hcap, hsz, htake⟩⟩ i hi⟩

end Go.Proofs.Ytcglncepmieaaaa
