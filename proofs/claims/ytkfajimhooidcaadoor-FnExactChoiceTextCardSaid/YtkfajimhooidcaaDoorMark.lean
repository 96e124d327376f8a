/-
  What marking an automaton writes: its own rows alone.
-/
import Derived.Test.YtkfajimhooidcaaDoorWords
namespace Go.Proofs.YtkfajimhooidcaaDoor
open Go.RowKit Go.Deep Go.ChangeShapes Go.WideShapes

/-- Of what was there, the blocks from lo up to, not including, hi alone may have turned. -/
structure Only (lo hi : Nat) (w w' : World) : Prop where
  os : w'.os = w.os
  tape : w'.tape = w.tape
  output : w'.output = w.output
  size : w.heap.size ≤ w'.heap.size
  block : ∀ k, k < w.heap.size → (k < lo ∨ hi ≤ k) → w'.heap[k]? = w.heap[k]?
theorem Only.refl (lo hi : Nat) (w : World) : Only lo hi w w := ⟨rfl, rfl, rfl, Nat.le_refl _, fun _ _ _ => rfl⟩
theorem Only.trans {lo hi : Nat} {a b c : World} (h : Only lo hi a b) (k : Only lo hi b c) : Only lo hi a c :=
  ⟨k.os.trans h.os, k.tape.trans h.tape, k.output.trans h.output, Nat.le_trans h.size k.size, fun i hi hb => (k.block i (Nat.lt_of_lt_of_le hi h.size) hb).trans (h.block i hi hb)⟩
theorem Only.wide {lo hi lo' hi' : Nat} {a b : World} (h : Only lo hi a b) (h1 : lo' ≤ lo) (h2 : hi ≤ hi') : Only lo' hi' a b :=
  ⟨h.os, h.tape, h.output, h.size, fun i hi hb => h.block i hi (by omega)⟩
theorem Only.of_grown {a b : World} {g : Nat} (h : a.grownBy b (some g)) : Only g (g + 1) a b := ⟨h.os, h.tape, h.output, h.size, fun i hi hb => h.block i hi (by simp; omega)⟩
theorem Only.of_below {a b : World} (h : Below a.heap.size a b) (lo hi : Nat) : Only lo hi a b := ⟨h.os, h.tape, h.output, h.size, fun i hi _ => h.block i hi⟩
theorem Only.below {B lo hi : Nat} {a w w' : World} (h : Below B a w) (k : Only lo hi w w') (hB : B ≤ lo) (hs : B ≤ w.heap.size) : Below B a w' :=
  h.trans ⟨k.os, k.tape, k.output, k.size, fun i hi => k.block i (by omega) (.inl (by omega))⟩
theorem Only.cell {lo hi : Nat} {w w' : World} (h : Only lo hi w w') {p : Addr} (hp : p.block < w.heap.size) (hb : p.block < lo ∨ hi ≤ p.block) : w'.cell? p = w.cell? p := World.cell?_of_block (w := w) (h.block p.block hp hb)
theorem Only.own {lo hi : Nat} {w w' : World} (k : Only lo hi w w') {base : Nat} {e : TypeId} {v : Value} {n : Nat} {cs : List Value} (h : w.ownsRow base e 1 v n cs) (hb : ∀ g, v.ownBlock = some g → g < lo ∨ hi ≤ g) : w'.ownsRow base e 1 v n cs := by
  obtain ⟨h1, h2⟩ := h
  refine ⟨h1, ?_⟩
  rcases h2 with h2 | ⟨g, cap, cur, rfl, hg, hh, rest⟩
  · exact .inl h2
  · have hlt : g < w.heap.size := by
      rcases Nat.lt_or_ge g w.heap.size with hlt | hge
      · exact hlt
      · rw [Array.getElem?_eq_none hge] at hh; cases hh
    exact .inr ⟨g, cap, cur, rfl, hg, (k.block g hlt (hb g rfl)).trans hh, rest⟩
theorem NumsAt.only {lo hi : Nat} {w w' : World} (k : Only lo hi w w') {A : Option Addr} {n : Nat} {xs : List Int} (h : NumsAt w A n xs) (hb : ∀ b off, A = some ⟨b, off, none⟩ → b < lo ∨ hi ≤ b) : NumsAt w' A n xs :=
  ⟨h.1, fun i x hx => by
    obtain ⟨b, off, e, hc⟩ := h.2 i x hx
    exact ⟨b, off, e, (k.cell (cell_lt hc) (hb b off e)).trans hc⟩⟩

theorem row_block (g r : Nat) (xs : List Int) : (rowVal g r xs).ownBlock = some (g + 1 + r) := rfl

end Go.Proofs.YtkfajimhooidcaaDoor
