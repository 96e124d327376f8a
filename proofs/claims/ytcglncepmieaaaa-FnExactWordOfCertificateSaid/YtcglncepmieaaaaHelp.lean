/-
  What the laws of actions and sets share: equal lists, kept rows, sizes; cells of a list.
-/
import Derived.Test.YtcglncepmieaaaaAct
import Derived.Test.YtcglncepmieaaaaMark
namespace Go.Proofs.Ytcglncepmieaaaa
open Go.RowKit Go.Deep Go.ChangeShapes Go.WideShapes

theorem nums_cells {w : World} {b off n : Nat} {xs : List Int} (h : NumsAt w (some ⟨b, off, none⟩) n xs) : ∀ (j : Nat) (u : Value), (xs.map (Value.int .i64))[j]? = some u → w.cell? ((⟨b, off, none⟩ : Addr).add j) = some u := by
  intro j u hu
  rw [List.getElem?_map] at hu
  obtain ⟨x, hx, rfl⟩ := Option.map_eq_some_iff.1 hu
  obtain ⟨b', off', e, hc⟩ := h.2 j x hx
  simp only [Option.some.injEq, Addr.mk.injEq, and_true] at e
  obtain ⟨rfl, rfl⟩ := e
  rw [Addr.add_lit]
  exact hc

theorem actTo_eq {n m : Nat} {xss : List (List Int)} (hg : Good n m xss) {ws : List Int} (hw : ∀ x ∈ ws, 0 ≤ x ∧ x < (m : Int)) : (actK n xss ws).take n = actTo xss ws n := by
  obtain ⟨h1, h2⟩ := actK_is hg ws hw ws.length (Nat.le_refl _)
  rw [List.take_length] at h1 h2
  apply List.ext_getElem?
  intro k
  rw [List.getElem?_take]
  rcases Nat.lt_or_ge k n with hk | hk
  · rw [if_pos hk, h2 k hk]
    simp [actTo, hk]
  · rw [if_neg (by omega), List.getElem?_eq_none (by rw [actTo_len]; exact hk)]

theorem eqInts_b (A A' : Option Addr) (n n' cap cap' : Nat) (xs ys : List Int) (w : World) (h : NumsAt w A n xs) (h' : NumsAt w A' n' ys) (hn : n ≤ 4611686018427387904) (hn' : n' ≤ 4611686018427387904) :
    Calls Try.prog 22 #[.slice A n cap, .slice A' n' cap'] w fun e w' => e = .returned (.bool (sameB xs ys)) ∧ Below w.heap.size w w' :=
  (eqInt64S_any A A' n n' cap cap' xs ys w h h' hn hn').mono fun _ _ hh => ⟨hh.1, by obtain ⟨m, rfl⟩ := hh.2; exact below_drewN' (Below.refl _ _) m⟩
theorem own_grown' {w w' : World} {base : Nat} {e : TypeId} {v : Value} {n : Nat} {cs : List Value} {row : Option Nat} {B : Nat} (h : w.ownsRow base e 1 v n cs) (hg : w.grownBy w' row) (hlt : ∀ k, row = some k → k < B) (hr : ∀ k, v.ownBlock = some k → B ≤ k) : w'.ownsRow base e 1 v n cs :=
  h.kept hg (by
    rcases hv : v.ownBlock with _ | g
    · exact .inl rfl
    · exact .inr (fun e => by have h1 := hr g hv; have h2 := hlt g e.symm; omega))
theorem sized_sum {xss : List (List Int)} {left r : Int} (h : SizedTo xss left r) (hl : left ≤ 1048576) (hr : ¬ r < 0) : sumLens xss ≤ 1048576 := by
  rcases h with h | ⟨_, h⟩ <;> omega

end Go.Proofs.Ytcglncepmieaaaa
