/-
  All sets that the program's search tells: the contract of imagesOf.
-/
import Derived.Test.YtcglncepmieaaaaFirst
namespace Go.Proofs.Ytcglncepmieaaaa
open Go.RowKit Go.Deep Go.ChangeShapes Go.WideShapes

namespace Srch
open Hunt Room

theorem info_set : (Try.prog.info? 74).map (fun i => (i.zero, i.size, i.bytes)) = some (some (.int .u16 0), 1, 2) := by kernel_rfl
def setVs (T : List Fnd) : List Value := T.map fun f => Value.int .u16 (f.set : Int)
theorem setVs_len (T : List Fnd) : (setVs T).length = T.length := List.length_map _
theorem setVs_snoc (T : List Fnd) (f : Fnd) : setVs (T ++ [f]) = setVs T ++ [.int .u16 (f.set : Int)] := by simp [setVs]
/-- A row of another type that is appended to does not matter to the search. -/
theorem Holds.grown {base pq pk g : Nat} {Z : List Nat} {kn : Nat → Bool} {L : List Fnd} {w w' : World} {row : Option Nat} {t' : TypeId} (h : Holds base pq pk g Z kn L w) (hgr : w.grownBy w' row) (ht : 2 ≠ t') (hrow : ∀ q, row = some q → (∃ c, w.heap[q]? = some (.cells c t' (0, 0))) ∧ q ≠ pq ∧ q ≠ pk ∧ q ≠ g) : Holds base pq pk g Z kn L w' := by
  obtain ⟨v, us, h1, h2, h3, h4⟩ := h.queue
  obtain ⟨K, k1, k2, k3⟩ := h.known
  have hoth : ∀ b, b < w.heap.size → row ≠ some b → w'.heap[b]? = w.heap[b]? := fun b hb hne => hgr.block b hb (Ne.symm hne)
  refine ⟨⟨v, us, (hoth _ (block_lt h1) (fun e => (hrow _ e).2.1 rfl)).trans h1, h2, q_kept h3 (hoth g (q_lt h3) (fun e => (hrow _ e).2.2.2 rfl)), fun j e u he hu => ⟨own_kept (h4 j e u he hu).1 (fun q hq => hoth q ((h4 j e u he hu).1.lt q hq).2 (fun e' => ?_)), (h4 j e u he hu).2⟩⟩, ⟨K, (hoth _ (block_lt k1) (fun e => (hrow _ e).2.2.1 rfl)).trans k1, k2, k3⟩, h.le, h.ne, fun y hy => ⟨Nat.lt_of_lt_of_le (h.still y hy).1 hgr.size, (h.still y hy).2⟩⟩
  obtain ⟨c, hc⟩ := (hrow q e').1
  exact own_type (h4 j e u he hu).1 hc ht hq
theorem Told.grown {base pq pk pe pa g n m cap b0 i : Nat} {A : Option Addr} {xss : List (List Int)} {ok : Bool} {s : Nat} {u : Value} {W W' : World} {row : Option Nat} (h : Told base pq pe pk pa g n m cap b0 i A xss ok s u W) (hgr : W.grownBy W' row) (hrow : ∀ q, row = some q → (∃ c, W.heap[q]? = some (.cells c 74 (0, 0))) ∧ q ≠ pq ∧ q ≠ pk ∧ q ≠ g) : Told base pq pe pk pa g n m cap b0 i A xss ok s u W' := by
  rcases h with h | ⟨h1, f, h2, h3, h4, h5, h6, h7⟩
  · exact .inl h
  · have hoth : ∀ b, b < W.heap.size → row ≠ some b → W'.heap[b]? = W.heap[b]? := fun b hb hne => hgr.block b hb (Ne.symm hne)
    refine .inr ⟨h1, f, h2, h3, own_kept h4 (fun q hq => hoth q (h4.lt q hq).2 (fun e => ?_)), h5.grown hgr (t' := 74) (by decide) hrow, (hoth _ (block_lt h6) (fun e => ?_)).trans h6, (hoth _ (block_lt h7) (fun e => ?_)).trans h7⟩
    · obtain ⟨c, hc⟩ := (hrow q e).1
      exact own_type h4 hc (by decide) hq
    · obtain ⟨c, hc⟩ := (hrow _ e).1
      rw [hc] at h6; simp at h6
    · obtain ⟨c, hc⟩ := (hrow _ e).1
      rw [hc] at h7; simp at h7

end Srch

end Go.Proofs.Ytcglncepmieaaaa
