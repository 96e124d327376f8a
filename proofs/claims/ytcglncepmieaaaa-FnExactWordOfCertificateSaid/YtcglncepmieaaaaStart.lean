/-
  The program's search: the contract of searchFrom.
-/
import Derived.Test.YtcglncepmieaaaaFind
import Derived.Laws.EntriesVeiled
namespace Go.Proofs.Ytcglncepmieaaaa
open Go.RowKit Go.Deep Go.ChangeShapes Go.WideShapes

namespace Srch
open Hunt Room

theorem zero_known : Try.zeroCells175 = Array.replicate 1024 (Value.bool false) := by kernel_rfl
theorem known_start {b0 b : Nat} (_hb0 : b0 < 1024) (hb : b < 1024) : ((Array.replicate 1024 (Value.bool false)).setIfInBounds b0 (.bool true))[b]? = some (.bool (knownB [⟨b0, -1, 0, []⟩] b)) := by
  by_cases h : b0 = b
  · subst h
    rw [Array.getElem?_setIfInBounds_self_of_lt (by simpa using hb)]
    simp [knownB]
  · rw [Array.getElem?_setIfInBounds_ne h]
    simp [knownB, hb, h]

set_option maxRecDepth 100000 in
set_option maxHeartbeats 8000000 in
theorem searchFrom_any (A : Option Addr) (n m cap b0 : Nat) (xss : List (List Int)) (w : World) (hb0 : b0 < 1024) :
    Calls Try.prog 141 #[.agg #[.int .i64 (n : Int), .slice A m cap], .int .u16 (b0 : Int)] w fun e w' => ∃ pq pe pk pa g, e = .returned (.func (.func 151) #[] #[.pointer (some ⟨pq, 0, none⟩), .pointer (some ⟨pe, 0, none⟩)]) ∧ pq < w'.heap.size ∧ Going w.heap.size pq pe pk pa g n m cap b0 0 A xss w' ∧ Below w.heap.size w w' := by
  obtain ⟨W1, hW1⟩ : ∃ W1, W1 = w.alloc (.cells #[.int .i64 (n : Int), .slice A m cap] 28) := ⟨_, rfl⟩
  obtain ⟨W2, hW2⟩ : ∃ W2, W2 = W1.alloc (.cells #[.int .u16 (b0 : Int), .slice none 0 0] 167) := ⟨_, rfl⟩
  obtain ⟨W3, hW3⟩ : ∃ W3, W3 = W2.alloc (.cells #[.slice (some ⟨w.heap.size + 1, 0, none⟩) 1 1] 174) := ⟨_, rfl⟩
  obtain ⟨W4, hW4⟩ : ∃ W4, W4 = W3.alloc (.cells (Array.replicate 1024 (Value.bool false)) 175) := ⟨_, rfl⟩
  have s1 : W1.heap.size = w.heap.size + 1 := by rw [hW1, World.size_alloc]
  have s2 : W2.heap.size = w.heap.size + 2 := by rw [hW2, World.size_alloc, s1]
  have s3 : W3.heap.size = w.heap.size + 3 := by rw [hW3, World.size_alloc, s2]
  have s4 : W4.heap.size = w.heap.size + 4 := by rw [hW4, World.size_alloc, s3]
  have b1 : Below w.heap.size w W1 := by rw [hW1]; exact (Below.refl _ _).alloc (Nat.le_refl _) _
  have b2 : Below W1.heap.size W1 W2 := by rw [hW2]; exact (Below.refl _ _).alloc (Nat.le_refl _) _
  have b3 : Below W2.heap.size W2 W3 := by rw [hW3]; exact (Below.refl _ _).alloc (Nat.le_refl _) _
  have b4 : Below W3.heap.size W3 W4 := by rw [hW4]; exact (Below.refl _ _).alloc (Nat.le_refl _) _
  have x1 : W4.heap[w.heap.size]? = some (.cells #[.int .i64 (n : Int), .slice A m cap] 28 (0, 0)) := (b4.block _ (by omega)).trans ((b3.block _ (by omega)).trans ((b2.block _ (by omega)).trans (by rw [hW1]; exact heap_alloc_new _ _)))
  have x2 : W4.heap[w.heap.size + 1]? = some (.cells #[.int .u16 (b0 : Int), .slice none 0 0] 167 (0, 0)) := (b4.block _ (by omega)).trans ((b3.block _ (by omega)).trans (by rw [hW2, ← s1]; exact heap_alloc_new _ _))
  have x3 : W4.heap[w.heap.size + 2]? = some (.cells #[.slice (some ⟨w.heap.size + 1, 0, none⟩) 1 1] 174 (0, 0)) := (b4.block _ (by omega)).trans (by rw [hW3, ← s2]; exact heap_alloc_new _ _)
  have x4 : W4.heap[w.heap.size + 3]? = some (.cells (Array.replicate 1024 (Value.bool false)) 175 (0, 0)) := by rw [hW4, ← s3]; exact heap_alloc_new _ _
  have c4 : W4.cell? ⟨w.heap.size + 3, b0, none⟩ = some (.bool false) := by rw [cell_of_row _ _ b0 _ _ _ x4]; simp [hb0]
  have f4 : W4.frozen? ⟨w.heap.size + 3, b0, none⟩ = false := frozen_of_row _ _ b0 _ _ x4
  obtain ⟨W5, hW5⟩ : ∃ W5, W5 = W4.setCell ⟨w.heap.size + 3, b0, none⟩ (.bool true) := ⟨_, rfl⟩
  have s5 : W5.heap.size = w.heap.size + 4 := by rw [hW5, World.size_setCell, s4]
  have o5 : ∀ q, q ≠ w.heap.size + 3 → W5.heap[q]? = W4.heap[q]? := fun q hq => by rw [hW5]; exact heap_setCell_other W4 ⟨w.heap.size + 3, b0, none⟩ q _ hq
  have y4 : W5.heap[w.heap.size + 3]? = some (.cells ((Array.replicate 1024 (Value.bool false)).setIfInBounds b0 (.bool true)) 175 (0, 0)) := by rw [hW5]; exact heap_setCell_same W4 (w.heap.size + 3) b0 _ _ _ x4
  have b5 : Below w.heap.size w W5 := by rw [hW5]; exact (below_then (below_then (below_then b1 b2) b3) b4).setCell (by simp) _
  have i1 : (0 : Int) ≤ (b0 : Int) := by omega
  have i2 : (b0 : Int) < 1024 := by omega
  have X1 := Lib.hid ((o5 _ (by omega)).trans x1)
  have X2 := Lib.hid ((o5 _ (by omega)).trans x2)
  have X3 := Lib.hid ((o5 _ (by omega)).trans x3)
  have Y4 := Lib.hid y4
  have S5 := Lib.hid s5
  have B5 := Lib.hid b5
  have HW1 := Lib.hid hW1
  have HW2 := Lib.hid hW2
  have HW3 := Lib.hid hW3
  have HW4 := Lib.hid hW4
  have HW5 := Lib.hid hW5
  clear b1 b2 b3 b4 b5 x1 x2 x3 x4 y4 s1 s2 s3 s4 s5 o5 hW1 hW2 hW3 hW4 hW5
  go_enter Try.func141, Try.ntmps141
  go_upto_region 3 with fail
  rw [zero_known, ← HW1.out, ← HW2.out, ← HW3.out, ← HW4.out]
  go_upto_region 4 with fail
  rw [← HW5.out]
  clear c4 f4
  go_wp2_with fail
  go_ret
  obtain ⟨F, hF⟩ : ∃ F, F = Value.func (.func 150) #[] #[.pointer (some ⟨w.heap.size, 0, none⟩), .pointer (some ⟨w.heap.size + 1 + 1 + 1, 0, none⟩), .pointer (some ⟨w.heap.size + 1 + 1, 0, none⟩)] := ⟨_, rfl⟩
  have b6 : Below W5.heap.size W5 (W5.alloc (.cells #[F] 176)) := (Below.refl _ _).alloc (Nat.le_refl _) _
  have y7 : (W5.alloc (.cells #[F] 176)).heap[W5.heap.size]? = some (.cells #[F] 176 (0, 0)) := heap_alloc_new _ _
  have s7 : (W5.alloc (.cells #[F] 176)).heap.size = W5.heap.size + 1 := World.size_alloc _ _
  have b7 := below_then B5.out b6
  have o6 : ∀ q, q < W5.heap.size → (W5.alloc (.cells #[F] 176)).heap[q]? = W5.heap[q]? := fun q hq => b6.block q hq
  rw [← hF]
  obtain ⟨W7, hW7⟩ : ∃ W7, W7 = W5.alloc (.cells #[F] 176) := ⟨_, rfl⟩
  rw [← hW7] at o6 y7 s7 b7 ⊢
  have h5 := S5.out
  refine ⟨_, _, w.heap.size + 3, w.heap.size, w.heap.size + 1, rfl, by omega, ⟨⟨⟨.slice (some ⟨w.heap.size + 1, 0, none⟩) 1 1, [.slice none 0 0], (o6 _ (by omega)).trans X3.out, rfl, ⟨rfl, 0, 1, _, rfl, (o6 _ (by omega)).trans X2.out, Nat.le_refl _, Nat.le_refl _, fun j u hu => ?_⟩, fun j e u he hu => ?_⟩, ⟨_, (o6 _ (by omega)).trans Y4.out, by simp, fun b hb => known_start hb0 hb⟩, ⟨by omega, by omega, by omega⟩, ⟨by omega, by omega, by omega⟩, fun z hz => ?_⟩, ?_, (o6 _ (by omega)).trans X1.out⟩, b7⟩
  · rw [Nat.zero_add, ← Array.getElem?_toList]; exact hu
  · rcases j with _ | j
    · have e1 : (⟨b0, -1, 0, []⟩ : Fnd) = e := by simpa [told, runF] using he
      subst e1
      obtain rfl : Value.slice none 0 0 = u := by simpa using hu
      exact WordV.nil
    · simp at hu
  · simp at hz
    rcases hz with rfl | rfl <;> omega
  · rw [y7, hF]
end Srch

end Go.Proofs.Ytcglncepmieaaaa
