/-
  What a letter does at a state of a machine: the contract of transitionAt.
-/
import Derived.Test.YtogbglbmkkbhcaaDoorMachR
namespace Go.Proofs.YtogbglbmkkbhcaaDoor
open Go.RowKit Go.Deep Go.ChangeShapes Go.WideShapes

set_option maxRecDepth 100000 in
set_option maxHeartbeats 2000000 in
theorem transitionAt_any (A : Option Addr) (n m k c : Nat) (xss : List (List Int)) (B : Option Addr) (d : Nat) (yss : List (List Int)) (x q : Nat) (w : World) (hg : GoodM n m k xss yss) (h : RowsAt w A m xss) (g : RowsAt w B m yss) (hx : x < m) (hq : q < n) :
    Calls Tryd.prog 61 #[.agg #[.int .i64 (n : Int), .int .i64 (k : Int), .slice A m c, .slice B m d], .int .i64 (x : Int), .int .i64 (q : Int)] w
      fun e w' => e = .returned (.agg #[.int .i64 ((nx xss x q : Nat) : Int), .int .i64 ((nx yss x q : Nat) : Int)]) ∧ Below w.heap.size w w' := by
  obtain ⟨w1, hw1⟩ : ∃ w1, w1 = (w.alloc (.cells #[.int .i64 (n : Int), .int .i64 (k : Int), .slice A m c, .slice B m d] 59)).alloc (.cells #[.int .i64 0, .int .i64 0] 105) := ⟨_, rfl⟩
  have b1 : Below w.heap.size w w1 := by rw [hw1]; go_grown
  obtain ⟨b, off, c1, b3, off1, b2, off2, c2, b4, off3, rfl, r1, r2, rfl, r3, r4⟩ := hg.cells (h.below b1) (g.below b1) hx hq
  have y2 : w1.cell? ⟨w.heap.size, 2, none⟩ = some (.slice (some ⟨b, off, none⟩) m c) := by rw [hw1]; go_cell
  have y3 : w1.cell? ⟨w.heap.size, 3, none⟩ = some (.slice (some ⟨b2, off2, none⟩) m d) := by rw [hw1]; go_cell
  have x0 : w1.cell? ⟨w.heap.size + 1, 0, none⟩ = some (.int .i64 0) := by rw [hw1]; go_cell
  have x1 : w1.cell? ⟨w.heap.size + 1, 1, none⟩ = some (.int .i64 0) := by rw [hw1]; go_cell
  have f0 : w1.frozen? ⟨w.heap.size + 1, 0, none⟩ = false := by rw [hw1]; go_cell
  have f1 : w1.frozen? ⟨w.heap.size + 1, 1, none⟩ = false := by rw [hw1]; go_cell
  have hl : w.heap.size + 1 < w1.heap.size := by rw [hw1]; simp
  have i1 : (0 : Int) ≤ (x : Int) := by omega
  have i2 : (x : Int) < (m : Int) := by omega
  have i3 : (0 : Int) ≤ (q : Int) := by omega
  have i4 : (q : Int) < (n : Int) := by omega
  have HB := Lib.hid b1
  have HW := Lib.hid hw1
  have HLT := Lib.hid hl
  clear b1 hw1 hg h g hl hx hq
  go_enter Tryd.func61, Tryd.ntmps61
  go_wp2_with fail
  rw [← HW.out]
  go_still_tail 17, (by kernel_rfl)
  obtain ⟨W5, hW5⟩ : ∃ W5, W5 = w1.drew := ⟨_, rfl⟩
  have b5 : Below w.heap.size w W5 := by rw [hW5]; exact below_drewN' HB.out 1
  have x0 : W5.cell? ⟨w.heap.size + 1, 0, none⟩ = some (.int .i64 0) := by rw [hW5]; exact x0
  have x1 : W5.cell? ⟨w.heap.size + 1, 1, none⟩ = some (.int .i64 0) := by rw [hW5]; exact x1
  have f0 : W5.frozen? ⟨w.heap.size + 1, 0, none⟩ = false := by rw [hW5]; exact f0
  have f1 : W5.frozen? ⟨w.heap.size + 1, 1, none⟩ = false := by rw [hW5]; exact f1
  change wpList _ _ _ _ _ w1.drew
  rw [← hW5]
  have HB5 := Lib.hid b5
  clear hW5 b5
  go_wp2_with fail
  refine bodyPost_ret (v := .agg #[.int .i64 ((nx xss x q : Nat) : Int), .int .i64 ((nx yss x q : Nat) : Int)]) (by simp [results, Tryd.results61, go_sem, x0, x1]) rfl ⟨rfl, ?_⟩
  exact (HB5.out.setCell (by simp) _).setCell (by simp) _

end Go.Proofs.YtogbglbmkkbhcaaDoor
