/-
  How many reset words of a length there are: what CountResets answers, and the program's contract.
-/
import Derived.Test.YtdelanjkaokiaaaCntW
namespace Go.Proofs.Ytdelanjkaokiaaa
open Go.RowKit Go.Deep Go.ChangeShapes Go.WideShapes
open Hunt Srch Moved

/-- What CountResets answers. -/
def countResets (s : Int) (xss : List (List Int)) (k : Int) : Int × Int :=
  if okA s xss = true then (if 0 ≤ k ∧ k ≤ 20 then (wr64 (goalS (cntF (aftF s.toNat xss) xss.length (2 ^ s.toNat - 1) k.toNat) mergedB (List.range 1024)), 0) else (0, 2)) else (0, 1)
theorem countResets_1 {s : Int} {xss : List (List Int)} {k : Int} (h : okA s xss = false) : countResets s xss k = (0, 1) := by unfold countResets; rw [if_neg (by simp [h])]
theorem countResets_2 {s : Int} {xss : List (List Int)} {k : Int} (h : okA s xss = true) (h' : ¬ (0 ≤ k ∧ k ≤ 20)) : countResets s xss k = (0, 2) := by unfold countResets; rw [if_pos h, if_neg h']
theorem countResets_0 {n m k : Nat} {xss : List (List Int)} (h : okA (n : Int) xss = true) (hm : xss.length = m) (hk : k ≤ 20) : countResets (n : Int) xss (k : Int) = (wr64 (goalS (cntF (aftF n xss) m (2 ^ n - 1) k) mergedB (List.range 1024)), 0) := by
  unfold countResets; rw [if_pos h, if_pos (by omega), Int.toNat_natCast, Int.toNat_natCast, hm]
set_option maxRecDepth 100000 in
theorem merged_goal : GoalOk 55 #[] mergedB :=
  ⟨fun _ _ => rfl, fun b hb W => (isMerged_any b W hb).mono fun _ _ hh => ⟨hh.1, by obtain ⟨k, rfl⟩ := hh.2; exact below_drewN' (Below.refl _ _) k⟩⟩

set_option maxRecDepth 100000 in
set_option maxHeartbeats 4000000 in
theorem implCountResets_any (s : Int) (A : Option Addr) (m cap : Nat) (xss : List (List Int)) (k : Int) (w : World) (h : RowsAt w A m xss) (hm : m ≤ 4611686018427387904)
    (hrows : ∀ (r : Nat) (xs : List Int), xss[r]? = some xs → xs.length ≤ 4611686018427387904) :
    Calls Try.prog 28 #[.agg #[.int .i64 s, .slice A m cap], .int .i64 k] w fun e w' => e = .returned (.tuple #[.int .i64 (countResets s xss k).1, .int .i64 (countResets s xss k).2]) ∧ Below w.heap.size w w' := by
  have HR := Lib.hid hrows
  have HM := Lib.hid h.1
  obtain ⟨R, hR⟩ : ∃ R, R = countResets s xss k := ⟨_, rfl⟩
  rw [← hR]
  have HRR := Lib.hid hR
  obtain ⟨w1, hw1⟩ : ∃ w1, w1 = w.alloc (.cells #[.int .i64 s, .slice A m cap] 31) := ⟨_, rfl⟩
  have b1 : Below w.heap.size w w1 := by rw [hw1]; exact (Below.refl _ _).alloc (Nat.le_refl _) _
  have X1 := Lib.hid (show Box w1 w.heap.size [.int .i64 s, .slice A m cap] by rw [hw1]; exact Box.new _ _ _)
  have HX1 := Lib.hid (h.below b1)
  have W1 := Lib.hid b1
  have HW := Lib.hid hw1
  clear h hrows hR b1 hw1
  go_enter Try.func28, Try.ntmps28
  go_upto_region 1 with fail
  rw [← HW.out]
  have q0 := X1.out 0 _ rfl
  have q1 := X1.out 1 _ rfl
  go_wp2_with fail
  refine (implValid_any s A m cap xss w1 HX1.out hm HR.out).mono ?_
  rintro e w2 ⟨rfl, b2⟩
  have X2 := Lib.hid (Box.below X1.out b2)
  have HX2 := Lib.hid (HX1.out.below b2)
  have W2 := Lib.hid (below_then W1.out b2)
  clear b2 q0 q1
  rcases hok : okA s xss with _ | _
  · have HF := Lib.hid (HRR.out.trans (countResets_1 hok))
    go_wp2_with fail
    go_ret2
    exact ⟨ret_pair HF.out, W2.out⟩
  · obtain ⟨n, hsn, hg⟩ := good_of hok HM.out
    subst hsn
    have HG := Lib.hid hg
    have HOK := Lib.hid hok
    clear hg hok
    by_cases hk0 : k < 0
    · have hb : decide (k < 0) = true := by simpa using hk0
      have HF := Lib.hid (HRR.out.trans (countResets_2 HOK.out (by omega)))
      clear hk0
      go_wp2_with fail
      go_ret2
      exact ⟨ret_pair HF.out, W2.out⟩
    · have hb : decide (k < 0) = false := by simp; omega
      by_cases hk20 : 20 < k
      · have hb2 : decide (20 < k) = true := by simpa using hk20
        have HF := Lib.hid (HRR.out.trans (countResets_2 HOK.out (by omega)))
        clear hk0 hk20
        go_wp2_with fail
        go_ret2
        exact ⟨ret_pair HF.out, W2.out⟩
      · have hb2 : decide (20 < k) = false := by simp; omega
        obtain ⟨k, rfl⟩ : ∃ z : Nat, k = (z : Int) := ⟨k.toNat, by omega⟩
        have HK := Lib.hid (show k ≤ 20 by omega)
        have q0 := X2.out 0 _ rfl
        have q1 := X2.out 1 _ rfl
        have HF := Lib.hid (HRR.out.trans (countResets_0 HOK.out HM.out HK.out))
        clear hk0 hk20
        go_wp2_with fail
        obtain ⟨w3, hw3⟩ : ∃ w3, w3 = w2.alloc (.cells #[.func (.func 55) #[] #[]] 103) := ⟨_, rfl⟩
        have b3 : Below w2.heap.size w2 w3 := by rw [hw3]; exact (Below.refl _ _).alloc (Nat.le_refl _) _
        have hgoal : GoalsAt w3 (some ⟨w2.heap.size, 0, none⟩) 1 (fun _ => 55) (fun _ => #[]) := fun i hi => ⟨_, _, rfl, by
          obtain rfl : i = 0 := by omega
          rw [hw3]; exact cell_of_row _ _ 0 _ _ _ (heap_alloc_new _ _)⟩
        rw [← hw3]
        have W3 := Lib.hid (below_then W2.out b3)
        clear hw3 q0 q1
        refine (countWords_any A n m cap xss k _ 1 1 _ _ (fun _ => mergedB) w3 HG.out (HX2.out.below b3) HK.out hgoal (by decide) (fun _ _ => merged_goal)).mono ?_
        rintro e w4 ⟨v, rfl, o4, b4⟩
        obtain ⟨A9, c9, rfl⟩ := own_form o4
        obtain ⟨G, rfl⟩ := own_addr o4 (by decide)
        have hc4 := o4.cellAt 0 (by decide)
        have W4 := Lib.hid (below_then W3.out b4)
        obtain ⟨Z, hZ⟩ : ∃ Z, Z = wr64 (goalS (cntF (aftF n xss) m (2 ^ n - 1) k) mergedB (List.range 1024)) := ⟨_, rfl⟩
        have hc5 : w4.cell? ⟨G, 0, none⟩ = some (.int .i64 Z) := by rw [hc4, List.getElem?_map, rowF_at _ (by decide), hZ]; rfl
        rw [← hZ] at HF
        clear o4 b4 hc4 hgoal b3 hZ
        go_wp2_with fail
        go_ret2
        exact ⟨ret_pair HF.out, W4.out⟩

end Go.Proofs.Ytdelanjkaokiaaa
