/-
  Careful words: the contracts of both IsCareful.
-/
import Derived.Test.YtikimfncpemmkabCare
namespace Go.Proofs.Ytikimfncpemmkab
open Go.RowKit Go.Deep Go.ChangeShapes Go.WideShapes
open Hunt Moved

theorem two_mkc {r : Bool × Int} {b : Bool} {c : Int} (h : r = (b, c)) : Ending.returned (.tuple #[.bool b, .int .i64 c]) = .returned (.tuple #[.bool r.1, .int .i64 r.2]) := by rw [h]
theorem all_in (n : Nat) : 2 ^ n - 1 < 2 ^ n := by have : 0 < 2 ^ n := Nat.pow_pos (by decide); omega
theorem letters_of {m : Nat} {ws : List Int} (h : isWordB (m : Int) ws = true) : ∀ x ∈ ws, 0 ≤ x ∧ x < (m : Int) := by
  simp only [isWordB, Bool.and_eq_true, List.all_eq_true, belowB, decide_eq_true_eq] at h
  exact h.2

set_option maxRecDepth 100000 in
set_option maxHeartbeats 2000000 in
theorem implIsCareful_any (s : Int) (A : Option Addr) (m cap : Nat) (xss : List (List Int)) (A' : Option Addr) (l cap' : Nat) (ws : List Int) (w : World) (h : RowsAt w A m xss) (hm : m ≤ 4611686018427387904)
    (hrows : ∀ (r : Nat) (xs : List Int), xss[r]? = some xs → xs.length ≤ 4611686018427387904) (h' : NumsAt w A' l ws) (hl : l ≤ 4611686018427387904) :
    Calls Try.prog 69 #[.agg #[.int .i64 s, .slice A m cap], .slice A' l cap'] w fun e w' => e = .returned (.tuple #[.bool (isCareful s xss ws).1, .int .i64 (isCareful s xss ws).2]) ∧ Below w.heap.size w w' := by
  have HR := Lib.hid hrows
  have HM := Lib.hid h.1
  have b0 : Below w.heap.size w (w.alloc (.cells #[.int .i64 s, .slice A m cap] 67)) := (Below.refl _ _).alloc (Nat.le_refl _) _
  have H0 := Lib.hid (h.below b0)
  have N0 := Lib.hid (h'.below b0)
  have B0 := Lib.hid b0
  clear hrows b0
  rcases hok : okP s xss with _ | _
  · have HF := Lib.hid (isCareful_1 (ws := ws) hok)
    go_enter Try.func69, Try.ntmps69
    go_wp2_with fail
    refine (implValidPartial_any s A m cap xss _ H0.out hm HR.out).mono ?_
    rw [hok]
    rintro e w1 ⟨rfl, b1⟩
    have B1 := Lib.hid (below_then B0.out b1)
    clear b1
    go_wp2_with fail
    go_ret2
    exact ⟨two_mkc HF.out, B1.out⟩
  · obtain ⟨n, hsn, hg⟩ := goodP_of hok HM.out
    subst hsn
    have HG := Lib.hid hg
    have hn10 : n ≤ 10 := hg.n10
    clear hg
    rcases hwd : isWordB (m : Int) ws with _ | _
    all_goals
      go_enter Try.func69, Try.ntmps69
      go_wp2_with fail
      refine (implValidPartial_any (n : Int) A m cap xss _ H0.out hm HR.out).mono ?_
      rw [hok]
      rintro e w1 ⟨rfl, b1⟩
      have d0 : w1.cell? ⟨w.heap.size, 0, none⟩ = some (.int .i64 (n : Int)) := (b1.cell (by simp)).trans (by go_cell)
      have d1 : w1.cell? ⟨w.heap.size, 1, none⟩ = some (.slice A m cap) := (b1.cell (by simp)).trans (by go_cell)
      have H1 := Lib.hid (H0.out.below b1)
      have N1 := Lib.hid (N0.out.below b1)
      have B1 := Lib.hid (below_then B0.out b1)
      clear b1
      go_wp2_with fail
      refine (isLetterList_any (n : Int) A A' m cap l cap' ws _ N1.out hm hl).mono ?_
      rw [hwd]
      rintro e w2 ⟨rfl, b2⟩
    · have HF := Lib.hid (isCareful_2 hok HM.out hwd)
      have B2 := Lib.hid (below_then B1.out b2)
      clear b2
      go_wp2_with fail
      go_ret2
      exact ⟨two_mkc HF.out, B2.out⟩
    · have HF := Lib.hid (isCareful_0 hok HM.out hwd)
      have HWL := Lib.hid (letters_of hwd)
      have d0 : w2.cell? ⟨w.heap.size, 0, none⟩ = some (.int .i64 (n : Int)) := (b2.cell (cell_lt d0)).trans d0
      have d1 : w2.cell? ⟨w.heap.size, 1, none⟩ = some (.slice A m cap) := (b2.cell (cell_lt d1)).trans d1
      have r0 : ∀ W', Below w2.heap.size w2 W' → W'.cell? ⟨w.heap.size, 0, none⟩ = some (.int .i64 (n : Int)) := fun W' hb => (hb.cell (cell_lt d0)).trans d0
      have r1 : ∀ W', Below w2.heap.size w2 W' → W'.cell? ⟨w.heap.size, 1, none⟩ = some (.slice A m cap) := fun W' hb => (hb.cell (cell_lt d1)).trans d1
      have H2 := Lib.hid (H1.out.below b2)
      have N2 := Lib.hid (N1.out.below b2)
      have B2 := Lib.hid (below_then B1.out b2)
      have h9 : Below w2.heap.size w2 w2 := Below.refl _ _
      obtain ⟨b, hb⟩ : ∃ b, b = 2 ^ n - 1 := ⟨_, rfl⟩
      have HBB := Lib.hid hb
      have HBN := Lib.hid (show b < 2 ^ n by rw [hb]; exact all_in n)
      obtain ⟨R, hR⟩ : ∃ R, R = carW xss ws b := ⟨_, rfl⟩
      have HRR := Lib.hid hR
      have HR10 := Lib.hid (show R.1 < 1024 by rw [hR]; exact Nat.lt_of_lt_of_le (carW_in HG.out ws b HWL.out HBN.out) (pow_le hn10))
      obtain ⟨R1, R2⟩ := R
      clear b2 hwd hb hR
      go_wp2_with fail
      go_region_held3 (fun w' => Below w2.heap.size w2 w') (first | assumption | exact below_drewN' (by assumption) _)
        (first
          | (go_at_call 122; refine (statesBelow_any n _ hn10).mono ?_; rw [← HBB.out]; rintro e w3 ⟨rfl, h3e⟩; have h3 : Below w2.heap.size w2 w3 := (by rw [← h3e]; first | assumption | exact below_drewN' (by assumption) _); clear h3e)
          | (go_at_call 137; refine (carefullyAfterWord_any A A' n m cap l cap' b xss ws _ HG.out (H2.out.below (by first | assumption | exact below_drewN' (by assumption) _)) (N2.out.below (by first | assumption | exact below_drewN' (by assumption) _)) HWL.out hl HBN.out).mono ?_; rw [← HRR.out]; rintro e w4 ⟨rfl, b4⟩; have h4 : Below w2.heap.size w2 w4 := below_then (by first | assumption | exact below_drewN' (by assumption) _) b4; clear b4))
      rcases R2 with _ | _
      · have HE := Lib.hid (show isCareful (n : Int) xss ws = (false, 0) by rw [HF.out, ← HBB.out, ← HRR.out]; rfl)
        go_wp2_with fail
        go_ret2
        exact ⟨two_mkc HE.out, below_then B2.out (by assumption)⟩
      · obtain ⟨v, hv⟩ : ∃ v, v = decide (Lib.onesCount R1 ≤ 1) := ⟨_, rfl⟩
        have HV := Lib.hid hv
        have HE := Lib.hid (show isCareful (n : Int) xss ws = (v, 0) by rw [HF.out, ← HBB.out, ← HRR.out, hv]; exact congrArg (fun x => (x, (0 : Int))) (Bool.true_and _))
        clear hv
        go_wp2_with fail
        refine (isMerged_any R1 _ HR10.out).mono ?_
        rw [← HV.out]
        rintro e w5 ⟨rfl, k5, rfl⟩
        go_wp2_with fail
        go_ret2
        exact ⟨two_mkc HE.out, below_then B2.out (by first | exact below_drewN' (by assumption) _ | exact below_drewN' (below_drewN' (by assumption) _) _)⟩

end Go.Proofs.Ytikimfncpemmkab
