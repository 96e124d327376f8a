/-
  First words from all states: the contracts of both CanReset and of both ShortestReset.
-/
import Derived.Test.YtnnjcpihaobkaaaMerge
namespace Go.Proofs.Ytnnjcpihaobkaaa
open Go.RowKit Go.Deep Go.ChangeShapes Go.WideShapes
open Hunt Srch From Moved

theorem full_lt {n : Nat} (hn : n ≤ 10) : 2 ^ n - 1 < 1024 := (full_in n).lt hn
theorem told_hit (o : Option Fnd) : ((toldW o).2 == 0) = hitB o := by cases o <;> rfl
theorem told_code (o : Option Fnd) : (toldW o).2 = if hitB o = true then 0 else 6 := by cases o <;> rfl
theorem full_cut {n m : Nat} {xss : List (List Int)} (hg : Good n m xss) : cutW n m xss (2 ^ n - 1) = freeW n m xss (2 ^ n - 1) := by unfold cutW freeW; rw [full_same hg]
theorem freeW_len {n m b : Nat} {xss : List (List Int)} (hg : Good n m xss) (hb : b < 1024) : (freeW n m xss b).1.length ≤ 1024 := told_len hg hb

/-- What CanReset answers. -/
noncomputable def canReset (s : Int) (xss : List (List Int)) : Bool × Int :=
  if okA s xss = true then (hitB (firstF mergedB (fnd s.toNat xss.length xss 1024 (2 ^ s.toNat - 1))), 0) else (false, 1)
theorem canReset_1 {s : Int} {xss : List (List Int)} (h : okA s xss = false) : canReset s xss = (false, 1) := by unfold canReset; rw [if_neg (by simp [h])]
theorem canReset_0 {n m : Nat} {xss : List (List Int)} (h : okA (n : Int) xss = true) (hm : xss.length = m) : canReset (n : Int) xss = (hitB (firstF mergedB (fnd n m xss 1024 (2 ^ n - 1))), 0) := by unfold canReset; rw [if_pos h, hm, Int.toNat_natCast]
/-- What ShortestReset answers. -/
noncomputable def shortestReset (s : Int) (xss : List (List Int)) : List Int × Int :=
  if okA s xss = true then freeW s.toNat xss.length xss (2 ^ s.toNat - 1) else ([], 1)
theorem shortestReset_1 {s : Int} {xss : List (List Int)} (h : okA s xss = false) : shortestReset s xss = ([], 1) := by unfold shortestReset; rw [if_neg (by simp [h])]
theorem shortestReset_0 {n m : Nat} {xss : List (List Int)} (h : okA (n : Int) xss = true) (hm : xss.length = m) : shortestReset (n : Int) xss = freeW n m xss (2 ^ n - 1) := by unfold shortestReset; rw [if_pos h, hm, Int.toNat_natCast]
theorem shortestReset_len (s : Int) (xss : List (List Int)) : (shortestReset s xss).1.length ≤ 1024 := by
  rcases hok : okA s xss with _ | _
  · rw [shortestReset_1 hok]; simp
  · obtain ⟨n, hsn, hg⟩ := good_of hok rfl
    subst hsn
    rw [shortestReset_0 hok rfl]
    exact freeW_len hg (full_lt hg.n10)
theorem two_mk' {r : List Int × Int} {ls : List Int} {c : Int} {u : Value} (h : r = (ls, c)) : Ending.returned (.tuple #[u, .int .i64 c]) = .returned (.tuple #[u, .int .i64 r.2]) := by rw [h]
theorem two_mkb' {r : Bool × Int} {b : Bool} {c : Int} (h : r = (b, c)) : Ending.returned (.tuple #[.bool b, .int .i64 c]) = .returned (.tuple #[.bool r.1, .int .i64 r.2]) := by rw [h]

set_option maxRecDepth 100000 in
set_option maxHeartbeats 2000000 in
theorem implShortestReset_any (s : Int) (A : Option Addr) (m cap : Nat) (xss : List (List Int)) (w : World) (h : RowsAt w A m xss) (hm : m ≤ 4611686018427387904)
    (hrows : ∀ (r : Nat) (xs : List Int), xss[r]? = some xs → xs.length ≤ 4611686018427387904) :
    Calls Try.prog 10 #[.agg #[.int .i64 s, .slice A m cap]] w fun e w' => ∃ v, e = .returned (.tuple #[v, .int .i64 (shortestReset s xss).2]) ∧ w'.ownsRow w.heap.size 2 1 v (shortestReset s xss).1.length ((shortestReset s xss).1.map (Value.int .i64)) ∧ Below w.heap.size w w' := by
  have HR := Lib.hid hrows
  have HM := Lib.hid h.1
  have b0 : Below w.heap.size w (w.alloc (.cells #[.int .i64 s, .slice A m cap] 27)) := (Below.refl _ _).alloc (Nat.le_refl _) _
  have H0 := Lib.hid (h.below b0)
  have B0 := Lib.hid b0
  clear hrows b0
  rcases hok : okA s xss with _ | _
  · have HF := Lib.hid (shortestReset_1 hok)
    go_enter Try.func10, Try.ntmps10
    go_wp2_with fail
    refine (implValid_any s A m cap xss _ H0.out hm HR.out).mono ?_
    rw [hok]
    rintro e w1 ⟨rfl, b1⟩
    have B1 := Lib.hid (below_then B0.out b1)
    clear b1
    go_wp2_with fail
    go_ret2
    rw [HF.out]
    exact ⟨_, rfl, World.ownsRow_nil _ _ _ _, B1.out⟩
  · obtain ⟨n, hsn, hg⟩ := good_of hok HM.out
    subst hsn
    have HG := Lib.hid hg
    have hn10 : n ≤ 10 := hg.n10
    have HF := Lib.hid (shortestReset_0 hok HM.out)
    clear hg
    go_enter Try.func10, Try.ntmps10
    go_wp2_with fail
    refine (implValid_any (n : Int) A m cap xss _ H0.out hm HR.out).mono ?_
    rw [hok]
    rintro e w1 ⟨rfl, b1⟩
    have d0 : w1.cell? ⟨w.heap.size, 0, none⟩ = some (.int .i64 (n : Int)) := (b1.cell (by simp)).trans (by go_cell)
    have d1 : w1.cell? ⟨w.heap.size, 1, none⟩ = some (.slice A m cap) := (b1.cell (by simp)).trans (by go_cell)
    have r0 : ∀ W', Below w1.heap.size w1 W' → W'.cell? ⟨w.heap.size, 0, none⟩ = some (.int .i64 (n : Int)) := fun W' hb => (hb.cell (cell_lt d0)).trans d0
    have r1 : ∀ W', Below w1.heap.size w1 W' → W'.cell? ⟨w.heap.size, 1, none⟩ = some (.slice A m cap) := fun W' hb => (hb.cell (cell_lt d1)).trans d1
    have H1 := Lib.hid (H0.out.below b1)
    have B1 := Lib.hid (below_then B0.out b1)
    have h9 : Below w1.heap.size w1 w1 := Below.refl _ _
    obtain ⟨b, hb⟩ : ∃ b, b = 2 ^ n - 1 := ⟨_, rfl⟩
    have hb10 : b < 1024 := by rw [hb]; exact full_lt hn10
    have HCF := Lib.hid (full_cut HG.out)
    rw [← hb] at HF HCF
    have HBB := Lib.hid hb
    clear b1 hb
    go_wp2_with fail
    go_region_held3 (fun w' => Below w1.heap.size w1 w') (first | assumption | exact below_drewN' (by assumption) _)
      (first
        | (go_at_call 39; refine (allStates_any A n m cap _ hn10).mono ?_; rw [← HBB.out]; rintro e w3 ⟨rfl, b3⟩; have h3 : Below w1.heap.size w1 w3 := below_then (by first | assumption | exact below_drewN' (by assumption) _) b3; clear b3)
        | (go_at_call 38; refine (mergingWord_any A n m cap b xss _ HG.out (H1.out.below (by first | assumption | exact below_drewN' (by assumption) _)) hb10).mono ?_; rintro e w4 ⟨u, rfl, ow, b4⟩; have HO := Lib.hid (own_base ow (show w.heap.size ≤ _ from (below_then B1.out (by first | assumption | exact below_drewN' (by assumption) _)).size)); have h4 : Below w1.heap.size w1 w4 := below_then (by first | assumption | exact below_drewN' (by assumption) _) b4; clear b4 ow)
        | fail)
    go_wp2_with fail
    go_ret2
    rw [HF.out, ← HCF.out]
    exact ⟨u, rfl, HO.out, below_then B1.out h4⟩

end Go.Proofs.Ytnnjcpihaobkaaa
