/-
  Words that reset: the contracts of both IsReset.
-/
import Derived.Test.YtnnjcpihaobkaaaBits
import Derived.Test.YtnnjcpihaobkaaaAll
import Derived.Test.YtnnjcpihaobkaaaImg
namespace Go.Proofs.Ytnnjcpihaobkaaa
open Go.RowKit Go.Deep Go.ChangeShapes Go.WideShapes

theorem aftW_iff {n m : Nat} {xss : List (List Int)} (hg : Good n m xss) : ∀ (ws : List Int) (b q : Nat), (∀ x ∈ ws, 0 ≤ x ∧ x < (m : Int)) → (∀ q, b.testBit q = true → q < n) → ((aftW b n xss ws).testBit q = true ↔ ∃ s, s < n ∧ b.testBit s = true ∧ toS xss ws s = q)
  | [], b, q, _, hb => by
    show b.testBit q = true ↔ _
    constructor
    · intro h; exact ⟨q, hb q h, h, rfl⟩
    · rintro ⟨s, _, h, rfl⟩; exact h
  | x :: ws, b, q, hw, hb => by
    have hx := hw x (by simp)
    obtain ⟨row, hr, hlen⟩ := hg.row (x := x.toNat) (by omega)
    have hgd : xss.getD x.toNat [] = row := by rw [List.getD_eq_getElem?_getD, hr]; rfl
    have hrw : ∀ j, j < n → (row.getD j 0).toNat = nx xss x.toNat j := fun j hj => by unfold nx; rw [hgd]
    have hbit : ∀ q', (aftB b row n).testBit q' = true ↔ ∃ j, j < n ∧ b.testBit j = true ∧ nx xss x.toNat j = q' := fun q' => by
      rw [aftB_bit]
      simp only [List.any_eq_true, List.mem_range, Bool.and_eq_true, decide_eq_true_eq]
      constructor
      · rintro ⟨j, hj, h1, h2⟩; exact ⟨j, hj, h1, by rw [← hrw j hj]; exact h2⟩
      · rintro ⟨j, hj, h1, h2⟩; exact ⟨j, hj, h1, by rw [hrw j hj]; exact h2⟩
    show (aftW (aftB b (xss.getD x.toNat []) n) n xss ws).testBit q = true ↔ _
    rw [hgd, aftW_iff hg ws (aftB b row n) q (fun y hy => hw y (by simp [hy])) (fun q' hq' => by
      obtain ⟨j, hj, _, rfl⟩ := (hbit q').1 hq'
      exact hg.nextD (by omega) hj)]
    constructor
    · rintro ⟨s, _, h1, h2⟩
      obtain ⟨j, hj, h3, rfl⟩ := (hbit s).1 h1
      exact ⟨j, hj, h3, h2⟩
    · rintro ⟨j, hj, h3, h2⟩
      exact ⟨nx xss x.toNat j, hg.nextD (by omega) hj, (hbit _).2 ⟨j, hj, h3, rfl⟩, h2⟩
theorem aft_image {n m : Nat} {xss : List (List Int)} (hg : Good n m xss) {ws : List Int} (hw : ∀ x ∈ ws, 0 ≤ x ∧ x < (m : Int)) : setL (bitF (aftW (2 ^ n - 1) n xss ws)) 10 = imageL xss (allL n) ws := by
  unfold imageL
  congr 1
  funext q
  rw [Bool.eq_iff_iff]
  unfold bitF
  rw [aftW_iff hg ws (2 ^ n - 1) q hw (fun q hq => by rw [Nat.testBit_two_pow_sub_one] at hq; simpa using hq)]
  unfold imM
  rw [List.take_length]
  simp only [allL, List.any_map, List.any_eq_true, List.mem_range, Function.comp_apply, decide_eq_true_eq, Int.toNat_natCast, Nat.testBit_two_pow_sub_one]
  constructor
  · rintro ⟨s, h1, _, h3⟩; exact ⟨s, h1, h3⟩
  · rintro ⟨s, h1, h3⟩; exact ⟨s, h1, h1, h3⟩
theorem image_pos {n m : Nat} {xss : List (List Int)} (hg : Good n m xss) {ws : List Int} (hw : ∀ x ∈ ws, 0 ≤ x ∧ x < (m : Int)) : 0 < (imageL xss (allL n) ws).length := by
  rw [← aft_image hg hw]
  have hlt := hg.to ws 0 hw hg.n1
  have hn := hg.n10
  have h0 := hg.n1
  refine List.length_pos_of_mem (a := ((toS xss ws 0 : Nat) : Int)) ?_
  unfold setL
  rw [List.mem_map]
  refine ⟨toS xss ws 0, ?_, rfl⟩
  rw [List.mem_filter, List.mem_range]
  refine ⟨by omega, ?_⟩
  unfold bitF
  rw [aftW_iff hg ws (2 ^ n - 1) _ hw (fun q hq => by rw [Nat.testBit_two_pow_sub_one] at hq; simpa using hq)]
  exact ⟨0, h0, by rw [Nat.testBit_two_pow_sub_one, decide_eq_true_eq]; exact h0, rfl⟩
theorem reset_same {n m : Nat} {xss : List (List Int)} (hg : Good n m xss) {ws : List Int} (hw : ∀ x ∈ ws, 0 ≤ x ∧ x < (m : Int)) (hb : aftW (2 ^ n - 1) n xss ws < 1024) :
    decide (Lib.onesCount (aftW (2 ^ n - 1) n xss ws) ≤ 1) = decide ((imageL xss (allL n) ws).length = 1) := by
  have h1 := count_ok hb
  have h2 : (((List.range 10).filter (bitF (aftW (2 ^ n - 1) n xss ws))).map fun q => ((q : Nat) : Int)) = imageL xss (allL n) ws := aft_image hg hw
  rw [h2] at h1
  have h3 := image_pos hg hw
  rw [h1, Bool.eq_iff_iff, decide_eq_true_eq, decide_eq_true_eq]
  omega

/-- What IsReset answers. -/
def isReset (s : Int) (xss : List (List Int)) (ws : List Int) : Bool × Int :=
  if okA s xss = true then (if isWordB (xss.length : Int) ws = true then (decide ((imageL xss (allL s.toNat) ws).length = 1), 0) else (false, 2)) else (false, 1)
theorem isReset_1 {s : Int} {xss : List (List Int)} {ws : List Int} (h : okA s xss = false) : isReset s xss ws = (false, 1) := by unfold isReset; rw [if_neg (by simp [h])]
theorem isReset_2 {s : Int} {m : Nat} {xss : List (List Int)} {ws : List Int} (h : okA s xss = true) (hm : xss.length = m) (h' : isWordB (m : Int) ws = false) : isReset s xss ws = (false, 2) := by unfold isReset; rw [if_pos h, hm, if_neg (by simp [h'])]
theorem isReset_0 {n m : Nat} {xss : List (List Int)} {ws : List Int} (h : okA (n : Int) xss = true) (hm : xss.length = m) (h' : isWordB (m : Int) ws = true) : isReset (n : Int) xss ws = (decide ((imageL xss (allL n) ws).length = 1), 0) := by
  unfold isReset; rw [if_pos h, hm, if_pos h', Int.toNat_natCast]
theorem two_mkb {r : Bool × Int} {b : Bool} {c : Int} (h : r = (b, c)) : Ending.returned (.tuple #[.bool b, .int .i64 c]) = .returned (.tuple #[.bool r.1, .int .i64 r.2]) := by rw [h]

set_option maxRecDepth 100000 in
set_option maxHeartbeats 2000000 in
theorem implIsReset_any (s : Int) (A : Option Addr) (m cap : Nat) (xss : List (List Int)) (A' : Option Addr) (l cap' : Nat) (ws : List Int) (w : World) (h : RowsAt w A m xss) (hm : m ≤ 4611686018427387904)
    (hrows : ∀ (r : Nat) (xs : List Int), xss[r]? = some xs → xs.length ≤ 4611686018427387904) (h' : NumsAt w A' l ws) (hl : l ≤ 4611686018427387904) :
    Calls Try.prog 11 #[.agg #[.int .i64 s, .slice A m cap], .slice A' l cap'] w fun e w' => e = .returned (.tuple #[.bool (isReset s xss ws).1, .int .i64 (isReset s xss ws).2]) ∧ Below w.heap.size w w' := by
  have HR := Lib.hid hrows
  have HM := Lib.hid h.1
  have b0 : Below w.heap.size w (w.alloc (.cells #[.int .i64 s, .slice A m cap] 27)) := (Below.refl _ _).alloc (Nat.le_refl _) _
  have H0 := Lib.hid (h.below b0)
  have N0 := Lib.hid (h'.below b0)
  have B0 := Lib.hid b0
  clear hrows b0
  rcases hok : okA s xss with _ | _
  · have HF := Lib.hid (isReset_1 (ws := ws) hok)
    go_enter Try.func11, Try.ntmps11
    go_wp2_with fail
    refine (implValid_any s A m cap xss _ H0.out hm HR.out).mono ?_
    rw [hok]
    rintro e w1 ⟨rfl, b1⟩
    have B1 := Lib.hid (below_then B0.out b1)
    clear b1
    go_wp2_with fail
    go_ret2
    exact ⟨two_mkb HF.out, B1.out⟩
  · obtain ⟨n, hsn, hg⟩ := good_of hok HM.out
    subst hsn
    have HG := Lib.hid hg
    have hn10 : n ≤ 10 := hg.n10
    clear hg
    rcases hwd : isWordB (m : Int) ws with _ | _
    all_goals
      go_enter Try.func11, Try.ntmps11
      go_wp2_with fail
      refine (implValid_any (n : Int) A m cap xss _ H0.out hm HR.out).mono ?_
      rw [hok]
      rintro e w1 ⟨rfl, b1⟩
      have d0 : w1.cell? ⟨w.heap.size, 0, none⟩ = some (.int .i64 (n : Int)) := (b1.cell (by simp)).trans (by go_cell)
      have d1 : w1.cell? ⟨w.heap.size, 1, none⟩ = some (.slice A m cap) := (b1.cell (by simp)).trans (by go_cell)
      have H1 := Lib.hid (H0.out.below b1)
      have N1 := Lib.hid (N0.out.below b1)
      have B1 := Lib.hid (below_then B0.out b1)
      clear b1
      go_wp2_with fail
      refine (isLetterList_any (n : Int) A A' m cap l cap' ws _ N1.out hm hl).mono ?_
      rw [hwd]
      rintro e w2 ⟨rfl, b2⟩
    · have HF := Lib.hid (isReset_2 hok HM.out hwd)
      have B2 := Lib.hid (below_then B1.out b2)
      clear b2
      go_wp2_with fail
      go_ret2
      exact ⟨two_mkb HF.out, B2.out⟩
    · have HF := Lib.hid (isReset_0 hok HM.out hwd)
      have HWL := Lib.hid (word_letters hwd)
      have d0 : w2.cell? ⟨w.heap.size, 0, none⟩ = some (.int .i64 (n : Int)) := (b2.cell (cell_lt d0)).trans d0
      have d1 : w2.cell? ⟨w.heap.size, 1, none⟩ = some (.slice A m cap) := (b2.cell (cell_lt d1)).trans d1
      have r0 : ∀ W', Below w2.heap.size w2 W' → W'.cell? ⟨w.heap.size, 0, none⟩ = some (.int .i64 (n : Int)) := fun W' hb => (hb.cell (cell_lt d0)).trans d0
      have r1 : ∀ W', Below w2.heap.size w2 W' → W'.cell? ⟨w.heap.size, 1, none⟩ = some (.slice A m cap) := fun W' hb => (hb.cell (cell_lt d1)).trans d1
      have H2 := Lib.hid (H1.out.below b2)
      have N2 := Lib.hid (N1.out.below b2)
      have B2 := Lib.hid (below_then B1.out b2)
      have h9 : Below w2.heap.size w2 w2 := Below.refl _ _
      obtain ⟨b, hb⟩ : ∃ b, b = 2 ^ n - 1 := ⟨_, rfl⟩
      have hb10 : b < 1024 := by have := pow_le hn10; have h0 : 0 < 2 ^ n := Nat.pow_pos (by decide); omega
      obtain ⟨c, hc⟩ : ∃ c, c = aftW b n xss ws := ⟨_, rfl⟩
      have HBB := Lib.hid hb
      have HCC := Lib.hid hc
      obtain ⟨v, hv⟩ : ∃ v, v = decide (Lib.onesCount c ≤ 1) := ⟨_, rfl⟩
      have HV := Lib.hid hv
      clear b2 hwd hb hc hv
      go_wp2_with fail
      go_region_held3 (fun w' => Below w2.heap.size w2 w') (first | assumption | exact below_drewN' (by assumption) _)
        (first
          | (go_at_call 39; refine (allStates_any A n m cap _ hn10).mono ?_; rw [← HBB.out]; rintro e w3 ⟨rfl, b3⟩; have h3 : Below w2.heap.size w2 w3 := below_then (by first | assumption | exact below_drewN' (by assumption) _) b3; clear b3)
          | (go_at_call 41; refine (afterWord_any A A' n m cap l cap' b xss ws _ HG.out (H2.out.below (by first | assumption | exact below_drewN' (by assumption) _)) (N2.out.below (by first | assumption | exact below_drewN' (by assumption) _)) HWL.out hl hb10).mono ?_; rw [← HCC.out]; rintro e w4 ⟨rfl, hc10, b4⟩; have HC10 := Lib.hid hc10; have h4 : Below w2.heap.size w2 w4 := below_then (by first | assumption | exact below_drewN' (by assumption) _) b4; clear b4 hc10)
          | (go_at_call 42; refine (isMerged_any c _ HC10.out).mono ?_; rw [← HV.out]; rintro e w5 ⟨rfl, k5, hw5⟩; have h5 : Below w2.heap.size w2 w5 := (by rw [hw5]; first | exact below_drewN' (by assumption) _ | exact below_drewN' (below_drewN' (by assumption) _) _); clear hw5))
      have HS := Lib.hid (reset_same HG.out HWL.out (by rw [← HBB.out, ← HCC.out]; exact HC10.out))
      go_wp2_with fail
      go_ret2
      exact ⟨two_mkb (by rw [HF.out, ← HS.out, ← HBB.out, ← HCC.out, ← HV.out]), below_then B2.out (by assumption)⟩

end Go.Proofs.Ytnnjcpihaobkaaa
