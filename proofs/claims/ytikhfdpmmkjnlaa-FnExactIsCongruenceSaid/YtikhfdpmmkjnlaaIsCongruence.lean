/-
  FnExactIsCongruence: for every automaton and every list the law returns true: both functions give the same answer and code, and no argument is written. No condition.
-/
import Derived.Test.YtikhfdpmmkjnlaaKeeps
import Derived.WalkSpells
namespace Go.Proofs.Ytikhfdpmmkjnlaa
open Go.RowKit Go.Deep Go.ChangeShapes Go.WideShapes

/-- What IsCongruence answers. -/
noncomputable def isCong (s : Int) (xss : List (List Int)) (cls : List Int) : Bool × Int :=
  if okA s xss = true then (if divB s cls = true then (congB s.toNat xss.length xss cls, 0) else (false, 2)) else (false, 1)
theorem isCong_1 {s : Int} {xss : List (List Int)} {cls : List Int} (h : okA s xss = false) : isCong s xss cls = (false, 1) := by unfold isCong; rw [if_neg (by simp [h])]
theorem isCong_2 {s : Int} {xss : List (List Int)} {cls : List Int} (h : okA s xss = true) (h' : divB s cls = false) : isCong s xss cls = (false, 2) := by unfold isCong; rw [if_pos h, if_neg (by simp [h'])]
theorem isCong_0 {n m : Nat} {xss : List (List Int)} {cls : List Int} (h : okA (n : Int) xss = true) (h' : divB (n : Int) cls = true) (hm : xss.length = m) : isCong (n : Int) xss cls = (congB n m xss cls, 0) := by unfold isCong; rw [if_pos h, if_pos h', hm]; rfl
theorem two_mk {r : Bool × Int} {b : Bool} {c : Int} (h : r = (b, c)) : Ending.returned (.tuple #[.bool b, .int .i64 c]) = .returned (.tuple #[.bool r.1, .int .i64 r.2]) := by rw [h]
theorem div_len {s : Int} {cls : List Int} (h : divB s cls = true) : (cls.length : Int) = s := by
  simp only [divB, Bool.and_eq_true, decide_eq_true_eq] at h
  exact h.2

set_option maxHeartbeats 1000000 in
theorem specIsCongruence_any (s : Int) (A A' : Option Addr) (m cap l cap' : Nat) (xss : List (List Int)) (cls : List Int) (w : World) (h : RowsAt w A m xss) (h' : NumsAt w A' l cls) (hm : m ≤ 4611686018427387904) (hl : l ≤ 1048576)
    (hrows : ∀ (r : Nat) (xs : List Int), xss[r]? = some xs → xs.length ≤ 4611686018427387904) :
    Calls Try.prog 33 #[.agg #[.int .i64 s, .slice A m cap], .slice A' l cap'] w fun e w' => e = .returned (.tuple #[.bool (isCong s xss cls).1, .int .i64 (isCong s xss cls).2]) ∧ Below w.heap.size w w' := by
  have HR := Lib.hid hrows
  have HM := Lib.hid h.1
  have b0 : Below w.heap.size w (w.alloc (.cells #[.int .i64 s, .slice A m cap] 27)) := (Below.refl _ _).alloc (Nat.le_refl _) _
  have H0 := Lib.hid (h.below b0)
  have H0' := Lib.hid (h'.below b0)
  have B0 := Lib.hid b0
  clear hrows b0
  rcases hok : okA s xss with _ | _
  · have HF := Lib.hid (isCong_1 (cls := cls) hok)
    go_enter Try.func33, Try.ntmps33
    go_wp2_with fail
    refine (l01Ok_any w.heap.size s A m cap xss _ (by go_cell) (by go_cell) H0.out hm HR.out).mono ?_
    rw [hok]
    rintro e w' ⟨rfl, d, rfl⟩
    go_wp2_with fail
    go_ret2
    exact ⟨two_mk HF.out, below_drewN' B0.out _⟩
  · obtain ⟨n, hsn, hg⟩ := good_of hok HM.out
    subst hsn
    have HG := Lib.hid hg
    clear hg
    rcases hdv : divB (n : Int) cls with _ | _
    · have HF := Lib.hid (isCong_2 hok hdv)
      go_enter Try.func33, Try.ntmps33
      go_wp2_with fail
      refine (l01Ok_any w.heap.size (n : Int) A m cap xss _ (by go_cell) (by go_cell) H0.out hm HR.out).mono ?_
      rw [hok]
      rintro e w' ⟨rfl, d, rfl⟩
      go_wp2_with fail
      refine (l01Division_any A' l cap' cls (n : Int) _ (H0'.out.drewN _) hl).mono ?_
      rw [hdv]
      rintro e w' ⟨rfl, rfl⟩
      go_wp2_with fail
      go_ret2
      exact ⟨two_mk HF.out, below_drewN' B0.out _⟩
    · have HF := Lib.hid (isCong_0 hok hdv HM.out)
      have hln : l = n := by have := div_len hdv; have := h'.1; omega
      subst hln
      have HD := Lib.hid (divOk_of hdv)
      go_enter Try.func33, Try.ntmps33
      go_wp2_with fail
      refine (l01Ok_any w.heap.size (l : Int) A m cap xss _ (by go_cell) (by go_cell) H0.out hm HR.out).mono ?_
      rw [hok]
      rintro e w' ⟨rfl, d, rfl⟩
      go_wp2_with fail
      refine (l01Division_any A' l cap' cls (l : Int) _ (H0'.out.drewN _) hl).mono ?_
      rw [hdv]
      rintro e w' ⟨rfl, rfl⟩
      go_wp2_with fail
      refine (l01Congruent_any w.heap.size A A' l m cap cap' xss cls _ HG.out HD.out (by go_cell) (H0.out.drewN _) (H0'.out.drewN _)).mono ?_
      rintro e w' ⟨rfl, d2, rfl⟩
      go_wp2_with fail
      go_ret2
      exact ⟨two_mk HF.out, below_drewN' B0.out _⟩

set_option maxHeartbeats 1000000 in
theorem implIsCongruence_any (s : Int) (A A' : Option Addr) (m cap l cap' : Nat) (xss : List (List Int)) (cls : List Int) (w : World) (h : RowsAt w A m xss) (h' : NumsAt w A' l cls) (hm : m ≤ 4611686018427387904) (hl : l ≤ 1048576)
    (hrows : ∀ (r : Nat) (xs : List Int), xss[r]? = some xs → xs.length ≤ 4611686018427387904) :
    Calls Try.prog 34 #[.agg #[.int .i64 s, .slice A m cap], .slice A' l cap'] w fun e w' => e = .returned (.tuple #[.bool (isCong s xss cls).1, .int .i64 (isCong s xss cls).2]) ∧ Below w.heap.size w w' := by
  have HR := Lib.hid hrows
  have HM := Lib.hid h.1
  have b0 : Below w.heap.size w (w.alloc (.cells #[.int .i64 s, .slice A m cap] 27)) := (Below.refl _ _).alloc (Nat.le_refl _) _
  have H0 := Lib.hid (h.below b0)
  have H0' := Lib.hid (h'.below b0)
  have B0 := Lib.hid b0
  clear hrows b0
  rcases hok : okA s xss with _ | _
  · have HF := Lib.hid (isCong_1 (cls := cls) hok)
    go_enter Try.func34, Try.ntmps34
    go_wp2_with fail
    refine (implValid_any s A m cap xss _ H0.out hm HR.out).mono ?_
    rw [hok]
    rintro e w1 ⟨rfl, b1⟩
    have B1 := Lib.hid (below_then B0.out b1)
    clear b1
    go_wp2_with fail
    go_ret2
    exact ⟨two_mk HF.out, B1.out⟩
  · obtain ⟨n, hsn, hg⟩ := good_of hok HM.out
    subst hsn
    have HG := Lib.hid hg
    clear hg
    rcases hdv : divB (n : Int) cls with _ | _
    · have HF := Lib.hid (isCong_2 hok hdv)
      go_enter Try.func34, Try.ntmps34
      go_wp2_with fail
      refine (implValid_any (n : Int) A m cap xss _ H0.out hm HR.out).mono ?_
      rw [hok]
      rintro e w1 ⟨rfl, b1⟩
      have d0 : w1.cell? ⟨w.heap.size, 0, none⟩ = some (.int .i64 (n : Int)) := (b1.cell (by simp)).trans (by go_cell)
      have H1' := Lib.hid (H0'.out.below b1)
      have B1 := Lib.hid (below_then B0.out b1)
      clear b1
      go_wp2_with fail
      refine (isDivision_any A' l cap' cls (n : Int) _ H1'.out hl).mono ?_
      rw [hdv]
      rintro e w' ⟨rfl, rfl⟩
      go_wp2_with fail
      go_ret2
      exact ⟨two_mk HF.out, B1.out⟩
    · have HF := Lib.hid (isCong_0 hok hdv HM.out)
      have hln : l = n := by have := div_len hdv; have := h'.1; omega
      subst hln
      have HD := Lib.hid (divOk_of hdv)
      go_enter Try.func34, Try.ntmps34
      go_wp2_with fail
      refine (implValid_any (l : Int) A m cap xss _ H0.out hm HR.out).mono ?_
      rw [hok]
      rintro e w1 ⟨rfl, b1⟩
      have d0 : w1.cell? ⟨w.heap.size, 0, none⟩ = some (.int .i64 (l : Int)) := (b1.cell (by simp)).trans (by go_cell)
      have d1 : w1.cell? ⟨w.heap.size, 1, none⟩ = some (.slice A m cap) := (b1.cell (by simp)).trans (by go_cell)
      have H1 := Lib.hid (H0.out.below b1)
      have H1' := Lib.hid (H0'.out.below b1)
      have B1 := Lib.hid (below_then B0.out b1)
      clear b1
      go_wp2_with fail
      refine (isDivision_any A' l cap' cls (l : Int) _ H1'.out hl).mono ?_
      rw [hdv]
      rintro e w' ⟨rfl, rfl⟩
      go_wp2_with fail
      refine (keepsClasses_any A A' l m cap cap' xss cls _ HG.out HD.out H1.out H1'.out).mono ?_
      rintro e w2 ⟨rfl, b2⟩
      have B2 := Lib.hid (below_then B1.out b2)
      clear b2
      go_wp2_with fail
      go_ret2
      exact ⟨two_mk HF.out, B2.out⟩

namespace fnExactIsCongruence
open Go.ChangeAt

set_option maxHeartbeats 8000000 in
set_option maxRecDepth 100000 in
theorem walk (s : Int) (A : Option Addr) (n cap : Nat) (xss : List (List Int)) (A' : Option Addr) (l cap' : Nat) (ws : List Int) (w : World) (h : RowsAt w A n xss) (hn : n ≤ 9223372036854775807) (hrows : ∀ (r : Nat) (xs : List Int), xss[r]? = some xs → xs.length ≤ 9223372036854775807)
    (h' : NumsAt w A' l ws) (hl : l ≤ maxLen) :
    Calls Try.prog 8 #[.agg #[.int .i64 s, .slice A n cap], .slice A' l cap'] w fun e w' => e = .returned (.bool true) ∧ Below w.heap.size w w' := by
  have HR := Lib.hid hrows
  have HL := Lib.hid h.1
  have hl9 : l ≤ 9223372036854775807 := hl
  clear hrows hl
  by_cases hbig : l ≤ 1048576
  · have hsmall : decide ((1048576 : Int) < (l : Int)) = false := by simp; omega
    have hl' : l ≤ 4611686018427387904 := by omega
    have HB := Lib.hid hbig
    clear hbig hl9
    go_enter Try.func8, Try.ntmps8
    go_wp2_with fail
    refine (szAutomaton_any s A n cap xss _ _ (h.below (by go_grown)) hn HR.out (by omega) (by omega)).mono ?_
    rintro e w1 ⟨r, rfl, hr, b1⟩
    have HS := Lib.hid hr
    have d0 : w1.cell? ⟨w.heap.size, 0, none⟩ = some (.int .i64 s) := (b1.cell (by simp)).trans (by go_cell)
    have d1 : w1.cell? ⟨w.heap.size, 1, none⟩ = some (.slice A n cap) := (b1.cell (by simp)).trans (by go_cell)
    have B1 := Lib.hid (below_then ((Below.refl _ w).alloc (Nat.le_refl _) _) b1)
    clear hr b1
    by_cases hneg : r < 0
    · go_wp2_with fail
      go_ret
      exact ⟨rfl, B1.out⟩
    · have HN := Lib.hid (sized_n HS.out hneg HL.out)
      have HR := Lib.hid (sized_rows HS.out hneg)
      have HW := Lib.hid (rows_wide HR.out)
      have HSUM := Lib.hid (sized_sum HS.out (by omega) hneg)
      have hn' : n ≤ 4611686018427387904 := by have := HN.out; omega
      obtain ⟨BO, hLS⟩ : ∃ BO, BO = (isCong s xss ws).1 := ⟨_, rfl⟩
      obtain ⟨CO, hCO⟩ : ∃ CO, CO = (isCong s xss ws).2 := ⟨_, rfl⟩
      have HLS := Lib.hid hLS
      have HCO := Lib.hid hCO
      have rA : ∀ W', Below w1.heap.size w1 W' → W'.cell? ⟨w.heap.size, 0, none⟩ = some (.int .i64 s) := fun W' hb => (hb.cell (cell_lt d0)).trans d0
      have rB : ∀ W', Below w1.heap.size w1 W' → W'.cell? ⟨w.heap.size, 1, none⟩ = some (.slice A n cap) := fun W' hb => (hb.cell (cell_lt d1)).trans d1
      have c1 : Below w1.heap.size w1 w1 := Below.refl _ _
      have hlt1 : w.heap.size < w1.heap.size := cell_lt d0
      have HLT := Lib.hid hlt1
      clear hLS hCO d0 d1 hlt1
      -- the model's answer
      go_wp2_with fail
      refine (toAutomaton_any s A n cap xss _ (h.below (below_then B1.out c1)) HN.out HR.out).mono ?_
      rintro e w2 ⟨rfl, g2, b2, z2⟩
      have c2 : Below w1.heap.size w1 w2 := below_then c1 b2
      have R := Lib.hid (g2.rowsN HL.out)
      clear g2 b2 z2 c1
      go_wp2_with fail
      refine (toInt64S_any _ _ _ _ _ (h'.below (below_then B1.out c2)) HB.out).mono ?_
      rintro e w3 ⟨rfl, o3, b3, z3⟩
      have c3 : Below w1.heap.size w1 w3 := below_then c2 b3
      have N := Lib.hid (NumsAt.own o3 h'.1 rfl)
      have R := Lib.hid (R.out.below b3)
      clear o3 b3 z3 c2
      go_wp2_with fail
      refine (specIsCongruence_any s _ _ n n l l xss ws _ R.out N.out hn' HB.out HW.out).mono ?_
      rw [← HLS.out, ← HCO.out]
      rintro e w4 ⟨rfl, b4⟩
      have c4 : Below w1.heap.size w1 w4 := below_then c3 b4
      clear b4 c3
      -- the program's arguments
      go_wp2_with fail
      refine (toAutomaton_any s A n cap xss _ (h.below (below_then B1.out c4)) HN.out HR.out).mono ?_
      rintro e w5 ⟨rfl, g5, b5, z5⟩
      have c5 : Below w1.heap.size w1 w5 := below_then c4 b5
      have XG := Lib.hid g5
      have S5 := Lib.hid z5
      have hlt5 : w.heap.size < w5.heap.size := Nat.lt_of_lt_of_le HLT.out c5.size
      clear g5 b5 z5 c4
      go_wp2_with fail
      obtain ⟨W6, hW6⟩ : ∃ W6, W6 = w5.alloc (.cells #[.int .i64 s, .slice (some ⟨w4.heap.size + 3, 0, none⟩) n n] 27) := ⟨_, rfl⟩
      rw [← hW6]
      have b6 : Below w5.heap.size w5 W6 := by rw [hW6]; go_grown
      have p0 : W6.cell? ⟨w5.heap.size, 0, none⟩ = some (.int .i64 s) := by rw [hW6]; go_cell
      have p1 : W6.cell? ⟨w5.heap.size, 1, none⟩ = some (.slice (some ⟨w4.heap.size + 3, 0, none⟩) n n) := by rw [hW6]; go_cell
      have S6 := Lib.hid (show W6.heap.size = w5.heap.size + 1 by rw [hW6]; simp)
      have c6 : Below w1.heap.size w1 W6 := below_then c5 b6
      have XG := Lib.hid (XG.out.below b6)
      have rC : ∀ W', Below W6.heap.size W6 W' → W'.cell? ⟨w5.heap.size, 0, none⟩ = some (.int .i64 s) := fun W' hb => (hb.cell (cell_lt p0)).trans p0
      have rD : ∀ W', Below W6.heap.size W6 W' → W'.cell? ⟨w5.heap.size, 1, none⟩ = some (.slice (some ⟨w4.heap.size + 3, 0, none⟩) n n) := fun W' hb => (hb.cell (cell_lt p1)).trans p1
      clear hW6 b6 c5 p0 p1 hlt5
      refine (toInt64S_any _ _ _ _ _ (h'.below (below_then B1.out c6)) HB.out).mono ?_
      rintro e w7 ⟨rfl, o7, b7, z7⟩
      have c7 : Below w1.heap.size w1 w7 := below_then c6 b7
      have x7 : Below W6.heap.size W6 w7 := b7
      have XG := Lib.hid (XG.out.below b7)
      have YO := Lib.hid o7
      have S7 := Lib.hid z7
      clear o7 b7 z7 c6
      go_wp2_with fail
      refine (implIsCongruence_any s _ _ n n l l xss ws _ (XG.out.rowsN HL.out) (NumsAt.own YO.out h'.1 rfl) hn' HB.out HW.out).mono ?_
      rw [← HLS.out, ← HCO.out]
      rintro e w9 ⟨rfl, b9⟩
      have c9 : Below w1.heap.size w1 w9 := below_then c7 b9
      have x9 : Below W6.heap.size W6 w9 := below_then x7 b9
      have z9 : Below w9.heap.size w9 w9 := Below.refl _ _
      have XG := Lib.hid (XG.out.below b9)
      have YO := Lib.hid (own_below YO.out b9)
      have rA9 : ∀ W', Below w9.heap.size w9 W' → W'.cell? ⟨w.heap.size, 0, none⟩ = some (.int .i64 s) := fun W' hb => rA W' (below_then c9 hb)
      have rB9 : ∀ W', Below w9.heap.size w9 W' → W'.cell? ⟨w.heap.size, 1, none⟩ = some (.slice A n cap) := fun W' hb => rB W' (below_then c9 hb)
      have rC9 : ∀ W', Below w9.heap.size w9 W' → W'.cell? ⟨w5.heap.size, 0, none⟩ = some (.int .i64 s) := fun W' hb => rC W' (below_then x9 hb)
      have rD9 : ∀ W', Below w9.heap.size w9 W' → W'.cell? ⟨w5.heap.size, 1, none⟩ = some (.slice (some ⟨w4.heap.size + 3, 0, none⟩) n n) := fun W' hb => rD W' (below_then x9 hb)
      have C9 := Lib.hid c9
      clear b9 c7 x7 rA rB rC rD c9 x9
      go_wp2_with fail
      -- the arguments are as they were
      go_region_held3 (fun w' => Below w9.heap.size w9 w') (first | assumption | exact below_drewN' (by assumption) _)
        (first
          | (go_at_call 17; refine (toAutomaton_any s A n cap xss _ (h.below (below_then B1.out (below_then C9.out (by first | assumption | exact below_drewN' (by assumption) _)))) HN.out HR.out).mono ?_; rintro e wa ⟨rfl, ga, ba, za⟩; have za9 : Below w9.heap.size w9 wa := below_then (by first | assumption | exact below_drewN' (by assumption) _) ba; have GA := Lib.hid (ga.rowsN HL.out); clear ga ba za)
          | (go_at_call 19; refine (eqAutomaton_any s s _ _ n n n n xss xss _ ((XG.out.below za9).rowsN HL.out) GA.out hn' hn' HW.out HW.out).mono ?_; rw [sameA_t rfl rfl]; rintro e we ⟨rfl, be⟩; have ze9 : Below w9.heap.size w9 we := below_then za9 be; clear be))
      have N9 := Lib.hid (below_then B1.out C9.out)
      have XG := Lib.hid (XG.out.below ze9)
      have YO := Lib.hid (own_below YO.out ze9)
      clear z9 za9
      go_wp2_with fail
      refine (toInt64S_any _ _ _ _ _ (h'.below (below_then N9.out ze9)) HB.out).mono ?_
      rintro e w10 ⟨rfl, o10, b10, z10⟩
      have c10 : Below w9.heap.size w9 w10 := below_then ze9 b10
      have XG := Lib.hid (XG.out.below b10)
      have YO := Lib.hid (own_below YO.out b10)
      have Z10 := Lib.hid o10
      clear o10 b10 z10 ze9
      go_wp2_with fail
      refine (eqInts_b _ _ _ _ _ _ _ _ _ (NumsAt.own YO.out h'.1 rfl) (NumsAt.own Z10.out h'.1 rfl) hl' hl').mono ?_
      rw [sameB_t rfl]
      rintro e w11 ⟨rfl, b11⟩
      have c11 : Below w9.heap.size w9 w11 := below_then c10 b11
      clear b11 c10 Z10
      go_wp2_with fail
      go_ret
      exact ⟨rfl, below_then N9.out c11⟩
  · have hbig' : (1048576 : Int) < (l : Int) := by omega
    go_enter Try.func8, Try.ntmps8
    go_wp2_with fail
    go_ret
    exact ⟨rfl, by go_grown⟩

set_option maxRecDepth 100000 in
theorem lifted (os : Os) (started : os.Started) (H : Type) (enc : TypeId × Value → H) :
    ReturnsInHanded {} Try.checked os 8 .any (Rows.fnExactIsCongruenceSpec.pre6 enc Try.prog Try.f8 Rows.fnExactIsCongruenceRow.domain false) (Rows.fnExactIsCongruenceSpec.post enc Try.prog Try.f8 false true false false) := by
  refine returnsInHanded_of_change (C := Try.checked) own started (by kernel_rfl) Try.func8
    (ChangeSpec.witness6 (enc := enc) (C := Try.checked) false ⟨#[], #[.agg #[.int .i64 0, .slice none 0 0], .slice none 0 0], []⟩ 8 (by kernel_rfl) (by kernel_rfl) (by kernel_rfl) (by kernel_rfl)) ?_
  intro W base args ds gs before hval0 hW hcnd _
  have hval : ∀ (j : Nat) t v, Try.f8.params[j]? = some t → args[j]? = some v → Value.okWide Try.prog W .any base t v := hval0
  have hW' := hW
  obtain ⟨p, q, hA0, hV, rfl, hfz, hnd⟩ := hW
  have hA : DataW.TrodAll enc Try.prog W 0 (fun _ => true) true Try.f8.params.toList args.toList ds p := hA0
  rw [Try.params8] at hA hval
  obtain ⟨v0, vs0, d0, ds0, p0, q0, hargs, rfl, rfl, h0, r0⟩ := trodAll_cons hA
  obtain ⟨v1, vs1, d1, ds1, p1, q1, rfl, rfl, rfl, h1, r1⟩ := trodAll_cons r0
  obtain ⟨rfl, rfl, rfl⟩ := trodAll_nil r1
  obtain rfl : args = #[v0, v1] := by cases args; simp_all
  obtain ⟨rfl, rfl⟩ := trodVars_none hV
  have lt0 : ∀ x ∈ p0, x.block < W.heap.size := by obtain ⟨m, hm⟩ := h0; exact DataW.trod_lt m _ _ _ hm
  have k0 := h0
  obtain ⟨s0, a0, n0, c0, xs0, rfl, hr0, hn0, hw0⟩ := auto_of_trod (hval 0 24 v0 rfl rfl) h0
  have lt1 : ∀ x ∈ p1, x.block < W.heap.size := by obtain ⟨m, hm⟩ := h1; exact DataW.trod_lt m _ _ _ hm
  have k1 := h1
  obtain ⟨a1, n1, c1, rfl⟩ := okWide_slice Try.underlying31 (hval 1 31 v1 rfl rfl)
  obtain ⟨xs1, hr1, hn1⟩ := nums_of_trod h1
  clear hA0 hval0
  refine (walk s0 a0 n0 c0 xs0 a1 n1 c1 xs1 W hr0 hn0 hw0 hr1 hn1).mono fun e W' ⟨he, bel⟩ => ?_
  subst he
  exact ⟨_, rfl, _, _, _, [], _, [], hW', trodAll_mk1 (shut_bool Try.underlying4 _), (trodAll_cons_mk (Below.trod laidOut (by kernel_rfl) (of_decide_eq_true (by kernel_rfl)) k0 bel lt0) (trodAll_cons_mk (Below.trod laidOut (by kernel_rfl) (of_decide_eq_true (by kernel_rfl)) k1 bel lt1) trodAll_mk0)), rfl, bel.frame _, fun h => by cases h⟩

theorem over : Rows.fnExactIsCongruenceRow.holds Try.pinned (OpenSpec.ofChange Rows.fnExactIsCongruenceSpec) :=
  OpenClaim.holds_of_wide 8 Try.f8 rfl rfl rfl rfl rfl rfl rfl ⟨rfl, rfl, rfl, rfl, rfl⟩ rfl rfl rfl rfl rfl (by kernel_rfl) Try.func8 (by kernel_rfl)
    (of_decide_eq_true (by kernel_rfl)) (by unfold Func.isWrapper; first | (rw [if_pos (by decide +kernel)]; kernel_rfl) | (rw [if_neg (by decide +kernel)]; exact ⟨rfl, rfl⟩))
    (fun os started H enc _ => lifted os started H enc)

/-- The statement. -/
theorem proved : Rows.FnExactIsCongruenceSaid := over
#print axioms proved

end fnExactIsCongruence
end Go.Proofs.Ytikhfdpmmkjnlaa
