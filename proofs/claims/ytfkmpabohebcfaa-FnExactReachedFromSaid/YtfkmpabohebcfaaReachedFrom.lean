/-
  FnExactReachedFrom: for every automaton and every number the law returns true: both functions give the same list and code, the program's list is new memory each time, and no argument is written. No condition.
-/
import Derived.Test.YtfkmpabohebcfaaReached
import Derived.WalkSpells
namespace Go.Proofs.Ytfkmpabohebcfaa
open Go.RowKit Go.Deep Go.ChangeShapes Go.WideShapes

/-- What ReachedFrom answers. -/
noncomputable def reachedFrom (s : Int) (xss : List (List Int)) (q0 : Int) : List Int × Int :=
  if okA s xss = true then (if belowB s q0 = true then (setL (reachF xss.length xss q0.toNat) 10, 0) else ([], 2)) else ([], 1)
theorem reachedFrom_1 {s : Int} {xss : List (List Int)} {q0 : Int} (h : okA s xss = false) : reachedFrom s xss q0 = ([], 1) := by unfold reachedFrom; rw [if_neg (by simp [h])]
theorem reachedFrom_2 {s : Int} {xss : List (List Int)} {q0 : Int} (h : okA s xss = true) (h' : belowB s q0 = false) : reachedFrom s xss q0 = ([], 2) := by unfold reachedFrom; rw [if_pos h, if_neg (by simp [h'])]
theorem reachedFrom_0 {s : Int} {m q : Nat} {xss : List (List Int)} (h : okA s xss = true) (h' : belowB s (q : Int) = true) (hm : xss.length = m) : reachedFrom s xss (q : Int) = (setL (reachF m xss q) 10, 0) := by unfold reachedFrom; rw [if_pos h, if_pos h', hm]; rfl
theorem reachedFrom_len (s : Int) (xss : List (List Int)) (q0 : Int) : (reachedFrom s xss q0).1.length ≤ 10 := by
  unfold reachedFrom
  split
  · split
    · exact setL_len _ _
    · simp
  · simp

set_option maxHeartbeats 1000000 in
theorem specReachedFrom_any (s q0 : Int) (A : Option Addr) (m cap : Nat) (xss : List (List Int)) (w : World) (h : RowsAt w A m xss) (hm : m ≤ 4611686018427387904)
    (hrows : ∀ (r : Nat) (xs : List Int), xss[r]? = some xs → xs.length ≤ 4611686018427387904) :
    Calls Try.prog 16 #[.agg #[.int .i64 s, .slice A m cap], .int .i64 q0] w (ListsTo (reachedFrom s xss q0) w) := by
  have HR := Lib.hid hrows
  have HM := Lib.hid h.1
  have b0 : Below w.heap.size w (w.alloc (.cells #[.int .i64 s, .slice A m cap] 29)) := (Below.refl _ _).alloc (Nat.le_refl _) _
  have H0 := Lib.hid (h.below b0)
  have B0 := Lib.hid b0
  clear hrows b0
  rcases hok : okA s xss with _ | _
  · have HF := Lib.hid (reachedFrom_1 (q0 := q0) hok)
    go_enter Try.func16, Try.ntmps16
    go_wp2_with fail
    refine (l01Ok_any w.heap.size s A m cap xss _ (by go_cell) (by go_cell) H0.out hm HR.out).mono ?_
    rw [hok]
    rintro e w' ⟨rfl, d, rfl⟩
    go_wp2_with fail
    go_ret2
    exact listsTo_mk HF.out (own_none' (by simp) (by simp)) ((below_drewN' B0.out _).alloc (by simp) _)
  · obtain ⟨n, hsn, hg⟩ := good_of hok HM.out
    subst hsn
    have HG := Lib.hid hg
    have hn1 : (1 : Int) ≤ (n : Int) := by have := hg.n1; omega
    have hn10 : (n : Int) ≤ 10 := by have := hg.n10; omega
    have hsub : IntKind.i64.wrap ((n : Int) - 1) = (n : Int) - 1 := IntWalk.i64_in _ (by omega)
    clear hg
    rcases hb : belowB (n : Int) q0 with _ | _
    · have HF := Lib.hid (reachedFrom_2 hok hb)
      have hin : inB 0 ((n : Int) - 1) q0 = false := by rw [← belowB_inB]; exact hb
      go_enter Try.func16, Try.ntmps16
      go_wp2_with fail
      refine (l01Ok_any w.heap.size (n : Int) A m cap xss _ (by go_cell) (by go_cell) H0.out hm HR.out).mono ?_
      rw [hok]
      rintro e w' ⟨rfl, d, rfl⟩
      go_wp2_with fail
      refine (l00In_any _ _ _ _).mono ?_
      rw [hin]
      rintro e w' ⟨rfl, rfl⟩
      go_wp2_with fail
      go_ret2
      exact listsTo_mk HF.out (own_none' (by simp) (by simp)) ((below_drewN' B0.out _).alloc (by simp) _)
    · obtain ⟨q, rfl⟩ : ∃ q : Nat, q0 = (q : Int) := ⟨q0.toNat, by simp [belowB] at hb; omega⟩
      have hqn : q < n := by simp [belowB] at hb; omega
      have HF := Lib.hid (reachedFrom_0 hok hb HM.out)
      have hin : inB 0 ((n : Int) - 1) (q : Int) = true := by rw [← belowB_inB]; exact hb
      clear hb
      go_enter Try.func16, Try.ntmps16
      go_wp2_with fail
      refine (l01Ok_any w.heap.size (n : Int) A m cap xss _ (by go_cell) (by go_cell) H0.out hm HR.out).mono ?_
      rw [hok]
      rintro e w' ⟨rfl, d, rfl⟩
      go_wp2_with fail
      refine (l00In_any _ _ _ _).mono ?_
      rw [hin]
      rintro e w' ⟨rfl, rfl⟩
      go_wp2_with fail
      refine (l01Reached_any w.heap.size A n m cap q xss _ HG.out (by go_cell) (H0.out.drewN _) hqn).mono ?_
      rintro e w2 ⟨v, rfl, o2, b2⟩
      have HO := Lib.hid o2
      have HB := Lib.hid b2
      clear o2 b2
      go_wp2_with fail
      go_ret2
      exact listsTo_mk HF.out (own_base HO.out (by simp)) (B0.out.trans ((below_drewN' (Below.refl _ _) _).trans (HB.out.mono (by simp))))

set_option maxHeartbeats 1000000 in
theorem implReachedFrom_any (s q0 : Int) (A : Option Addr) (m cap : Nat) (xss : List (List Int)) (w : World) (h : RowsAt w A m xss) (hm : m ≤ 4611686018427387904)
    (hrows : ∀ (r : Nat) (xs : List Int), xss[r]? = some xs → xs.length ≤ 4611686018427387904) :
    Calls Try.prog 18 #[.agg #[.int .i64 s, .slice A m cap], .int .i64 q0] w (ListsTo (reachedFrom s xss q0) w) := by
  have HR := Lib.hid hrows
  have HM := Lib.hid h.1
  have b0 : Below w.heap.size w (w.alloc (.cells #[.int .i64 s, .slice A m cap] 29)) := (Below.refl _ _).alloc (Nat.le_refl _) _
  have H0 := Lib.hid (h.below b0)
  have B0 := Lib.hid b0
  clear hrows b0
  rcases hok : okA s xss with _ | _
  · have HF := Lib.hid (reachedFrom_1 (q0 := q0) hok)
    go_enter Try.func18, Try.ntmps18
    go_wp2_with fail
    refine (implValid_any s A m cap xss _ H0.out hm HR.out).mono ?_
    rw [hok]
    rintro e w1 ⟨rfl, b1⟩
    have B1 := Lib.hid (below_then B0.out b1)
    clear b1
    go_wp2_with fail
    go_ret2
    exact listsTo_mk HF.out (World.ownsRow_nil _ _ _ _) B1.out
  · obtain ⟨n, hsn, hg⟩ := good_of hok HM.out
    subst hsn
    have HG := Lib.hid hg
    clear hg
    rcases hb : belowB (n : Int) q0 with _ | _
    · have HF := Lib.hid (reachedFrom_2 hok hb)
      go_enter Try.func18, Try.ntmps18
      go_wp2_with fail
      refine (implValid_any (n : Int) A m cap xss _ H0.out hm HR.out).mono ?_
      rw [hok]
      rintro e w1 ⟨rfl, b1⟩
      have d0 : w1.cell? ⟨w.heap.size, 0, none⟩ = some (.int .i64 (n : Int)) := (b1.cell (by simp)).trans (by go_cell)
      have B1 := Lib.hid (below_then B0.out b1)
      clear b1
      go_wp2_with fail
      refine (isBelow_any _ _ _).mono ?_
      rw [hb]
      rintro e w' ⟨rfl, rfl⟩
      go_wp2_with fail
      go_ret2
      exact listsTo_mk HF.out (World.ownsRow_nil _ _ _ _) B1.out
    · obtain ⟨q, rfl⟩ : ∃ q : Nat, q0 = (q : Int) := ⟨q0.toNat, by simp [belowB] at hb; omega⟩
      have hqn : q < n := by simp [belowB] at hb; omega
      have HF := Lib.hid (reachedFrom_0 hok hb HM.out)
      go_enter Try.func18, Try.ntmps18
      go_wp2_with fail
      refine (implValid_any (n : Int) A m cap xss _ H0.out hm HR.out).mono ?_
      rw [hok]
      rintro e w1 ⟨rfl, b1⟩
      have d0 : w1.cell? ⟨w.heap.size, 0, none⟩ = some (.int .i64 (n : Int)) := (b1.cell (by simp)).trans (by go_cell)
      have d1 : w1.cell? ⟨w.heap.size, 1, none⟩ = some (.slice A m cap) := (b1.cell (by simp)).trans (by go_cell)
      have H1 := Lib.hid (H0.out.below b1)
      have B1 := Lib.hid (below_then B0.out b1)
      clear b1
      go_wp2_with fail
      refine (isBelow_any _ _ _).mono ?_
      rw [hb]
      rintro e w' ⟨rfl, rfl⟩
      clear hb
      go_wp2_with fail
      refine (reachedMarks_any A n m cap q xss _ HG.out H1.out hqn).mono ?_
      rintro e w2 ⟨rfl, b2⟩
      have B2 := Lib.hid (below_then B1.out b2)
      clear b2
      go_wp2_with fail
      refine (marksSet_any (reachF m xss q) w2).mono ?_
      rintro e w3 ⟨v, rfl, o3, b3⟩
      have O3 := Lib.hid o3
      have B3 := Lib.hid (below_then B2.out b3)
      clear o3 b3
      go_wp2_with fail
      go_ret2
      exact listsTo_mk HF.out (own_base O3.out B2.out.size) B3.out

namespace fnExactReachedFrom
open Go.ChangeAt

set_option maxHeartbeats 8000000 in
set_option maxRecDepth 100000 in
theorem walk (s : Int) (A : Option Addr) (n cap : Nat) (xss : List (List Int)) (q0 : Int) (w : World) (h : RowsAt w A n xss) (hn : n ≤ 9223372036854775807) (hrows : ∀ (r : Nat) (xs : List Int), xss[r]? = some xs → xs.length ≤ 9223372036854775807) :
    Calls Try.prog 3 #[.agg #[.int .i64 s, .slice A n cap], .int .i64 q0] w fun e w' => e = .returned (.bool true) ∧ Below w.heap.size w w' := by
  have HR := Lib.hid hrows
  have HL := Lib.hid h.1
  clear hrows
  go_enter Try.func3, Try.ntmps3
  go_wp2_with fail
  refine (szAutomaton_any s A n cap xss _ _ (h.below (by go_grown)) hn HR.out (by omega) (by omega)).mono ?_
  rintro e w1 ⟨r, rfl, hr, b1⟩
  have HS := Lib.hid hr
  have d0 : w1.cell? ⟨w.heap.size, 0, none⟩ = some (.int .i64 s) := (b1.cell (by simp)).trans (by go_cell)
  have d1 : w1.cell? ⟨w.heap.size, 1, none⟩ = some (.slice A n cap) := (b1.cell (by simp)).trans (by go_cell)
  have B1 := Lib.hid (below_then ((Below.refl _ w).alloc (Nat.le_refl _) _) b1)
  clear hr b1
  by_cases hneg : r < 0
  · go_wp2_with fail
    go_ret
    exact ⟨rfl, B1.out⟩
  · have HN := Lib.hid (sized_n HS.out hneg HL.out)
    have HR := Lib.hid (sized_rows HS.out hneg)
    have HW := Lib.hid (rows_wide HR.out)
    have HSUM := Lib.hid (sized_sum HS.out (by omega) hneg)
    have hn' : n ≤ 4611686018427387904 := by have := HN.out; omega
    obtain ⟨LS, hLS⟩ : ∃ LS, LS = (reachedFrom s xss q0).1 := ⟨_, rfl⟩
    obtain ⟨CO, hCO⟩ : ∃ CO, CO = (reachedFrom s xss q0).2 := ⟨_, rfl⟩
    have hlen : LS.length ≤ 10 := by rw [hLS]; exact reachedFrom_len s xss q0
    have HLS := Lib.hid hLS
    have HCO := Lib.hid hCO
    have rA : ∀ W', Below w1.heap.size w1 W' → W'.cell? ⟨w.heap.size, 0, none⟩ = some (.int .i64 s) := fun W' hb => (hb.cell (cell_lt d0)).trans d0
    have rB : ∀ W', Below w1.heap.size w1 W' → W'.cell? ⟨w.heap.size, 1, none⟩ = some (.slice A n cap) := fun W' hb => (hb.cell (cell_lt d1)).trans d1
    have c1 : Below w1.heap.size w1 w1 := Below.refl _ _
    have hlt1 : w.heap.size < w1.heap.size := cell_lt d0
    have HLT := Lib.hid hlt1
    clear hLS hCO d0 d1 hlt1
    -- the model's answer
    go_wp2_with fail
    refine (toAutomaton_any s A n cap xss _ (h.below (below_then B1.out c1)) HN.out HR.out).mono ?_
    rintro e w2 ⟨rfl, g2, b2, z2⟩
    have c2 : Below w1.heap.size w1 w2 := below_then c1 b2
    have R := Lib.hid (g2.rowsN HL.out)
    clear g2 b2 z2 c1
    go_wp2_with fail
    refine (specReachedFrom_any s q0 _ n n xss _ R.out hn' HW.out).mono ?_
    rintro e w4 ⟨v1, rfl, o4, b4⟩
    rw [← HLS.out] at o4
    rw [← HCO.out]
    obtain ⟨V1, e1, rfl⟩ := own_form o4
    have c4 : Below w1.heap.size w1 w4 := below_then c2 b4
    have O1 := Lib.hid o4
    have U1 := Lib.hid (fun q hq => (o4.lt q hq).2)
    have C14 := Lib.hid c4.size
    clear o4 b4 c2
    -- the program's arguments
    go_wp2_with fail
    refine (toAutomaton_any s A n cap xss _ (h.below (below_then B1.out c4)) HN.out HR.out).mono ?_
    rintro e w5 ⟨rfl, g5, b5, z5⟩
    have c5 : Below w1.heap.size w1 w5 := below_then c4 b5
    have XG := Lib.hid g5
    have O1 := Lib.hid (own_below O1.out b5)
    have S5 := Lib.hid z5
    have hlt5 : w.heap.size < w5.heap.size := Nat.lt_of_lt_of_le HLT.out c5.size
    clear g5 b5 z5 c4
    go_wp2_with fail
    obtain ⟨W6, hW6⟩ : ∃ W6, W6 = w5.alloc (.cells #[.int .i64 s, .slice (some ⟨w4.heap.size + 3, 0, none⟩) n n] 29) := ⟨_, rfl⟩
    rw [← hW6]
    have b6 : Below w5.heap.size w5 W6 := by rw [hW6]; go_grown
    have p0 : W6.cell? ⟨w5.heap.size, 0, none⟩ = some (.int .i64 s) := by rw [hW6]; go_cell
    have p1 : W6.cell? ⟨w5.heap.size, 1, none⟩ = some (.slice (some ⟨w4.heap.size + 3, 0, none⟩) n n) := by rw [hW6]; go_cell
    have S6 := Lib.hid (show W6.heap.size = w5.heap.size + 1 by rw [hW6]; simp)
    have c6 : Below w1.heap.size w1 W6 := below_then c5 b6
    have XG := Lib.hid (XG.out.below b6)
    have O1 := Lib.hid (own_below O1.out b6)
    have rC : ∀ W', Below W6.heap.size W6 W' → W'.cell? ⟨w5.heap.size, 0, none⟩ = some (.int .i64 s) := fun W' hb => (hb.cell (cell_lt p0)).trans p0
    have rD : ∀ W', Below W6.heap.size W6 W' → W'.cell? ⟨w5.heap.size, 1, none⟩ = some (.slice (some ⟨w4.heap.size + 3, 0, none⟩) n n) := fun W' hb => (hb.cell (cell_lt p1)).trans p1
    clear hW6 b6 c5 p0 p1 hlt5
    refine (implReachedFrom_any s q0 _ n n xss _ (XG.out.rowsN HL.out) hn' HW.out).mono ?_
    rintro e w8 ⟨v2, rfl, o8, b8⟩
    rw [← HLS.out] at o8
    rw [← HCO.out]
    obtain ⟨V2, e2, rfl⟩ := own_form o8
    have c8 : Below w1.heap.size w1 w8 := below_then c6 b8
    have x8 : Below W6.heap.size W6 w8 := b8
    have XG := Lib.hid (XG.out.below b8)
    have O1 := Lib.hid (own_below O1.out b8)
    have O2 := Lib.hid o8
    have S8 := Lib.hid b8.size
    clear o8 b8 c6
    go_wp2_with fail
    refine (eqInts_b _ _ _ _ _ _ _ _ _ (NumsAt.own O2.out rfl rfl) (NumsAt.own O1.out rfl rfl) (by omega) (by omega)).mono ?_
    rw [sameB_t rfl]
    rintro e w9 ⟨rfl, b9⟩
    have c9 : Below w1.heap.size w1 w9 := below_then c8 b9
    have x9 : Below W6.heap.size W6 w9 := below_then x8 b9
    have z9 : Below w9.heap.size w9 w9 := Below.refl _ _
    have XG := Lib.hid (XG.out.below b9)
    have O1 := Lib.hid (own_below O1.out b9)
    have O2 := Lib.hid (own_below O2.out b9)
    have rA9 : ∀ W', Below w9.heap.size w9 W' → W'.cell? ⟨w.heap.size, 0, none⟩ = some (.int .i64 s) := fun W' hb => rA W' (below_then c9 hb)
    have rB9 : ∀ W', Below w9.heap.size w9 W' → W'.cell? ⟨w.heap.size, 1, none⟩ = some (.slice A n cap) := fun W' hb => rB W' (below_then c9 hb)
    have rC9 : ∀ W', Below w9.heap.size w9 W' → W'.cell? ⟨w5.heap.size, 0, none⟩ = some (.int .i64 s) := fun W' hb => rC W' (below_then x9 hb)
    have rD9 : ∀ W', Below w9.heap.size w9 W' → W'.cell? ⟨w5.heap.size, 1, none⟩ = some (.slice (some ⟨w4.heap.size + 3, 0, none⟩) n n) := fun W' hb => rD W' (below_then x9 hb)
    have C9 := Lib.hid c9
    clear b9 c8 x8 rA rB rC rD c9 x9
    go_wp2_with fail
    -- the arguments are as they were
    go_region_held3 (fun w' => Below w9.heap.size w9 w') (first | assumption | exact below_drewN' (by assumption) _)
      (first
        | (go_at_call 17; refine (toAutomaton_any s A n cap xss _ (h.below (below_then B1.out (below_then C9.out (by first | assumption | exact below_drewN' (by assumption) _)))) HN.out HR.out).mono ?_; rintro e wa ⟨rfl, ga, ba, za⟩; have za9 : Below w9.heap.size w9 wa := below_then (by first | assumption | exact below_drewN' (by assumption) _) ba; have GA := Lib.hid (ga.rowsN HL.out); clear ga ba za)
        | (go_at_call 20; refine (eqAutomaton_any s s _ _ n n n n xss xss _ ((XG.out.below za9).rowsN HL.out) GA.out hn' hn' HW.out HW.out).mono ?_; rw [sameA_t rfl rfl]; rintro e we ⟨rfl, be⟩; have ze9 : Below w9.heap.size w9 we := below_then za9 be; clear be))
    have N9 := Lib.hid (below_then B1.out C9.out)
    have XG := Lib.hid (XG.out.below ze9)
    have O1 := Lib.hid (own_below O1.out ze9)
    have O2 := Lib.hid (own_below O2.out ze9)
    clear z9 za9
    go_wp2_with fail
    have c11 : Below w9.heap.size w9 we := ze9
    clear ze9
    -- the arguments are marked
    refine (markAutomaton_any s (w4.heap.size + 3) n n xss 1 we XG.out HL.out (by omega) HN.out (by have := HSUM.out; omega)).mono ?_
    rintro e w12 ⟨rfl, u12⟩
    have hl11 : w.heap.size < we.heap.size := Nat.lt_of_lt_of_le HLT.out (Below.trans (C9.out) (c11.mono (Below.size C9.out))).size
    have h14 : w1.heap.size ≤ w4.heap.size := C14.out
    have O1 := Lib.hid (u12.own O1.out (fun q hq => .inl (by have := U1.out q hq; omega)))
    have O2 := Lib.hid (u12.own O2.out (fun q hq => .inr (by have := (O2.out.lt q hq).1; have := S5.out; have := S6.out; omega)))
    have d0 : w12.cell? ⟨w.heap.size, 0, none⟩ = some (.int .i64 s) := (u12.cell hl11 (.inl (by have := HLT.out; simp; omega))).trans (rA9 we c11)
    have d1 : w12.cell? ⟨w.heap.size, 1, none⟩ = some (.slice A n cap) := (u12.cell hl11 (.inl (by have := HLT.out; simp; omega))).trans (rB9 we c11)
    have B12 := Lib.hid (Only.below (below_then N9.out c11) u12 (by have := HLT.out; omega) (Nat.le_of_lt hl11))
    clear u12 hl11 h14 rA9 rB9 rC9 rD9 c11 XG
    have hdec : decide (1 + (sumLens xss : Int) < 0) = false := by simp; omega
    go_wp2_with fail
    refine (eqInts_b _ _ _ _ _ _ _ _ _ (NumsAt.own O2.out rfl rfl) (NumsAt.own O1.out rfl rfl) (by omega) (by omega)).mono ?_
    rw [sameB_t rfl]
    rintro e w14 ⟨rfl, b14⟩
    have O1 := Lib.hid (own_below O1.out b14)
    have O2 := Lib.hid (own_below O2.out b14)
    have d0 : w14.cell? ⟨w.heap.size, 0, none⟩ = some (.int .i64 s) := (b14.cell (cell_lt d0)).trans d0
    have d1 : w14.cell? ⟨w.heap.size, 1, none⟩ = some (.slice A n cap) := (b14.cell (cell_lt d1)).trans d1
    have B14 := Lib.hid (below_then B12.out b14)
    clear b14
    -- the answer is marked
    have hkm : (1 : Int) + (LS.length : Int) ≤ 4611686018427387904 := by omega
    have hkm0 : (0 : Int) ≤ 1 + (LS.length : Int) := by omega
    go_wp2_with fail
    refine (markInt64S_any W6.heap.size _ LS.length e2 _ 1 w14 O2.out (by omega) hkm).mono ?_
    rintro e w15 ⟨rfl, o15, g15, z15⟩
    have hr15 : ∀ q, (Value.slice V2 LS.length e2).ownBlock = some q → W6.heap.size ≤ q := fun q hq => (O2.out.lt q hq).1
    have h47 : w4.heap.size ≤ W6.heap.size := by have := S5.out; have := S6.out; omega
    have hw7 : w.heap.size < W6.heap.size := by have := S5.out; have := S6.out; have := HLT.out; have := C14.out; omega
    have O1 := Lib.hid (own_grown (B := w4.heap.size) O1.out g15 U1.out (fun q hq => Nat.le_trans h47 (hr15 q hq)))
    have e0 : w15.cell? ⟨w.heap.size, 0, none⟩ = some (.int .i64 s) := g15.cell d0 (fun hq => by have := hr15 _ hq.symm; simp at this; omega)
    have e1' : w15.cell? ⟨w.heap.size, 1, none⟩ = some (.slice A n cap) := g15.cell d1 (fun hq => by have := hr15 _ hq.symm; simp at this; omega)
    have B15 := Lib.hid (below_grown B14.out g15 (fun q hq => Nat.le_trans (Nat.le_of_lt hw7) (hr15 q hq)))
    have M := Lib.hid o15
    clear o15 g15 z15 hr15 h47 hw7 d0 d1
    go_wp2_with fail
    refine (heldInt64S_any V2 LS.length e2 1 w15 (NumsAt.own M.out (marks_length _ _) rfl) (by omega) hkm).mono ?_
    rintro e w16 ⟨rfl, rfl⟩
    have rA : ∀ W', Below w15.heap.size w15 W' → W'.cell? ⟨w.heap.size, 0, none⟩ = some (.int .i64 s) := fun W' hb => (hb.cell (cell_lt e0)).trans e0
    have rB : ∀ W', Below w15.heap.size w15 W' → W'.cell? ⟨w.heap.size, 1, none⟩ = some (.slice A n cap) := fun W' hb => (hb.cell (cell_lt e1')).trans e1'
    have c15 : Below w15.heap.size w15 w15 := Below.refl _ _
    clear e0 e1'
    -- a second call
    go_wp2_with fail
    refine (toAutomaton_any s A n cap xss _ (h.below B15.out) HN.out HR.out).mono ?_
    rintro e w17 ⟨rfl, g17, b17, z17⟩
    have R := Lib.hid (g17.rowsN HL.out)
    have B17 := Lib.hid (below_then B15.out b17)
    have O1 := Lib.hid (own_below O1.out b17)
    have M := Lib.hid (own_below M.out b17)
    clear g17 b17 z17 c15 rA rB
    go_wp2_with fail
    refine (implReachedFrom_any s q0 _ n n xss _ R.out hn' HW.out).mono ?_
    rintro e w19 ⟨v3, rfl, o19, b19⟩
    rw [← HLS.out] at o19
    rw [← HCO.out]
    obtain ⟨V3, e3, rfl⟩ := own_form o19
    have O3 := Lib.hid o19
    have B19 := Lib.hid (below_then B17.out b19)
    have O1 := Lib.hid (own_below O1.out b19)
    have M := Lib.hid (own_below M.out b19)
    clear o19 b19
    go_wp2_with fail
    refine (eqInts_b _ _ _ _ _ _ _ _ _ (NumsAt.own O3.out rfl rfl) (NumsAt.own O1.out rfl rfl) (by omega) (by omega)).mono ?_
    rw [sameB_t rfl]
    rintro e w20 ⟨rfl, b20⟩
    have B20 := Lib.hid (below_then B19.out b20)
    have M := Lib.hid (own_below M.out b20)
    clear b20
    go_wp2_with fail
    refine (heldInt64S_any V2 LS.length e2 1 w20 (NumsAt.own M.out (marks_length _ _) rfl) (by omega) hkm).mono ?_
    rintro e w21 ⟨rfl, rfl⟩
    go_wp2_with fail
    go_ret
    exact ⟨rfl, B20.out⟩

set_option maxRecDepth 100000 in
theorem lifted (os : Os) (started : os.Started) (H : Type) (enc : TypeId × Value → H) :
    ReturnsInHanded {} Try.checked os 3 .any (Rows.fnExactReachedFromSpec.pre6 enc Try.prog Try.f3 Rows.fnExactReachedFromRow.domain false) (Rows.fnExactReachedFromSpec.post enc Try.prog Try.f3 false true false false) := by
  refine returnsInHanded_of_change (C := Try.checked) own started (by kernel_rfl) Try.func3
    (ChangeSpec.witness6 (enc := enc) (C := Try.checked) false ⟨#[], #[.agg #[.int .i64 0, .slice none 0 0], .int .i64 0], []⟩ 8 (by kernel_rfl) (by kernel_rfl) (by kernel_rfl) (by kernel_rfl)) ?_
  intro W base args ds gs before hval0 hW hcnd _
  have hval : ∀ (j : Nat) t v, Try.f3.params[j]? = some t → args[j]? = some v → Value.okWide Try.prog W .any base t v := hval0
  have hW' := hW
  obtain ⟨p, q, hA0, hV, rfl, hfz, hnd⟩ := hW
  have hA : DataW.TrodAll enc Try.prog W 0 (fun _ => true) true Try.f3.params.toList args.toList ds p := hA0
  rw [Try.params3] at hA hval
  obtain ⟨v0, vs0, d0, ds0, p0, q0, hargs, rfl, rfl, h0, r0⟩ := trodAll_cons hA
  obtain ⟨v1, vs1, d1, ds1, p1, q1, rfl, rfl, rfl, h1, r1⟩ := trodAll_cons r0
  obtain ⟨rfl, rfl, rfl⟩ := trodAll_nil r1
  obtain rfl : args = #[v0, v1] := by cases args; simp_all
  obtain ⟨rfl, rfl⟩ := trodVars_none hV
  have lt0 : ∀ x ∈ p0, x.block < W.heap.size := by obtain ⟨m, hm⟩ := h0; exact DataW.trod_lt m _ _ _ hm
  have k0 := h0
  obtain ⟨s0, a0, n0, c0, xs0, rfl, hr0, hn0, hw0⟩ := auto_of_trod (hval 0 24 v0 rfl rfl) h0
  have lt1 : ∀ x ∈ p1, x.block < W.heap.size := by obtain ⟨m, hm⟩ := h1; exact DataW.trod_lt m _ _ _ hm
  have k1 := h1
  obtain ⟨x1, rfl, _, _, hr1⟩ := open_int Try.underlying2 (hval 1 2 v1 rfl rfl) h1
  clear hA0 hval0
  refine (walk s0 a0 n0 c0 xs0 x1 W hr0 hn0 hw0).mono fun e W' ⟨he, bel⟩ => ?_
  subst he
  exact ⟨_, rfl, _, _, _, [], _, [], hW', trodAll_mk1 (shut_bool Try.underlying4 _), (trodAll_cons_mk (Below.trod laidOut (by kernel_rfl) (of_decide_eq_true (by kernel_rfl)) k0 bel lt0) (trodAll_cons_mk (Below.trod laidOut (by kernel_rfl) (of_decide_eq_true (by kernel_rfl)) k1 bel lt1) trodAll_mk0)), rfl, bel.frame _, fun h => by cases h⟩

theorem over : Rows.fnExactReachedFromRow.holds Try.pinned (OpenSpec.ofChange Rows.fnExactReachedFromSpec) :=
  OpenClaim.holds_of_wide 3 Try.f3 rfl rfl rfl rfl rfl rfl rfl ⟨rfl, rfl, rfl, rfl, rfl⟩ rfl rfl rfl rfl rfl (by kernel_rfl) Try.func3 (by kernel_rfl)
    (of_decide_eq_true (by kernel_rfl)) (by unfold Func.isWrapper; first | (rw [if_pos (by decide +kernel)]; kernel_rfl) | (rw [if_neg (by decide +kernel)]; exact ⟨rfl, rfl⟩))
    (fun os started H enc _ => lifted os started H enc)

/-- The statement. -/
theorem proved : Rows.FnExactReachedFromSaid := over
#print axioms proved

end fnExactReachedFrom
end Go.Proofs.Ytfkmpabohebcfaa
