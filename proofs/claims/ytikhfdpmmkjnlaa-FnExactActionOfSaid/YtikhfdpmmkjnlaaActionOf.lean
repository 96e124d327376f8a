/-
  FnExactActionOf: for every automaton and every list the law returns true: ActionOf of the program and of the model give the same list and code, the program's list is new memory each time, and neither argument is written. No condition.
-/
import Derived.Test.YtikhfdpmmkjnlaaHelp
import Derived.Test.YtikhfdpmmkjnlaaClone
import Derived.WalkSpells
namespace Go.Proofs.Ytikhfdpmmkjnlaa
open Go.RowKit Go.Deep Go.ChangeShapes Go.WideShapes

set_option maxRecDepth 100000 in
set_option maxHeartbeats 2000000 in
theorem implActionOf_any (s : Int) (A A' : Option Addr) (m cap l cap' : Nat) (xss : List (List Int)) (ws : List Int) (w : World) (h : RowsAt w A m xss) (h' : NumsAt w A' l ws) (hm : m ≤ 4611686018427387904) (hl : l ≤ 4611686018427387904)
    (hrows : ∀ (r : Nat) (xs : List Int), xss[r]? = some xs → xs.length ≤ 4611686018427387904) :
    Calls Try.prog 25 #[.agg #[.int .i64 s, .slice A m cap], .slice A' l cap'] w (ListsTo (actionOf s xss ws) w) := by
  have HR := Lib.hid hrows
  have HM := Lib.hid h.1
  have b0 : Below w.heap.size w (w.alloc (.cells #[.int .i64 s, .slice A m cap] 27)) := (Below.refl _ _).alloc (Nat.le_refl _) _
  have B0 := Lib.hid b0
  have H0 := Lib.hid (h.below b0)
  have H0' := Lib.hid (h'.below b0)
  clear hrows b0
  rcases hok : okA s xss with _ | _
  · have HF := Lib.hid (actionOf_1 (ws := ws) hok)
    go_enter Try.func25, Try.ntmps25
    go_wp2_with fail
    refine (implValid_any s A m cap xss _ H0.out hm HR.out).mono ?_
    rintro e w1 ⟨rfl, b1⟩
    have B1 := Lib.hid (below_then B0.out b1)
    clear b1
    go_wp2_with fail
    go_ret2
    exact listsTo_mk HF.out (World.ownsRow_nil _ _ _ _) B1.out
  · obtain ⟨n, hsn, hg⟩ := good_of hok HM.out
    subst hsn
    have HG := Lib.hid hg
    have hn10 : n ≤ 10 := hg.n10
    clear hg
    rcases hwd : isWordB (m : Int) ws with _ | _
    · have HF := Lib.hid (actionOf_2 hok (by rw [HM.out]; exact hwd))
      go_enter Try.func25, Try.ntmps25
      go_wp2_with fail
      refine (implValid_any (n : Int) A m cap xss _ H0.out hm HR.out).mono ?_
      rintro e w1 ⟨rfl, b1⟩
      have d0 : w1.cell? ⟨w.heap.size, 0, none⟩ = some (.int .i64 (n : Int)) := (b1.cell (by simp)).trans (by go_cell)
      have d1 : w1.cell? ⟨w.heap.size, 1, none⟩ = some (.slice A m cap) := (b1.cell (by simp)).trans (by go_cell)
      have H1' := Lib.hid (H0'.out.below b1)
      have B1 := Lib.hid (below_then B0.out b1)
      clear b1
      go_wp2_with fail
      refine (isLetterList_any (n : Int) A A' m cap l cap' ws _ H1'.out hm hl).mono ?_
      rintro e w2 ⟨rfl, b2⟩
      have B2 := Lib.hid (below_then B1.out b2)
      clear b2
      go_wp2_with fail
      go_ret2
      exact listsTo_mk HF.out (World.ownsRow_nil _ _ _ _) B2.out
    · have HF := Lib.hid (actionOf_0 hok (by rw [HM.out]; exact hwd))
      have HWL := Lib.hid (word_letters hwd)
      go_enter Try.func25, Try.ntmps25
      go_wp2_with fail
      refine (implValid_any (n : Int) A m cap xss _ H0.out hm HR.out).mono ?_
      rintro e w1 ⟨rfl, b1⟩
      have d0 : w1.cell? ⟨w.heap.size, 0, none⟩ = some (.int .i64 (n : Int)) := (b1.cell (by simp)).trans (by go_cell)
      have d1 : w1.cell? ⟨w.heap.size, 1, none⟩ = some (.slice A m cap) := (b1.cell (by simp)).trans (by go_cell)
      have H1 := Lib.hid (H0.out.below b1)
      have H1' := Lib.hid (H0'.out.below b1)
      have B1 := Lib.hid (below_then B0.out b1)
      clear b1
      go_wp2_with fail
      refine (isLetterList_any (n : Int) A A' m cap l cap' ws _ H1'.out hm hl).mono ?_
      rintro e w2 ⟨rfl, b2⟩
      have H2 := Lib.hid (H1.out.below b2)
      have H2' := Lib.hid (H1'.out.below b2)
      have e0 : w2.cell? ⟨w.heap.size, 0, none⟩ = some (.int .i64 (n : Int)) := (b2.cell (cell_lt d0)).trans d0
      have e1 : w2.cell? ⟨w.heap.size, 1, none⟩ = some (.slice A m cap) := (b2.cell (cell_lt d1)).trans d1
      have B2 := Lib.hid (below_then B1.out b2)
      have rA : ∀ W', Below w2.heap.size w2 W' → W'.cell? ⟨w.heap.size, 0, none⟩ = some (.int .i64 (n : Int)) := fun W' hb => (hb.cell (cell_lt e0)).trans e0
      have rB : ∀ W', Below w2.heap.size w2 W' → W'.cell? ⟨w.heap.size, 1, none⟩ = some (.slice A m cap) := fun W' hb => (hb.cell (cell_lt e1)).trans e1
      have h2 : Below w2.heap.size w2 w2 := Below.refl _ _
      clear b2 d0 d1 e0 e1
      go_wp2_with fail
      go_region_held3 (fun w' => Below w2.heap.size w2 w') (first | assumption | exact below_drewN' (by assumption) _)
        (first
          | (go_at_call 57; refine (wordAction_any A A' n m cap l cap' xss ws _ HG.out (H2.out.below (by first | assumption | exact below_drewN' (by assumption) _)) (H2'.out.below (by first | assumption | exact below_drewN' (by assumption) _)) HWL.out hl).mono ?_; rintro e w3 ⟨rfl, b3⟩; have h3 : Below w2.heap.size w2 w3 := below_then (by first | assumption | exact below_drewN' (by assumption) _) b3; clear b3)
          | (go_at_call 58; refine (list_any n (actK n xss ws) _ (by have := (actK_is HG.out ws HWL.out ws.length (Nat.le_refl _)).1; rwa [List.take_length] at this) hn10).mono ?_; rw [actTo_eq HG.out HWL.out]; rintro e w4 ⟨v4, rfl, o4, b4⟩; have h4 : Below w2.heap.size w2 w4 := below_then (by assumption) b4; have O4 := Lib.hid (own_base o4 (Below.size h3)); clear o4 b4))
      go_wp2_with fail
      go_ret2
      refine listsTo_mk HF.out ?_ (below_then B2.out h4)
      rw [actTo_len]
      exact own_base O4.out B2.out.size

theorem actionOf_len (s : Int) (xss : List (List Int)) (ws : List Int) : (actionOf s xss ws).1.length ≤ 10 := by
  unfold actionOf
  split
  · rename_i h
    split
    · obtain ⟨⟨_, h2⟩, _⟩ := okA_parts h
      simp only [actTo_len]
      omega
    · simp
  · simp
namespace fnExactActionOf
open Go.ChangeAt

set_option maxHeartbeats 8000000 in
set_option maxRecDepth 100000 in
theorem walk (s : Int) (A : Option Addr) (n cap : Nat) (xss : List (List Int)) (A' : Option Addr) (l cap' : Nat) (ws : List Int) (w : World) (h : RowsAt w A n xss) (hn : n ≤ 9223372036854775807) (hrows : ∀ (r : Nat) (xs : List Int), xss[r]? = some xs → xs.length ≤ 9223372036854775807)
    (h' : NumsAt w A' l ws) (hl : l ≤ maxLen) :
    Calls Try.prog 5 #[.agg #[.int .i64 s, .slice A n cap], .slice A' l cap'] w fun e w' => e = .returned (.bool true) ∧ Below w.heap.size w w' := by
  have HR := Lib.hid hrows
  have HL := Lib.hid h.1
  have hl9 : l ≤ 9223372036854775807 := hl
  clear hrows hl
  by_cases hbig : l ≤ 1048576
  · have hsmall : decide ((1048576 : Int) < (l : Int)) = false := by simp; omega
    have hl' : l ≤ 4611686018427387904 := by omega
    have HB := Lib.hid hbig
    clear hbig hl9
    go_enter Try.func5, Try.ntmps5
    go_wp2_with fail
    refine (szAutomaton_any s A n cap xss _ _ (h.below (by go_grown)) hn HR.out (by omega) (by omega)).mono ?_
    rintro e w1 ⟨r, rfl, hr, b1⟩
    have HS := Lib.hid hr
    have d0 : w1.cell? ⟨w.heap.size, 0, none⟩ = some (.int .i64 s) := (b1.cell (by simp)).trans (by go_cell)
    have d1 : w1.cell? ⟨w.heap.size, 1, none⟩ = some (.slice A n cap) := (b1.cell (by simp)).trans (by go_cell)
    have B1 := Lib.hid (below_then ((Below.refl _ w).alloc (Nat.le_refl _) _) b1)
    clear hr b1
    by_cases hneg : r < 0
    · go_wp2_with fail
      go_ret
      exact ⟨rfl, B1.out⟩
    · have HN := Lib.hid (sized_n HS.out hneg HL.out)
      have HR := Lib.hid (sized_rows HS.out hneg)
      have HW := Lib.hid (rows_wide HR.out)
      have HSUM := Lib.hid (sized_sum HS.out (by omega) hneg)
      have hn' : n ≤ 4611686018427387904 := by have := HN.out; omega
      obtain ⟨LS, hLS⟩ : ∃ LS, LS = (actionOf s xss ws).1 := ⟨_, rfl⟩
      obtain ⟨CO, hCO⟩ : ∃ CO, CO = (actionOf s xss ws).2 := ⟨_, rfl⟩
      have hlen : LS.length ≤ 10 := by rw [hLS]; exact actionOf_len s xss ws
      have HLS := Lib.hid hLS
      have HCO := Lib.hid hCO
      have rA : ∀ W', Below w1.heap.size w1 W' → W'.cell? ⟨w.heap.size, 0, none⟩ = some (.int .i64 s) := fun W' hb => (hb.cell (cell_lt d0)).trans d0
      have rB : ∀ W', Below w1.heap.size w1 W' → W'.cell? ⟨w.heap.size, 1, none⟩ = some (.slice A n cap) := fun W' hb => (hb.cell (cell_lt d1)).trans d1
      have c1 : Below w1.heap.size w1 w1 := Below.refl _ _
      have hlt1 : w.heap.size < w1.heap.size := cell_lt d0
      have HLT := Lib.hid hlt1
      clear hLS hCO d0 d1 hlt1
      -- the model's answer
      go_wp2_with fail
      refine (toAutomaton_any s A n cap xss _ (h.below (below_then B1.out c1)) HN.out HR.out).mono ?_
      rintro e w2 ⟨rfl, g2, b2, z2⟩
      have c2 : Below w1.heap.size w1 w2 := below_then c1 b2
      have R := Lib.hid (g2.rowsN HL.out)
      clear g2 b2 z2 c1
      go_wp2_with fail
      refine (toInt64S_any _ _ _ _ _ (h'.below (below_then B1.out c2)) HB.out).mono ?_
      rintro e w3 ⟨rfl, o3, b3, z3⟩
      have c3 : Below w1.heap.size w1 w3 := below_then c2 b3
      have N := Lib.hid (NumsAt.own o3 h'.1 rfl)
      have R := Lib.hid (R.out.below b3)
      clear o3 b3 z3 c2
      go_wp2_with fail
      refine (specActionOf_any s _ _ n n l l xss ws _ R.out N.out hn' hl' HW.out).mono ?_
      rintro e w4 ⟨v1, rfl, o4, b4⟩
      rw [← HLS.out] at o4
      rw [← HCO.out]
      obtain ⟨V1, e1, rfl⟩ := own_form o4
      have c4 : Below w1.heap.size w1 w4 := below_then c3 b4
      have O1 := Lib.hid o4
      have U1 := Lib.hid (fun q hq => (o4.lt q hq).2)
      have C14 := Lib.hid c4.size
      clear o4 b4 c3
      -- the program's arguments
      go_wp2_with fail
      refine (toAutomaton_any s A n cap xss _ (h.below (below_then B1.out c4)) HN.out HR.out).mono ?_
      rintro e w5 ⟨rfl, g5, b5, z5⟩
      have c5 : Below w1.heap.size w1 w5 := below_then c4 b5
      have XG := Lib.hid g5
      have O1 := Lib.hid (own_below O1.out b5)
      have S5 := Lib.hid z5
      have hlt5 : w.heap.size < w5.heap.size := Nat.lt_of_lt_of_le HLT.out c5.size
      clear g5 b5 z5 c4
      go_wp2_with fail
      obtain ⟨W6, hW6⟩ : ∃ W6, W6 = w5.alloc (.cells #[.int .i64 s, .slice (some ⟨w4.heap.size + 3, 0, none⟩) n n] 27) := ⟨_, rfl⟩
      rw [← hW6]
      have b6 : Below w5.heap.size w5 W6 := by rw [hW6]; go_grown
      have p0 : W6.cell? ⟨w5.heap.size, 0, none⟩ = some (.int .i64 s) := by rw [hW6]; go_cell
      have p1 : W6.cell? ⟨w5.heap.size, 1, none⟩ = some (.slice (some ⟨w4.heap.size + 3, 0, none⟩) n n) := by rw [hW6]; go_cell
      have S6 := Lib.hid (show W6.heap.size = w5.heap.size + 1 by rw [hW6]; simp)
      have c6 : Below w1.heap.size w1 W6 := below_then c5 b6
      have XG := Lib.hid (XG.out.below b6)
      have O1 := Lib.hid (own_below O1.out b6)
      have rC : ∀ W', Below W6.heap.size W6 W' → W'.cell? ⟨w5.heap.size, 0, none⟩ = some (.int .i64 s) := fun W' hb => (hb.cell (cell_lt p0)).trans p0
      have rD : ∀ W', Below W6.heap.size W6 W' → W'.cell? ⟨w5.heap.size, 1, none⟩ = some (.slice (some ⟨w4.heap.size + 3, 0, none⟩) n n) := fun W' hb => (hb.cell (cell_lt p1)).trans p1
      clear hW6 b6 c5 p0 p1 hlt5
      refine (toInt64S_any _ _ _ _ _ (h'.below (below_then B1.out c6)) HB.out).mono ?_
      rintro e w7 ⟨rfl, o7, b7, z7⟩
      have c7 : Below w1.heap.size w1 w7 := below_then c6 b7
      have x7 : Below W6.heap.size W6 w7 := b7
      have XG := Lib.hid (XG.out.below b7)
      have O1 := Lib.hid (own_below O1.out b7)
      have YO := Lib.hid o7
      have S7 := Lib.hid z7
      clear o7 b7 z7 c6
      go_wp2_with fail
      refine (implActionOf_any s _ _ n n l l xss ws _ (XG.out.rowsN HL.out) (NumsAt.own YO.out h'.1 rfl) hn' hl' HW.out).mono ?_
      rintro e w8 ⟨v2, rfl, o8, b8⟩
      rw [← HLS.out] at o8
      rw [← HCO.out]
      obtain ⟨V2, e2, rfl⟩ := own_form o8
      have c8 : Below w1.heap.size w1 w8 := below_then c7 b8
      have x8 : Below W6.heap.size W6 w8 := below_then x7 b8
      have XG := Lib.hid (XG.out.below b8)
      have O1 := Lib.hid (own_below O1.out b8)
      have YO := Lib.hid (own_below YO.out b8)
      have O2 := Lib.hid o8
      have S8 := Lib.hid b8.size
      clear o8 b8 c7 x7
      go_wp2_with fail
      refine (eqInts_b _ _ _ _ _ _ _ _ _ (NumsAt.own O2.out rfl rfl) (NumsAt.own O1.out rfl rfl) (by omega) (by omega)).mono ?_
      rw [sameB_t rfl]
      rintro e w9 ⟨rfl, b9⟩
      have c9 : Below w1.heap.size w1 w9 := below_then c8 b9
      have x9 : Below W6.heap.size W6 w9 := below_then x8 b9
      have z9 : Below w9.heap.size w9 w9 := Below.refl _ _
      have XG := Lib.hid (XG.out.below b9)
      have O1 := Lib.hid (own_below O1.out b9)
      have YO := Lib.hid (own_below YO.out b9)
      have O2 := Lib.hid (own_below O2.out b9)
      have rA9 : ∀ W', Below w9.heap.size w9 W' → W'.cell? ⟨w.heap.size, 0, none⟩ = some (.int .i64 s) := fun W' hb => rA W' (below_then c9 hb)
      have rB9 : ∀ W', Below w9.heap.size w9 W' → W'.cell? ⟨w.heap.size, 1, none⟩ = some (.slice A n cap) := fun W' hb => rB W' (below_then c9 hb)
      have rC9 : ∀ W', Below w9.heap.size w9 W' → W'.cell? ⟨w5.heap.size, 0, none⟩ = some (.int .i64 s) := fun W' hb => rC W' (below_then x9 hb)
      have rD9 : ∀ W', Below w9.heap.size w9 W' → W'.cell? ⟨w5.heap.size, 1, none⟩ = some (.slice (some ⟨w4.heap.size + 3, 0, none⟩) n n) := fun W' hb => rD W' (below_then x9 hb)
      have C9 := Lib.hid c9
      clear b9 c8 x8 rA rB rC rD c9 x9
      go_wp2_with fail
      -- the arguments are as they were
      go_region_held3 (fun w' => Below w9.heap.size w9 w') (first | assumption | exact below_drewN' (by assumption) _)
        (first
          | (go_at_call 17; refine (toAutomaton_any s A n cap xss _ (h.below (below_then B1.out (below_then C9.out (by first | assumption | exact below_drewN' (by assumption) _)))) HN.out HR.out).mono ?_; rintro e wa ⟨rfl, ga, ba, za⟩; have za9 : Below w9.heap.size w9 wa := below_then (by first | assumption | exact below_drewN' (by assumption) _) ba; have GA := Lib.hid (ga.rowsN HL.out); clear ga ba za)
          | (go_at_call 19; refine (eqAutomaton_any s s _ _ n n n n xss xss _ ((XG.out.below za9).rowsN HL.out) GA.out hn' hn' HW.out HW.out).mono ?_; rw [sameA_t rfl rfl]; rintro e we ⟨rfl, be⟩; have ze9 : Below w9.heap.size w9 we := below_then za9 be; clear be))
      have N9 := Lib.hid (below_then B1.out C9.out)
      have XG := Lib.hid (XG.out.below ze9)
      have O1 := Lib.hid (own_below O1.out ze9)
      have O2 := Lib.hid (own_below O2.out ze9)
      have YO := Lib.hid (own_below YO.out ze9)
      clear z9 za9
      go_wp2_with fail
      refine (toInt64S_any _ _ _ _ _ (h'.below (below_then N9.out ze9)) HB.out).mono ?_
      rintro e w10 ⟨rfl, o10, b10, z10⟩
      have c10 : Below w9.heap.size w9 w10 := below_then ze9 b10
      have XG := Lib.hid (XG.out.below b10)
      have O1 := Lib.hid (own_below O1.out b10)
      have O2 := Lib.hid (own_below O2.out b10)
      have YO := Lib.hid (own_below YO.out b10)
      have Z10 := Lib.hid o10
      clear o10 b10 z10 ze9
      go_wp2_with fail
      refine (eqInts_b _ _ _ _ _ _ _ _ _ (NumsAt.own YO.out h'.1 rfl) (NumsAt.own Z10.out h'.1 rfl) hl' hl').mono ?_
      rw [sameB_t rfl]
      rintro e w11 ⟨rfl, b11⟩
      have c11 : Below w9.heap.size w9 w11 := below_then c10 b11
      have XG := Lib.hid (XG.out.below b11)
      have O1 := Lib.hid (own_below O1.out b11)
      have O2 := Lib.hid (own_below O2.out b11)
      have YO := Lib.hid (own_below YO.out b11)
      clear b11 c10 Z10
      -- the arguments are marked
      go_wp2_with fail
      refine (markAutomaton_any s (w4.heap.size + 3) n n xss 1 w11 XG.out HL.out (by omega) HN.out (by have := HSUM.out; omega)).mono ?_
      rintro e w12 ⟨rfl, u12⟩
      have hl11 : w.heap.size < w11.heap.size := Nat.lt_of_lt_of_le HLT.out (Below.trans (C9.out) (c11.mono (Below.size C9.out))).size
      have h14 : w1.heap.size ≤ w4.heap.size := C14.out
      have O1 := Lib.hid (u12.own O1.out (fun q hq => .inl (by have := U1.out q hq; omega)))
      have O2 := Lib.hid (u12.own O2.out (fun q hq => .inr (by have := (O2.out.lt q hq).1; have := S5.out; have := S6.out; have := S7.out; omega)))
      have YO := Lib.hid (u12.own YO.out (fun q hq => .inr (by have := (YO.out.lt q hq).1; have := S5.out; have := S6.out; omega)))
      have d0 : w12.cell? ⟨w.heap.size, 0, none⟩ = some (.int .i64 s) := (u12.cell hl11 (.inl (by have := HLT.out; simp; omega))).trans (rA9 w11 c11)
      have d1 : w12.cell? ⟨w.heap.size, 1, none⟩ = some (.slice A n cap) := (u12.cell hl11 (.inl (by have := HLT.out; simp; omega))).trans (rB9 w11 c11)
      have B12 := Lib.hid (Only.below (below_then N9.out c11) u12 (by have := HLT.out; omega) (Nat.le_of_lt hl11))
      clear u12 hl11 h14 rA9 rB9 rC9 rD9 c11 XG
      have hsum0 : (0 : Int) ≤ 1 + (sumLens xss : Int) := by omega
      have hk13 : 1 + (sumLens xss : Int) + (l : Int) ≤ 4611686018427387904 := by have := HSUM.out; have := HB.out; omega
      go_wp2_with fail
      refine (markInt64S_any W6.heap.size _ l l _ (1 + (sumLens xss : Int)) w12 YO.out hsum0 hk13).mono ?_
      rintro e w13 ⟨rfl, o13, g13, z13⟩
      have O1 := Lib.hid (own_grown (B := w4.heap.size) O1.out g13 U1.out (fun q hq => by simp [Value.ownBlock] at hq; have := S5.out; have := S6.out; omega))
      have O2 := Lib.hid (own_grown' (B := w7.heap.size) O2.out g13 (fun q hq => by simp [Value.ownBlock] at hq; have := S7.out; omega) (fun q hq => (O2.out.lt q hq).1))
      have e0 : w13.cell? ⟨w.heap.size, 0, none⟩ = some (.int .i64 s) := g13.cell d0 (by simp [Value.ownBlock]; have := S5.out; have := S6.out; have := HLT.out; have := C14.out; omega)
      have e1' : w13.cell? ⟨w.heap.size, 1, none⟩ = some (.slice A n cap) := g13.cell d1 (by simp [Value.ownBlock]; have := S5.out; have := S6.out; have := HLT.out; have := C14.out; omega)
      have B13 := Lib.hid (below_grown B12.out g13 (fun q hq => by simp [Value.ownBlock] at hq; have := S5.out; have := S6.out; have := HLT.out; have := C14.out; omega))
      have hdec : decide (1 + (sumLens xss : Int) + (l : Int) < 0) = false := by simp; omega
      clear o13 g13 z13 d0 d1
      go_wp2_with fail
      refine (eqInts_b _ _ _ _ _ _ _ _ _ (NumsAt.own O2.out rfl rfl) (NumsAt.own O1.out rfl rfl) (by omega) (by omega)).mono ?_
      rw [sameB_t rfl]
      rintro e w14 ⟨rfl, b14⟩
      have O1 := Lib.hid (own_below O1.out b14)
      have O2 := Lib.hid (own_below O2.out b14)
      have d0 : w14.cell? ⟨w.heap.size, 0, none⟩ = some (.int .i64 s) := (b14.cell (cell_lt e0)).trans e0
      have d1 : w14.cell? ⟨w.heap.size, 1, none⟩ = some (.slice A n cap) := (b14.cell (cell_lt e1')).trans e1'
      have B14 := Lib.hid (below_then B13.out b14)
      clear b14 e0 e1'
      -- the answer is marked
      have hkm : (1 : Int) + (LS.length : Int) ≤ 4611686018427387904 := by omega
      have hkm0 : (0 : Int) ≤ 1 + (LS.length : Int) := by omega
      go_wp2_with fail
      refine (markInt64S_any w7.heap.size _ LS.length e2 _ 1 w14 O2.out (by omega) hkm).mono ?_
      rintro e w15 ⟨rfl, o15, g15, z15⟩
      have hr15 : ∀ q, (Value.slice V2 LS.length e2).ownBlock = some q → w7.heap.size ≤ q := fun q hq => (O2.out.lt q hq).1
      have h47 : w4.heap.size ≤ w7.heap.size := by have := S5.out; have := S6.out; have := S7.out; omega
      have hw7 : w.heap.size < w7.heap.size := by have := HLT.out; have := C14.out; omega
      have O1 := Lib.hid (own_grown (B := w4.heap.size) O1.out g15 U1.out (fun q hq => Nat.le_trans h47 (hr15 q hq)))
      have e0 : w15.cell? ⟨w.heap.size, 0, none⟩ = some (.int .i64 s) := g15.cell d0 (fun hq => by have := hr15 _ hq.symm; simp at this; omega)
      have e1' : w15.cell? ⟨w.heap.size, 1, none⟩ = some (.slice A n cap) := g15.cell d1 (fun hq => by have := hr15 _ hq.symm; simp at this; omega)
      have B15 := Lib.hid (below_grown B14.out g15 (fun q hq => Nat.le_trans (Nat.le_of_lt hw7) (hr15 q hq)))
      have M := Lib.hid o15
      clear o15 g15 z15 hr15 h47 hw7 d0 d1
      go_wp2_with fail
      refine (heldInt64S_any V2 LS.length e2 1 w15 (NumsAt.own M.out (marks_length _ _) rfl) (by omega) hkm).mono ?_
      rintro e w16 ⟨rfl, rfl⟩
      have rA : ∀ W', Below w15.heap.size w15 W' → W'.cell? ⟨w.heap.size, 0, none⟩ = some (.int .i64 s) := fun W' hb => (hb.cell (cell_lt e0)).trans e0
      have rB : ∀ W', Below w15.heap.size w15 W' → W'.cell? ⟨w.heap.size, 1, none⟩ = some (.slice A n cap) := fun W' hb => (hb.cell (cell_lt e1')).trans e1'
      have c15 : Below w15.heap.size w15 w15 := Below.refl _ _
      clear e0 e1'
      -- a second call
      go_wp2_with fail
      refine (toAutomaton_any s A n cap xss _ (h.below B15.out) HN.out HR.out).mono ?_
      rintro e w17 ⟨rfl, g17, b17, z17⟩
      have R := Lib.hid (g17.rowsN HL.out)
      have B17 := Lib.hid (below_then B15.out b17)
      have O1 := Lib.hid (own_below O1.out b17)
      have M := Lib.hid (own_below M.out b17)
      clear g17 b17 z17 c15 rA rB
      go_wp2_with fail
      refine (toInt64S_any _ _ _ _ _ (h'.below B17.out) HB.out).mono ?_
      rintro e w18 ⟨rfl, o18, b18, z18⟩
      have N := Lib.hid (NumsAt.own o18 h'.1 rfl)
      have R := Lib.hid (R.out.below b18)
      have B18 := Lib.hid (below_then B17.out b18)
      have O1 := Lib.hid (own_below O1.out b18)
      have M := Lib.hid (own_below M.out b18)
      clear o18 b18 z18
      go_wp2_with fail
      refine (implActionOf_any s _ _ n n l l xss ws _ R.out N.out hn' hl' HW.out).mono ?_
      rintro e w19 ⟨v3, rfl, o19, b19⟩
      rw [← HLS.out] at o19
      rw [← HCO.out]
      obtain ⟨V3, e3, rfl⟩ := own_form o19
      have O3 := Lib.hid o19
      have B19 := Lib.hid (below_then B18.out b19)
      have O1 := Lib.hid (own_below O1.out b19)
      have M := Lib.hid (own_below M.out b19)
      clear o19 b19
      go_wp2_with fail
      refine (eqInts_b _ _ _ _ _ _ _ _ _ (NumsAt.own O3.out rfl rfl) (NumsAt.own O1.out rfl rfl) (by omega) (by omega)).mono ?_
      rw [sameB_t rfl]
      rintro e w20 ⟨rfl, b20⟩
      have B20 := Lib.hid (below_then B19.out b20)
      have M := Lib.hid (own_below M.out b20)
      clear b20
      go_wp2_with fail
      refine (heldInt64S_any V2 LS.length e2 1 w20 (NumsAt.own M.out (marks_length _ _) rfl) (by omega) hkm).mono ?_
      rintro e w21 ⟨rfl, rfl⟩
      go_wp2_with fail
      go_ret
      exact ⟨rfl, B20.out⟩
  · have hbig' : (1048576 : Int) < (l : Int) := by omega
    go_enter Try.func5, Try.ntmps5
    go_wp2_with fail
    go_ret
    exact ⟨rfl, by go_grown⟩

set_option maxRecDepth 100000 in
theorem lifted (os : Os) (started : os.Started) (H : Type) (enc : TypeId × Value → H) :
    ReturnsInHanded {} Try.checked os 5 .any (Rows.fnExactActionOfSpec.pre6 enc Try.prog Try.f5 Rows.fnExactActionOfRow.domain false) (Rows.fnExactActionOfSpec.post enc Try.prog Try.f5 false true false false) := by
  refine returnsInHanded_of_change (C := Try.checked) own started (by kernel_rfl) Try.func5
    (ChangeSpec.witness6 (enc := enc) (C := Try.checked) false ⟨#[], #[.agg #[.int .i64 0, .slice none 0 0], .slice none 0 0], []⟩ 8 (by kernel_rfl) (by kernel_rfl) (by kernel_rfl) (by kernel_rfl)) ?_
  intro W base args ds gs before hval0 hW hcnd _
  have hval : ∀ (j : Nat) t v, Try.f5.params[j]? = some t → args[j]? = some v → Value.okWide Try.prog W .any base t v := hval0
  have hW' := hW
  obtain ⟨p, q, hA0, hV, rfl, hfz, hnd⟩ := hW
  have hA : DataW.TrodAll enc Try.prog W 0 (fun _ => true) true Try.f5.params.toList args.toList ds p := hA0
  rw [Try.params5] at hA hval
  obtain ⟨v0, vs0, d0, ds0, p0, q0, hargs, rfl, rfl, h0, r0⟩ := trodAll_cons hA
  obtain ⟨v1, vs1, d1, ds1, p1, q1, rfl, rfl, rfl, h1, r1⟩ := trodAll_cons r0
  obtain ⟨rfl, rfl, rfl⟩ := trodAll_nil r1
  obtain rfl : args = #[v0, v1] := by cases args; simp_all
  obtain ⟨rfl, rfl⟩ := trodVars_none hV
  have lt0 : ∀ x ∈ p0, x.block < W.heap.size := by obtain ⟨m, hm⟩ := h0; exact DataW.trod_lt m _ _ _ hm
  have k0 := h0
  obtain ⟨s0, a0, n0, c0, xs0, rfl, hr0, hn0, hw0⟩ := auto_of_trod (hval 0 24 v0 rfl rfl) h0
  have lt1 : ∀ x ∈ p1, x.block < W.heap.size := by obtain ⟨m, hm⟩ := h1; exact DataW.trod_lt m _ _ _ hm
  have k1 := h1
  obtain ⟨a1, n1, c1, rfl⟩ := okWide_slice Try.underlying31 (hval 1 31 v1 rfl rfl)
  obtain ⟨xs1, hr1, hn1⟩ := nums_of_trod h1
  clear hA0 hval0
  refine (walk s0 a0 n0 c0 xs0 a1 n1 c1 xs1 W hr0 hn0 hw0 hr1 hn1).mono fun e W' ⟨he, bel⟩ => ?_
  subst he
  exact ⟨_, rfl, _, _, _, [], _, [], hW', trodAll_mk1 (shut_bool Try.underlying4 _), (trodAll_cons_mk (Below.trod laidOut (by kernel_rfl) (of_decide_eq_true (by kernel_rfl)) k0 bel lt0) (trodAll_cons_mk (Below.trod laidOut (by kernel_rfl) (of_decide_eq_true (by kernel_rfl)) k1 bel lt1) trodAll_mk0)), rfl, bel.frame _, fun h => by cases h⟩

theorem over : Rows.fnExactActionOfRow.holds Try.pinned (OpenSpec.ofChange Rows.fnExactActionOfSpec) :=
  OpenClaim.holds_of_wide 5 Try.f5 rfl rfl rfl rfl rfl rfl rfl ⟨rfl, rfl, rfl, rfl, rfl⟩ rfl rfl rfl rfl rfl (by kernel_rfl) Try.func5 (by kernel_rfl)
    (of_decide_eq_true (by kernel_rfl)) (by unfold Func.isWrapper; first | (rw [if_pos (by decide +kernel)]; kernel_rfl) | (rw [if_neg (by decide +kernel)]; exact ⟨rfl, rfl⟩))
    (fun os started H enc _ => lifted os started H enc)

/-- The statement. -/
theorem proved : Rows.FnExactActionOfSaid := over
#print axioms proved

end fnExactActionOf
end Go.Proofs.Ytikhfdpmmkjnlaa
