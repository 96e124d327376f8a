/-
  FnExactValidWord: for every automaton and every list the law returns true: ValidWord of the program and of the model give the same answer, and neither argument is written. No condition.
-/
import Derived.Test.YtikhfdpmmkjnlaaWords
namespace Go.Proofs.Ytikhfdpmmkjnlaa
open Go.RowKit Go.Deep Go.ChangeShapes Go.WideShapes

set_option maxHeartbeats 1000000 in
theorem specValidWord_any (s : Int) (A A' : Option Addr) (n cap l cap' : Nat) (xss : List (List Int)) (xs : List Int) (w : World) (h : RowsAt w A n xss) (h' : NumsAt w A' l xs) (hn : n ≤ 4611686018427387904) (hl : l ≤ 4611686018427387904)
    (hrows : ∀ (r : Nat) (xs : List Int), xss[r]? = some xs → xs.length ≤ 4611686018427387904) :
    Calls Try.prog 20 #[.agg #[.int .i64 s, .slice A n cap], .slice A' l cap'] w fun e w' => e = .returned (.bool (okA s xss && isWordB (n : Int) xs)) ∧ Below w.heap.size w w' := by
  have HR := Lib.hid hrows
  clear hrows
  rcases hok : okA s xss with _ | _
  · go_enter Try.func20, Try.ntmps20
    go_wp2_with fail
    refine (l01Ok_any w.heap.size s A n cap xss _ (by go_cell) (by go_cell) (h.below (by go_grown)) hn HR.out).mono ?_
    rintro e w' ⟨rfl, m, rfl⟩
    go_wp2_with fail
    go_ret
    exact ⟨rfl, below_drewN' (by go_grown) _⟩
  · obtain ⟨_, ⟨hn1, hn3⟩, _⟩ := okA_parts hok
    rw [h.1] at hn1 hn3
    have HW := Lib.hid (h'.below ((Below.refl _ w).alloc (Nat.le_refl _) (.cells #[.int .i64 s, .slice A n cap] 27)))
    go_enter Try.func20, Try.ntmps20
    go_wp2_with fail
    refine (l01Ok_any w.heap.size s A n cap xss _ (by go_cell) (by go_cell) (h.below (by go_grown)) hn HR.out).mono ?_
    rintro e w' ⟨rfl, m, rfl⟩
    go_wp2_with fail
    refine (l01Word_any w.heap.size A A' n cap l cap' xs _ (by go_cell) (HW.out.drewN _) hn1 hn3 hl).mono ?_
    rintro e w' ⟨rfl, m', rfl⟩
    go_wp2_with fail
    go_ret
    exact ⟨ret_bool (by simp), below_drewN' (by go_grown) _⟩

set_option maxHeartbeats 1000000 in
theorem implValidWord_any (s : Int) (A A' : Option Addr) (n cap l cap' : Nat) (xss : List (List Int)) (xs : List Int) (w : World) (h : RowsAt w A n xss) (h' : NumsAt w A' l xs) (hn : n ≤ 4611686018427387904) (hl : l ≤ 4611686018427387904)
    (hrows : ∀ (r : Nat) (xs : List Int), xss[r]? = some xs → xs.length ≤ 4611686018427387904) :
    Calls Try.prog 22 #[.agg #[.int .i64 s, .slice A n cap], .slice A' l cap'] w fun e w' => e = .returned (.bool (okA s xss && isWordB (n : Int) xs)) ∧ Below w.heap.size w w' := by
  have HR := Lib.hid hrows
  clear hrows
  rcases hok : okA s xss with _ | _
  · go_enter Try.func22, Try.ntmps22
    go_wp2_with fail
    refine (implValid_any s A n cap xss _ (h.below (by go_grown)) hn HR.out).mono ?_
    rintro e w1 ⟨rfl, b1⟩
    have B1 := Lib.hid (below_then ((Below.refl _ w).alloc (Nat.le_refl _) _) b1)
    clear b1
    go_wp2_with fail
    go_ret
    exact ⟨rfl, B1.out⟩
  · go_enter Try.func22, Try.ntmps22
    go_wp2_with fail
    refine (implValid_any s A n cap xss _ (h.below (by go_grown)) hn HR.out).mono ?_
    rintro e w1 ⟨rfl, b1⟩
    have d0 : w1.cell? ⟨w.heap.size, 0, none⟩ = some (.int .i64 s) := (b1.cell (by simp)).trans (by go_cell)
    have d1 : w1.cell? ⟨w.heap.size, 1, none⟩ = some (.slice A n cap) := (b1.cell (by simp)).trans (by go_cell)
    have B1 := Lib.hid (below_then ((Below.refl _ w).alloc (Nat.le_refl _) _) b1)
    clear b1
    go_wp2_with fail
    refine (isLetterList_any s A A' n cap l cap' xs _ (h'.below B1.out) hn hl).mono ?_
    rintro e w2 ⟨rfl, b2⟩
    have B2 := Lib.hid (below_then B1.out b2)
    clear b2
    go_wp2_with fail
    go_ret
    exact ⟨ret_bool (by simp), B2.out⟩

namespace fnExactValidWord
open Go.ChangeAt

set_option maxHeartbeats 4000000 in
set_option maxRecDepth 100000 in
theorem walk (s : Int) (A : Option Addr) (n cap : Nat) (xss : List (List Int)) (A' : Option Addr) (l cap' : Nat) (xs : List Int) (w : World) (h : RowsAt w A n xss) (hn : n ≤ 9223372036854775807) (hrows : ∀ (r : Nat) (xs : List Int), xss[r]? = some xs → xs.length ≤ 9223372036854775807)
    (h' : NumsAt w A' l xs) (hl : l ≤ maxLen) :
    Calls Try.prog 4 #[.agg #[.int .i64 s, .slice A n cap], .slice A' l cap'] w fun e w' => e = .returned (.bool true) ∧ Below w.heap.size w w' := by
  have HR := Lib.hid hrows
  have HL := Lib.hid h.1
  have hl9 : l ≤ 9223372036854775807 := hl
  clear hrows hl
  by_cases hbig : l ≤ 1048576
  · have hsmall : decide ((1048576 : Int) < (l : Int)) = false := by simp; omega
    have hl' : l ≤ 4611686018427387904 := by omega
    have HB := Lib.hid hbig
    clear hbig hl9
    go_enter Try.func4, Try.ntmps4
    go_wp2_with fail
    refine (szAutomaton_any s A n cap xss _ _ (h.below (by go_grown)) hn HR.out (by omega) (by omega)).mono ?_
    rintro e w1 ⟨r, rfl, hr, b1⟩
    have HS := Lib.hid hr
    have d0 : w1.cell? ⟨w.heap.size, 0, none⟩ = some (.int .i64 s) := (b1.cell (by simp)).trans (by go_cell)
    have d1 : w1.cell? ⟨w.heap.size, 1, none⟩ = some (.slice A n cap) := (b1.cell (by simp)).trans (by go_cell)
    have B1 := Lib.hid (below_then ((Below.refl _ w).alloc (Nat.le_refl _) _) b1)
    clear hr b1
    by_cases hneg : r < 0
    · go_wp2_with fail
      go_ret
      exact ⟨rfl, B1.out⟩
    · have HN := Lib.hid (sized_n HS.out hneg HL.out)
      have HR := Lib.hid (sized_rows HS.out hneg)
      have HW := Lib.hid (rows_wide HR.out)
      have hn' : n ≤ 4611686018427387904 := by have := HN.out; omega
      go_wp2_with fail
      refine (toAutomaton_any s A n cap xss _ (h.below B1.out) HN.out HR.out).mono ?_
      rintro e w2 ⟨rfl, g2, b2, z2⟩
      have R2 := Lib.hid (g2.rowsN HL.out)
      have B2 := Lib.hid (below_then B1.out b2)
      have m0 : w2.cell? ⟨w.heap.size, 0, none⟩ = some (.int .i64 s) := (b2.cell (cell_lt d0)).trans d0
      have m1 : w2.cell? ⟨w.heap.size, 1, none⟩ = some (.slice A n cap) := (b2.cell (cell_lt d1)).trans d1
      clear g2 b2 z2 d0 d1
      go_wp2_with fail
      refine (toInt64S_any _ _ _ _ _ (h'.below B2.out) HB.out).mono ?_
      rintro e w3 ⟨rfl, o3, b3, z3⟩
      have N3 := Lib.hid (NumsAt.own o3 h'.1 rfl)
      have R3 := Lib.hid (R2.out.below b3)
      have B3 := Lib.hid (below_then B2.out b3)
      have d0 : w3.cell? ⟨w.heap.size, 0, none⟩ = some (.int .i64 s) := (b3.cell (cell_lt m0)).trans m0
      have d1 : w3.cell? ⟨w.heap.size, 1, none⟩ = some (.slice A n cap) := (b3.cell (cell_lt m1)).trans m1
      clear o3 b3 z3 m0 m1
      go_wp2_with fail
      refine (specValidWord_any s _ _ n n l l xss xs _ R3.out N3.out hn' hl' HW.out).mono ?_
      rintro e w4 ⟨rfl, b4⟩
      obtain ⟨ans, hans⟩ : ∃ ans, ans = (okA s xss && isWordB (n : Int) xs) := ⟨_, rfl⟩
      have HANS := Lib.hid hans
      rw [← hans]
      have B4 := Lib.hid (below_then B3.out b4)
      have m0 : w4.cell? ⟨w.heap.size, 0, none⟩ = some (.int .i64 s) := (b4.cell (cell_lt d0)).trans d0
      have m1 : w4.cell? ⟨w.heap.size, 1, none⟩ = some (.slice A n cap) := (b4.cell (cell_lt d1)).trans d1
      clear b4 d0 d1 hans
      go_wp2_with fail
      refine (toAutomaton_any s A n cap xss _ (h.below B4.out) HN.out HR.out).mono ?_
      rintro e w5 ⟨rfl, g5, b5, z5⟩
      have R5 := Lib.hid (g5.rowsN HL.out)
      have B5 := Lib.hid (below_then B4.out b5)
      have d0 : w5.cell? ⟨w.heap.size, 0, none⟩ = some (.int .i64 s) := (b5.cell (cell_lt m0)).trans m0
      have d1 : w5.cell? ⟨w.heap.size, 1, none⟩ = some (.slice A n cap) := (b5.cell (cell_lt m1)).trans m1
      have hb5 : w.heap.size < w5.heap.size := cell_lt d0
      clear g5 b5 z5 m0 m1
      go_wp2_with fail
      obtain ⟨W6, hW6⟩ : ∃ W6, W6 = w5.alloc (.cells #[.int .i64 s, .slice (some ⟨w4.heap.size + 3, 0, none⟩) n n] 27) := ⟨_, rfl⟩
      rw [← hW6]
      have b6 : Below w5.heap.size w5 W6 := by rw [hW6]; go_grown
      have x0 : W6.cell? ⟨w5.heap.size, 0, none⟩ = some (.int .i64 s) := by rw [hW6]; go_cell
      have x1 : W6.cell? ⟨w5.heap.size, 1, none⟩ = some (.slice (some ⟨w4.heap.size + 3, 0, none⟩) n n) := by rw [hW6]; go_cell
      have m0 : W6.cell? ⟨w.heap.size, 0, none⟩ = some (.int .i64 s) := (b6.cell (cell_lt d0)).trans d0
      have m1 : W6.cell? ⟨w.heap.size, 1, none⟩ = some (.slice A n cap) := (b6.cell (cell_lt d1)).trans d1
      have R6 := Lib.hid (R5.out.below b6)
      have B6 := Lib.hid (below_then B5.out b6)
      clear d0 d1 hb5 hW6 b6
      refine (toInt64S_any _ _ _ _ _ (h'.below B6.out) HB.out).mono ?_
      rintro e w7 ⟨rfl, o7, b7, z7⟩
      have N7 := Lib.hid (NumsAt.own o7 h'.1 rfl)
      have R7 := Lib.hid (R6.out.below b7)
      have B7 := Lib.hid (below_then B6.out b7)
      have y0 : w7.cell? ⟨w5.heap.size, 0, none⟩ = some (.int .i64 s) := (b7.cell (cell_lt x0)).trans x0
      have y1 : w7.cell? ⟨w5.heap.size, 1, none⟩ = some (.slice (some ⟨w4.heap.size + 3, 0, none⟩) n n) := (b7.cell (cell_lt x1)).trans x1
      have d0 : w7.cell? ⟨w.heap.size, 0, none⟩ = some (.int .i64 s) := (b7.cell (cell_lt m0)).trans m0
      have d1 : w7.cell? ⟨w.heap.size, 1, none⟩ = some (.slice A n cap) := (b7.cell (cell_lt m1)).trans m1
      clear o7 b7 z7 x0 x1 m0 m1
      go_wp2_with fail
      refine (implValidWord_any s _ _ n n l l xss xs _ R7.out N7.out hn' hl' HW.out).mono ?_
      rw [← HANS.out]
      rintro e w8 ⟨rfl, b8⟩
      have N8 := Lib.hid (N7.out.below b8)
      have R8 := Lib.hid (R7.out.below b8)
      have B8 := Lib.hid (below_then B7.out b8)
      have x0 : w8.cell? ⟨w5.heap.size, 0, none⟩ = some (.int .i64 s) := (b8.cell (cell_lt y0)).trans y0
      have x1 : w8.cell? ⟨w5.heap.size, 1, none⟩ = some (.slice (some ⟨w4.heap.size + 3, 0, none⟩) n n) := (b8.cell (cell_lt y1)).trans y1
      have m0 : w8.cell? ⟨w.heap.size, 0, none⟩ = some (.int .i64 s) := (b8.cell (cell_lt d0)).trans d0
      have m1 : w8.cell? ⟨w.heap.size, 1, none⟩ = some (.slice A n cap) := (b8.cell (cell_lt d1)).trans d1
      clear b8 y0 y1 d0 d1
      go_wp2_with fail
      go_region_held3 (fun w' => w'.cell? ⟨w5.heap.size, 0, none⟩ = some (.int .i64 s) ∧ w'.cell? ⟨w5.heap.size, 1, none⟩ = some (.slice (some ⟨w4.heap.size + 3, 0, none⟩) n n) ∧ w'.cell? ⟨w.heap.size, 0, none⟩ = some (.int .i64 s) ∧ w'.cell? ⟨w.heap.size, 1, none⟩ = some (.slice A n cap)) (first | exact ⟨q0, q1, q2, q3⟩ | exact ⟨o0, o1, o2, o3⟩ | go_keep)
        (first
          | (go_at_call 17; refine (toAutomaton_any s A n cap xss _ (h.below (below_drewN' B8.out _)) HN.out HR.out).mono ?_; rintro e w9 ⟨rfl, g9, b9, z9⟩; have q0 := (b9.cell (p := ⟨w5.heap.size, 0, none⟩) (cell_lt x0)).trans x0; have q1 := (b9.cell (p := ⟨w5.heap.size, 1, none⟩) (cell_lt x1)).trans x1; have q2 := (b9.cell (p := ⟨w.heap.size, 0, none⟩) (cell_lt m0)).trans m0; have q3 := (b9.cell (p := ⟨w.heap.size, 1, none⟩) (cell_lt m1)).trans m1; have R9 := Lib.hid ((R8.out.drewN _).below b9); have N9 := Lib.hid ((N8.out.drewN _).below b9); have G9 := Lib.hid (g9.rowsN HL.out); have B9 := Lib.hid (below_then (below_drewN' B8.out _) b9); clear g9 b9 z9)
          | (go_at_call 19; refine (eqAutomaton_any s s _ _ n n n n xss xss _ R9.out G9.out hn' hn' HW.out HW.out).mono ?_; rw [sameA_t rfl rfl]; rintro e w10 ⟨rfl, b10⟩; have o0 := (b10.cell (p := ⟨w5.heap.size, 0, none⟩) (cell_lt q0)).trans q0; have o1 := (b10.cell (p := ⟨w5.heap.size, 1, none⟩) (cell_lt q1)).trans q1; have o2 := (b10.cell (p := ⟨w.heap.size, 0, none⟩) (cell_lt q2)).trans q2; have o3 := (b10.cell (p := ⟨w.heap.size, 1, none⟩) (cell_lt q3)).trans q3; have B10 := Lib.hid (below_then B9.out b10); have N10 := Lib.hid (N9.out.below b10); clear b10))
      go_wp2_with fail
      refine (toInt64S_any _ _ _ _ _ (h'.below B10.out) HB.out).mono ?_
      rintro e w11 ⟨rfl, o11, b11, z11⟩
      have N11 := Lib.hid (NumsAt.own o11 h'.1 rfl)
      have M11 := Lib.hid (N10.out.below b11)
      have B11 := Lib.hid (below_then B10.out b11)
      clear o11 b11 z11
      go_wp2_with fail
      refine (eqInt64S_any _ _ _ _ _ _ _ _ _ M11.out N11.out hl' hl').mono ?_
      rw [sameB_t rfl]
      rintro e w12 ⟨rfl, m12, rfl⟩
      go_wp2_with fail
      go_ret
      exact ⟨rfl, below_drewN' B11.out _⟩
  · have hbig' : (1048576 : Int) < (l : Int) := by omega
    go_enter Try.func4, Try.ntmps4
    go_wp2_with fail
    go_ret
    exact ⟨rfl, by go_grown⟩

set_option maxRecDepth 100000 in
theorem lifted (os : Os) (started : os.Started) (H : Type) (enc : TypeId × Value → H) :
    ReturnsInHanded {} Try.checked os 4 .any (Rows.fnExactValidWordSpec.pre6 enc Try.prog Try.f4 Rows.fnExactValidWordRow.domain false) (Rows.fnExactValidWordSpec.post enc Try.prog Try.f4 false true false false) := by
  refine returnsInHanded_of_change (C := Try.checked) own started (by kernel_rfl) Try.func4
    (ChangeSpec.witness6 (enc := enc) (C := Try.checked) false ⟨#[], #[.agg #[.int .i64 0, .slice none 0 0], .slice none 0 0], []⟩ 8 (by kernel_rfl) (by kernel_rfl) (by kernel_rfl) (by kernel_rfl)) ?_
  intro W base args ds gs before hval0 hW hcnd _
  have hval : ∀ (j : Nat) t v, Try.f4.params[j]? = some t → args[j]? = some v → Value.okWide Try.prog W .any base t v := hval0
  have hW' := hW
  obtain ⟨p, q, hA0, hV, rfl, hfz, hnd⟩ := hW
  have hA : DataW.TrodAll enc Try.prog W 0 (fun _ => true) true Try.f4.params.toList args.toList ds p := hA0
  rw [Try.params4] at hA hval
  obtain ⟨v0, vs0, d0, ds0, p0, q0, hargs, rfl, rfl, h0, r0⟩ := trodAll_cons hA
  obtain ⟨v1, vs1, d1, ds1, p1, q1, rfl, rfl, rfl, h1, r1⟩ := trodAll_cons r0
  obtain ⟨rfl, rfl, rfl⟩ := trodAll_nil r1
  obtain rfl : args = #[v0, v1] := by cases args; simp_all
  obtain ⟨rfl, rfl⟩ := trodVars_none hV
  have lt0 : ∀ x ∈ p0, x.block < W.heap.size := by obtain ⟨m, hm⟩ := h0; exact DataW.trod_lt m _ _ _ hm
  have k0 := h0
  obtain ⟨s0, a0, n0, c0, xs0, rfl, hr0, hn0, hw0⟩ := auto_of_trod (hval 0 24 v0 rfl rfl) h0
  have lt1 : ∀ x ∈ p1, x.block < W.heap.size := by obtain ⟨m, hm⟩ := h1; exact DataW.trod_lt m _ _ _ hm
  have k1 := h1
  obtain ⟨a1, n1, c1, rfl⟩ := okWide_slice Try.underlying31 (hval 1 31 v1 rfl rfl)
  obtain ⟨xs1, hr1, hn1⟩ := nums_of_trod h1
  clear hA0 hval0
  refine (walk s0 a0 n0 c0 xs0 a1 n1 c1 xs1 W hr0 hn0 hw0 hr1 hn1).mono fun e W' ⟨he, bel⟩ => ?_
  subst he
  exact ⟨_, rfl, _, _, _, [], _, [], hW', trodAll_mk1 (shut_bool Try.underlying4 _), (trodAll_cons_mk (Below.trod laidOut (by kernel_rfl) (of_decide_eq_true (by kernel_rfl)) k0 bel lt0) (trodAll_cons_mk (Below.trod laidOut (by kernel_rfl) (of_decide_eq_true (by kernel_rfl)) k1 bel lt1) trodAll_mk0)), rfl, bel.frame _, fun h => by cases h⟩

theorem over : Rows.fnExactValidWordRow.holds Try.pinned (OpenSpec.ofChange Rows.fnExactValidWordSpec) :=
  OpenClaim.holds_of_wide 4 Try.f4 rfl rfl rfl rfl rfl rfl rfl ⟨rfl, rfl, rfl, rfl, rfl⟩ rfl rfl rfl rfl rfl (by kernel_rfl) Try.func4 (by kernel_rfl)
    (of_decide_eq_true (by kernel_rfl)) (by unfold Func.isWrapper; first | (rw [if_pos (by decide +kernel)]; kernel_rfl) | (rw [if_neg (by decide +kernel)]; exact ⟨rfl, rfl⟩))
    (fun os started H enc _ => lifted os started H enc)

/-- The statement. -/
theorem proved : Rows.FnExactValidWordSaid := over
#print axioms proved
end fnExactValidWord
end Go.Proofs.Ytikhfdpmmkjnlaa
