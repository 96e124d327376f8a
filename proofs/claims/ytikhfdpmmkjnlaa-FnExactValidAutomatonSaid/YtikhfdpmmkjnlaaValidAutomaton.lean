/-
  FnExactValidAutomaton: for every automaton the law returns true: ValidAutomaton of the program and of the model give the same answer, and the argument is not written. No condition.
-/
import Derived.Test.YtikhfdpmmkjnlaaValid
namespace Go.Proofs.Ytikhfdpmmkjnlaa
open Go.RowKit Go.Deep Go.ChangeShapes Go.WideShapes

theorem specValid_any (s : Int) (A : Option Addr) (n cap : Nat) (xss : List (List Int)) (w : World) (h : RowsAt w A n xss) (hn : n ≤ 4611686018427387904)
    (hrows : ∀ (r : Nat) (xs : List Int), xss[r]? = some xs → xs.length ≤ 4611686018427387904) :
    Calls Try.prog 16 #[.agg #[.int .i64 s, .slice A n cap]] w fun e w' => e = .returned (.bool (okA s xss)) ∧ Below w.heap.size w w' := by
  have HR := Lib.hid hrows
  clear hrows
  go_enter Try.func16, Try.ntmps16
  go_wp2_with fail
  refine (l01Ok_any w.heap.size s A n cap xss _ (by go_cell) (by go_cell) (h.below (by go_grown)) hn HR.out).mono ?_
  rintro e w' ⟨rfl, m, rfl⟩
  go_wp2_with fail
  go_ret
  exact ⟨rfl, below_drewN' (by go_grown) _⟩

namespace fnExactValidAutomaton
open Go.ChangeAt

set_option maxHeartbeats 2000000 in
set_option maxRecDepth 100000 in
theorem walk (s : Int) (A : Option Addr) (n cap : Nat) (xss : List (List Int)) (w : World) (h : RowsAt w A n xss) (hn : n ≤ 9223372036854775807) (hrows : ∀ (r : Nat) (xs : List Int), xss[r]? = some xs → xs.length ≤ 9223372036854775807) :
    Calls Try.prog 3 #[.agg #[.int .i64 s, .slice A n cap]] w fun e w' => e = .returned (.bool true) ∧ Below w.heap.size w w' := by
  have HR := Lib.hid hrows
  have HL := Lib.hid h.1
  clear hrows
  go_enter Try.func3, Try.ntmps3
  go_wp2_with fail
  refine (szAutomaton_any s A n cap xss _ _ (h.below (by go_grown)) hn HR.out (by omega) (by omega)).mono ?_
  rintro e w1 ⟨r, rfl, hr, b1⟩
  have HS := Lib.hid hr
  have d0 : w1.cell? ⟨w.heap.size, 0, none⟩ = some (.int .i64 s) := (b1.cell (by simp)).trans (by go_cell)
  have d1 : w1.cell? ⟨w.heap.size, 1, none⟩ = some (.slice A n cap) := (b1.cell (by simp)).trans (by go_cell)
  have B1 := Lib.hid (((Below.refl _ w).alloc (Nat.le_refl _) _).trans (b1.mono (by simp)))
  have Z1 := Lib.hid b1.size
  clear hr b1
  by_cases hneg : r < 0
  · go_wp2_with fail
    go_ret
    exact ⟨rfl, B1.out⟩
  · have HN := Lib.hid (sized_n HS.out hneg HL.out)
    have HR := Lib.hid (sized_rows HS.out hneg)
    have HW := Lib.hid (rows_wide HR.out)
    have hn' : n ≤ 4611686018427387904 := by have := HN.out; omega
    go_wp2_with fail
    refine (toAutomaton_any s A n cap xss _ (h.below B1.out) HN.out HR.out).mono ?_
    rintro e w2 ⟨rfl, g2, b2, z2⟩
    have R2 := Lib.hid (g2.rowsN HL.out)
    have B2 := Lib.hid (below_then B1.out b2)
    have m0 : w2.cell? ⟨w.heap.size, 0, none⟩ = some (.int .i64 s) := (b2.cell (cell_lt d0)).trans d0
    have m1 : w2.cell? ⟨w.heap.size, 1, none⟩ = some (.slice A n cap) := (b2.cell (cell_lt d1)).trans d1
    clear g2 b2 z2 d0 d1
    go_wp2_with fail
    refine (specValid_any s _ n n xss _ R2.out hn' HW.out).mono ?_
    rintro e w3 ⟨rfl, b3⟩
    have B3 := Lib.hid (below_then B2.out b3)
    have d0 : w3.cell? ⟨w.heap.size, 0, none⟩ = some (.int .i64 s) := (b3.cell (cell_lt m0)).trans m0
    have d1 : w3.cell? ⟨w.heap.size, 1, none⟩ = some (.slice A n cap) := (b3.cell (cell_lt m1)).trans m1
    clear b3 m0 m1
    go_wp2_with fail
    refine (toAutomaton_any s A n cap xss _ (h.below B3.out) HN.out HR.out).mono ?_
    rintro e w4 ⟨rfl, g4, b4, z4⟩
    have R4 := Lib.hid (g4.rowsN HL.out)
    have B4 := Lib.hid (below_then B3.out b4)
    have m0 : w4.cell? ⟨w.heap.size, 0, none⟩ = some (.int .i64 s) := (b4.cell (cell_lt d0)).trans d0
    have m1 : w4.cell? ⟨w.heap.size, 1, none⟩ = some (.slice A n cap) := (b4.cell (cell_lt d1)).trans d1
    have hb4 : w.heap.size < w4.heap.size := cell_lt m0
    clear g4 b4 z4 d0 d1
    go_wp2_with fail
    obtain ⟨W5, hW5⟩ : ∃ W5, W5 = w4.alloc (.cells #[.int .i64 s, .slice (some ⟨w3.heap.size + 3, 0, none⟩) n n] 27) := ⟨_, rfl⟩
    rw [← hW5]
    have b5 : Below w4.heap.size w4 W5 := by rw [hW5]; go_grown
    have x0 : W5.cell? ⟨w4.heap.size, 0, none⟩ = some (.int .i64 s) := by rw [hW5]; go_cell
    have x1 : W5.cell? ⟨w4.heap.size, 1, none⟩ = some (.slice (some ⟨w3.heap.size + 3, 0, none⟩) n n) := by rw [hW5]; go_cell
    have d0 : W5.cell? ⟨w.heap.size, 0, none⟩ = some (.int .i64 s) := (b5.cell (cell_lt m0)).trans m0
    have d1 : W5.cell? ⟨w.heap.size, 1, none⟩ = some (.slice A n cap) := (b5.cell (cell_lt m1)).trans m1
    have R5 := Lib.hid (R4.out.below b5)
    have B5 := Lib.hid (below_then B4.out b5)
    clear m0 m1 hb4 hW5 b5
    refine (implValid_any s _ n n xss _ R5.out hn' HW.out).mono ?_
    rintro e w6 ⟨rfl, b6⟩
    have R6 := Lib.hid (R5.out.below b6)
    have B6 := Lib.hid (below_then B5.out b6)
    have y0 : w6.cell? ⟨w4.heap.size, 0, none⟩ = some (.int .i64 s) := (b6.cell (cell_lt x0)).trans x0
    have y1 : w6.cell? ⟨w4.heap.size, 1, none⟩ = some (.slice (some ⟨w3.heap.size + 3, 0, none⟩) n n) := (b6.cell (cell_lt x1)).trans x1
    have m0 : w6.cell? ⟨w.heap.size, 0, none⟩ = some (.int .i64 s) := (b6.cell (cell_lt d0)).trans d0
    have m1 : w6.cell? ⟨w.heap.size, 1, none⟩ = some (.slice A n cap) := (b6.cell (cell_lt d1)).trans d1
    clear x0 x1 d0 d1 b6
    go_wp2_with fail

    go_region_held3 (fun w' => w'.cell? ⟨w4.heap.size, 0, none⟩ = some (.int .i64 s) ∧ w'.cell? ⟨w4.heap.size, 1, none⟩ = some (.slice (some ⟨w3.heap.size + 3, 0, none⟩) n n) ∧ w'.cell? ⟨w.heap.size, 0, none⟩ = some (.int .i64 s) ∧ w'.cell? ⟨w.heap.size, 1, none⟩ = some (.slice A n cap)) (first | exact ⟨q0, q1, q2, q3⟩ | exact ⟨o0, o1, o2, o3⟩ | go_keep)
      (first
        | (go_at_call 17; refine (toAutomaton_any s A n cap xss _ (h.below (below_drewN' B6.out _)) HN.out HR.out).mono ?_; rintro e w7 ⟨rfl, g7, b7, z7⟩; have q0 := (b7.cell (p := ⟨w4.heap.size, 0, none⟩) (cell_lt y0)).trans y0; have q1 := (b7.cell (p := ⟨w4.heap.size, 1, none⟩) (cell_lt y1)).trans y1; have q2 := (b7.cell (p := ⟨w.heap.size, 0, none⟩) (cell_lt m0)).trans m0; have q3 := (b7.cell (p := ⟨w.heap.size, 1, none⟩) (cell_lt m1)).trans m1; have R7 := Lib.hid ((R6.out.drewN _).below b7); have G7 := Lib.hid (g7.rowsN HL.out); have B7 := Lib.hid (below_then (below_drewN' B6.out _) b7); clear g7 b7 z7)
        | (go_at_call 19; refine (eqAutomaton_any s s _ _ n n n n xss xss _ R7.out G7.out hn' hn' HW.out HW.out).mono ?_; rw [sameA_t rfl rfl]; rintro e w8 ⟨rfl, b8⟩; have o0 := (b8.cell (p := ⟨w4.heap.size, 0, none⟩) (cell_lt q0)).trans q0; have o1 := (b8.cell (p := ⟨w4.heap.size, 1, none⟩) (cell_lt q1)).trans q1; have o2 := (b8.cell (p := ⟨w.heap.size, 0, none⟩) (cell_lt q2)).trans q2; have o3 := (b8.cell (p := ⟨w.heap.size, 1, none⟩) (cell_lt q3)).trans q3; have B8 := Lib.hid (below_then B7.out b8); clear b8))
    go_wp2_with fail
    go_ret
    exact ⟨rfl, B8.out⟩

set_option maxRecDepth 100000 in
theorem lifted (os : Os) (started : os.Started) (H : Type) (enc : TypeId × Value → H) :
    ReturnsInHanded {} Try.checked os 3 .any (Rows.fnExactValidAutomatonSpec.pre6 enc Try.prog Try.f3 Rows.fnExactValidAutomatonRow.domain false) (Rows.fnExactValidAutomatonSpec.post enc Try.prog Try.f3 false true false false) := by
  refine returnsInHanded_of_change (C := Try.checked) own started (by kernel_rfl) Try.func3
    (ChangeSpec.witness6 (enc := enc) (C := Try.checked) false ⟨#[], #[.agg #[.int .i64 0, .slice none 0 0]], []⟩ 8 (by kernel_rfl) (by kernel_rfl) (by kernel_rfl) (by kernel_rfl)) ?_
  intro W base args ds gs before hval0 hW hcnd _
  have hval : ∀ (j : Nat) t v, Try.f3.params[j]? = some t → args[j]? = some v → Value.okWide Try.prog W .any base t v := hval0
  have hW' := hW
  obtain ⟨p, q, hA0, hV, rfl, hfz, hnd⟩ := hW
  have hA : DataW.TrodAll enc Try.prog W 0 (fun _ => true) true Try.f3.params.toList args.toList ds p := hA0
  rw [Try.params3] at hA hval
  obtain ⟨v0, vs0, d0, ds0, p0, q0, hargs, rfl, rfl, h0, r0⟩ := trodAll_cons hA
  obtain ⟨rfl, rfl, rfl⟩ := trodAll_nil r0
  obtain rfl : args = #[v0] := by cases args; simp_all
  obtain ⟨rfl, rfl⟩ := trodVars_none hV
  have lt0 : ∀ x ∈ p0, x.block < W.heap.size := by obtain ⟨m, hm⟩ := h0; exact DataW.trod_lt m _ _ _ hm
  have k0 := h0
  obtain ⟨s0, a0, n0, c0, xs0, rfl, hr0, hn0, hw0⟩ := auto_of_trod (hval 0 24 v0 rfl rfl) h0
  clear hA0 hval0
  refine (walk s0 a0 n0 c0 xs0 W hr0 hn0 hw0).mono fun e W' ⟨he, bel⟩ => ?_
  subst he
  exact ⟨_, rfl, _, _, _, [], _, [], hW', trodAll_mk1 (shut_bool Try.underlying4 _), (trodAll_cons_mk (Below.trod laidOut (by kernel_rfl) (of_decide_eq_true (by kernel_rfl)) k0 bel lt0) trodAll_mk0), rfl, bel.frame _, fun h => by cases h⟩

theorem over : Rows.fnExactValidAutomatonRow.holds Try.pinned (OpenSpec.ofChange Rows.fnExactValidAutomatonSpec) :=
  OpenClaim.holds_of_wide 3 Try.f3 rfl rfl rfl rfl rfl rfl rfl ⟨rfl, rfl, rfl, rfl, rfl⟩ rfl rfl rfl rfl rfl (by kernel_rfl) Try.func3 (by kernel_rfl)
    (of_decide_eq_true (by kernel_rfl)) (by unfold Func.isWrapper; first | (rw [if_pos (by decide +kernel)]; kernel_rfl) | (rw [if_neg (by decide +kernel)]; exact ⟨rfl, rfl⟩))
    (fun os started H enc _ => lifted os started H enc)

/-- The statement. -/
theorem proved : Rows.FnExactValidAutomatonSaid := over
#print axioms proved

end fnExactValidAutomaton
end Go.Proofs.Ytikhfdpmmkjnlaa
