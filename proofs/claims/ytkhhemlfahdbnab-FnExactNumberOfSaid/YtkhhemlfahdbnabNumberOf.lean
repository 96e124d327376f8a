/-
  FnExactNumberOf: for all roads and every automaton the law returns true: NumberOf of the program and of the model give the same answer and code, and neither argument is written. No condition.
-/
import Derived.Test.YtkhhemlfahdbnabNumS
import Derived.Test.YtkhhemlfahdbnabNumI
import Derived.Test.YtkhhemlfahdbnabRoad
import Derived.Deep.DeepCutAuto
namespace Go.Proofs.Ytkhhemlfahdbnab
open Go.RowKit Go.Deep Go.ChangeShapes Go.WideShapes

namespace fnExactNumberOf
open Go.ChangeAt

/-- What the boxes of the two arguments hold, from the block B on. -/
structure Boxes (B : Nat) (s : Int) (A : Option Addr) (n cap : Nat) (s' : Int) (A' : Option Addr) (n' cap' : Nat) (w : World) : Prop where
  a0 : w.cell? ⟨B, 0, none⟩ = some (.int .i64 s)
  a1 : w.cell? ⟨B, 1, none⟩ = some (.slice A n cap)
  b0 : w.cell? ⟨B + 1, 0, none⟩ = some (.int .i64 s')
  b1 : w.cell? ⟨B + 1, 1, none⟩ = some (.slice A' n' cap')
theorem Boxes.below {B : Nat} {s : Int} {A : Option Addr} {n cap : Nat} {s' : Int} {A' : Option Addr} {n' cap' : Nat} {w w' : World} (h : Boxes B s A n cap s' A' n' cap' w) (hb : Below w.heap.size w w') : Boxes B s A n cap s' A' n' cap' w' :=
  ⟨(hb.cell (cell_lt h.a0)).trans h.a0, (hb.cell (cell_lt h.a1)).trans h.a1, (hb.cell (cell_lt h.b0)).trans h.b0, (hb.cell (cell_lt h.b1)).trans h.b1⟩

set_option maxHeartbeats 4000000 in
set_option maxRecDepth 100000 in
theorem walk (s : Int) (A : Option Addr) (n cap : Nat) (xss : List (List Int)) (s' : Int) (A' : Option Addr) (n' cap' : Nat) (yss : List (List Int)) (w : World) (h : RowsAt w A n xss) (hn : n ≤ 9223372036854775807) (hrows : ∀ (r : Nat) (xs : List Int), xss[r]? = some xs → xs.length ≤ 9223372036854775807)
    (h' : RowsAt w A' n' yss) (hn' : n' ≤ 9223372036854775807) (hrows' : ∀ (r : Nat) (xs : List Int), yss[r]? = some xs → xs.length ≤ 9223372036854775807) :
    Calls Try.prog 5 #[.agg #[.int .i64 s, .slice A n cap], .agg #[.int .i64 s', .slice A' n' cap']] w fun e w' => e = .returned (.bool true) ∧ Below w.heap.size w w' := by
  have HR := Lib.hid hrows
  have HR' := Lib.hid hrows'
  have HL := Lib.hid h.1
  have HL' := Lib.hid h'.1
  clear hrows hrows'
  go_enter Try.func5, Try.ntmps5
  go_wp2_with fail
  obtain ⟨W0, hW0⟩ : ∃ W0, W0 = (w.alloc (.cells #[.int .i64 s, .slice A n cap] 24)).alloc (.cells #[.int .i64 s', .slice A' n' cap'] 40) := ⟨_, rfl⟩
  rw [← hW0]
  have b0 : Below w.heap.size w W0 := by rw [hW0]; go_grown
  have X0 : Boxes w.heap.size s A n cap s' A' n' cap' W0 := by
    rw [hW0]
    exact ⟨by go_cell, by go_cell, by go_cell, by go_cell⟩
  have B0 := Lib.hid b0
  clear hW0 b0
  refine (szRoads_any s A n cap xss _ _ (h.below B0.out) hn HR.out (by omega) (by omega)).mono ?_
  rintro e w1 ⟨r, rfl, hr, b1⟩
  have HS := Lib.hid hr
  have X1 := X0.below b1
  have B1 := Lib.hid (below_then B0.out b1)
  clear hr b1 X0
  by_cases hneg : r < 0
  · go_wp2_with fail
    go_ret
    exact ⟨rfl, B1.out⟩
  · have HN := Lib.hid (sized_n HS.out hneg HL.out)
    have HR := Lib.hid (sized_rows HS.out hneg)
    have HW := Lib.hid (rows_wide HR.out)
    obtain ⟨hr0, hr1⟩ := sized_left HS.out hneg
    obtain ⟨i1, i2, i3, i4⟩ := X1
    go_wp2_with fail
    refine (szAutomaton_any s' A' n' cap' yss _ _ (h'.below B1.out) hn' HR'.out hr0 (by omega)).mono ?_
    rintro e w2 ⟨q, rfl, hq, b2⟩
    have HS' := Lib.hid hq
    have X2 := (Boxes.mk i1 i2 i3 i4).below b2
    have B2 := Lib.hid (below_then B1.out b2)
    clear hq b2 i1 i2 i3 i4
    by_cases hneg' : q < 0
    · go_wp2_with fail
      go_ret
      exact ⟨rfl, B2.out⟩
    · have HN' := Lib.hid (sized_n' HS'.out hr1 hneg' HL'.out)
      have HR' := Lib.hid (sized_rows' HS'.out hr1 hneg')
      have HW' := Lib.hid (rows_wide HR'.out)
      have hn1 : n ≤ 4611686018427387904 := by have := HN.out; omega
      have hn1' : n' ≤ 4611686018427387904 := by have := HN'.out; omega
      have HX := Lib.hid X2
      have rA : ∀ W', Below w2.heap.size w2 W' → W'.cell? ⟨w.heap.size, 0, none⟩ = some (.int .i64 s) := fun W' hb => (HX.out.below hb).a0
      have rB : ∀ W', Below w2.heap.size w2 W' → W'.cell? ⟨w.heap.size, 1, none⟩ = some (.slice A n cap) := fun W' hb => (HX.out.below hb).a1
      have rC : ∀ W', Below w2.heap.size w2 W' → W'.cell? ⟨w.heap.size + 1, 0, none⟩ = some (.int .i64 s') := fun W' hb => (HX.out.below hb).b0
      have rD : ∀ W', Below w2.heap.size w2 W' → W'.cell? ⟨w.heap.size + 1, 1, none⟩ = some (.slice A' n' cap') := fun W' hb => (HX.out.below hb).b1
      obtain ⟨LS, hLS⟩ : ∃ LS, LS = (numberOf s xss s' yss).1 := ⟨_, rfl⟩
      obtain ⟨CO, hCO⟩ : ∃ CO, CO = (numberOf s xss s' yss).2 := ⟨_, rfl⟩
      have HLS := Lib.hid hLS
      have HCO := Lib.hid hCO
      clear X2 hLS hCO
      go_upto_region 8 with fail
      go_cut [6, 7] (fun s6 s7 wx => s6 = .int .i64 LS ∧ s7 = .int .i64 CO ∧ Below w2.heap.size w2 wx)
      case first =>
        have hB : Below w2.heap.size w2 w2 := Below.refl _ _
        go_region_held3 (fun w' => Below w2.heap.size w2 w') (first | assumption | exact below_drewN' (Below.refl _ _) _ | exact below_drewN' hB _)
          (first
            | (go_at_call_of 15 (Value.agg #[Value.int IntKind.i64 s, Value.slice A n cap]); refine (toRoads_any s A n cap xss _ (h.below (below_then B2.out (by first | assumption | exact below_drewN' (Below.refl _ _) _))) HN.out HR.out).mono ?_; rintro e wA ⟨rfl, gA, bA, zA⟩; have BA : Below w2.heap.size w2 wA := below_then (by first | assumption | exact below_drewN' (Below.refl _ _) _) bA; have GA := Lib.hid (gA.rowsCN HL.out); have XA := Lib.hid bA; clear gA bA zA)
            | (go_at_call_of 26 (Value.agg #[Value.int IntKind.i64 s', Value.slice A' n' cap']); refine (toAutomaton_any s' A' n' cap' yss _ (h'.below (below_then B2.out (by first | assumption | exact below_drewN' (Below.refl _ _) _))) HN'.out HR'.out).mono ?_; rintro e wB ⟨rfl, gB, bB, zB⟩; have BB : Below w2.heap.size w2 wB := below_then (by first | assumption | exact below_drewN' (Below.refl _ _) _) bB; have GB := Lib.hid (gB.rowsN HL'.out); have XB := Lib.hid bB; clear gB bB zB)
            | (go_at_call 25; refine (specNumberOf_any s _ n n xss s' _ n' n' yss _ (by first | exact GA.out | exact GA.out.below XB.out) hn1 HW.out (by first | exact GB.out | exact GB.out.below XA.out) hn1' HW'.out).mono ?_; rw [← HLS.out, ← HCO.out]; rintro e wC ⟨rfl, bC⟩; have BC : Below w2.heap.size w2 wC := below_then (by assumption) bC; clear bC))
        all_goals (go_wp2_with fail; go_meet; exact ⟨rfl, rfl, by assumption⟩)
      case rest =>
        obtain ⟨rfl, rfl, hc⟩ := hcut
        go_wp2_with fail
        refine (toRoads_any s A n cap xss _ (h.below (below_then B2.out hc)) HN.out HR.out).mono ?_
        rintro e w3 ⟨rfl, g3, b3, z3⟩
        have hc3 : Below w2.heap.size w2 w3 := below_then hc b3
        have G3 := Lib.hid (g3.rowsCN HL.out)
        have hl3 : w.heap.size + 1 < w3.heap.size := cell_lt (rC w3 hc3)
        clear g3 b3 z3 hc
        go_wp2_with fail
        obtain ⟨W4, hW4⟩ : ∃ W4, W4 = w3.alloc (.cells #[.int .i64 s, .slice (some ⟨wc.heap.size + 3, 0, none⟩) n n] 28) := ⟨_, rfl⟩
        rw [← hW4]
        have b4 : Below w3.heap.size w3 W4 := by rw [hW4]; go_grown
        have x0 : W4.cell? ⟨w3.heap.size, 0, none⟩ = some (.int .i64 s) := by rw [hW4]; go_cell
        have x1 : W4.cell? ⟨w3.heap.size, 1, none⟩ = some (.slice (some ⟨wc.heap.size + 3, 0, none⟩) n n) := by rw [hW4]; go_cell
        have hc4 : Below w2.heap.size w2 W4 := below_then hc3 b4
        have G4 := Lib.hid (G3.out.below b4)
        clear hW4 b4 hc3 hl3
        refine (toAutomaton_any s' A' n' cap' yss _ (h'.below (below_then B2.out hc4)) HN'.out HR'.out).mono ?_
        rintro e w5 ⟨rfl, g5, b5, z5⟩
        have hc5 : Below w2.heap.size w2 w5 := below_then hc4 b5
        have G5 := Lib.hid (G4.out.below b5)
        have G5' := Lib.hid (g5.rowsN HL'.out)
        have y0 : w5.cell? ⟨w3.heap.size, 0, none⟩ = some (.int .i64 s) := (b5.cell (cell_lt x0)).trans x0
        have y1 : w5.cell? ⟨w3.heap.size, 1, none⟩ = some (.slice (some ⟨wc.heap.size + 3, 0, none⟩) n n) := (b5.cell (cell_lt x1)).trans x1
        have hl5 : w3.heap.size < w5.heap.size := cell_lt y0
        clear g5 b5 z5 hc4 x0 x1
        go_wp2_with fail
        obtain ⟨W6, hW6⟩ : ∃ W6, W6 = w5.alloc (.cells #[.int .i64 s', .slice (some ⟨W4.heap.size + 3, 0, none⟩) n' n'] 33) := ⟨_, rfl⟩
        rw [← hW6]
        have b6 : Below w5.heap.size w5 W6 := by rw [hW6]; go_grown
        have u0 : W6.cell? ⟨w5.heap.size, 0, none⟩ = some (.int .i64 s') := by rw [hW6]; go_cell
        have u1 : W6.cell? ⟨w5.heap.size, 1, none⟩ = some (.slice (some ⟨W4.heap.size + 3, 0, none⟩) n' n') := by rw [hW6]; go_cell
        have x0 : W6.cell? ⟨w3.heap.size, 0, none⟩ = some (.int .i64 s) := (b6.cell (cell_lt y0)).trans y0
        have x1 : W6.cell? ⟨w3.heap.size, 1, none⟩ = some (.slice (some ⟨wc.heap.size + 3, 0, none⟩) n n) := (b6.cell (cell_lt y1)).trans y1
        have hc6 : Below w2.heap.size w2 W6 := below_then hc5 b6
        have G6 := Lib.hid (G5.out.below b6)
        have G6' := Lib.hid (G5'.out.below b6)
        clear hW6 b6 hc5 hl5 y0 y1
        refine (implNumberOf_any s _ n n xss s' _ n' n' yss _ G6.out hn1 HW.out G6'.out hn1' HW'.out).mono ?_
        rw [← HLS.out, ← HCO.out]
        rintro e w7 ⟨rfl, b7⟩
        have hc7 : Below w2.heap.size w2 w7 := below_then hc6 b7
        have B7 := Lib.hid (below_then B2.out hc7)
        have G7 := Lib.hid (G6.out.below b7)
        have G7' := Lib.hid (G6'.out.below b7)
        have z0 : w7.cell? ⟨w3.heap.size, 0, none⟩ = some (.int .i64 s) := (b7.cell (cell_lt x0)).trans x0
        have z1 : w7.cell? ⟨w3.heap.size, 1, none⟩ = some (.slice (some ⟨wc.heap.size + 3, 0, none⟩) n n) := (b7.cell (cell_lt x1)).trans x1
        have z2 : w7.cell? ⟨w5.heap.size, 0, none⟩ = some (.int .i64 s') := (b7.cell (cell_lt u0)).trans u0
        have z3 : w7.cell? ⟨w5.heap.size, 1, none⟩ = some (.slice (some ⟨W4.heap.size + 3, 0, none⟩) n' n') := (b7.cell (cell_lt u1)).trans u1
        have sA : ∀ W', Below w7.heap.size w7 W' → W'.cell? ⟨w.heap.size, 0, none⟩ = some (.int .i64 s) := fun W' hb => rA W' (below_then hc7 hb)
        have sB : ∀ W', Below w7.heap.size w7 W' → W'.cell? ⟨w.heap.size, 1, none⟩ = some (.slice A n cap) := fun W' hb => rB W' (below_then hc7 hb)
        have sC : ∀ W', Below w7.heap.size w7 W' → W'.cell? ⟨w.heap.size + 1, 0, none⟩ = some (.int .i64 s') := fun W' hb => rC W' (below_then hc7 hb)
        have sD : ∀ W', Below w7.heap.size w7 W' → W'.cell? ⟨w.heap.size + 1, 1, none⟩ = some (.slice A' n' cap') := fun W' hb => rD W' (below_then hc7 hb)
        have pA : ∀ W', Below w7.heap.size w7 W' → W'.cell? ⟨w3.heap.size, 0, none⟩ = some (.int .i64 s) := fun W' hb => (hb.cell (cell_lt z0)).trans z0
        have pB : ∀ W', Below w7.heap.size w7 W' → W'.cell? ⟨w3.heap.size, 1, none⟩ = some (.slice (some ⟨wc.heap.size + 3, 0, none⟩) n n) := fun W' hb => (hb.cell (cell_lt z1)).trans z1
        have pC : ∀ W', Below w7.heap.size w7 W' → W'.cell? ⟨w5.heap.size, 0, none⟩ = some (.int .i64 s') := fun W' hb => (hb.cell (cell_lt z2)).trans z2
        have pD : ∀ W', Below w7.heap.size w7 W' → W'.cell? ⟨w5.heap.size, 1, none⟩ = some (.slice (some ⟨W4.heap.size + 3, 0, none⟩) n' n') := fun W' hb => (hb.cell (cell_lt z3)).trans z3
        have h7 : Below w7.heap.size w7 w7 := Below.refl _ _
        clear rA rB rC rD z0 z1 z2 z3 x0 x1 u0 u1 hc6 hc7 b7
        go_wp2_with fail
        go_region_held3 (fun w' => Below w7.heap.size w7 w') (first | assumption | exact below_drewN' (by assumption) _)
          (first
            | (go_at_call 15; refine (toRoads_any s A n cap xss _ (h.below (below_then B7.out (by first | assumption | exact below_drewN' (by assumption) _))) HN.out HR.out).mono ?_; rintro e wA ⟨rfl, gA, bA, zA⟩; have BA : Below w7.heap.size w7 wA := below_then (by first | assumption | exact below_drewN' (by assumption) _) bA; have GA := Lib.hid (gA.rowsCN HL.out); clear gA bA zA)
            | (go_at_call 17; refine (eqRoads_any s s _ _ n n n n xss xss _ (G7.out.below (by assumption)).rows GA.out.rows hn1 hn1 HW.out HW.out).mono ?_; rw [sameA_t rfl rfl]; rintro e wE ⟨rfl, bE⟩; have BE : Below w7.heap.size w7 wE := below_then (by assumption) bE; clear bE))
        clear h7
        go_wp2_with fail
        go_region_held3 (fun w' => Below w7.heap.size w7 w') (first | assumption | exact below_drewN' (by assumption) _)
          (first
            | (go_at_call 26; refine (toAutomaton_any s' A' n' cap' yss _ (h'.below (below_then B7.out (by first | assumption | exact below_drewN' (by assumption) _))) HN'.out HR'.out).mono ?_; rintro e wF ⟨rfl, gA, bA, zA⟩; have BF : Below w7.heap.size w7 wF := below_then (by first | assumption | exact below_drewN' (by assumption) _) bA; have GF := Lib.hid (gA.rowsN HL'.out); clear gA bA zA)
            | (go_at_call 20; refine (eqAutomaton_any s' s' _ _ n' n' n' n' yss yss _ (G7'.out.below (by assumption)) GF.out hn1' hn1' HW'.out HW'.out).mono ?_; rw [sameA_t rfl rfl]; rintro e wG ⟨rfl, bE⟩; have BG : Below w7.heap.size w7 wG := below_then (by assumption) bE; clear bE))
        go_wp2_with fail
        go_ret
        exact ⟨rfl, below_then B7.out BG⟩

set_option maxRecDepth 100000 in
theorem lifted (os : Os) (started : os.Started) (H : Type) (enc : TypeId × Value → H) :
    ReturnsInHanded {} Try.checked os 5 .any (Rows.fnExactNumberOfSpec.pre6 enc Try.prog Try.f5 Rows.fnExactNumberOfRow.domain false) (Rows.fnExactNumberOfSpec.post enc Try.prog Try.f5 false true false false) := by
  refine returnsInHanded_of_change (C := Try.checked) own started (by kernel_rfl) Try.func5
    (ChangeSpec.witness6 (enc := enc) (C := Try.checked) false ⟨#[], #[.agg #[.int .i64 0, .slice none 0 0], .agg #[.int .i64 0, .slice none 0 0]], []⟩ 8 (by kernel_rfl) (by kernel_rfl) (by kernel_rfl) (by kernel_rfl)) ?_
  intro W base args ds gs before hval0 hW hcnd _
  have hval : ∀ (j : Nat) t v, Try.f5.params[j]? = some t → args[j]? = some v → Value.okWide Try.prog W .any base t v := hval0
  have hW' := hW
  obtain ⟨p, q, hA0, hV, rfl, hfz, hnd⟩ := hW
  have hA : DataW.TrodAll enc Try.prog W 0 (fun _ => true) true Try.f5.params.toList args.toList ds p := hA0
  rw [Try.params5] at hA hval
  obtain ⟨v0, vs0, d0, ds0, p0, q0, hargs, rfl, rfl, h0, r0⟩ := trodAll_cons hA
  obtain ⟨v1, vs1, d1, ds1, p1, q1, rfl, rfl, rfl, h1, r1⟩ := trodAll_cons r0
  obtain ⟨rfl, rfl, rfl⟩ := trodAll_nil r1
  obtain rfl : args = #[v0, v1] := by cases args; simp_all
  obtain ⟨rfl, rfl⟩ := trodVars_none hV
  have lt0 : ∀ x ∈ p0, x.block < W.heap.size := by obtain ⟨m, hm⟩ := h0; exact DataW.trod_lt m _ _ _ hm
  have k0 := h0
  obtain ⟨s0, a0, n0, c0, xs0, rfl, hr0, hn0, hw0⟩ := road_of_trod (hval 0 24 v0 rfl rfl) h0
  have lt1 : ∀ x ∈ p1, x.block < W.heap.size := by obtain ⟨m, hm⟩ := h1; exact DataW.trod_lt m _ _ _ hm
  have k1 := h1
  obtain ⟨s1, a1, n1, c1, xs1, rfl, hr1, hn1, hw1⟩ := auto_of_trod (hval 1 40 v1 rfl rfl) h1
  clear hA0 hval0
  refine (walk s0 a0 n0 c0 xs0 s1 a1 n1 c1 xs1 W hr0 hn0 hw0 hr1 hn1 hw1).mono fun e W' ⟨he, bel⟩ => ?_
  subst he
  exact ⟨_, rfl, _, _, _, [], _, [], hW', trodAll_mk1 (shut_bool Try.underlying4 _), (trodAll_cons_mk (Below.trod laidOut (by kernel_rfl) (of_decide_eq_true (by kernel_rfl)) k0 bel lt0) (trodAll_cons_mk (Below.trod laidOut (by kernel_rfl) (of_decide_eq_true (by kernel_rfl)) k1 bel lt1) trodAll_mk0)), rfl, bel.frame _, fun h => by cases h⟩

theorem over : Rows.fnExactNumberOfRow.holds Try.pinned (OpenSpec.ofChange Rows.fnExactNumberOfSpec) :=
  OpenClaim.holds_of_wide 5 Try.f5 rfl rfl rfl rfl rfl rfl rfl ⟨rfl, rfl, rfl, rfl, rfl⟩ rfl rfl rfl rfl rfl (by kernel_rfl) Try.func5 (by kernel_rfl)
    (of_decide_eq_true (by kernel_rfl)) (by unfold Func.isWrapper; first | (rw [if_pos (by decide +kernel)]; kernel_rfl) | (rw [if_neg (by decide +kernel)]; exact ⟨rfl, rfl⟩))
    (fun os started H enc _ => lifted os started H enc)

/-- The statement. -/
theorem proved : Rows.FnExactNumberOfSaid := over
#print axioms proved

end fnExactNumberOf
end Go.Proofs.Ytkhhemlfahdbnab
