/-
  FnExactIsConnected: for every automaton the law returns true: both functions give the same answer and code, and the argument is not written. No condition.
-/
import Derived.Test.YtfkmpabohebcfaaConn
import Derived.WalkSpells
namespace Go.Proofs.Ytfkmpabohebcfaa
open Go.RowKit Go.Deep Go.ChangeShapes Go.WideShapes

namespace fnExactIsConnected
open Go.ChangeAt

set_option maxHeartbeats 8000000 in
set_option maxRecDepth 100000 in
theorem walk (s : Int) (A : Option Addr) (n cap : Nat) (xss : List (List Int)) (w : World) (h : RowsAt w A n xss) (hn : n ≤ 9223372036854775807) (hrows : ∀ (r : Nat) (xs : List Int), xss[r]? = some xs → xs.length ≤ 9223372036854775807) :
    Calls Try.prog 4 #[.agg #[.int .i64 s, .slice A n cap]] w fun e w' => e = .returned (.bool true) ∧ Below w.heap.size w w' := by
  have HR := Lib.hid hrows
  have HL := Lib.hid h.1
  clear hrows
  go_enter Try.func4, Try.ntmps4
  go_wp2_with fail
  refine (szAutomaton_any s A n cap xss _ _ (h.below (by go_grown)) hn HR.out (by omega) (by omega)).mono ?_
  rintro e w1 ⟨r, rfl, hr, b1⟩
  have HS := Lib.hid hr
  have d0 : w1.cell? ⟨w.heap.size, 0, none⟩ = some (.int .i64 s) := (b1.cell (by simp)).trans (by go_cell)
  have d1 : w1.cell? ⟨w.heap.size, 1, none⟩ = some (.slice A n cap) := (b1.cell (by simp)).trans (by go_cell)
  have B1 := Lib.hid (below_then ((Below.refl _ w).alloc (Nat.le_refl _) _) b1)
  clear hr b1
  by_cases hneg : r < 0
  · go_wp2_with fail
    go_ret
    exact ⟨rfl, B1.out⟩
  · have HN := Lib.hid (sized_n HS.out hneg HL.out)
    have HR := Lib.hid (sized_rows HS.out hneg)
    have HW := Lib.hid (rows_wide HR.out)
    have HSUM := Lib.hid (sized_sum HS.out (by omega) hneg)
    have hn' : n ≤ 4611686018427387904 := by have := HN.out; omega
    obtain ⟨BO, hLS⟩ : ∃ BO, BO = (isConn s xss).1 := ⟨_, rfl⟩
    obtain ⟨CO, hCO⟩ : ∃ CO, CO = (isConn s xss).2 := ⟨_, rfl⟩
    have HLS := Lib.hid hLS
    have HCO := Lib.hid hCO
    have rA : ∀ W', Below w1.heap.size w1 W' → W'.cell? ⟨w.heap.size, 0, none⟩ = some (.int .i64 s) := fun W' hb => (hb.cell (cell_lt d0)).trans d0
    have rB : ∀ W', Below w1.heap.size w1 W' → W'.cell? ⟨w.heap.size, 1, none⟩ = some (.slice A n cap) := fun W' hb => (hb.cell (cell_lt d1)).trans d1
    have c1 : Below w1.heap.size w1 w1 := Below.refl _ _
    have hlt1 : w.heap.size < w1.heap.size := cell_lt d0
    have HLT := Lib.hid hlt1
    clear hLS hCO d0 d1 hlt1
    -- the model's answer
    go_wp2_with fail
    refine (toAutomaton_any s A n cap xss _ (h.below (below_then B1.out c1)) HN.out HR.out).mono ?_
    rintro e w2 ⟨rfl, g2, b2, z2⟩
    have c2 : Below w1.heap.size w1 w2 := below_then c1 b2
    have R := Lib.hid (g2.rowsN HL.out)
    clear g2 b2 z2 c1
    go_wp2_with fail
    refine (specIsConnected_any s _ n n xss _ R.out hn' HW.out).mono ?_
    rw [← HLS.out, ← HCO.out]
    rintro e w4 ⟨rfl, b4⟩
    have c4 : Below w1.heap.size w1 w4 := below_then c2 b4
    clear b4 c2
    -- the program's arguments
    go_wp2_with fail
    refine (toAutomaton_any s A n cap xss _ (h.below (below_then B1.out c4)) HN.out HR.out).mono ?_
    rintro e w5 ⟨rfl, g5, b5, z5⟩
    have c5 : Below w1.heap.size w1 w5 := below_then c4 b5
    have XG := Lib.hid g5
    have S5 := Lib.hid z5
    have hlt5 : w.heap.size < w5.heap.size := Nat.lt_of_lt_of_le HLT.out c5.size
    clear g5 b5 z5 c4
    go_wp2_with fail
    obtain ⟨W6, hW6⟩ : ∃ W6, W6 = w5.alloc (.cells #[.int .i64 s, .slice (some ⟨w4.heap.size + 3, 0, none⟩) n n] 29) := ⟨_, rfl⟩
    rw [← hW6]
    have b6 : Below w5.heap.size w5 W6 := by rw [hW6]; go_grown
    have p0 : W6.cell? ⟨w5.heap.size, 0, none⟩ = some (.int .i64 s) := by rw [hW6]; go_cell
    have p1 : W6.cell? ⟨w5.heap.size, 1, none⟩ = some (.slice (some ⟨w4.heap.size + 3, 0, none⟩) n n) := by rw [hW6]; go_cell
    have S6 := Lib.hid (show W6.heap.size = w5.heap.size + 1 by rw [hW6]; simp)
    have c6 : Below w1.heap.size w1 W6 := below_then c5 b6
    have XG := Lib.hid (XG.out.below b6)
    have rC : ∀ W', Below W6.heap.size W6 W' → W'.cell? ⟨w5.heap.size, 0, none⟩ = some (.int .i64 s) := fun W' hb => (hb.cell (cell_lt p0)).trans p0
    have rD : ∀ W', Below W6.heap.size W6 W' → W'.cell? ⟨w5.heap.size, 1, none⟩ = some (.slice (some ⟨w4.heap.size + 3, 0, none⟩) n n) := fun W' hb => (hb.cell (cell_lt p1)).trans p1
    clear hW6 b6 c5 p0 p1 hlt5
    refine (implIsConnected_any s _ n n xss _ (XG.out.rowsN HL.out) hn' HW.out).mono ?_
    rw [← HLS.out, ← HCO.out]
    rintro e w9 ⟨rfl, b9⟩
    have c9 : Below w1.heap.size w1 w9 := below_then c6 b9
    have x9 : Below W6.heap.size W6 w9 := b9
    have z9 : Below w9.heap.size w9 w9 := Below.refl _ _
    have XG := Lib.hid (XG.out.below b9)
    have rA9 : ∀ W', Below w9.heap.size w9 W' → W'.cell? ⟨w.heap.size, 0, none⟩ = some (.int .i64 s) := fun W' hb => rA W' (below_then c9 hb)
    have rB9 : ∀ W', Below w9.heap.size w9 W' → W'.cell? ⟨w.heap.size, 1, none⟩ = some (.slice A n cap) := fun W' hb => rB W' (below_then c9 hb)
    have rC9 : ∀ W', Below w9.heap.size w9 W' → W'.cell? ⟨w5.heap.size, 0, none⟩ = some (.int .i64 s) := fun W' hb => rC W' (below_then x9 hb)
    have rD9 : ∀ W', Below w9.heap.size w9 W' → W'.cell? ⟨w5.heap.size, 1, none⟩ = some (.slice (some ⟨w4.heap.size + 3, 0, none⟩) n n) := fun W' hb => rD W' (below_then x9 hb)
    have C9 := Lib.hid c9
    clear b9 c6 rA rB rC rD c9 x9
    go_wp2_with fail
    -- the arguments are as they were
    go_region_held3 (fun w' => Below w9.heap.size w9 w') (first | assumption | exact below_drewN' (by assumption) _)
      (first
        | (go_at_call 17; refine (toAutomaton_any s A n cap xss _ (h.below (below_then B1.out (below_then C9.out (by first | assumption | exact below_drewN' (by assumption) _)))) HN.out HR.out).mono ?_; rintro e wa ⟨rfl, ga, ba, za⟩; have za9 : Below w9.heap.size w9 wa := below_then (by first | assumption | exact below_drewN' (by assumption) _) ba; have GA := Lib.hid (ga.rowsN HL.out); clear ga ba za)
        | (go_at_call 20; refine (eqAutomaton_any s s _ _ n n n n xss xss _ ((XG.out.below za9).rowsN HL.out) GA.out hn' hn' HW.out HW.out).mono ?_; rw [sameA_t rfl rfl]; rintro e we ⟨rfl, be⟩; have ze9 : Below w9.heap.size w9 we := below_then za9 be; clear be))
    have N9 := Lib.hid (below_then B1.out C9.out)
    have XG := Lib.hid (XG.out.below ze9)
    clear z9 za9
    go_wp2_with fail
    go_ret
    exact ⟨rfl, below_then N9.out ze9⟩

set_option maxRecDepth 100000 in
theorem lifted (os : Os) (started : os.Started) (H : Type) (enc : TypeId × Value → H) :
    ReturnsInHanded {} Try.checked os 4 .any (Rows.fnExactIsConnectedSpec.pre6 enc Try.prog Try.f4 Rows.fnExactIsConnectedRow.domain false) (Rows.fnExactIsConnectedSpec.post enc Try.prog Try.f4 false true false false) := by
  refine returnsInHanded_of_change (C := Try.checked) own started (by kernel_rfl) Try.func4
    (ChangeSpec.witness6 (enc := enc) (C := Try.checked) false ⟨#[], #[.agg #[.int .i64 0, .slice none 0 0]], []⟩ 8 (by kernel_rfl) (by kernel_rfl) (by kernel_rfl) (by kernel_rfl)) ?_
  intro W base args ds gs before hval0 hW hcnd _
  have hval : ∀ (j : Nat) t v, Try.f4.params[j]? = some t → args[j]? = some v → Value.okWide Try.prog W .any base t v := hval0
  have hW' := hW
  obtain ⟨p, q, hA0, hV, rfl, hfz, hnd⟩ := hW
  have hA : DataW.TrodAll enc Try.prog W 0 (fun _ => true) true Try.f4.params.toList args.toList ds p := hA0
  rw [Try.params4] at hA hval
  obtain ⟨v0, vs0, d0, ds0, p0, q0, hargs, rfl, rfl, h0, r0⟩ := trodAll_cons hA
  obtain ⟨rfl, rfl, rfl⟩ := trodAll_nil r0
  obtain rfl : args = #[v0] := by cases args; simp_all
  obtain ⟨rfl, rfl⟩ := trodVars_none hV
  have lt0 : ∀ x ∈ p0, x.block < W.heap.size := by obtain ⟨m, hm⟩ := h0; exact DataW.trod_lt m _ _ _ hm
  have k0 := h0
  obtain ⟨s0, a0, n0, c0, xs0, rfl, hr0, hn0, hw0⟩ := auto_of_trod (hval 0 24 v0 rfl rfl) h0
  clear hA0 hval0
  refine (walk s0 a0 n0 c0 xs0 W hr0 hn0 hw0).mono fun e W' ⟨he, bel⟩ => ?_
  subst he
  exact ⟨_, rfl, _, _, _, [], _, [], hW', trodAll_mk1 (shut_bool Try.underlying4 _), (trodAll_cons_mk (Below.trod laidOut (by kernel_rfl) (of_decide_eq_true (by kernel_rfl)) k0 bel lt0) trodAll_mk0), rfl, bel.frame _, fun h => by cases h⟩

theorem over : Rows.fnExactIsConnectedRow.holds Try.pinned (OpenSpec.ofChange Rows.fnExactIsConnectedSpec) :=
  OpenClaim.holds_of_wide 4 Try.f4 rfl rfl rfl rfl rfl rfl rfl ⟨rfl, rfl, rfl, rfl, rfl⟩ rfl rfl rfl rfl rfl (by kernel_rfl) Try.func4 (by kernel_rfl)
    (of_decide_eq_true (by kernel_rfl)) (by unfold Func.isWrapper; first | (rw [if_pos (by decide +kernel)]; kernel_rfl) | (rw [if_neg (by decide +kernel)]; exact ⟨rfl, rfl⟩))
    (fun os started H enc _ => lifted os started H enc)

/-- The statement. -/
theorem proved : Rows.FnExactIsConnectedSaid := over
#print axioms proved

end fnExactIsConnected
end Go.Proofs.Ytfkmpabohebcfaa
