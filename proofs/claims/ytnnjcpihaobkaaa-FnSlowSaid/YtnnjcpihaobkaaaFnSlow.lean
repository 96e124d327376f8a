/-
  FnSlow: for every choice of its arguments (bytes, bytes) the law returns true: the shortest reset word of a slow automaton with 2 to 9 states has (n - 1) * (n - 1) letters. No condition.
-/
import Derived.Test.YtnnjcpihaobkaaaA2
import Derived.Test.YtnnjcpihaobkaaaSlowW
import Derived.WalkSpells
namespace Go.Proofs.Ytnnjcpihaobkaaa
open Go.RowKit Go.Deep Go.ChangeShapes Go.WideShapes

namespace fnSlow
open Go.ChangeAt

set_option maxHeartbeats 8000000 in
set_option maxRecDepth 100000 in
theorem walk (A0 : Option Addr) (n0 c0 : Nat) (xs0 : List Int) (A1 : Option Addr) (n1 c1 : Nat) (xs1 : List Int) (w : World) (h0 : BytesAt w A0 n0 xs0) (_hn0 : n0 ≤ maxLen) (_h1 : BytesAt w A1 n1 xs1) (_hn1 : n1 ≤ maxLen) :
    Calls Try.prog 3 #[.slice A0 n0 c0, .slice A1 n1 c1] w fun e w' => e = .returned (.bool true) ∧ Below w.heap.size w w' := by
  go_enter Try.func3, Try.ntmps3
  go_wp2_with fail
  refine (a2Long_any A0 A1 n0 c0 n1 c1 w).mono ?_
  rintro e w1 ⟨rfl, rfl⟩
  rcases hlong : (decide (3000 < n0) || decide (3000 < n1)) with _ | _
  case true =>
    go_wp2_with fail
    go_ret
    exact ⟨rfl, Below.refl _ _⟩
  go_wp2_with fail
  refine (a2At_any A0 n0 c0 0 xs0 8 w1 h0 (by omega) (by omega) (by omega)).mono ?_
  rintro e w2 ⟨rfl, rfl⟩
  have hr := a2AtF_range (xs := xs0) (k := 0) (n := 8) (by omega)
  obtain ⟨N, hN⟩ : ∃ N : Nat, 2 + a2AtF xs0 0 8 = (N : Int) := ⟨(2 + a2AtF xs0 0 8).toNat, by omega⟩
  have hN2 : 2 ≤ N := by omega
  have hN9 : N ≤ 9 := by omega
  have hw : IntKind.i64.wrap (N : Int) = (N : Int) := IntWalk.i64_in _ (by omega)
  have HOK := Lib.hid (slow_ok hN2 hN9)
  have hin : inB 2 10 (N : Int) = true := by simp [inB]; omega
  have HIN := Lib.hid hin
  clear hr hlong hin
  go_wp2_with fail
  refine (implSlowAutomaton_any (N : Int) w2).mono ?_
  rintro e w3 ⟨v, rfl, t3, b3⟩
  rw [slowAutomaton_0 HIN.out] at t3 ⊢
  obtain ⟨A3, c3, rfl⟩ := TabIn.form t3
  have hrl : (rowsF N (slowF N) 2).length = 2 := rowsF_len _ _ _
  have HT3 := Lib.hid (show RowsAt w3 A3 2 (rowsF N (slowF N) 2) by have h9 := t3.rows rfl; dsimp only at h9; rwa [hrl] at h9)
  dsimp only
  rw [hrl]
  have B3 := Lib.hid b3
  clear t3 b3 hrl
  have hrows : ∀ (r : Nat) (xs : List Int), (rowsF N (slowF N) 2)[r]? = some xs → xs.length ≤ 4611686018427387904 := fun r xs hx => by
    have h1 := len_le_sum hx
    rw [rowsF_sum] at h1
    omega
  have HRW := Lib.hid hrows
  obtain ⟨W, hW, hWl, hWr⟩ := HOK.out.word
  have HWL := Lib.hid hWl
  have HWR := Lib.hid hWr
  have HWW := Lib.hid hW
  clear hrows hW hWl hWr
  go_wp2_with fail
  obtain ⟨w4, hw4⟩ : ∃ w4, w4 = w3.alloc (.cells #[.int .i64 (N : Int), .slice A3 2 c3] 27) := ⟨_, rfl⟩
  rw [← hw4]
  have b4 : Below w3.heap.size w3 w4 := by rw [hw4]; exact (Below.refl _ _).alloc (Nat.le_refl _) _
  have P0 := Lib.hid (show Box w4 w3.heap.size [.int .i64 (N : Int), .slice A3 2 c3] by rw [hw4]; exact Box.new _ _ _)
  have B4 := Lib.hid (below_then B3.out b4)
  have HT4 := Lib.hid (HT3.out.below b4)
  clear hw4 b4 HT3 B3
  refine (implShortestReset_any (N : Int) A3 2 c3 _ w4 HT4.out (by omega) HRW.out).mono ?_
  rintro e w5 ⟨v, rfl, ow, b5⟩
  rw [HWW.out] at ow ⊢
  dsimp only at ow ⊢
  obtain ⟨A5, c5, rfl⟩ := own_form ow
  have HNW := Lib.hid (show NumsAt w5 A5 W.length W from NumsAt.own ow rfl rfl)
  have B5 := Lib.hid (below_then B4.out b5)
  have P5 := Lib.hid (P0.out.below b5)
  have HT5 := Lib.hid (HT4.out.below b5)
  clear ow b5 HT4 B4
  have d0 := P5.out 0 _ rfl
  have d1 := P5.out 1 _ rfl
  go_wp2_with fail
  clear d0 d1
  have hWb : W.length ≤ 81 := by
    rw [HWL.out]
    exact Nat.mul_le_mul (show N - 1 ≤ 9 by omega) (show N - 1 ≤ 9 by omega)
  refine (implIsReset_any (N : Int) A3 2 c3 _ A5 W.length c5 W w5 HT5.out (by omega) HRW.out HNW.out (by omega)).mono ?_
  rintro e w6 ⟨rfl, b6⟩
  rw [HWR.out]
  dsimp only
  have B6 := Lib.hid (below_then B5.out b6)
  have d0 := (P5.out.below b6) 0 _ rfl
  clear b6
  have h1 : IntKind.i64.wrap ((N : Int) - 1) = (N : Int) - 1 := IntWalk.i64_in _ (by omega)
  obtain ⟨M, hM⟩ : ∃ M : Int, M = ((N : Int) - 1) * ((N : Int) - 1) := ⟨_, rfl⟩
  have hM2 : (W.length : Int) = M := by
    rw [HWL.out, hM, Int.natCast_mul]
    have e9 : ((N - 1 : Nat) : Int) = (N : Int) - 1 := by omega
    rw [e9]
  have h2 : IntKind.i64.wrap M = M := IntWalk.i64_in _ (by omega)
  have e1 : ((N : Int) - 1) * ((N : Int) - 1) = M := hM.symm
  have e2 : ((W.length : Int) == M) = true := by rw [hM2]; simp
  clear hM hM2 hWb
  go_wp2_with fail
  go_ret
  exact ⟨rfl, B6.out⟩

set_option maxRecDepth 100000 in
theorem lifted (os : Os) (started : os.Started) (H : Type) (enc : TypeId × Value → H) :
    ReturnsInHanded {} Try.checked os 3 .any (Rows.fnSlowSpec.pre6 enc Try.prog Try.f3 Rows.fnSlowRow.domain false) (Rows.fnSlowSpec.post enc Try.prog Try.f3 false true false false) := by
  refine returnsInHanded_of_change (C := Try.checked) own started (by kernel_rfl) Try.func3
    (ChangeSpec.witness6 (enc := enc) (C := Try.checked) false ⟨#[], #[.slice none 0 0, .slice none 0 0], []⟩ 8 (by kernel_rfl) (by kernel_rfl) (by kernel_rfl) (by kernel_rfl)) ?_
  intro W base args ds gs before hval0 hW hcnd _
  have hval : ∀ (j : Nat) t v, Try.f3.params[j]? = some t → args[j]? = some v → Value.okWide Try.prog W .any base t v := hval0
  have hW' := hW
  obtain ⟨p, q, hA0, hV, rfl, hfz, hnd⟩ := hW
  have hA : DataW.TrodAll enc Try.prog W 0 (fun _ => true) true Try.f3.params.toList args.toList ds p := hA0
  rw [Try.params3] at hA hval
  obtain ⟨v0, vs0, d0, ds0, p0, q0, hargs, rfl, rfl, h0, r0⟩ := trodAll_cons hA
  obtain ⟨v1, vs1, d1, ds1, p1, q1, rfl, rfl, rfl, h1, r1⟩ := trodAll_cons r0
  obtain ⟨rfl, rfl, rfl⟩ := trodAll_nil r1
  obtain rfl : args = #[v0, v1] := by cases args; simp_all
  obtain ⟨rfl, rfl⟩ := trodVars_none hV
  have lt0 : ∀ x ∈ p0, x.block < W.heap.size := by obtain ⟨m, hm⟩ := h0; exact DataW.trod_lt m _ _ _ hm
  have k0 := h0
  obtain ⟨a0, n0, c0, xs0, rfl, hr0, hn0⟩ := bytes_of_trod (hval 0 22 v0 rfl rfl) h0
  have lt1 : ∀ x ∈ p1, x.block < W.heap.size := by obtain ⟨m, hm⟩ := h1; exact DataW.trod_lt m _ _ _ hm
  have k1 := h1
  obtain ⟨a1, n1, c1, xs1, rfl, hr1, hn1⟩ := bytes_of_trod (hval 1 22 v1 rfl rfl) h1
  clear hA0 hval0
  refine (walk a0 n0 c0 xs0 a1 n1 c1 xs1 W hr0 hn0 hr1 hn1).mono fun e W' ⟨he, bel⟩ => ?_
  subst he
  exact ⟨_, rfl, _, _, _, [], _, [], hW', trodAll_mk1 (shut_bool Try.underlying4 _), (trodAll_cons_mk (Below.trod laidOut (by kernel_rfl) (of_decide_eq_true (by kernel_rfl)) k0 bel lt0) (trodAll_cons_mk (Below.trod laidOut (by kernel_rfl) (of_decide_eq_true (by kernel_rfl)) k1 bel lt1) trodAll_mk0)), rfl, bel.frame _, fun h => by cases h⟩

theorem over : Rows.fnSlowRow.holds Try.pinned (OpenSpec.ofChange Rows.fnSlowSpec) :=
  OpenClaim.holds_of_wide 3 Try.f3 rfl rfl rfl rfl rfl rfl rfl ⟨rfl, rfl, rfl, rfl, rfl⟩ rfl rfl rfl rfl rfl (by kernel_rfl) Try.func3 (by kernel_rfl)
    (of_decide_eq_true (by kernel_rfl)) (by unfold Func.isWrapper; first | (rw [if_pos (by decide +kernel)]; kernel_rfl) | (rw [if_neg (by decide +kernel)]; exact ⟨rfl, rfl⟩))
    (fun os started H enc _ => lifted os started H enc)

/-- The statement. -/
theorem proved : Rows.FnSlowSaid := over
#print axioms proved

end fnSlow
end Go.Proofs.Ytnnjcpihaobkaaa
