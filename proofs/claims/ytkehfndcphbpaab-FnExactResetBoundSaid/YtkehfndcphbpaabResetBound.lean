/-
  FnExactResetBound: for every number the law returns true: both functions give the same bound and code. No condition.
-/
import Derived.Test.YtkehfndcphbpaabLaw
import Derived.WalkSpells
namespace Go.Proofs.Ytkehfndcphbpaab
open Go.RowKit Go.Deep Go.ChangeShapes Go.WideShapes

def boundOf (x : Int) : Int × Int := if inB 1 10 x = true then (((x - 1) * x * (x - 1)).tdiv 2, 0) else (0, 2)
theorem boundOf_2 {x : Int} (h : inB 1 10 x = false) : boundOf x = (0, 2) := by unfold boundOf; rw [if_neg (by simp [h])]
theorem boundOf_0 {x : Int} (h : inB 1 10 x = true) : boundOf x = (((x - 1) * x * (x - 1)).tdiv 2, 0) := by unfold boundOf; rw [if_pos h]
theorem two_ints {r : Int × Int} {b c : Int} (h : r = (b, c)) : Ending.returned (.tuple #[.int .i64 b, .int .i64 c]) = .returned (.tuple #[.int .i64 r.1, .int .i64 r.2]) := by rw [h]

theorem specBound_any (x : Int) (w : World) : Calls Try.prog 47 #[.int .i64 x] w fun e w' => e = .returned (.tuple #[.int .i64 (boundOf x).1, .int .i64 (boundOf x).2]) ∧ w = w' := by
  rcases hb : inB 1 10 x with _ | _
  · have HF := Lib.hid (boundOf_2 hb)
    go_enter Try.func47, Try.ntmps47
    go_wp2_with fail
    refine (l00In_any _ _ _ _).mono ?_
    rw [hb]
    rintro e w' ⟨rfl, rfl⟩
    go_wp2_with fail
    go_ret2
    exact ⟨two_ints HF.out, rfl⟩
  · have HF := Lib.hid (boundOf_0 hb)
    have hx : 1 ≤ x ∧ x ≤ 10 := by unfold inB at hb; rwa [decide_eq_true_eq] at hb
    have hcase : x = 1 ∨ x = 2 ∨ x = 3 ∨ x = 4 ∨ x = 5 ∨ x = 6 ∨ x = 7 ∨ x = 8 ∨ x = 9 ∨ x = 10 := by omega
    clear hx
    rcases hcase with rfl | rfl | rfl | rfl | rfl | rfl | rfl | rfl | rfl | rfl
    all_goals
      go_enter Try.func47, Try.ntmps47
      go_wp2_with fail
      refine (l00In_any _ _ _ _).mono ?_
      rw [hb]
      rintro e w' ⟨rfl, rfl⟩
      go_wp2_with fail
      go_ret2
      exact ⟨two_ints (by rw [HF.out]; rfl), rfl⟩

theorem implBound_any (x : Int) (w : World) : Calls Try.prog 48 #[.int .i64 x] w fun e w' => e = .returned (.tuple #[.int .i64 (boundOf x).1, .int .i64 (boundOf x).2]) ∧ w = w' := by
  rcases hb : inB 1 10 x with _ | _
  · have HF := Lib.hid (boundOf_2 hb)
    have hx : x < 1 ∨ 10 < x := by
      unfold inB at hb; rw [decide_eq_false_iff_not] at hb; omega
    by_cases h1 : x < 1
    · clear hx hb
      go_enter Try.func48, Try.ntmps48
      go_wp2_with fail
      go_ret2
      exact ⟨two_ints HF.out, rfl⟩
    · have h2 : 10 < x := by omega
      clear hx hb
      go_enter Try.func48, Try.ntmps48
      go_wp2_with fail
      go_ret2
      exact ⟨two_ints HF.out, rfl⟩
  · have HF := Lib.hid (boundOf_0 hb)
    have hx : 1 ≤ x ∧ x ≤ 10 := by unfold inB at hb; rwa [decide_eq_true_eq] at hb
    have hcase : x = 1 ∨ x = 2 ∨ x = 3 ∨ x = 4 ∨ x = 5 ∨ x = 6 ∨ x = 7 ∨ x = 8 ∨ x = 9 ∨ x = 10 := by omega
    clear hx hb
    rcases hcase with rfl | rfl | rfl | rfl | rfl | rfl | rfl | rfl | rfl | rfl
    all_goals
      go_enter Try.func48, Try.ntmps48
      go_wp2_with fail
      go_ret2
      exact ⟨two_ints (by rw [HF.out]; rfl), rfl⟩

namespace fnExactResetBound
open Go.ChangeAt

theorem walk (x0 : Int) (w : World) : Calls Try.prog 13 #[.int .i64 x0] w fun e w' => e = .returned (.bool true) ∧ Below w.heap.size w w' := by
  obtain ⟨B, hB⟩ : ∃ B, B = (boundOf x0).1 := ⟨_, rfl⟩
  obtain ⟨C, hC⟩ : ∃ C, C = (boundOf x0).2 := ⟨_, rfl⟩
  have HB := Lib.hid hB
  have HC := Lib.hid hC
  clear hB hC
  go_enter Try.func13, Try.ntmps13
  go_wp2_with fail
  refine (specBound_any x0 _).mono ?_
  rw [← HB.out, ← HC.out]
  rintro e w' ⟨rfl, rfl⟩
  go_wp2_with fail
  refine (implBound_any x0 _).mono ?_
  rw [← HB.out, ← HC.out]
  rintro e w' ⟨rfl, rfl⟩
  go_wp2_with fail
  go_ret
  exact ⟨rfl, Below.refl _ _⟩

set_option maxRecDepth 100000 in
theorem lifted (os : Os) (started : os.Started) (H : Type) (enc : TypeId × Value → H) :
    ReturnsInHanded {} Try.checked os 13 .any (Rows.fnExactResetBoundSpec.pre6 enc Try.prog Try.f13 Rows.fnExactResetBoundRow.domain false) (Rows.fnExactResetBoundSpec.post enc Try.prog Try.f13 false true false false) := by
  refine returnsInHanded_of_change (C := Try.checked) own started (by kernel_rfl) Try.func13
    (ChangeSpec.witness6 (enc := enc) (C := Try.checked) false ⟨#[], #[.int .i64 0], []⟩ 8 (by kernel_rfl) (by kernel_rfl) (by kernel_rfl) (by kernel_rfl)) ?_
  intro W base args ds gs before hval0 hW hcnd _
  have hval : ∀ (j : Nat) t v, Try.f13.params[j]? = some t → args[j]? = some v → Value.okWide Try.prog W .any base t v := hval0
  have hW' := hW
  obtain ⟨p, q, hA0, hV, rfl, hfz, hnd⟩ := hW
  have hA : DataW.TrodAll enc Try.prog W 0 (fun _ => true) true Try.f13.params.toList args.toList ds p := hA0
  rw [Try.params13] at hA hval
  obtain ⟨v0, vs0, d0, ds0, p0, q0, hargs, rfl, rfl, h0, r0⟩ := trodAll_cons hA
  obtain ⟨rfl, rfl, rfl⟩ := trodAll_nil r0
  obtain rfl : args = #[v0] := by cases args; simp_all
  obtain ⟨rfl, rfl⟩ := trodVars_none hV
  have lt0 : ∀ x ∈ p0, x.block < W.heap.size := by obtain ⟨m, hm⟩ := h0; exact DataW.trod_lt m _ _ _ hm
  have k0 := h0
  obtain ⟨x0, rfl, _, _, hr0⟩ := open_int Try.underlying2 (hval 0 2 v0 rfl rfl) h0
  clear hA0 hval0
  refine (walk x0 W ).mono fun e W' ⟨he, bel⟩ => ?_
  subst he
  exact ⟨_, rfl, _, _, _, [], _, [], hW', trodAll_mk1 (shut_bool Try.underlying4 _), (trodAll_cons_mk (Below.trod laidOut (by kernel_rfl) (of_decide_eq_true (by kernel_rfl)) k0 bel lt0) trodAll_mk0), rfl, bel.frame _, fun h => by cases h⟩

theorem over : Rows.fnExactResetBoundRow.holds Try.pinned (OpenSpec.ofChange Rows.fnExactResetBoundSpec) :=
  OpenClaim.holds_of_wide 13 Try.f13 rfl rfl rfl rfl rfl rfl rfl ⟨rfl, rfl, rfl, rfl, rfl⟩ rfl rfl rfl rfl rfl (by kernel_rfl) Try.func13 (by kernel_rfl)
    (of_decide_eq_true (by kernel_rfl)) (by unfold Func.isWrapper; first | (rw [if_pos (by decide +kernel)]; kernel_rfl) | (rw [if_neg (by decide +kernel)]; exact ⟨rfl, rfl⟩))
    (fun os started H enc _ => lifted os started H enc)

/-- The statement. -/
theorem proved : Rows.FnExactResetBoundSaid := over
#print axioms proved

end fnExactResetBound
end Go.Proofs.Ytkehfndcphbpaab
