/-
  FnExactSlowAutomaton: for every choice of its arguments (number) the law returns true: both functions give the same answer and code, what the program answers is new memory each time, and no argument is written. No condition.
-/
import Derived.Test.YtkehfndcphbpaabSlow
import Derived.WalkSpells
namespace Go.Proofs.Ytkehfndcphbpaab
open Go.RowKit Go.Deep Go.ChangeShapes Go.WideShapes

namespace fnExactSlowAutomaton
open Go.ChangeAt

set_option maxHeartbeats 8000000 in
set_option maxRecDepth 100000 in
theorem walk (x0 : Int) (w : World)  :
    Calls Try.prog 12 #[.int .i64 x0] w fun e w' => e = .returned (.bool true) ∧ Below w.heap.size w w' := by
  go_enter Try.func12, Try.ntmps12
  go_wp2_with fail
  have BW := Lib.hid (Below.refl w.heap.size w)
  obtain ⟨SS, hSS⟩ : ∃ SS, SS = (slowAutomaton x0).1 := ⟨_, rfl⟩
  obtain ⟨LS, hLS⟩ : ∃ LS, LS = (slowAutomaton x0).2.1 := ⟨_, rfl⟩
  obtain ⟨CO, hCO⟩ : ∃ CO, CO = (slowAutomaton x0).2.2 := ⟨_, rfl⟩
  have hlen : LS.length ≤ 1048576 := by rw [hLS]; exact Nat.le_trans (slowAutomaton_len x0) (by omega)
  have hsum : sumLens LS ≤ 1048576 := by rw [hLS]; exact Nat.le_trans (slowAutomaton_sum x0) (by omega)
  have HRW := Lib.hid (show ∀ (r : Nat) (xs : List Int), LS[r]? = some xs → xs.length ≤ 4611686018427387904 from fun r xs hx => by have := len_le_sum hx; omega)
  have HSS := Lib.hid hSS
  clear hSS
  have HLS := Lib.hid hLS
  have HCO := Lib.hid hCO
  clear hLS hCO
  go_wp2_with fail
  refine (specSlowAutomaton_any x0 _ ).mono ?_
  rintro e w1 ⟨v, rfl, ow, b⟩
  rw [← HLS.out] at ow
  rw [← HSS.out, ← HCO.out]
  obtain ⟨VO1, eO1, rfl⟩ := ow.form
  have Z1 := Lib.hid (Below.size b)
  have BW := Lib.hid (below_then BW.out b)
  have O1 := Lib.hid ow
  clear ow b
  go_wp2_with fail
  obtain ⟨w2, hw2⟩ : ∃ w2, w2 = w1.alloc (.cells #[.int .i64 SS, .slice VO1 LS.length eO1] 29) := ⟨_, rfl⟩
  rw [← hw2]
  have bw2 : Below w1.heap.size w1 w2 := by rw [hw2]; exact (Below.refl _ _).alloc (Nat.le_refl _) _
  have O1Bx := Lib.hid (show Box w2 w1.heap.size [.int .i64 SS, .slice VO1 LS.length eO1] by rw [hw2]; exact Box.new _ _ _)
  have O1BL := Lib.hid (show w1.heap.size < w2.heap.size by rw [hw2, World.size_alloc]; exact Nat.lt_succ_self _)
  have Z2 := Lib.hid (Below.size bw2)
  have O1 := Lib.hid (O1.out.below bw2)
  have BW := Lib.hid (below_then BW.out bw2)
  have O1B := O1Bx
  clear hw2 bw2 O1Bx
  refine (implSlowAutomaton_any x0 _ ).mono ?_
  rintro e w3 ⟨v, rfl, ow, b⟩
  rw [← HLS.out] at ow
  rw [← HSS.out, ← HCO.out]
  obtain ⟨VO2, eO2, rfl⟩ := ow.form
  have Z3 := Lib.hid (Below.size b)
  have O1 := Lib.hid (O1.out.below b)
  have O1B := Lib.hid (O1B.out.below b)
  have BW := Lib.hid (below_then BW.out b)
  have O2 := Lib.hid ow
  clear ow b
  have qO1B := O1B.out.below ((Below.refl _ w3).alloc (Nat.le_refl _) (.cells #[.int .i64 SS, .slice VO2 LS.length eO2] 29))
  have dO1B0 := qO1B 0 _ rfl
  have dO1B1 := qO1B 1 _ rfl
  clear qO1B
  go_wp2_with fail
  clear dO1B0 dO1B1
  obtain ⟨w4, hw4⟩ : ∃ w4, w4 = w3.alloc (.cells #[.int .i64 SS, .slice VO2 LS.length eO2] 29) := ⟨_, rfl⟩
  rw [← hw4]
  have bw4 : Below w3.heap.size w3 w4 := by rw [hw4]; exact (Below.refl _ _).alloc (Nat.le_refl _) _
  have O2Bx := Lib.hid (show Box w4 w3.heap.size [.int .i64 SS, .slice VO2 LS.length eO2] by rw [hw4]; exact Box.new _ _ _)
  have O2BL := Lib.hid (show w3.heap.size < w4.heap.size by rw [hw4, World.size_alloc]; exact Nat.lt_succ_self _)
  have Z4 := Lib.hid (Below.size bw4)
  have O1 := Lib.hid (O1.out.below bw4)
  have O1B := Lib.hid (O1B.out.below bw4)
  have O2 := Lib.hid (O2.out.below bw4)
  have BW := Lib.hid (below_then BW.out bw4)
  have O2B := O2Bx
  clear hw4 bw4 O2Bx
  refine (eqAutomaton_any SS SS _ _ LS.length LS.length _ _ LS LS _ (O2.out.rows rfl) (O1.out.rows rfl) (by omega) (by omega) HRW.out HRW.out).mono ?_
  rw [sameA_t rfl rfl]
  rintro e w5 ⟨rfl, b⟩
  have Z5 := Lib.hid (Below.size b)
  have O1 := Lib.hid (O1.out.below b)
  have O1B := Lib.hid (O1B.out.below b)
  have O2 := Lib.hid (O2.out.below b)
  have O2B := Lib.hid (O2B.out.below b)
  have BW := Lib.hid (below_then BW.out b)
  clear b
  have hkm : (1 : Int) + (sumLens LS : Int) ≤ 4611686018427387904 := by omega
  have hkm0 : (0 : Int) ≤ 1 + (sumLens LS : Int) := by omega
  have dO1B0 := O1B.out 0 _ rfl
  have dO1B1 := O1B.out 1 _ rfl
  have dO2B0 := O2B.out 0 _ rfl
  have dO2B1 := O2B.out 1 _ rfl
  go_wp2_with fail
  refine (markAutomatonT_any w2.heap.size w3.heap.size SS VO2 LS.length eO2 LS 1 w5 O2.out rfl (by omega) hlen hkm).mono ?_
  rintro e w6 ⟨rfl, u, mt⟩
  clear dO1B0 dO1B1 dO2B0 dO2B1
  have Z6 := Lib.hid (Only.size u)
  have O1 := Lib.hid (O1.out.only u (.inl (by have := Z2.out; omega)))
  have O1B := Lib.hid (O1B.out.only u (.inl (by have := O1BL.out;  omega)))
  have O2B := Lib.hid (O2B.out.only u (.inr (by skip; omega)))
  have BW := Lib.hid (Only.below BW.out u (by have := Z1.out; have := Z2.out; omega) (by have := Z1.out; have := Z2.out; have := Z3.out; have := Z4.out; have := Z5.out; omega))
  have M := Lib.hid mt
  clear u mt
  clear O2
  have dO1B0 := O1B.out 0 _ rfl
  have dO1B1 := O1B.out 1 _ rfl
  have dO2B0 := O2B.out 0 _ rfl
  have dO2B1 := O2B.out 1 _ rfl
  go_wp2_with fail
  refine (heldAutomatonT_any SS VO2 LS.length eO2 LS 1 w6 (M.out.rows (marksT_len _ _)) rfl (by omega) hlen hkm).mono ?_
  rintro e w7 ⟨rfl, b⟩
  clear dO1B0 dO1B1 dO2B0 dO2B1
  have Z7 := Lib.hid (Below.size b)
  have O1 := Lib.hid (O1.out.below b)
  have O1B := Lib.hid (O1B.out.below b)
  have O2B := Lib.hid (O2B.out.below b)
  have M := Lib.hid (M.out.below b)
  have BW := Lib.hid (below_then BW.out b)
  clear b
  have dO1B0 := O1B.out 0 _ rfl
  have dO1B1 := O1B.out 1 _ rfl
  have dO2B0 := O2B.out 0 _ rfl
  have dO2B1 := O2B.out 1 _ rfl
  go_wp2_with fail
  refine (implSlowAutomaton_any x0 _ ).mono ?_
  clear dO1B0 dO1B1 dO2B0 dO2B1
  rintro e w8 ⟨v, rfl, ow, b⟩
  rw [← HLS.out] at ow
  rw [← HSS.out, ← HCO.out]
  obtain ⟨VO3, eO3, rfl⟩ := ow.form
  have Z8 := Lib.hid (Below.size b)
  have O1 := Lib.hid (O1.out.below b)
  have O1B := Lib.hid (O1B.out.below b)
  have O2B := Lib.hid (O2B.out.below b)
  have M := Lib.hid (M.out.below b)
  have BW := Lib.hid (below_then BW.out b)
  have O3 := Lib.hid ow
  clear ow b
  have qO1B := O1B.out.below ((Below.refl _ w8).alloc (Nat.le_refl _) (.cells #[.int .i64 SS, .slice VO3 LS.length eO3] 29))
  have dO1B0 := qO1B 0 _ rfl
  have dO1B1 := qO1B 1 _ rfl
  clear qO1B
  have qO2B := O2B.out.below ((Below.refl _ w8).alloc (Nat.le_refl _) (.cells #[.int .i64 SS, .slice VO3 LS.length eO3] 29))
  have dO2B0 := qO2B 0 _ rfl
  have dO2B1 := qO2B 1 _ rfl
  clear qO2B
  go_wp2_with fail
  clear dO1B0 dO1B1 dO2B0 dO2B1
  obtain ⟨w9, hw9⟩ : ∃ w9, w9 = w8.alloc (.cells #[.int .i64 SS, .slice VO3 LS.length eO3] 29) := ⟨_, rfl⟩
  rw [← hw9]
  have bw9 : Below w8.heap.size w8 w9 := by rw [hw9]; exact (Below.refl _ _).alloc (Nat.le_refl _) _
  have O3Bx := Lib.hid (show Box w9 w8.heap.size [.int .i64 SS, .slice VO3 LS.length eO3] by rw [hw9]; exact Box.new _ _ _)
  have O3BL := Lib.hid (show w8.heap.size < w9.heap.size by rw [hw9, World.size_alloc]; exact Nat.lt_succ_self _)
  have Z9 := Lib.hid (Below.size bw9)
  have O1 := Lib.hid (O1.out.below bw9)
  have O1B := Lib.hid (O1B.out.below bw9)
  have O2B := Lib.hid (O2B.out.below bw9)
  have M := Lib.hid (M.out.below bw9)
  have O3 := Lib.hid (O3.out.below bw9)
  have BW := Lib.hid (below_then BW.out bw9)
  have O3B := O3Bx
  clear hw9 bw9 O3Bx
  refine (eqAutomaton_any SS SS _ _ LS.length LS.length _ _ LS LS _ (O3.out.rows rfl) (O1.out.rows rfl) (by omega) (by omega) HRW.out HRW.out).mono ?_
  rw [sameA_t rfl rfl]
  rintro e w10 ⟨rfl, b⟩
  have Z10 := Lib.hid (Below.size b)
  have O1 := Lib.hid (O1.out.below b)
  have O1B := Lib.hid (O1B.out.below b)
  have O2B := Lib.hid (O2B.out.below b)
  have M := Lib.hid (M.out.below b)
  have O3 := Lib.hid (O3.out.below b)
  have O3B := Lib.hid (O3B.out.below b)
  have BW := Lib.hid (below_then BW.out b)
  clear b
  have dO1B0 := O1B.out 0 _ rfl
  have dO1B1 := O1B.out 1 _ rfl
  have dO2B0 := O2B.out 0 _ rfl
  have dO2B1 := O2B.out 1 _ rfl
  have dO3B0 := O3B.out 0 _ rfl
  have dO3B1 := O3B.out 1 _ rfl
  go_wp2_with fail
  refine (heldAutomatonT_any SS VO2 LS.length eO2 LS 1 w10 (M.out.rows (marksT_len _ _)) rfl (by omega) hlen hkm).mono ?_
  rintro e w11 ⟨rfl, b⟩
  clear dO1B0 dO1B1 dO2B0 dO2B1 dO3B0 dO3B1
  have Z11 := Lib.hid (Below.size b)
  have O1 := Lib.hid (O1.out.below b)
  have O1B := Lib.hid (O1B.out.below b)
  have O2B := Lib.hid (O2B.out.below b)
  have M := Lib.hid (M.out.below b)
  have O3 := Lib.hid (O3.out.below b)
  have O3B := Lib.hid (O3B.out.below b)
  have BW := Lib.hid (below_then BW.out b)
  clear b
  go_wp2_with fail
  go_ret
  exact ⟨rfl, BW.out⟩

set_option maxRecDepth 100000 in
theorem lifted (os : Os) (started : os.Started) (H : Type) (enc : TypeId × Value → H) :
    ReturnsInHanded {} Try.checked os 12 .any (Rows.fnExactSlowAutomatonSpec.pre6 enc Try.prog Try.f12 Rows.fnExactSlowAutomatonRow.domain false) (Rows.fnExactSlowAutomatonSpec.post enc Try.prog Try.f12 false true false false) := by
  refine returnsInHanded_of_change (C := Try.checked) own started (by kernel_rfl) Try.func12
    (ChangeSpec.witness6 (enc := enc) (C := Try.checked) false ⟨#[], #[.int .i64 0], []⟩ 8 (by kernel_rfl) (by kernel_rfl) (by kernel_rfl) (by kernel_rfl)) ?_
  intro W base args ds gs before hval0 hW hcnd _
  have hval : ∀ (j : Nat) t v, Try.f12.params[j]? = some t → args[j]? = some v → Value.okWide Try.prog W .any base t v := hval0
  have hW' := hW
  obtain ⟨p, q, hA0, hV, rfl, hfz, hnd⟩ := hW
  have hA : DataW.TrodAll enc Try.prog W 0 (fun _ => true) true Try.f12.params.toList args.toList ds p := hA0
  rw [Try.params12] at hA hval
  obtain ⟨v0, vs0, d0, ds0, p0, q0, hargs, rfl, rfl, h0, r0⟩ := trodAll_cons hA
  obtain ⟨rfl, rfl, rfl⟩ := trodAll_nil r0
  obtain rfl : args = #[v0] := by cases args; simp_all
  obtain ⟨rfl, rfl⟩ := trodVars_none hV
  have lt0 : ∀ x ∈ p0, x.block < W.heap.size := by obtain ⟨m, hm⟩ := h0; exact DataW.trod_lt m _ _ _ hm
  have k0 := h0
  obtain ⟨x0, rfl, _, _, hr0⟩ := open_int Try.underlying2 (hval 0 2 v0 rfl rfl) h0
  clear hA0 hval0
  refine (walk x0 W ).mono fun e W' ⟨he, bel⟩ => ?_
  subst he
  exact ⟨_, rfl, _, _, _, [], _, [], hW', trodAll_mk1 (shut_bool Try.underlying4 _), (trodAll_cons_mk (Below.trod laidOut (by kernel_rfl) (of_decide_eq_true (by kernel_rfl)) k0 bel lt0) trodAll_mk0), rfl, bel.frame _, fun h => by cases h⟩

theorem over : Rows.fnExactSlowAutomatonRow.holds Try.pinned (OpenSpec.ofChange Rows.fnExactSlowAutomatonSpec) :=
  OpenClaim.holds_of_wide 12 Try.f12 rfl rfl rfl rfl rfl rfl rfl ⟨rfl, rfl, rfl, rfl, rfl⟩ rfl rfl rfl rfl rfl (by kernel_rfl) Try.func12 (by kernel_rfl)
    (of_decide_eq_true (by kernel_rfl)) (by unfold Func.isWrapper; first | (rw [if_pos (by decide +kernel)]; kernel_rfl) | (rw [if_neg (by decide +kernel)]; exact ⟨rfl, rfl⟩))
    (fun os started H enc _ => lifted os started H enc)

/-- The statement. -/
theorem proved : Rows.FnExactSlowAutomatonSaid := over
#print axioms proved
end fnExactSlowAutomaton
end Go.Proofs.Ytkehfndcphbpaab
