/-
  FnExactStableDivision: for every choice of its arguments (automaton) the law returns true: both functions give the same answer and code, what the program answers is new memory each time, and no argument is written. No condition.
-/
import Derived.Test.YtcglncepmieaaaaStbV
import Derived.WalkSpells
namespace Go.Proofs.Ytcglncepmieaaaa
open Go.RowKit Go.Deep Go.ChangeShapes Go.WideShapes

namespace fnExactStableDivision
open Go.ChangeAt

set_option maxHeartbeats 8000000 in
set_option maxRecDepth 100000 in
theorem walk (s0 : Int) (A0 : Option Addr) (n0 c0 : Nat) (xs0 : List (List Int)) (w : World) (h0 : RowsAt w A0 n0 xs0) (hn0 : n0 ≤ 9223372036854775807) (hr0 : ∀ (r : Nat) (xs : List Int), xs0[r]? = some xs → xs.length ≤ 9223372036854775807) :
    Calls Try.prog 6 #[.agg #[.int .i64 s0, .slice A0 n0 c0]] w fun e w' => e = .returned (.bool true) ∧ Below w.heap.size w w' := by
  have HR0 := Lib.hid hr0
  have HL0 := Lib.hid h0.1
  clear hr0
  go_enter Try.func6, Try.ntmps6
  go_wp2_with fail
  obtain ⟨w1, hw1⟩ : ∃ w1, w1 = w.alloc (.cells #[.int .i64 s0, .slice A0 n0 c0] 24) := ⟨_, rfl⟩
  rw [← hw1]
  have bw1 : Below w.heap.size w w1 := by rw [hw1]; exact (Below.refl _ _).alloc (Nat.le_refl _) _
  have P0x := Lib.hid (show Box w1 w.heap.size [.int .i64 s0, .slice A0 n0 c0] by rw [hw1]; exact Box.new _ _ _)
  have P0L := Lib.hid (show w.heap.size < w1.heap.size by rw [hw1, World.size_alloc]; exact Nat.lt_succ_self _)
  have Z1 := Lib.hid (Below.size bw1)
  have BW := Lib.hid (show Below w.heap.size w w1 from bw1)
  have P0 := P0x
  clear hw1 bw1 P0x
  refine (szAutomaton_any s0 A0 n0 c0 xs0 _ _ (h0.below BW.out) hn0 HR0.out (by omega) (by omega)).mono ?_
  rintro e w2 ⟨r0, rfl, hS, b⟩
  have HS0 := Lib.hid hS
  clear hS
  have Z2 := Lib.hid (Below.size b)
  have P0 := Lib.hid (P0.out.below b)
  have BW := Lib.hid (below_then BW.out b)
  clear b
  rcases Int.lt_or_le r0 0 with hneg | hneg
  · skip
    have dP00 := P0.out 0 _ rfl
    have dP01 := P0.out 1 _ rfl
    go_wp2_with fail
    go_ret
    exact ⟨rfl, BW.out⟩
  have hneg' : ¬ r0 < 0 := by omega
  have HN0 := Lib.hid (sized_n HS0.out hneg' HL0.out)
  have HR0 := Lib.hid (sized_rows HS0.out hneg')
  have HSUM0 := Lib.hid (sized_sum HS0.out (by omega) hneg')
  obtain ⟨hp0, hp0'⟩ := sized_left HS0.out hneg'
  have HW0 := Lib.hid (rows_wide HR0.out)
  have hl0 : n0 ≤ 4611686018427387904 := by have := HN0.out; omega
  clear hn0
  obtain ⟨LS, hLS⟩ : ∃ LS, LS = (stableDivision s0 xs0).1 := ⟨_, rfl⟩
  obtain ⟨CO, hCO⟩ : ∃ CO, CO = (stableDivision s0 xs0).2 := ⟨_, rfl⟩
  have hlen : LS.length ≤ 1048576 := by rw [hLS]; exact Nat.le_trans (stableDivision_len s0 xs0) (by omega)
  have HLS := Lib.hid hLS
  have HCO := Lib.hid hCO
  clear hLS hCO
  have dP00 := P0.out 0 _ rfl
  have dP01 := P0.out 1 _ rfl
  go_wp2_with fail
  refine (toAutomaton_any s0 A0 n0 c0 xs0 _ (h0.below BW.out) HN0.out HR0.out).mono ?_
  rintro e w3 ⟨rfl, g, b, z⟩
  clear dP00 dP01
  have Z3 := Lib.hid (Below.size b)
  have P0 := Lib.hid (P0.out.below b)
  have BW := Lib.hid (below_then BW.out b)
  have S0 := Lib.hid ((tab_of_grid g).wide (lo' := w2.heap.size) (hi' := w3.heap.size) (by omega) (by have := HL0.out; omega))
  have hrw0 := HL0.out
  rw [hrw0] at S0
  clear g b z hrw0
  have dP00 := P0.out 0 _ rfl
  have dP01 := P0.out 1 _ rfl
  go_wp2_with fail
  refine (specStableDivision_any s0 _ n0 n0 xs0 _ (S0.out.rows HL0.out) hl0 HW0.out).mono ?_
  clear dP00 dP01
  rintro e w4 ⟨v, rfl, ow, b⟩
  rw [← HLS.out] at ow
  rw [← HCO.out]
  obtain ⟨VO1, eO1, rfl⟩ := own_form ow
  have Z4 := Lib.hid (Below.size b)
  have P0 := Lib.hid (P0.out.below b)
  have S0 := Lib.hid (S0.out.below b)
  have BW := Lib.hid (below_then BW.out b)
  have O1 := Lib.hid (show IntsIn w3.heap.size w4.heap.size w4 (.slice VO1 LS.length eO1) LS from IntsIn.of ow)
  clear ow b
  clear S0
  have dP00 := P0.out 0 _ rfl
  have dP01 := P0.out 1 _ rfl
  go_wp2_with fail
  refine (toAutomaton_any s0 A0 n0 c0 xs0 _ (h0.below BW.out) HN0.out HR0.out).mono ?_
  rintro e w5 ⟨rfl, g, b, z⟩
  clear dP00 dP01
  have Z5 := Lib.hid (Below.size b)
  have P0 := Lib.hid (P0.out.below b)
  have O1 := Lib.hid (O1.out.below b)
  have BW := Lib.hid (below_then BW.out b)
  have X0 := Lib.hid ((tab_of_grid g).wide (lo' := w4.heap.size) (hi' := w5.heap.size) (by omega) (by have := HL0.out; omega))
  have hrw0 := HL0.out
  rw [hrw0] at X0
  clear g b z hrw0
  have qP0 := P0.out.below ((Below.refl _ w5).alloc (Nat.le_refl _) (.cells #[.int .i64 s0, .slice (some ⟨w4.heap.size + 3, 0, none⟩) n0 n0] 28))
  have dP00 := qP0 0 _ rfl
  have dP01 := qP0 1 _ rfl
  clear qP0
  go_wp2_with fail
  clear dP00 dP01
  obtain ⟨w6, hw6⟩ : ∃ w6, w6 = w5.alloc (.cells #[.int .i64 s0, .slice (some ⟨w4.heap.size + 3, 0, none⟩) n0 n0] 28) := ⟨_, rfl⟩
  rw [← hw6]
  have bw6 : Below w5.heap.size w5 w6 := by rw [hw6]; exact (Below.refl _ _).alloc (Nat.le_refl _) _
  have XB0x := Lib.hid (show Box w6 w5.heap.size [.int .i64 s0, .slice (some ⟨w4.heap.size + 3, 0, none⟩) n0 n0] by rw [hw6]; exact Box.new _ _ _)
  have XB0L := Lib.hid (show w5.heap.size < w6.heap.size by rw [hw6, World.size_alloc]; exact Nat.lt_succ_self _)
  have Z6 := Lib.hid (Below.size bw6)
  have P0 := Lib.hid (P0.out.below bw6)
  have O1 := Lib.hid (O1.out.below bw6)
  have X0 := Lib.hid (X0.out.below bw6)
  have BW := Lib.hid (below_then BW.out bw6)
  have XB0 := XB0x
  clear hw6 bw6 XB0x
  refine (implStableDivision_any s0 _ n0 n0 xs0 _ (X0.out.rows HL0.out) hl0 HW0.out).mono ?_
  rintro e w7 ⟨v, rfl, ow, b⟩
  rw [← HLS.out] at ow
  rw [← HCO.out]
  obtain ⟨VO2, eO2, rfl⟩ := own_form ow
  have Z7 := Lib.hid (Below.size b)
  have P0 := Lib.hid (P0.out.below b)
  have O1 := Lib.hid (O1.out.below b)
  have X0 := Lib.hid (X0.out.below b)
  have XB0 := Lib.hid (XB0.out.below b)
  have BW := Lib.hid (below_then BW.out b)
  have O2 := Lib.hid (show IntsIn w6.heap.size w7.heap.size w7 (.slice VO2 LS.length eO2) LS from IntsIn.of ow)
  clear ow b
  have dP00 := P0.out 0 _ rfl
  have dP01 := P0.out 1 _ rfl
  have dXB00 := XB0.out 0 _ rfl
  have dXB01 := XB0.out 1 _ rfl
  go_wp2_with fail
  refine (eqInts_b _ _ _ _ _ _ _ _ _ (O2.out.nums rfl) (O1.out.nums rfl) (by omega) (by omega)).mono ?_
  rw [sameB_t rfl]
  rintro e w8 ⟨rfl, b⟩
  clear dP00 dP01 dXB00 dXB01
  have Z8 := Lib.hid (Below.size b)
  have P0 := Lib.hid (P0.out.below b)
  have O1 := Lib.hid (O1.out.below b)
  have X0 := Lib.hid (X0.out.below b)
  have XB0 := Lib.hid (XB0.out.below b)
  have O2 := Lib.hid (O2.out.below b)
  have BW := Lib.hid (below_then BW.out b)
  clear b
  have rP00 := P0.out.rule (j := 0) rfl
  have rP01 := P0.out.rule (j := 1) rfl
  have rXB00 := XB0.out.rule (j := 0) rfl
  have rXB01 := XB0.out.rule (j := 1) rfl
  have c9 : Below w8.heap.size w8 w8 := Below.refl _ _
  have dP00 := P0.out 0 _ rfl
  have dP01 := P0.out 1 _ rfl
  have dXB00 := XB0.out 0 _ rfl
  have dXB01 := XB0.out 1 _ rfl
  go_wp2_with fail
  clear dP00 dP01 dXB00 dXB01
  go_region_held3 (fun w' => Below w8.heap.size w8 w') (first | assumption | exact below_drewN' (by assumption) _)
    (first
      | (go_at_call 13; refine (toAutomaton_any s0 A0 n0 c0 xs0 _ (h0.below (below_then BW.out (by first | assumption | exact below_drewN' (by assumption) _))) HN0.out HR0.out).mono ?_; rintro e wa ⟨rfl, ga, ba, za⟩; have ca : Below w8.heap.size w8 wa := below_then (by first | assumption | exact below_drewN' (by assumption) _) ba; have GA := Lib.hid (ga.rowsN HL0.out); clear ga ba za)
      | (go_at_call 16; refine (eqAutomaton_any s0 s0 _ _ n0 n0 n0 n0 xs0 xs0 _ ((X0.out.below ca).rows HL0.out) GA.out hl0 hl0 HW0.out HW0.out).mono ?_; rw [sameA_t rfl rfl]; rintro e w9 ⟨rfl, be⟩; have ce : Below w8.heap.size w8 w9 := below_then ca be; clear be))
  clear rP00 rP01 rXB00 rXB01 c9 ca GA
  have Z9 := Lib.hid (Below.size ce)
  have P0 := Lib.hid (P0.out.below ce)
  have O1 := Lib.hid (O1.out.below ce)
  have X0 := Lib.hid (X0.out.below ce)
  have XB0 := Lib.hid (XB0.out.below ce)
  have O2 := Lib.hid (O2.out.below ce)
  have BW := Lib.hid (below_then BW.out ce)
  clear ce
  have hk0a : (0 : Int) ≤ 1 := by omega
  have hk0b : 1 + (sumLens xs0 : Int) ≤ 4611686018427387904 := by have := HSUM0.out; omega
  have dP00 := P0.out 0 _ rfl
  have dP01 := P0.out 1 _ rfl
  have dXB00 := XB0.out 0 _ rfl
  have dXB01 := XB0.out 1 _ rfl
  go_wp2_with fail
  refine (markAutomatonT_any w4.heap.size w5.heap.size s0 _ n0 n0 xs0 (1) w9 X0.out HL0.out hk0a HN0.out hk0b).mono ?_
  rintro e w10 ⟨rfl, u, mt⟩
  clear dP00 dP01 dXB00 dXB01
  have Z10 := Lib.hid (Only.size u)
  have P0 := Lib.hid (P0.out.only u (.inl (by have := P0L.out; have := Z2.out; have := Z3.out; have := Z4.out; omega)))
  have O1 := Lib.hid (O1.out.only u (.inl (Nat.le_refl _)))
  have XB0 := Lib.hid (XB0.out.only u (.inr (by skip; omega)))
  have O2 := Lib.hid (O2.out.only u (.inr (by have := Z6.out; omega)))
  have BW := Lib.hid (Only.below BW.out u (by have := Z1.out; have := Z2.out; have := Z3.out; have := Z4.out; omega) (by have := Z1.out; have := Z2.out; have := Z3.out; have := Z4.out; have := Z5.out; have := Z6.out; have := Z7.out; have := Z8.out; have := Z9.out; omega))
  clear u mt hk0a hk0b
  clear X0
  have hdec : decide (1 + (sumLens xs0 : Int) < 0) = false := by simp; omega
  have dP00 := P0.out 0 _ rfl
  have dP01 := P0.out 1 _ rfl
  have dXB00 := XB0.out 0 _ rfl
  have dXB01 := XB0.out 1 _ rfl
  go_wp2_with fail
  refine (eqInts_b _ _ _ _ _ _ _ _ _ (O2.out.nums rfl) (O1.out.nums rfl) (by omega) (by omega)).mono ?_
  rw [sameB_t rfl]
  rintro e w11 ⟨rfl, b⟩
  clear dP00 dP01 dXB00 dXB01
  have Z11 := Lib.hid (Below.size b)
  have P0 := Lib.hid (P0.out.below b)
  have O1 := Lib.hid (O1.out.below b)
  have XB0 := Lib.hid (XB0.out.below b)
  have O2 := Lib.hid (O2.out.below b)
  have BW := Lib.hid (below_then BW.out b)
  clear b
  have hkm : (1 : Int) + (LS.length : Int) ≤ 4611686018427387904 := by omega
  have hkm0 : (0 : Int) ≤ 1 + (LS.length : Int) := by omega
  have dP00 := P0.out 0 _ rfl
  have dP01 := P0.out 1 _ rfl
  have dXB00 := XB0.out 0 _ rfl
  have dXB01 := XB0.out 1 _ rfl
  go_wp2_with fail
  refine (markInts_in w6.heap.size w7.heap.size LS.length eO2 VO2 LS 1 w11 O2.out rfl (by omega) hkm).mono ?_
  rintro e w12 ⟨rfl, u, mt, mz⟩
  clear dP00 dP01 dXB00 dXB01
  have Z12 := Lib.hid (Only.size u)
  have P0 := Lib.hid (P0.out.only u (.inl (by have := P0L.out; have := Z2.out; have := Z3.out; have := Z4.out; have := Z5.out; have := Z6.out; omega)))
  have O1 := Lib.hid (O1.out.only u (.inl (by have := Z5.out; have := Z6.out; omega)))
  have XB0 := Lib.hid (XB0.out.only u (.inl (by have := XB0L.out;  omega)))
  have BW := Lib.hid (Only.below BW.out u (by have := Z1.out; have := Z2.out; have := Z3.out; have := Z4.out; have := Z5.out; have := Z6.out; omega) (by have := Z1.out; have := Z2.out; have := Z3.out; have := Z4.out; have := Z5.out; have := Z6.out; have := Z7.out; have := Z8.out; have := Z9.out; have := Z10.out; have := Z11.out; omega))
  have M := Lib.hid mt
  clear u mt mz
  clear O2
  have dP00 := P0.out 0 _ rfl
  have dP01 := P0.out 1 _ rfl
  have dXB00 := XB0.out 0 _ rfl
  have dXB01 := XB0.out 1 _ rfl
  go_wp2_with fail
  refine (heldInt64S_any VO2 LS.length eO2 1 w12 (M.out.nums (marks_length _ _)) (by omega) hkm).mono ?_
  rintro e w13 ⟨rfl, hsame⟩
  clear dP00 dP01 dXB00 dXB01
  have b := below_same hsame
  clear hsame
  have Z13 := Lib.hid (Below.size b)
  have P0 := Lib.hid (P0.out.below b)
  have O1 := Lib.hid (O1.out.below b)
  have XB0 := Lib.hid (XB0.out.below b)
  have M := Lib.hid (M.out.below b)
  have BW := Lib.hid (below_then BW.out b)
  clear b
  have dP00 := P0.out 0 _ rfl
  have dP01 := P0.out 1 _ rfl
  have dXB00 := XB0.out 0 _ rfl
  have dXB01 := XB0.out 1 _ rfl
  go_wp2_with fail
  refine (toAutomaton_any s0 A0 n0 c0 xs0 _ (h0.below BW.out) HN0.out HR0.out).mono ?_
  rintro e w14 ⟨rfl, g, b, z⟩
  clear dP00 dP01 dXB00 dXB01
  have Z14 := Lib.hid (Below.size b)
  have P0 := Lib.hid (P0.out.below b)
  have O1 := Lib.hid (O1.out.below b)
  have XB0 := Lib.hid (XB0.out.below b)
  have M := Lib.hid (M.out.below b)
  have BW := Lib.hid (below_then BW.out b)
  have R0 := Lib.hid ((tab_of_grid g).wide (lo' := w13.heap.size) (hi' := w14.heap.size) (by omega) (by have := HL0.out; omega))
  have hrw0 := HL0.out
  rw [hrw0] at R0
  clear g b z hrw0
  have dP00 := P0.out 0 _ rfl
  have dP01 := P0.out 1 _ rfl
  have dXB00 := XB0.out 0 _ rfl
  have dXB01 := XB0.out 1 _ rfl
  go_wp2_with fail
  refine (implStableDivision_any s0 _ n0 n0 xs0 _ (R0.out.rows HL0.out) hl0 HW0.out).mono ?_
  clear dP00 dP01 dXB00 dXB01
  rintro e w15 ⟨v, rfl, ow, b⟩
  rw [← HLS.out] at ow
  rw [← HCO.out]
  obtain ⟨VO3, eO3, rfl⟩ := own_form ow
  have Z15 := Lib.hid (Below.size b)
  have P0 := Lib.hid (P0.out.below b)
  have O1 := Lib.hid (O1.out.below b)
  have XB0 := Lib.hid (XB0.out.below b)
  have M := Lib.hid (M.out.below b)
  have R0 := Lib.hid (R0.out.below b)
  have BW := Lib.hid (below_then BW.out b)
  have O3 := Lib.hid (show IntsIn w14.heap.size w15.heap.size w15 (.slice VO3 LS.length eO3) LS from IntsIn.of ow)
  clear ow b
  clear R0
  have dP00 := P0.out 0 _ rfl
  have dP01 := P0.out 1 _ rfl
  have dXB00 := XB0.out 0 _ rfl
  have dXB01 := XB0.out 1 _ rfl
  go_wp2_with fail
  refine (eqInts_b _ _ _ _ _ _ _ _ _ (O3.out.nums rfl) (O1.out.nums rfl) (by omega) (by omega)).mono ?_
  rw [sameB_t rfl]
  rintro e w16 ⟨rfl, b⟩
  clear dP00 dP01 dXB00 dXB01
  have Z16 := Lib.hid (Below.size b)
  have P0 := Lib.hid (P0.out.below b)
  have O1 := Lib.hid (O1.out.below b)
  have XB0 := Lib.hid (XB0.out.below b)
  have M := Lib.hid (M.out.below b)
  have O3 := Lib.hid (O3.out.below b)
  have BW := Lib.hid (below_then BW.out b)
  clear b
  have dP00 := P0.out 0 _ rfl
  have dP01 := P0.out 1 _ rfl
  have dXB00 := XB0.out 0 _ rfl
  have dXB01 := XB0.out 1 _ rfl
  go_wp2_with fail
  refine (heldInt64S_any VO2 LS.length eO2 1 w16 (M.out.nums (marks_length _ _)) (by omega) hkm).mono ?_
  rintro e w17 ⟨rfl, hsame⟩
  clear dP00 dP01 dXB00 dXB01
  have b := below_same hsame
  clear hsame
  have Z17 := Lib.hid (Below.size b)
  have P0 := Lib.hid (P0.out.below b)
  have O1 := Lib.hid (O1.out.below b)
  have XB0 := Lib.hid (XB0.out.below b)
  have M := Lib.hid (M.out.below b)
  have O3 := Lib.hid (O3.out.below b)
  have BW := Lib.hid (below_then BW.out b)
  clear b
  go_wp2_with fail
  go_ret
  exact ⟨rfl, BW.out⟩

set_option maxRecDepth 100000 in
theorem lifted (os : Os) (started : os.Started) (H : Type) (enc : TypeId × Value → H) :
    ReturnsInHanded {} Try.checked os 6 .any (Rows.fnExactStableDivisionSpec.pre6 enc Try.prog Try.f6 Rows.fnExactStableDivisionRow.domain false) (Rows.fnExactStableDivisionSpec.post enc Try.prog Try.f6 false true false false) := by
  refine returnsInHanded_of_change (C := Try.checked) own started (by kernel_rfl) Try.func6
    (ChangeSpec.witness6 (enc := enc) (C := Try.checked) false ⟨#[], #[.agg #[.int .i64 0, .slice none 0 0]], []⟩ 8 (by kernel_rfl) (by kernel_rfl) (by kernel_rfl) (by kernel_rfl)) ?_
  intro W base args ds gs before hval0 hW hcnd _
  have hval : ∀ (j : Nat) t v, Try.f6.params[j]? = some t → args[j]? = some v → Value.okWide Try.prog W .any base t v := hval0
  have hW' := hW
  obtain ⟨p, q, hA0, hV, rfl, hfz, hnd⟩ := hW
  have hA : DataW.TrodAll enc Try.prog W 0 (fun _ => true) true Try.f6.params.toList args.toList ds p := hA0
  rw [Try.params6] at hA hval
  obtain ⟨v0, vs0, d0, ds0, p0, q0, hargs, rfl, rfl, h0, r0⟩ := trodAll_cons hA
  obtain ⟨rfl, rfl, rfl⟩ := trodAll_nil r0
  obtain rfl : args = #[v0] := by cases args; simp_all
  obtain ⟨rfl, rfl⟩ := trodVars_none hV
  have lt0 : ∀ x ∈ p0, x.block < W.heap.size := by obtain ⟨m, hm⟩ := h0; exact DataW.trod_lt m _ _ _ hm
  have k0 := h0
  obtain ⟨s0, a0, n0, c0, xs0, rfl, hr0, hn0, hw0⟩ := auto_of_trod (hval 0 24 v0 rfl rfl) h0
  clear hA0 hval0
  refine (walk s0 a0 n0 c0 xs0 W hr0 hn0 hw0).mono fun e W' ⟨he, bel⟩ => ?_
  subst he
  exact ⟨_, rfl, _, _, _, [], _, [], hW', trodAll_mk1 (shut_bool Try.underlying4 _), (trodAll_cons_mk (Below.trod laidOut (by kernel_rfl) (of_decide_eq_true (by kernel_rfl)) k0 bel lt0) trodAll_mk0), rfl, bel.frame _, fun h => by cases h⟩

theorem over : Rows.fnExactStableDivisionRow.holds Try.pinned (OpenSpec.ofChange Rows.fnExactStableDivisionSpec) :=
  OpenClaim.holds_of_wide 6 Try.f6 rfl rfl rfl rfl rfl rfl rfl ⟨rfl, rfl, rfl, rfl, rfl⟩ rfl rfl rfl rfl rfl (by kernel_rfl) Try.func6 (by kernel_rfl)
    (of_decide_eq_true (by kernel_rfl)) (by unfold Func.isWrapper; first | (rw [if_pos (by decide +kernel)]; kernel_rfl) | (rw [if_neg (by decide +kernel)]; exact ⟨rfl, rfl⟩))
    (fun os started H enc _ => lifted os started H enc)

/-- The statement. -/
theorem proved : Rows.FnExactStableDivisionSaid := over
#print axioms proved
end fnExactStableDivision
end Go.Proofs.Ytcglncepmieaaaa
