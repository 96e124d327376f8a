/-
  FnExactContractRoads: for every choice of its arguments (roads, list) the law returns true: both functions give the same answer and code, what the program answers is new memory each time, and no argument is written. No condition.
-/
import Derived.Test.YtkbnbcecphmihaaCtrI
import Derived.Test.YtkbnbcecphmihaaRoad
import Derived.WalkSpells
namespace Go.Proofs.Ytkbnbcecphmihaa
open Go.RowKit Go.Deep Go.ChangeShapes Go.WideShapes

namespace fnExactContractRoads
open Go.ChangeAt

set_option maxHeartbeats 8000000 in
set_option maxRecDepth 100000 in
theorem walk (s0 : Int) (A0 : Option Addr) (n0 c0 : Nat) (xs0 : List (List Int)) (A1 : Option Addr) (n1 c1 : Nat) (xs1 : List Int) (w : World) (h0 : RowsAt w A0 n0 xs0) (hn0 : n0 ≤ 9223372036854775807) (hr0 : ∀ (r : Nat) (xs : List Int), xs0[r]? = some xs → xs.length ≤ 9223372036854775807) (h1 : NumsAt w A1 n1 xs1) (hn1 : n1 ≤ maxLen) :
    Calls Try.prog 13 #[.agg #[.int .i64 s0, .slice A0 n0 c0], .slice A1 n1 c1] w fun e w' => e = .returned (.bool true) ∧ Below w.heap.size w w' := by
  have HR0 := Lib.hid hr0
  have HL0 := Lib.hid h0.1
  clear hr0
  have hq1 : n1 ≤ 9223372036854775807 := hn1
  clear hn1
  rcases Nat.lt_or_ge 1048576 n1 with hbig | hbig
  · have hbig' : (1048576 : Int) < (n1 : Int) := by omega
    go_enter Try.func13, Try.ntmps13
    go_wp2_with fail
    go_ret
    exact ⟨rfl, by go_grown⟩
  have hsmall1 : decide ((1048576 : Int) < (n1 : Int)) = false := by simp; omega
  have hl1 : n1 ≤ 4611686018427387904 := by omega
  have HB1 := Lib.hid hbig
  clear hbig hq1
  go_enter Try.func13, Try.ntmps13
  go_wp2_with fail
  obtain ⟨w1, hw1⟩ : ∃ w1, w1 = w.alloc (.cells #[.int .i64 s0, .slice A0 n0 c0] 24) := ⟨_, rfl⟩
  rw [← hw1]
  have bw1 : Below w.heap.size w w1 := by rw [hw1]; exact (Below.refl _ _).alloc (Nat.le_refl _) _
  have P0x := Lib.hid (show Box w1 w.heap.size [.int .i64 s0, .slice A0 n0 c0] by rw [hw1]; exact Box.new _ _ _)
  have P0L := Lib.hid (show w.heap.size < w1.heap.size by rw [hw1, World.size_alloc]; exact Nat.lt_succ_self _)
  have Z1 := Lib.hid (Below.size bw1)
  have BW := Lib.hid (show Below w.heap.size w w1 from bw1)
  have P0 := P0x
  clear hw1 bw1 P0x
  refine (szRoads_any s0 A0 n0 c0 xs0 _ _ (h0.below BW.out) hn0 HR0.out (by omega) (by omega)).mono ?_
  rintro e w2 ⟨r0, rfl, hS, b⟩
  have HS0 := Lib.hid hS
  clear hS
  have Z2 := Lib.hid (Below.size b)
  have P0 := Lib.hid (P0.out.below b)
  have BW := Lib.hid (below_then BW.out b)
  clear b
  rcases Int.lt_or_le r0 0 with hneg | hneg
  · skip
    have dP00 := P0.out 0 _ rfl
    have dP01 := P0.out 1 _ rfl
    go_wp2_with fail
    go_ret
    exact ⟨rfl, BW.out⟩
  have hneg' : ¬ r0 < 0 := by omega
  have HN0 := Lib.hid (sized_n HS0.out hneg' HL0.out)
  have HR0 := Lib.hid (sized_rows HS0.out hneg')
  have HSUM0 := Lib.hid (sized_sum HS0.out (by omega) hneg')
  obtain ⟨hp0, hp0'⟩ := sized_left HS0.out hneg'
  have HW0 := Lib.hid (rows_wide HR0.out)
  have hl0 : n0 ≤ 4611686018427387904 := by have := HN0.out; omega
  clear hn0
  obtain ⟨SS, hSS⟩ : ∃ SS, SS = (contractRoads s0 xs0 xs1).1 := ⟨_, rfl⟩
  obtain ⟨LS, hLS⟩ : ∃ LS, LS = (contractRoads s0 xs0 xs1).2.1 := ⟨_, rfl⟩
  obtain ⟨CO, hCO⟩ : ∃ CO, CO = (contractRoads s0 xs0 xs1).2.2 := ⟨_, rfl⟩
  have hlen : LS.length ≤ 1048576 := by rw [hLS]; exact Nat.le_trans (contractRoads_len s0 xs0 xs1) (by omega)
  have hsum : sumLens LS ≤ 1048576 := by rw [hLS]; exact Nat.le_trans (contractRoads_sum s0 xs0 xs1) (by omega)
  have HRW := Lib.hid (show ∀ (r : Nat) (xs : List Int), LS[r]? = some xs → xs.length ≤ 4611686018427387904 from fun r xs hx => by have := len_le_sum hx; omega)
  have HSS := Lib.hid hSS
  clear hSS
  have HLS := Lib.hid hLS
  have HCO := Lib.hid hCO
  clear hLS hCO
  have dP00 := P0.out 0 _ rfl
  have dP01 := P0.out 1 _ rfl
  go_wp2_with fail
  refine (toRoads_any s0 A0 n0 c0 xs0 _ (h0.below BW.out) HN0.out HR0.out).mono ?_
  rintro e w3 ⟨rfl, g, b, z⟩
  clear dP00 dP01
  have Z3 := Lib.hid (Below.size b)
  have P0 := Lib.hid (P0.out.below b)
  have BW := Lib.hid (below_then BW.out b)
  have S0 := Lib.hid ((tab_of_grid g).wide (lo' := w2.heap.size) (hi' := w3.heap.size) (by omega) (by have := HL0.out; omega))
  have hrw0 := HL0.out
  rw [hrw0] at S0
  clear g b z hrw0
  have dP00 := P0.out 0 _ rfl
  have dP01 := P0.out 1 _ rfl
  go_wp2_with fail
  refine (toInt64S_any _ _ _ _ _ (h1.below BW.out) HB1.out).mono ?_
  rintro e w4 ⟨rfl, ow, b, z⟩
  clear dP00 dP01
  have Z4 := Lib.hid (Below.size b)
  have P0 := Lib.hid (P0.out.below b)
  have S0 := Lib.hid (S0.out.below b)
  have BW := Lib.hid (below_then BW.out b)
  have S1 := Lib.hid (show IntsIn w3.heap.size w4.heap.size w4 (.slice (some ⟨w3.heap.size, 0, none⟩) n1 n1) xs1 from IntsIn.of (by have e := h1.1; subst e; exact ow))
  clear ow b z
  have dP00 := P0.out 0 _ rfl
  have dP01 := P0.out 1 _ rfl
  go_wp2_with fail
  refine (specContractRoads_any s0 _ n0 n0 xs0 _ n1 n1 xs1 _ (S0.out.rows HL0.out) hl0 HW0.out (S1.out.nums h1.1) HB1.out).mono ?_
  clear dP00 dP01
  rintro e w5 ⟨v, rfl, ow, b⟩
  rw [← HLS.out] at ow
  rw [← HSS.out, ← HCO.out]
  obtain ⟨VO1, eO1, rfl⟩ := ow.form
  have Z5 := Lib.hid (Below.size b)
  have P0 := Lib.hid (P0.out.below b)
  have S0 := Lib.hid (S0.out.below b)
  have S1 := Lib.hid (S1.out.below b)
  have BW := Lib.hid (below_then BW.out b)
  have O1 := Lib.hid ow
  clear ow b
  have qP0 := P0.out.below ((Below.refl _ w5).alloc (Nat.le_refl _) (.cells #[.int .i64 SS, .slice VO1 LS.length eO1] 27))
  have dP00 := qP0 0 _ rfl
  have dP01 := qP0 1 _ rfl
  clear qP0
  go_wp2_with fail
  clear dP00 dP01
  obtain ⟨w6, hw6⟩ : ∃ w6, w6 = w5.alloc (.cells #[.int .i64 SS, .slice VO1 LS.length eO1] 27) := ⟨_, rfl⟩
  rw [← hw6]
  have bw6 : Below w5.heap.size w5 w6 := by rw [hw6]; exact (Below.refl _ _).alloc (Nat.le_refl _) _
  have O1Bx := Lib.hid (show Box w6 w5.heap.size [.int .i64 SS, .slice VO1 LS.length eO1] by rw [hw6]; exact Box.new _ _ _)
  have O1BL := Lib.hid (show w5.heap.size < w6.heap.size by rw [hw6, World.size_alloc]; exact Nat.lt_succ_self _)
  have Z6 := Lib.hid (Below.size bw6)
  have P0 := Lib.hid (P0.out.below bw6)
  have S0 := Lib.hid (S0.out.below bw6)
  have S1 := Lib.hid (S1.out.below bw6)
  have O1 := Lib.hid (O1.out.below bw6)
  have BW := Lib.hid (below_then BW.out bw6)
  have O1B := O1Bx
  clear hw6 bw6 O1Bx
  clear S0
  clear S1
  refine (toRoads_any s0 A0 n0 c0 xs0 _ (h0.below BW.out) HN0.out HR0.out).mono ?_
  rintro e w7 ⟨rfl, g, b, z⟩
  have Z7 := Lib.hid (Below.size b)
  have P0 := Lib.hid (P0.out.below b)
  have O1 := Lib.hid (O1.out.below b)
  have O1B := Lib.hid (O1B.out.below b)
  have BW := Lib.hid (below_then BW.out b)
  have X0 := Lib.hid ((tab_of_grid g).wide (lo' := w6.heap.size) (hi' := w7.heap.size) (by omega) (by have := HL0.out; omega))
  have hrw0 := HL0.out
  rw [hrw0] at X0
  clear g b z hrw0
  have qP0 := P0.out.below ((Below.refl _ w7).alloc (Nat.le_refl _) (.cells #[.int .i64 s0, .slice (some ⟨w6.heap.size + 3, 0, none⟩) n0 n0] 27))
  have dP00 := qP0 0 _ rfl
  have dP01 := qP0 1 _ rfl
  clear qP0
  have qO1B := O1B.out.below ((Below.refl _ w7).alloc (Nat.le_refl _) (.cells #[.int .i64 s0, .slice (some ⟨w6.heap.size + 3, 0, none⟩) n0 n0] 27))
  have dO1B0 := qO1B 0 _ rfl
  have dO1B1 := qO1B 1 _ rfl
  clear qO1B
  go_wp2_with fail
  clear dP00 dP01 dO1B0 dO1B1
  obtain ⟨w8, hw8⟩ : ∃ w8, w8 = w7.alloc (.cells #[.int .i64 s0, .slice (some ⟨w6.heap.size + 3, 0, none⟩) n0 n0] 27) := ⟨_, rfl⟩
  rw [← hw8]
  have bw8 : Below w7.heap.size w7 w8 := by rw [hw8]; exact (Below.refl _ _).alloc (Nat.le_refl _) _
  have XB0x := Lib.hid (show Box w8 w7.heap.size [.int .i64 s0, .slice (some ⟨w6.heap.size + 3, 0, none⟩) n0 n0] by rw [hw8]; exact Box.new _ _ _)
  have XB0L := Lib.hid (show w7.heap.size < w8.heap.size by rw [hw8, World.size_alloc]; exact Nat.lt_succ_self _)
  have Z8 := Lib.hid (Below.size bw8)
  have P0 := Lib.hid (P0.out.below bw8)
  have O1 := Lib.hid (O1.out.below bw8)
  have O1B := Lib.hid (O1B.out.below bw8)
  have X0 := Lib.hid (X0.out.below bw8)
  have BW := Lib.hid (below_then BW.out bw8)
  have XB0 := XB0x
  clear hw8 bw8 XB0x
  refine (toInt64S_any _ _ _ _ _ (h1.below BW.out) HB1.out).mono ?_
  rintro e w9 ⟨rfl, ow, b, z⟩
  have Z9 := Lib.hid (Below.size b)
  have P0 := Lib.hid (P0.out.below b)
  have O1 := Lib.hid (O1.out.below b)
  have O1B := Lib.hid (O1B.out.below b)
  have X0 := Lib.hid (X0.out.below b)
  have XB0 := Lib.hid (XB0.out.below b)
  have BW := Lib.hid (below_then BW.out b)
  have X1 := Lib.hid (show IntsIn w8.heap.size w9.heap.size w9 (.slice (some ⟨w8.heap.size, 0, none⟩) n1 n1) xs1 from IntsIn.of (by have e := h1.1; subst e; exact ow))
  clear ow b z
  have dP00 := P0.out 0 _ rfl
  have dP01 := P0.out 1 _ rfl
  have dO1B0 := O1B.out 0 _ rfl
  have dO1B1 := O1B.out 1 _ rfl
  have dXB00 := XB0.out 0 _ rfl
  have dXB01 := XB0.out 1 _ rfl
  go_wp2_with fail
  refine (implContractRoads_any s0 _ n0 n0 xs0 _ n1 n1 xs1 _ (X0.out.rows HL0.out) hl0 HW0.out (X1.out.nums h1.1) HB1.out).mono ?_
  clear dP00 dP01 dO1B0 dO1B1 dXB00 dXB01
  rintro e w10 ⟨v, rfl, ow, b⟩
  rw [← HLS.out] at ow
  rw [← HSS.out, ← HCO.out]
  obtain ⟨VO2, eO2, rfl⟩ := ow.form
  have Z10 := Lib.hid (Below.size b)
  have P0 := Lib.hid (P0.out.below b)
  have O1 := Lib.hid (O1.out.below b)
  have O1B := Lib.hid (O1B.out.below b)
  have X0 := Lib.hid (X0.out.below b)
  have XB0 := Lib.hid (XB0.out.below b)
  have X1 := Lib.hid (X1.out.below b)
  have BW := Lib.hid (below_then BW.out b)
  have O2 := Lib.hid ow
  clear ow b
  have qP0 := P0.out.below ((Below.refl _ w10).alloc (Nat.le_refl _) (.cells #[.int .i64 SS, .slice VO2 LS.length eO2] 27))
  have dP00 := qP0 0 _ rfl
  have dP01 := qP0 1 _ rfl
  clear qP0
  have qO1B := O1B.out.below ((Below.refl _ w10).alloc (Nat.le_refl _) (.cells #[.int .i64 SS, .slice VO2 LS.length eO2] 27))
  have dO1B0 := qO1B 0 _ rfl
  have dO1B1 := qO1B 1 _ rfl
  clear qO1B
  have qXB0 := XB0.out.below ((Below.refl _ w10).alloc (Nat.le_refl _) (.cells #[.int .i64 SS, .slice VO2 LS.length eO2] 27))
  have dXB00 := qXB0 0 _ rfl
  have dXB01 := qXB0 1 _ rfl
  clear qXB0
  go_wp2_with fail
  clear dP00 dP01 dO1B0 dO1B1 dXB00 dXB01
  obtain ⟨w11, hw11⟩ : ∃ w11, w11 = w10.alloc (.cells #[.int .i64 SS, .slice VO2 LS.length eO2] 27) := ⟨_, rfl⟩
  rw [← hw11]
  have bw11 : Below w10.heap.size w10 w11 := by rw [hw11]; exact (Below.refl _ _).alloc (Nat.le_refl _) _
  have O2Bx := Lib.hid (show Box w11 w10.heap.size [.int .i64 SS, .slice VO2 LS.length eO2] by rw [hw11]; exact Box.new _ _ _)
  have O2BL := Lib.hid (show w10.heap.size < w11.heap.size by rw [hw11, World.size_alloc]; exact Nat.lt_succ_self _)
  have Z11 := Lib.hid (Below.size bw11)
  have P0 := Lib.hid (P0.out.below bw11)
  have O1 := Lib.hid (O1.out.below bw11)
  have O1B := Lib.hid (O1B.out.below bw11)
  have X0 := Lib.hid (X0.out.below bw11)
  have XB0 := Lib.hid (XB0.out.below bw11)
  have X1 := Lib.hid (X1.out.below bw11)
  have O2 := Lib.hid (O2.out.below bw11)
  have BW := Lib.hid (below_then BW.out bw11)
  have O2B := O2Bx
  clear hw11 bw11 O2Bx
  refine (eqRoads_any SS SS _ _ LS.length LS.length _ _ LS LS _ (O2.out.rows rfl) (O1.out.rows rfl) (by omega) (by omega) HRW.out HRW.out).mono ?_
  rw [sameA_t rfl rfl]
  rintro e w12 ⟨rfl, b⟩
  have Z12 := Lib.hid (Below.size b)
  have P0 := Lib.hid (P0.out.below b)
  have O1 := Lib.hid (O1.out.below b)
  have O1B := Lib.hid (O1B.out.below b)
  have X0 := Lib.hid (X0.out.below b)
  have XB0 := Lib.hid (XB0.out.below b)
  have X1 := Lib.hid (X1.out.below b)
  have O2 := Lib.hid (O2.out.below b)
  have O2B := Lib.hid (O2B.out.below b)
  have BW := Lib.hid (below_then BW.out b)
  clear b
  have rP00 := P0.out.rule (j := 0) rfl
  have rP01 := P0.out.rule (j := 1) rfl
  have rO1B0 := O1B.out.rule (j := 0) rfl
  have rO1B1 := O1B.out.rule (j := 1) rfl
  have rXB00 := XB0.out.rule (j := 0) rfl
  have rXB01 := XB0.out.rule (j := 1) rfl
  have rO2B0 := O2B.out.rule (j := 0) rfl
  have rO2B1 := O2B.out.rule (j := 1) rfl
  have c9 : Below w12.heap.size w12 w12 := Below.refl _ _
  have dP00 := P0.out 0 _ rfl
  have dP01 := P0.out 1 _ rfl
  have dO1B0 := O1B.out 0 _ rfl
  have dO1B1 := O1B.out 1 _ rfl
  have dXB00 := XB0.out 0 _ rfl
  have dXB01 := XB0.out 1 _ rfl
  have dO2B0 := O2B.out 0 _ rfl
  have dO2B1 := O2B.out 1 _ rfl
  go_wp2_with fail
  clear dP00 dP01 dO1B0 dO1B1 dXB00 dXB01 dO2B0 dO2B1
  go_region_held3 (fun w' => Below w12.heap.size w12 w') (first | assumption | exact below_drewN' (by assumption) _)
    (first
      | (go_at_call 17; refine (toRoads_any s0 A0 n0 c0 xs0 _ (h0.below (below_then BW.out (by first | assumption | exact below_drewN' (by assumption) _))) HN0.out HR0.out).mono ?_; rintro e wa ⟨rfl, ga, ba, za⟩; have ca : Below w12.heap.size w12 wa := below_then (by first | assumption | exact below_drewN' (by assumption) _) ba; have GA := Lib.hid (ga.rowsN HL0.out); clear ga ba za)
      | (go_at_call 19; refine (eqRoads_any s0 s0 _ _ n0 n0 n0 n0 xs0 xs0 _ ((X0.out.below ca).rows HL0.out) GA.out hl0 hl0 HW0.out HW0.out).mono ?_; rw [sameA_t rfl rfl]; rintro e w13 ⟨rfl, be⟩; have ce : Below w12.heap.size w12 w13 := below_then ca be; clear be))
  clear rP00 rP01 rO1B0 rO1B1 rXB00 rXB01 rO2B0 rO2B1 c9 ca GA
  have Z13 := Lib.hid (Below.size ce)
  have P0 := Lib.hid (P0.out.below ce)
  have O1 := Lib.hid (O1.out.below ce)
  have O1B := Lib.hid (O1B.out.below ce)
  have X0 := Lib.hid (X0.out.below ce)
  have XB0 := Lib.hid (XB0.out.below ce)
  have X1 := Lib.hid (X1.out.below ce)
  have O2 := Lib.hid (O2.out.below ce)
  have O2B := Lib.hid (O2B.out.below ce)
  have BW := Lib.hid (below_then BW.out ce)
  clear ce
  have dP00 := P0.out 0 _ rfl
  have dP01 := P0.out 1 _ rfl
  have dO1B0 := O1B.out 0 _ rfl
  have dO1B1 := O1B.out 1 _ rfl
  have dXB00 := XB0.out 0 _ rfl
  have dXB01 := XB0.out 1 _ rfl
  have dO2B0 := O2B.out 0 _ rfl
  have dO2B1 := O2B.out 1 _ rfl
  go_wp2_with fail
  refine (toInt64S_any _ _ _ _ _ (h1.below BW.out) HB1.out).mono ?_
  rintro e w14 ⟨rfl, ow, b, z⟩
  clear dP00 dP01 dO1B0 dO1B1 dXB00 dXB01 dO2B0 dO2B1
  have Z14 := Lib.hid (Below.size b)
  have P0 := Lib.hid (P0.out.below b)
  have O1 := Lib.hid (O1.out.below b)
  have O1B := Lib.hid (O1B.out.below b)
  have X0 := Lib.hid (X0.out.below b)
  have XB0 := Lib.hid (XB0.out.below b)
  have X1 := Lib.hid (X1.out.below b)
  have O2 := Lib.hid (O2.out.below b)
  have O2B := Lib.hid (O2B.out.below b)
  have BW := Lib.hid (below_then BW.out b)
  have Y1 := Lib.hid (show IntsIn w13.heap.size w14.heap.size w14 (.slice (some ⟨w13.heap.size, 0, none⟩) n1 n1) xs1 from IntsIn.of (by have e := h1.1; subst e; exact ow))
  clear ow b z
  have dP00 := P0.out 0 _ rfl
  have dP01 := P0.out 1 _ rfl
  have dO1B0 := O1B.out 0 _ rfl
  have dO1B1 := O1B.out 1 _ rfl
  have dXB00 := XB0.out 0 _ rfl
  have dXB01 := XB0.out 1 _ rfl
  have dO2B0 := O2B.out 0 _ rfl
  have dO2B1 := O2B.out 1 _ rfl
  go_wp2_with fail
  refine (eqInts_b _ _ _ _ _ _ _ _ _ (X1.out.nums h1.1) (Y1.out.nums h1.1) hl1 hl1).mono ?_
  rw [sameB_t rfl]
  rintro e w15 ⟨rfl, b⟩
  clear dP00 dP01 dO1B0 dO1B1 dXB00 dXB01 dO2B0 dO2B1
  have Z15 := Lib.hid (Below.size b)
  have P0 := Lib.hid (P0.out.below b)
  have O1 := Lib.hid (O1.out.below b)
  have O1B := Lib.hid (O1B.out.below b)
  have X0 := Lib.hid (X0.out.below b)
  have XB0 := Lib.hid (XB0.out.below b)
  have X1 := Lib.hid (X1.out.below b)
  have O2 := Lib.hid (O2.out.below b)
  have O2B := Lib.hid (O2B.out.below b)
  have Y1 := Lib.hid (Y1.out.below b)
  have BW := Lib.hid (below_then BW.out b)
  clear b
  clear Y1
  have hk0a : (0 : Int) ≤ 1 := by omega
  have hk0b : 1 + (sumLens xs0 : Int) ≤ 4611686018427387904 := by have := HSUM0.out; have := HB1.out; omega
  have dP00 := P0.out 0 _ rfl
  have dP01 := P0.out 1 _ rfl
  have dO1B0 := O1B.out 0 _ rfl
  have dO1B1 := O1B.out 1 _ rfl
  have dXB00 := XB0.out 0 _ rfl
  have dXB01 := XB0.out 1 _ rfl
  have dO2B0 := O2B.out 0 _ rfl
  have dO2B1 := O2B.out 1 _ rfl
  go_wp2_with fail
  refine (markRoadsT_any w6.heap.size w7.heap.size s0 _ n0 n0 xs0 (1) w15 X0.out HL0.out hk0a HN0.out hk0b).mono ?_
  rintro e w16 ⟨rfl, u, mt⟩
  clear dP00 dP01 dO1B0 dO1B1 dXB00 dXB01 dO2B0 dO2B1
  have Z16 := Lib.hid (Only.size u)
  have P0 := Lib.hid (P0.out.only u (.inl (by have := P0L.out; have := Z2.out; have := Z3.out; have := Z4.out; have := Z5.out; have := Z6.out; omega)))
  have O1 := Lib.hid (O1.out.only u (.inl (by have := Z6.out; omega)))
  have O1B := Lib.hid (O1B.out.only u (.inl (by have := O1BL.out;  omega)))
  have XB0 := Lib.hid (XB0.out.only u (.inr (by skip; omega)))
  have X1 := Lib.hid (X1.out.only u (.inr (by have := Z8.out; omega)))
  have O2 := Lib.hid (O2.out.only u (.inr (by have := Z8.out; have := Z9.out; omega)))
  have O2B := Lib.hid (O2B.out.only u (.inr (by have := Z8.out; have := Z9.out; have := Z10.out; omega)))
  have BW := Lib.hid (Only.below BW.out u (by have := Z1.out; have := Z2.out; have := Z3.out; have := Z4.out; have := Z5.out; have := Z6.out; omega) (by have := Z1.out; have := Z2.out; have := Z3.out; have := Z4.out; have := Z5.out; have := Z6.out; have := Z7.out; have := Z8.out; have := Z9.out; have := Z10.out; have := Z11.out; have := Z12.out; have := Z13.out; have := Z14.out; have := Z15.out; omega))
  clear u mt hk0a hk0b
  clear X0
  have hk1a : (0 : Int) ≤ 1 + (sumLens xs0 : Int) := by omega
  have hk1b : 1 + (sumLens xs0 : Int) + (n1 : Int) ≤ 4611686018427387904 := by have := HSUM0.out; have := HB1.out; omega
  have dP00 := P0.out 0 _ rfl
  have dP01 := P0.out 1 _ rfl
  have dO1B0 := O1B.out 0 _ rfl
  have dO1B1 := O1B.out 1 _ rfl
  have dXB00 := XB0.out 0 _ rfl
  have dXB01 := XB0.out 1 _ rfl
  have dO2B0 := O2B.out 0 _ rfl
  have dO2B1 := O2B.out 1 _ rfl
  go_wp2_with fail
  refine (markInts_in w8.heap.size w9.heap.size n1 n1 _ xs1 (1 + (sumLens xs0 : Int)) w16 X1.out h1.1 hk1a hk1b).mono ?_
  rintro e w17 ⟨rfl, u, mt, mz⟩
  clear dP00 dP01 dO1B0 dO1B1 dXB00 dXB01 dO2B0 dO2B1
  have Z17 := Lib.hid (Only.size u)
  have P0 := Lib.hid (P0.out.only u (.inl (by have := P0L.out; have := Z2.out; have := Z3.out; have := Z4.out; have := Z5.out; have := Z6.out; have := Z7.out; have := Z8.out; omega)))
  have O1 := Lib.hid (O1.out.only u (.inl (by have := Z6.out; have := Z7.out; have := Z8.out; omega)))
  have O1B := Lib.hid (O1B.out.only u (.inl (by have := O1BL.out; have := Z7.out; have := Z8.out; omega)))
  have XB0 := Lib.hid (XB0.out.only u (.inl (by have := XB0L.out;  omega)))
  have O2 := Lib.hid (O2.out.only u (.inr (Nat.le_refl _)))
  have O2B := Lib.hid (O2B.out.only u (.inr (by have := Z10.out; omega)))
  have BW := Lib.hid (Only.below BW.out u (by have := Z1.out; have := Z2.out; have := Z3.out; have := Z4.out; have := Z5.out; have := Z6.out; have := Z7.out; have := Z8.out; omega) (by have := Z1.out; have := Z2.out; have := Z3.out; have := Z4.out; have := Z5.out; have := Z6.out; have := Z7.out; have := Z8.out; have := Z9.out; have := Z10.out; have := Z11.out; have := Z12.out; have := Z13.out; have := Z14.out; have := Z15.out; have := Z16.out; omega))
  clear u mt mz hk1a hk1b
  clear X1
  have hdec : decide (1 + (sumLens xs0 : Int) + (n1 : Int) < 0) = false := by simp; omega
  have dP00 := P0.out 0 _ rfl
  have dP01 := P0.out 1 _ rfl
  have dO1B0 := O1B.out 0 _ rfl
  have dO1B1 := O1B.out 1 _ rfl
  have dXB00 := XB0.out 0 _ rfl
  have dXB01 := XB0.out 1 _ rfl
  have dO2B0 := O2B.out 0 _ rfl
  have dO2B1 := O2B.out 1 _ rfl
  go_wp2_with fail
  refine (eqRoads_any SS SS _ _ LS.length LS.length _ _ LS LS _ (O2.out.rows rfl) (O1.out.rows rfl) (by omega) (by omega) HRW.out HRW.out).mono ?_
  rw [sameA_t rfl rfl]
  rintro e w18 ⟨rfl, b⟩
  clear dP00 dP01 dO1B0 dO1B1 dXB00 dXB01 dO2B0 dO2B1
  have Z18 := Lib.hid (Below.size b)
  have P0 := Lib.hid (P0.out.below b)
  have O1 := Lib.hid (O1.out.below b)
  have O1B := Lib.hid (O1B.out.below b)
  have XB0 := Lib.hid (XB0.out.below b)
  have O2 := Lib.hid (O2.out.below b)
  have O2B := Lib.hid (O2B.out.below b)
  have BW := Lib.hid (below_then BW.out b)
  clear b
  have hkm : (1 : Int) + (sumLens LS : Int) ≤ 4611686018427387904 := by omega
  have hkm0 : (0 : Int) ≤ 1 + (sumLens LS : Int) := by omega
  have dP00 := P0.out 0 _ rfl
  have dP01 := P0.out 1 _ rfl
  have dO1B0 := O1B.out 0 _ rfl
  have dO1B1 := O1B.out 1 _ rfl
  have dXB00 := XB0.out 0 _ rfl
  have dXB01 := XB0.out 1 _ rfl
  have dO2B0 := O2B.out 0 _ rfl
  have dO2B1 := O2B.out 1 _ rfl
  go_wp2_with fail
  refine (markRoadsT_any w9.heap.size w10.heap.size SS VO2 LS.length eO2 LS 1 w18 O2.out rfl (by omega) hlen hkm).mono ?_
  rintro e w19 ⟨rfl, u, mt⟩
  clear dP00 dP01 dO1B0 dO1B1 dXB00 dXB01 dO2B0 dO2B1
  have Z19 := Lib.hid (Only.size u)
  have P0 := Lib.hid (P0.out.only u (.inl (by have := P0L.out; have := Z2.out; have := Z3.out; have := Z4.out; have := Z5.out; have := Z6.out; have := Z7.out; have := Z8.out; have := Z9.out; omega)))
  have O1 := Lib.hid (O1.out.only u (.inl (by have := Z6.out; have := Z7.out; have := Z8.out; have := Z9.out; omega)))
  have O1B := Lib.hid (O1B.out.only u (.inl (by have := O1BL.out; have := Z7.out; have := Z8.out; have := Z9.out; omega)))
  have XB0 := Lib.hid (XB0.out.only u (.inl (by have := XB0L.out; have := Z9.out; omega)))
  have O2B := Lib.hid (O2B.out.only u (.inr (by skip; omega)))
  have BW := Lib.hid (Only.below BW.out u (by have := Z1.out; have := Z2.out; have := Z3.out; have := Z4.out; have := Z5.out; have := Z6.out; have := Z7.out; have := Z8.out; have := Z9.out; omega) (by have := Z1.out; have := Z2.out; have := Z3.out; have := Z4.out; have := Z5.out; have := Z6.out; have := Z7.out; have := Z8.out; have := Z9.out; have := Z10.out; have := Z11.out; have := Z12.out; have := Z13.out; have := Z14.out; have := Z15.out; have := Z16.out; have := Z17.out; have := Z18.out; omega))
  have M := Lib.hid mt
  clear u mt
  clear O2
  have dP00 := P0.out 0 _ rfl
  have dP01 := P0.out 1 _ rfl
  have dO1B0 := O1B.out 0 _ rfl
  have dO1B1 := O1B.out 1 _ rfl
  have dXB00 := XB0.out 0 _ rfl
  have dXB01 := XB0.out 1 _ rfl
  have dO2B0 := O2B.out 0 _ rfl
  have dO2B1 := O2B.out 1 _ rfl
  go_wp2_with fail
  refine (heldRoadsT_any SS VO2 LS.length eO2 LS 1 w19 (M.out.rows (marksT_len _ _)) rfl (by omega) hlen hkm).mono ?_
  rintro e w20 ⟨rfl, b⟩
  clear dP00 dP01 dO1B0 dO1B1 dXB00 dXB01 dO2B0 dO2B1
  have Z20 := Lib.hid (Below.size b)
  have P0 := Lib.hid (P0.out.below b)
  have O1 := Lib.hid (O1.out.below b)
  have O1B := Lib.hid (O1B.out.below b)
  have XB0 := Lib.hid (XB0.out.below b)
  have O2B := Lib.hid (O2B.out.below b)
  have M := Lib.hid (M.out.below b)
  have BW := Lib.hid (below_then BW.out b)
  clear b
  have dP00 := P0.out 0 _ rfl
  have dP01 := P0.out 1 _ rfl
  have dO1B0 := O1B.out 0 _ rfl
  have dO1B1 := O1B.out 1 _ rfl
  have dXB00 := XB0.out 0 _ rfl
  have dXB01 := XB0.out 1 _ rfl
  have dO2B0 := O2B.out 0 _ rfl
  have dO2B1 := O2B.out 1 _ rfl
  go_wp2_with fail
  refine (toRoads_any s0 A0 n0 c0 xs0 _ (h0.below BW.out) HN0.out HR0.out).mono ?_
  rintro e w21 ⟨rfl, g, b, z⟩
  clear dP00 dP01 dO1B0 dO1B1 dXB00 dXB01 dO2B0 dO2B1
  have Z21 := Lib.hid (Below.size b)
  have P0 := Lib.hid (P0.out.below b)
  have O1 := Lib.hid (O1.out.below b)
  have O1B := Lib.hid (O1B.out.below b)
  have XB0 := Lib.hid (XB0.out.below b)
  have O2B := Lib.hid (O2B.out.below b)
  have M := Lib.hid (M.out.below b)
  have BW := Lib.hid (below_then BW.out b)
  have R0 := Lib.hid ((tab_of_grid g).wide (lo' := w20.heap.size) (hi' := w21.heap.size) (by omega) (by have := HL0.out; omega))
  have hrw0 := HL0.out
  rw [hrw0] at R0
  clear g b z hrw0
  have dP00 := P0.out 0 _ rfl
  have dP01 := P0.out 1 _ rfl
  have dO1B0 := O1B.out 0 _ rfl
  have dO1B1 := O1B.out 1 _ rfl
  have dXB00 := XB0.out 0 _ rfl
  have dXB01 := XB0.out 1 _ rfl
  have dO2B0 := O2B.out 0 _ rfl
  have dO2B1 := O2B.out 1 _ rfl
  go_wp2_with fail
  refine (toInt64S_any _ _ _ _ _ (h1.below BW.out) HB1.out).mono ?_
  rintro e w22 ⟨rfl, ow, b, z⟩
  clear dP00 dP01 dO1B0 dO1B1 dXB00 dXB01 dO2B0 dO2B1
  have Z22 := Lib.hid (Below.size b)
  have P0 := Lib.hid (P0.out.below b)
  have O1 := Lib.hid (O1.out.below b)
  have O1B := Lib.hid (O1B.out.below b)
  have XB0 := Lib.hid (XB0.out.below b)
  have O2B := Lib.hid (O2B.out.below b)
  have M := Lib.hid (M.out.below b)
  have R0 := Lib.hid (R0.out.below b)
  have BW := Lib.hid (below_then BW.out b)
  have R1 := Lib.hid (show IntsIn w21.heap.size w22.heap.size w22 (.slice (some ⟨w21.heap.size, 0, none⟩) n1 n1) xs1 from IntsIn.of (by have e := h1.1; subst e; exact ow))
  clear ow b z
  have dP00 := P0.out 0 _ rfl
  have dP01 := P0.out 1 _ rfl
  have dO1B0 := O1B.out 0 _ rfl
  have dO1B1 := O1B.out 1 _ rfl
  have dXB00 := XB0.out 0 _ rfl
  have dXB01 := XB0.out 1 _ rfl
  have dO2B0 := O2B.out 0 _ rfl
  have dO2B1 := O2B.out 1 _ rfl
  go_wp2_with fail
  refine (implContractRoads_any s0 _ n0 n0 xs0 _ n1 n1 xs1 _ (R0.out.rows HL0.out) hl0 HW0.out (R1.out.nums h1.1) HB1.out).mono ?_
  clear dP00 dP01 dO1B0 dO1B1 dXB00 dXB01 dO2B0 dO2B1
  rintro e w23 ⟨v, rfl, ow, b⟩
  rw [← HLS.out] at ow
  rw [← HSS.out, ← HCO.out]
  obtain ⟨VO3, eO3, rfl⟩ := ow.form
  have Z23 := Lib.hid (Below.size b)
  have P0 := Lib.hid (P0.out.below b)
  have O1 := Lib.hid (O1.out.below b)
  have O1B := Lib.hid (O1B.out.below b)
  have XB0 := Lib.hid (XB0.out.below b)
  have O2B := Lib.hid (O2B.out.below b)
  have M := Lib.hid (M.out.below b)
  have R0 := Lib.hid (R0.out.below b)
  have R1 := Lib.hid (R1.out.below b)
  have BW := Lib.hid (below_then BW.out b)
  have O3 := Lib.hid ow
  clear ow b
  have qP0 := P0.out.below ((Below.refl _ w23).alloc (Nat.le_refl _) (.cells #[.int .i64 SS, .slice VO3 LS.length eO3] 27))
  have dP00 := qP0 0 _ rfl
  have dP01 := qP0 1 _ rfl
  clear qP0
  have qO1B := O1B.out.below ((Below.refl _ w23).alloc (Nat.le_refl _) (.cells #[.int .i64 SS, .slice VO3 LS.length eO3] 27))
  have dO1B0 := qO1B 0 _ rfl
  have dO1B1 := qO1B 1 _ rfl
  clear qO1B
  have qXB0 := XB0.out.below ((Below.refl _ w23).alloc (Nat.le_refl _) (.cells #[.int .i64 SS, .slice VO3 LS.length eO3] 27))
  have dXB00 := qXB0 0 _ rfl
  have dXB01 := qXB0 1 _ rfl
  clear qXB0
  have qO2B := O2B.out.below ((Below.refl _ w23).alloc (Nat.le_refl _) (.cells #[.int .i64 SS, .slice VO3 LS.length eO3] 27))
  have dO2B0 := qO2B 0 _ rfl
  have dO2B1 := qO2B 1 _ rfl
  clear qO2B
  go_wp2_with fail
  clear dP00 dP01 dO1B0 dO1B1 dXB00 dXB01 dO2B0 dO2B1
  obtain ⟨w24, hw24⟩ : ∃ w24, w24 = w23.alloc (.cells #[.int .i64 SS, .slice VO3 LS.length eO3] 27) := ⟨_, rfl⟩
  rw [← hw24]
  have bw24 : Below w23.heap.size w23 w24 := by rw [hw24]; exact (Below.refl _ _).alloc (Nat.le_refl _) _
  have O3Bx := Lib.hid (show Box w24 w23.heap.size [.int .i64 SS, .slice VO3 LS.length eO3] by rw [hw24]; exact Box.new _ _ _)
  have O3BL := Lib.hid (show w23.heap.size < w24.heap.size by rw [hw24, World.size_alloc]; exact Nat.lt_succ_self _)
  have Z24 := Lib.hid (Below.size bw24)
  have P0 := Lib.hid (P0.out.below bw24)
  have O1 := Lib.hid (O1.out.below bw24)
  have O1B := Lib.hid (O1B.out.below bw24)
  have XB0 := Lib.hid (XB0.out.below bw24)
  have O2B := Lib.hid (O2B.out.below bw24)
  have M := Lib.hid (M.out.below bw24)
  have R0 := Lib.hid (R0.out.below bw24)
  have R1 := Lib.hid (R1.out.below bw24)
  have O3 := Lib.hid (O3.out.below bw24)
  have BW := Lib.hid (below_then BW.out bw24)
  have O3B := O3Bx
  clear hw24 bw24 O3Bx
  clear R0
  clear R1
  refine (eqRoads_any SS SS _ _ LS.length LS.length _ _ LS LS _ (O3.out.rows rfl) (O1.out.rows rfl) (by omega) (by omega) HRW.out HRW.out).mono ?_
  rw [sameA_t rfl rfl]
  rintro e w25 ⟨rfl, b⟩
  have Z25 := Lib.hid (Below.size b)
  have P0 := Lib.hid (P0.out.below b)
  have O1 := Lib.hid (O1.out.below b)
  have O1B := Lib.hid (O1B.out.below b)
  have XB0 := Lib.hid (XB0.out.below b)
  have O2B := Lib.hid (O2B.out.below b)
  have M := Lib.hid (M.out.below b)
  have O3 := Lib.hid (O3.out.below b)
  have O3B := Lib.hid (O3B.out.below b)
  have BW := Lib.hid (below_then BW.out b)
  clear b
  have dP00 := P0.out 0 _ rfl
  have dP01 := P0.out 1 _ rfl
  have dO1B0 := O1B.out 0 _ rfl
  have dO1B1 := O1B.out 1 _ rfl
  have dXB00 := XB0.out 0 _ rfl
  have dXB01 := XB0.out 1 _ rfl
  have dO2B0 := O2B.out 0 _ rfl
  have dO2B1 := O2B.out 1 _ rfl
  have dO3B0 := O3B.out 0 _ rfl
  have dO3B1 := O3B.out 1 _ rfl
  go_wp2_with fail
  refine (heldRoadsT_any SS VO2 LS.length eO2 LS 1 w25 (M.out.rows (marksT_len _ _)) rfl (by omega) hlen hkm).mono ?_
  rintro e w26 ⟨rfl, b⟩
  clear dP00 dP01 dO1B0 dO1B1 dXB00 dXB01 dO2B0 dO2B1 dO3B0 dO3B1
  have Z26 := Lib.hid (Below.size b)
  have P0 := Lib.hid (P0.out.below b)
  have O1 := Lib.hid (O1.out.below b)
  have O1B := Lib.hid (O1B.out.below b)
  have XB0 := Lib.hid (XB0.out.below b)
  have O2B := Lib.hid (O2B.out.below b)
  have M := Lib.hid (M.out.below b)
  have O3 := Lib.hid (O3.out.below b)
  have O3B := Lib.hid (O3B.out.below b)
  have BW := Lib.hid (below_then BW.out b)
  clear b
  go_wp2_with fail
  go_ret
  exact ⟨rfl, BW.out⟩

set_option maxRecDepth 100000 in
theorem lifted (os : Os) (started : os.Started) (H : Type) (enc : TypeId × Value → H) :
    ReturnsInHanded {} Try.checked os 13 .any (Rows.fnExactContractRoadsSpec.pre6 enc Try.prog Try.f13 Rows.fnExactContractRoadsRow.domain false) (Rows.fnExactContractRoadsSpec.post enc Try.prog Try.f13 false true false false) := by
  refine returnsInHanded_of_change (C := Try.checked) own started (by kernel_rfl) Try.func13
    (ChangeSpec.witness6 (enc := enc) (C := Try.checked) false ⟨#[], #[.agg #[.int .i64 0, .slice none 0 0], .slice none 0 0], []⟩ 8 (by kernel_rfl) (by kernel_rfl) (by kernel_rfl) (by kernel_rfl)) ?_
  intro W base args ds gs before hval0 hW hcnd _
  have hval : ∀ (j : Nat) t v, Try.f13.params[j]? = some t → args[j]? = some v → Value.okWide Try.prog W .any base t v := hval0
  have hW' := hW
  obtain ⟨p, q, hA0, hV, rfl, hfz, hnd⟩ := hW
  have hA : DataW.TrodAll enc Try.prog W 0 (fun _ => true) true Try.f13.params.toList args.toList ds p := hA0
  rw [Try.params13] at hA hval
  obtain ⟨v0, vs0, d0, ds0, p0, q0, hargs, rfl, rfl, h0, r0⟩ := trodAll_cons hA
  obtain ⟨v1, vs1, d1, ds1, p1, q1, rfl, rfl, rfl, h1, r1⟩ := trodAll_cons r0
  obtain ⟨rfl, rfl, rfl⟩ := trodAll_nil r1
  obtain rfl : args = #[v0, v1] := by cases args; simp_all
  obtain ⟨rfl, rfl⟩ := trodVars_none hV
  have lt0 : ∀ x ∈ p0, x.block < W.heap.size := by obtain ⟨m, hm⟩ := h0; exact DataW.trod_lt m _ _ _ hm
  have k0 := h0
  obtain ⟨s0, a0, n0, c0, xs0, rfl, hr0, hn0, hw0⟩ := road_of_trod (hval 0 24 v0 rfl rfl) h0
  have lt1 : ∀ x ∈ p1, x.block < W.heap.size := by obtain ⟨m, hm⟩ := h1; exact DataW.trod_lt m _ _ _ hm
  have k1 := h1
  obtain ⟨a1, n1, c1, rfl⟩ := okWide_slice Try.underlying55 (hval 1 55 v1 rfl rfl)
  obtain ⟨xs1, hr1, hn1⟩ := nums_of_trod h1
  clear hA0 hval0
  refine (walk s0 a0 n0 c0 xs0 a1 n1 c1 xs1 W hr0 hn0 hw0 hr1 hn1).mono fun e W' ⟨he, bel⟩ => ?_
  subst he
  exact ⟨_, rfl, _, _, _, [], _, [], hW', trodAll_mk1 (shut_bool Try.underlying4 _), (trodAll_cons_mk (Below.trod laidOut (by kernel_rfl) (of_decide_eq_true (by kernel_rfl)) k0 bel lt0) (trodAll_cons_mk (Below.trod laidOut (by kernel_rfl) (of_decide_eq_true (by kernel_rfl)) k1 bel lt1) trodAll_mk0)), rfl, bel.frame _, fun h => by cases h⟩

theorem over : Rows.fnExactContractRoadsRow.holds Try.pinned (OpenSpec.ofChange Rows.fnExactContractRoadsSpec) :=
  OpenClaim.holds_of_wide 13 Try.f13 rfl rfl rfl rfl rfl rfl rfl ⟨rfl, rfl, rfl, rfl, rfl⟩ rfl rfl rfl rfl rfl (by kernel_rfl) Try.func13 (by kernel_rfl)
    (of_decide_eq_true (by kernel_rfl)) (by unfold Func.isWrapper; first | (rw [if_pos (by decide +kernel)]; kernel_rfl) | (rw [if_neg (by decide +kernel)]; exact ⟨rfl, rfl⟩))
    (fun os started H enc _ => lifted os started H enc)

/-- The statement. -/
theorem proved : Rows.FnExactContractRoadsSaid := over
#print axioms proved
end fnExactContractRoads
end Go.Proofs.Ytkbnbcecphmihaa
