/-
  FnExactAdaptiveRun: for every choice of its arguments (automaton with lamps, list, number) the law returns true: both functions give the same answer and code, what the program answers is new memory each time, and no argument is written. No condition.
-/
import Derived.Test.YtdelanjkaokiaaaRunS
import Derived.Test.YtdelanjkaokiaaaRunI
import Derived.WalkSpells
namespace Go.Proofs.Ytdelanjkaokiaaa
open Go.RowKit Go.Deep Go.ChangeShapes Go.WideShapes

namespace fnExactAdaptiveRun
open Go.ChangeAt

set_option maxHeartbeats 8000000 in
set_option maxRecDepth 100000 in
theorem walk (s0 : Int) (A0 : Option Addr) (n0 c0 : Nat) (xs0 : List (List Int)) (B0 : Option Addr) (m0 d0 : Nat) (ys0 : List Int) (A1 : Option Addr) (n1 c1 : Nat) (xs1 : List Int) (x2 : Int) (w : World) (h0 : RowsAt w A0 n0 xs0) (hn0 : n0 ≤ 9223372036854775807) (hr0 : ∀ (r : Nat) (xs : List Int), xs0[r]? = some xs → xs.length ≤ 9223372036854775807) (g0 : NumsAt w B0 m0 ys0) (gn0 : m0 ≤ 9223372036854775807) (h1 : NumsAt w A1 n1 xs1) (hn1 : n1 ≤ maxLen) :
    Calls Try.prog 5 #[.agg #[.int .i64 s0, .slice A0 n0 c0, .slice B0 m0 d0], .slice A1 n1 c1, .int .i64 x2] w fun e w' => e = .returned (.bool true) ∧ Below w.heap.size w w' := by
  have HR0 := Lib.hid hr0
  have HL0 := Lib.hid h0.1
  clear hr0
  have GL0 := Lib.hid g0.1
  have hq1 : n1 ≤ 9223372036854775807 := hn1
  clear hn1
  rcases Nat.lt_or_ge 1048576 n1 with hbig | hbig
  · have hbig' : (1048576 : Int) < (n1 : Int) := by omega
    go_enter Try.func5, Try.ntmps5
    go_wp2_with fail
    go_ret
    exact ⟨rfl, by go_grown⟩
  have hsmall1 : decide ((1048576 : Int) < (n1 : Int)) = false := by simp; omega
  have hl1 : n1 ≤ 4611686018427387904 := by omega
  have HB1 := Lib.hid hbig
  clear hbig hq1
  go_enter Try.func5, Try.ntmps5
  go_wp2_with fail
  obtain ⟨w1, hw1⟩ : ∃ w1, w1 = w.alloc (.cells #[.int .i64 s0, .slice A0 n0 c0, .slice B0 m0 d0] 27) := ⟨_, rfl⟩
  rw [← hw1]
  have bw1 : Below w.heap.size w w1 := by rw [hw1]; exact (Below.refl _ _).alloc (Nat.le_refl _) _
  have P0x := Lib.hid (show Box w1 w.heap.size [.int .i64 s0, .slice A0 n0 c0, .slice B0 m0 d0] by rw [hw1]; exact Box.new _ _ _)
  have P0L := Lib.hid (show w.heap.size < w1.heap.size by rw [hw1, World.size_alloc]; exact Nat.lt_succ_self _)
  have Z1 := Lib.hid (Below.size bw1)
  have BW := Lib.hid (show Below w.heap.size w w1 from bw1)
  have P0 := P0x
  clear hw1 bw1 P0x
  refine (szLit_any s0 A0 n0 c0 xs0 B0 m0 d0 _ _ (h0.below BW.out) hn0 HR0.out gn0 (by omega) (by omega)).mono ?_
  rintro e w2 ⟨r0, rfl, hS, b⟩
  have HS0 := Lib.hid hS
  clear hS
  have Z2 := Lib.hid (Below.size b)
  have P0 := Lib.hid (P0.out.below b)
  have BW := Lib.hid (below_then BW.out b)
  clear b
  rcases Int.lt_or_le r0 0 with hneg | hneg
  · skip
    have dP00 := P0.out 0 _ rfl
    have dP01 := P0.out 1 _ rfl
    have dP02 := P0.out 2 _ rfl
    go_wp2_with fail
    go_ret
    exact ⟨rfl, BW.out⟩
  have hneg' : ¬ r0 < 0 := by omega
  have HN0 := Lib.hid (sizedL_n HS0.out (by omega) hneg' HL0.out)
  have HR0 := Lib.hid (sizedL_rows HS0.out (by omega) hneg' )
  have GN0 := Lib.hid (sizedL_m HS0.out (by omega) hneg' )
  have HSUM0 := Lib.hid (sizedL_sum HS0.out (by omega) hneg' )
  obtain ⟨hp0, hp0'⟩ := sizedL_left HS0.out hneg'
  have gl0 : m0 ≤ 4611686018427387904 := by have := GN0.out; omega
  clear gn0
  have HW0 := Lib.hid (rows_wide HR0.out)
  have hl0 : n0 ≤ 4611686018427387904 := by have := HN0.out; omega
  clear hn0
  obtain ⟨LS, hLS⟩ : ∃ LS, LS = (adaptiveRun s0 xs0 ys0 xs1 x2).1 := ⟨_, rfl⟩
  obtain ⟨CO, hCO⟩ : ∃ CO, CO = (adaptiveRun s0 xs0 ys0 xs1 x2).2.2 := ⟨_, rfl⟩
  have hlen : LS.length ≤ 1048576 := by rw [hLS]; exact Nat.le_trans (adaptiveRun_len s0 xs0 ys0 xs1 x2) (by omega)
  obtain ⟨NO, hNO⟩ : ∃ NO, NO = (adaptiveRun s0 xs0 ys0 xs1 x2).2.1 := ⟨_, rfl⟩
  have HNO := Lib.hid hNO
  clear hNO
  have HLS := Lib.hid hLS
  have HCO := Lib.hid hCO
  clear hLS hCO
  have dP00 := P0.out 0 _ rfl
  have dP01 := P0.out 1 _ rfl
  have dP02 := P0.out 2 _ rfl
  go_wp2_with fail
  refine (toLit_any s0 A0 n0 c0 xs0 B0 m0 d0 ys0 _ (h0.below BW.out) HN0.out HR0.out (g0.below BW.out) GN0.out).mono ?_
  rintro e w3 ⟨rfl, g, b⟩
  clear dP00 dP01 dP02
  have Z3 := Lib.hid (Below.size b)
  have P0 := Lib.hid (P0.out.below b)
  have BW := Lib.hid (below_then BW.out b)
  have S0 := Lib.hid g
  clear g b
  have dP00 := P0.out 0 _ rfl
  have dP01 := P0.out 1 _ rfl
  have dP02 := P0.out 2 _ rfl
  go_wp2_with fail
  refine (toInt64S_any _ _ _ _ _ (h1.below BW.out) HB1.out).mono ?_
  rintro e w4 ⟨rfl, ow, b, z⟩
  clear dP00 dP01 dP02
  have Z4 := Lib.hid (Below.size b)
  have P0 := Lib.hid (P0.out.below b)
  have S0 := Lib.hid (S0.out.below b)
  have BW := Lib.hid (below_then BW.out b)
  have S1 := Lib.hid (show IntsIn w3.heap.size w4.heap.size w4 (.slice (some ⟨w3.heap.size, 0, none⟩) n1 n1) xs1 from IntsIn.of (by have e := h1.1; subst e; exact ow))
  clear ow b z
  have dP00 := P0.out 0 _ rfl
  have dP01 := P0.out 1 _ rfl
  have dP02 := P0.out 2 _ rfl
  go_wp2_with fail
  refine (specAdaptiveRun_any s0 _ n0 n0 xs0 _ m0 m0 ys0 _ n1 n1 xs1 x2 _ (S0.out.rows HL0.out) hl0 HW0.out (S0.out.outs GL0.out) gl0 (S1.out.nums h1.1) hl1).mono ?_
  clear dP00 dP01 dP02
  rintro e w5 ⟨v, rfl, ow, b⟩
  rw [← HLS.out] at ow
  rw [← HNO.out, ← HCO.out]
  obtain ⟨VO1, eO1, rfl⟩ := own_form ow
  have Z5 := Lib.hid (Below.size b)
  have P0 := Lib.hid (P0.out.below b)
  have S0 := Lib.hid (S0.out.below b)
  have S1 := Lib.hid (S1.out.below b)
  have BW := Lib.hid (below_then BW.out b)
  have O1 := Lib.hid (show IntsIn w4.heap.size w5.heap.size w5 (.slice VO1 LS.length eO1) LS from IntsIn.of ow)
  clear ow b
  clear S0
  clear S1
  have dP00 := P0.out 0 _ rfl
  have dP01 := P0.out 1 _ rfl
  have dP02 := P0.out 2 _ rfl
  go_wp2_with fail
  refine (toLit_any s0 A0 n0 c0 xs0 B0 m0 d0 ys0 _ (h0.below BW.out) HN0.out HR0.out (g0.below BW.out) GN0.out).mono ?_
  rintro e w6 ⟨rfl, g, b⟩
  clear dP00 dP01 dP02
  have Z6 := Lib.hid (Below.size b)
  have P0 := Lib.hid (P0.out.below b)
  have O1 := Lib.hid (O1.out.below b)
  have BW := Lib.hid (below_then BW.out b)
  have X0 := Lib.hid g
  clear g b
  have qP0 := P0.out.below ((Below.refl _ w6).alloc (Nat.le_refl _) (.cells #[.int .i64 s0, .slice (some ⟨w5.heap.size + 6, 0, none⟩) n0 n0, .slice (some ⟨w5.heap.size + 7 + n0, 0, none⟩) m0 m0] 33))
  have dP00 := qP0 0 _ rfl
  have dP01 := qP0 1 _ rfl
  have dP02 := qP0 2 _ rfl
  clear qP0
  go_wp2_with fail
  clear dP00 dP01 dP02
  obtain ⟨w7, hw7⟩ : ∃ w7, w7 = w6.alloc (.cells #[.int .i64 s0, .slice (some ⟨w5.heap.size + 6, 0, none⟩) n0 n0, .slice (some ⟨w5.heap.size + 7 + n0, 0, none⟩) m0 m0] 33) := ⟨_, rfl⟩
  rw [← hw7]
  have bw7 : Below w6.heap.size w6 w7 := by rw [hw7]; exact (Below.refl _ _).alloc (Nat.le_refl _) _
  have XB0x := Lib.hid (show Box w7 w6.heap.size [.int .i64 s0, .slice (some ⟨w5.heap.size + 6, 0, none⟩) n0 n0, .slice (some ⟨w5.heap.size + 7 + n0, 0, none⟩) m0 m0] by rw [hw7]; exact Box.new _ _ _)
  have XB0L := Lib.hid (show w6.heap.size < w7.heap.size by rw [hw7, World.size_alloc]; exact Nat.lt_succ_self _)
  have Z7 := Lib.hid (Below.size bw7)
  have P0 := Lib.hid (P0.out.below bw7)
  have O1 := Lib.hid (O1.out.below bw7)
  have X0 := Lib.hid (X0.out.below bw7)
  have BW := Lib.hid (below_then BW.out bw7)
  have XB0 := XB0x
  clear hw7 bw7 XB0x
  refine (toInt64S_any _ _ _ _ _ (h1.below BW.out) HB1.out).mono ?_
  rintro e w8 ⟨rfl, ow, b, z⟩
  have Z8 := Lib.hid (Below.size b)
  have P0 := Lib.hid (P0.out.below b)
  have O1 := Lib.hid (O1.out.below b)
  have X0 := Lib.hid (X0.out.below b)
  have XB0 := Lib.hid (XB0.out.below b)
  have BW := Lib.hid (below_then BW.out b)
  have X1 := Lib.hid (show IntsIn w7.heap.size w8.heap.size w8 (.slice (some ⟨w7.heap.size, 0, none⟩) n1 n1) xs1 from IntsIn.of (by have e := h1.1; subst e; exact ow))
  clear ow b z
  have dP00 := P0.out 0 _ rfl
  have dP01 := P0.out 1 _ rfl
  have dP02 := P0.out 2 _ rfl
  have dXB00 := XB0.out 0 _ rfl
  have dXB01 := XB0.out 1 _ rfl
  have dXB02 := XB0.out 2 _ rfl
  go_wp2_with fail
  refine (implAdaptiveRun_any s0 _ n0 n0 xs0 _ m0 m0 ys0 _ n1 n1 xs1 x2 _ (X0.out.rows HL0.out) hl0 HW0.out (X0.out.outs GL0.out) gl0 (X1.out.nums h1.1) hl1).mono ?_
  clear dP00 dP01 dP02 dXB00 dXB01 dXB02
  rintro e w9 ⟨v, rfl, ow, b⟩
  rw [← HLS.out] at ow
  rw [← HNO.out, ← HCO.out]
  obtain ⟨VO2, eO2, rfl⟩ := own_form ow
  have Z9 := Lib.hid (Below.size b)
  have P0 := Lib.hid (P0.out.below b)
  have O1 := Lib.hid (O1.out.below b)
  have X0 := Lib.hid (X0.out.below b)
  have XB0 := Lib.hid (XB0.out.below b)
  have X1 := Lib.hid (X1.out.below b)
  have BW := Lib.hid (below_then BW.out b)
  have O2 := Lib.hid (show IntsIn w8.heap.size w9.heap.size w9 (.slice VO2 LS.length eO2) LS from IntsIn.of ow)
  clear ow b
  have dP00 := P0.out 0 _ rfl
  have dP01 := P0.out 1 _ rfl
  have dP02 := P0.out 2 _ rfl
  have dXB00 := XB0.out 0 _ rfl
  have dXB01 := XB0.out 1 _ rfl
  have dXB02 := XB0.out 2 _ rfl
  go_wp2_with fail
  refine (eqInts_b _ _ _ _ _ _ _ _ _ (O2.out.nums rfl) (O1.out.nums rfl) (by omega) (by omega)).mono ?_
  rw [sameB_t rfl]
  rintro e w10 ⟨rfl, b⟩
  clear dP00 dP01 dP02 dXB00 dXB01 dXB02
  have Z10 := Lib.hid (Below.size b)
  have P0 := Lib.hid (P0.out.below b)
  have O1 := Lib.hid (O1.out.below b)
  have X0 := Lib.hid (X0.out.below b)
  have XB0 := Lib.hid (XB0.out.below b)
  have X1 := Lib.hid (X1.out.below b)
  have O2 := Lib.hid (O2.out.below b)
  have BW := Lib.hid (below_then BW.out b)
  clear b
  have rP00 := P0.out.rule (j := 0) rfl
  have rP01 := P0.out.rule (j := 1) rfl
  have rP02 := P0.out.rule (j := 2) rfl
  have rXB00 := XB0.out.rule (j := 0) rfl
  have rXB01 := XB0.out.rule (j := 1) rfl
  have rXB02 := XB0.out.rule (j := 2) rfl
  have c9 : Below w10.heap.size w10 w10 := Below.refl _ _
  have dP00 := P0.out 0 _ rfl
  have dP01 := P0.out 1 _ rfl
  have dP02 := P0.out 2 _ rfl
  have dXB00 := XB0.out 0 _ rfl
  have dXB01 := XB0.out 1 _ rfl
  have dXB02 := XB0.out 2 _ rfl
  go_wp2_with fail
  clear dP00 dP01 dP02 dXB00 dXB01 dXB02
  go_region_held3 (fun w' => Below w10.heap.size w10 w') (first | assumption | exact below_drewN' (by assumption) _)
    (first
      | (go_at_call 13; refine (toLit_any s0 A0 n0 c0 xs0 B0 m0 d0 ys0 _ (h0.below (below_then BW.out (by first | assumption | exact below_drewN' (by assumption) _))) HN0.out HR0.out (g0.below (below_then BW.out (by first | assumption | exact below_drewN' (by assumption) _))) GN0.out).mono ?_; rintro e wa ⟨rfl, ga, ba⟩; have ca : Below w10.heap.size w10 wa := below_then (by first | assumption | exact below_drewN' (by assumption) _) ba; have GA := Lib.hid ga; clear ga ba)
      | (go_at_call 16; refine (eqLit_t s0 _ _ n0 n0 _ _ xs0 _ _ m0 m0 _ _ ys0 _ ((X0.out.below ca).rows HL0.out) (GA.out.rows HL0.out) hl0 hl0 HW0.out ((X0.out.below ca).outs GL0.out) (GA.out.outs GL0.out) gl0 gl0).mono ?_; rintro e w11 ⟨rfl, be⟩; have ce : Below w10.heap.size w10 w11 := below_then ca be; clear be))
  clear rP00 rP01 rP02 rXB00 rXB01 rXB02 c9 ca GA
  have Z11 := Lib.hid (Below.size ce)
  have P0 := Lib.hid (P0.out.below ce)
  have O1 := Lib.hid (O1.out.below ce)
  have X0 := Lib.hid (X0.out.below ce)
  have XB0 := Lib.hid (XB0.out.below ce)
  have X1 := Lib.hid (X1.out.below ce)
  have O2 := Lib.hid (O2.out.below ce)
  have BW := Lib.hid (below_then BW.out ce)
  clear ce
  have dP00 := P0.out 0 _ rfl
  have dP01 := P0.out 1 _ rfl
  have dP02 := P0.out 2 _ rfl
  have dXB00 := XB0.out 0 _ rfl
  have dXB01 := XB0.out 1 _ rfl
  have dXB02 := XB0.out 2 _ rfl
  go_wp2_with fail
  refine (toInt64S_any _ _ _ _ _ (h1.below BW.out) HB1.out).mono ?_
  rintro e w12 ⟨rfl, ow, b, z⟩
  clear dP00 dP01 dP02 dXB00 dXB01 dXB02
  have Z12 := Lib.hid (Below.size b)
  have P0 := Lib.hid (P0.out.below b)
  have O1 := Lib.hid (O1.out.below b)
  have X0 := Lib.hid (X0.out.below b)
  have XB0 := Lib.hid (XB0.out.below b)
  have X1 := Lib.hid (X1.out.below b)
  have O2 := Lib.hid (O2.out.below b)
  have BW := Lib.hid (below_then BW.out b)
  have Y1 := Lib.hid (show IntsIn w11.heap.size w12.heap.size w12 (.slice (some ⟨w11.heap.size, 0, none⟩) n1 n1) xs1 from IntsIn.of (by have e := h1.1; subst e; exact ow))
  clear ow b z
  have dP00 := P0.out 0 _ rfl
  have dP01 := P0.out 1 _ rfl
  have dP02 := P0.out 2 _ rfl
  have dXB00 := XB0.out 0 _ rfl
  have dXB01 := XB0.out 1 _ rfl
  have dXB02 := XB0.out 2 _ rfl
  go_wp2_with fail
  refine (eqInts_b _ _ _ _ _ _ _ _ _ (X1.out.nums h1.1) (Y1.out.nums h1.1) hl1 hl1).mono ?_
  rw [sameB_t rfl]
  rintro e w13 ⟨rfl, b⟩
  clear dP00 dP01 dP02 dXB00 dXB01 dXB02
  have Z13 := Lib.hid (Below.size b)
  have P0 := Lib.hid (P0.out.below b)
  have O1 := Lib.hid (O1.out.below b)
  have X0 := Lib.hid (X0.out.below b)
  have XB0 := Lib.hid (XB0.out.below b)
  have X1 := Lib.hid (X1.out.below b)
  have O2 := Lib.hid (O2.out.below b)
  have Y1 := Lib.hid (Y1.out.below b)
  have BW := Lib.hid (below_then BW.out b)
  clear b
  clear Y1
  have hk0a : (0 : Int) ≤ 1 := by omega
  have hk0b : 1 + (sumLens xs0 : Int) + (m0 : Int) ≤ 4611686018427387904 := by have := HSUM0.out; have := HB1.out; omega
  have dP00 := P0.out 0 _ rfl
  have dP01 := P0.out 1 _ rfl
  have dP02 := P0.out 2 _ rfl
  have dXB00 := XB0.out 0 _ rfl
  have dXB01 := XB0.out 1 _ rfl
  have dXB02 := XB0.out 2 _ rfl
  go_wp2_with fail
  refine (markLitT_any w5.heap.size w6.heap.size s0 _ n0 n0 xs0 _ m0 m0 ys0 (1) w13 X0.out (by have := Z7.out; have := Z8.out; have := Z9.out; have := Z10.out; have := Z11.out; have := Z12.out; have := Z13.out; omega) HL0.out GL0.out hk0a HN0.out hk0b).mono ?_
  rintro e w14 ⟨rfl, u, mt⟩
  clear dP00 dP01 dP02 dXB00 dXB01 dXB02
  have Z14 := Lib.hid (Only.size u)
  have P0 := Lib.hid (P0.out.only u (.inl (by have := P0L.out; have := Z2.out; have := Z3.out; have := Z4.out; have := Z5.out; omega)))
  have O1 := Lib.hid (O1.out.only u (.inl (Nat.le_refl _)))
  have XB0 := Lib.hid (XB0.out.only u (.inr (by skip; omega)))
  have X1 := Lib.hid (X1.out.only u (.inr (by have := Z7.out; omega)))
  have O2 := Lib.hid (O2.out.only u (.inr (by have := Z7.out; have := Z8.out; omega)))
  have BW := Lib.hid (Only.below BW.out u (by have := Z1.out; have := Z2.out; have := Z3.out; have := Z4.out; have := Z5.out; omega) (by have := Z1.out; have := Z2.out; have := Z3.out; have := Z4.out; have := Z5.out; have := Z6.out; have := Z7.out; have := Z8.out; have := Z9.out; have := Z10.out; have := Z11.out; have := Z12.out; have := Z13.out; omega))
  clear u mt hk0a hk0b
  clear X0
  have hk1a : (0 : Int) ≤ 1 + (sumLens xs0 : Int) + (m0 : Int) := by omega
  have hk1b : 1 + (sumLens xs0 : Int) + (m0 : Int) + (n1 : Int) ≤ 4611686018427387904 := by have := HSUM0.out; have := HB1.out; omega
  have dP00 := P0.out 0 _ rfl
  have dP01 := P0.out 1 _ rfl
  have dP02 := P0.out 2 _ rfl
  have dXB00 := XB0.out 0 _ rfl
  have dXB01 := XB0.out 1 _ rfl
  have dXB02 := XB0.out 2 _ rfl
  go_wp2_with fail
  refine (markInts_in w7.heap.size w8.heap.size n1 n1 _ xs1 (1 + (sumLens xs0 : Int) + (m0 : Int)) w14 X1.out h1.1 hk1a hk1b).mono ?_
  rintro e w15 ⟨rfl, u, mt, mz⟩
  clear dP00 dP01 dP02 dXB00 dXB01 dXB02
  have Z15 := Lib.hid (Only.size u)
  have P0 := Lib.hid (P0.out.only u (.inl (by have := P0L.out; have := Z2.out; have := Z3.out; have := Z4.out; have := Z5.out; have := Z6.out; have := Z7.out; omega)))
  have O1 := Lib.hid (O1.out.only u (.inl (by have := Z6.out; have := Z7.out; omega)))
  have XB0 := Lib.hid (XB0.out.only u (.inl (by have := XB0L.out;  omega)))
  have O2 := Lib.hid (O2.out.only u (.inr (Nat.le_refl _)))
  have BW := Lib.hid (Only.below BW.out u (by have := Z1.out; have := Z2.out; have := Z3.out; have := Z4.out; have := Z5.out; have := Z6.out; have := Z7.out; omega) (by have := Z1.out; have := Z2.out; have := Z3.out; have := Z4.out; have := Z5.out; have := Z6.out; have := Z7.out; have := Z8.out; have := Z9.out; have := Z10.out; have := Z11.out; have := Z12.out; have := Z13.out; have := Z14.out; omega))
  clear u mt mz hk1a hk1b
  clear X1
  have hdec : decide (1 + (sumLens xs0 : Int) + (m0 : Int) + (n1 : Int) < 0) = false := by simp; omega
  have dP00 := P0.out 0 _ rfl
  have dP01 := P0.out 1 _ rfl
  have dP02 := P0.out 2 _ rfl
  have dXB00 := XB0.out 0 _ rfl
  have dXB01 := XB0.out 1 _ rfl
  have dXB02 := XB0.out 2 _ rfl
  go_wp2_with fail
  refine (eqInts_b _ _ _ _ _ _ _ _ _ (O2.out.nums rfl) (O1.out.nums rfl) (by omega) (by omega)).mono ?_
  rw [sameB_t rfl]
  rintro e w16 ⟨rfl, b⟩
  clear dP00 dP01 dP02 dXB00 dXB01 dXB02
  have Z16 := Lib.hid (Below.size b)
  have P0 := Lib.hid (P0.out.below b)
  have O1 := Lib.hid (O1.out.below b)
  have XB0 := Lib.hid (XB0.out.below b)
  have O2 := Lib.hid (O2.out.below b)
  have BW := Lib.hid (below_then BW.out b)
  clear b
  have hkm : (1 : Int) + (LS.length : Int) ≤ 4611686018427387904 := by omega
  have hkm0 : (0 : Int) ≤ 1 + (LS.length : Int) := by omega
  have dP00 := P0.out 0 _ rfl
  have dP01 := P0.out 1 _ rfl
  have dP02 := P0.out 2 _ rfl
  have dXB00 := XB0.out 0 _ rfl
  have dXB01 := XB0.out 1 _ rfl
  have dXB02 := XB0.out 2 _ rfl
  go_wp2_with fail
  refine (markInts_in w8.heap.size w9.heap.size LS.length eO2 VO2 LS 1 w16 O2.out rfl (by omega) hkm).mono ?_
  rintro e w17 ⟨rfl, u, mt, mz⟩
  clear dP00 dP01 dP02 dXB00 dXB01 dXB02
  have Z17 := Lib.hid (Only.size u)
  have P0 := Lib.hid (P0.out.only u (.inl (by have := P0L.out; have := Z2.out; have := Z3.out; have := Z4.out; have := Z5.out; have := Z6.out; have := Z7.out; have := Z8.out; omega)))
  have O1 := Lib.hid (O1.out.only u (.inl (by have := Z6.out; have := Z7.out; have := Z8.out; omega)))
  have XB0 := Lib.hid (XB0.out.only u (.inl (by have := XB0L.out; have := Z8.out; omega)))
  have BW := Lib.hid (Only.below BW.out u (by have := Z1.out; have := Z2.out; have := Z3.out; have := Z4.out; have := Z5.out; have := Z6.out; have := Z7.out; have := Z8.out; omega) (by have := Z1.out; have := Z2.out; have := Z3.out; have := Z4.out; have := Z5.out; have := Z6.out; have := Z7.out; have := Z8.out; have := Z9.out; have := Z10.out; have := Z11.out; have := Z12.out; have := Z13.out; have := Z14.out; have := Z15.out; have := Z16.out; omega))
  have M := Lib.hid mt
  clear u mt mz
  clear O2
  have dP00 := P0.out 0 _ rfl
  have dP01 := P0.out 1 _ rfl
  have dP02 := P0.out 2 _ rfl
  have dXB00 := XB0.out 0 _ rfl
  have dXB01 := XB0.out 1 _ rfl
  have dXB02 := XB0.out 2 _ rfl
  go_wp2_with fail
  refine (heldInt64S_any VO2 LS.length eO2 1 w17 (M.out.nums (marks_length _ _)) (by omega) hkm).mono ?_
  rintro e w18 ⟨rfl, hsame⟩
  clear dP00 dP01 dP02 dXB00 dXB01 dXB02
  have b := below_same hsame
  clear hsame
  have Z18 := Lib.hid (Below.size b)
  have P0 := Lib.hid (P0.out.below b)
  have O1 := Lib.hid (O1.out.below b)
  have XB0 := Lib.hid (XB0.out.below b)
  have M := Lib.hid (M.out.below b)
  have BW := Lib.hid (below_then BW.out b)
  clear b
  have dP00 := P0.out 0 _ rfl
  have dP01 := P0.out 1 _ rfl
  have dP02 := P0.out 2 _ rfl
  have dXB00 := XB0.out 0 _ rfl
  have dXB01 := XB0.out 1 _ rfl
  have dXB02 := XB0.out 2 _ rfl
  go_wp2_with fail
  refine (toLit_any s0 A0 n0 c0 xs0 B0 m0 d0 ys0 _ (h0.below BW.out) HN0.out HR0.out (g0.below BW.out) GN0.out).mono ?_
  rintro e w19 ⟨rfl, g, b⟩
  clear dP00 dP01 dP02 dXB00 dXB01 dXB02
  have Z19 := Lib.hid (Below.size b)
  have P0 := Lib.hid (P0.out.below b)
  have O1 := Lib.hid (O1.out.below b)
  have XB0 := Lib.hid (XB0.out.below b)
  have M := Lib.hid (M.out.below b)
  have BW := Lib.hid (below_then BW.out b)
  have R0 := Lib.hid g
  clear g b
  have dP00 := P0.out 0 _ rfl
  have dP01 := P0.out 1 _ rfl
  have dP02 := P0.out 2 _ rfl
  have dXB00 := XB0.out 0 _ rfl
  have dXB01 := XB0.out 1 _ rfl
  have dXB02 := XB0.out 2 _ rfl
  go_wp2_with fail
  refine (toInt64S_any _ _ _ _ _ (h1.below BW.out) HB1.out).mono ?_
  rintro e w20 ⟨rfl, ow, b, z⟩
  clear dP00 dP01 dP02 dXB00 dXB01 dXB02
  have Z20 := Lib.hid (Below.size b)
  have P0 := Lib.hid (P0.out.below b)
  have O1 := Lib.hid (O1.out.below b)
  have XB0 := Lib.hid (XB0.out.below b)
  have M := Lib.hid (M.out.below b)
  have R0 := Lib.hid (R0.out.below b)
  have BW := Lib.hid (below_then BW.out b)
  have R1 := Lib.hid (show IntsIn w19.heap.size w20.heap.size w20 (.slice (some ⟨w19.heap.size, 0, none⟩) n1 n1) xs1 from IntsIn.of (by have e := h1.1; subst e; exact ow))
  clear ow b z
  have dP00 := P0.out 0 _ rfl
  have dP01 := P0.out 1 _ rfl
  have dP02 := P0.out 2 _ rfl
  have dXB00 := XB0.out 0 _ rfl
  have dXB01 := XB0.out 1 _ rfl
  have dXB02 := XB0.out 2 _ rfl
  go_wp2_with fail
  refine (implAdaptiveRun_any s0 _ n0 n0 xs0 _ m0 m0 ys0 _ n1 n1 xs1 x2 _ (R0.out.rows HL0.out) hl0 HW0.out (R0.out.outs GL0.out) gl0 (R1.out.nums h1.1) hl1).mono ?_
  clear dP00 dP01 dP02 dXB00 dXB01 dXB02
  rintro e w21 ⟨v, rfl, ow, b⟩
  rw [← HLS.out] at ow
  rw [← HNO.out, ← HCO.out]
  obtain ⟨VO3, eO3, rfl⟩ := own_form ow
  have Z21 := Lib.hid (Below.size b)
  have P0 := Lib.hid (P0.out.below b)
  have O1 := Lib.hid (O1.out.below b)
  have XB0 := Lib.hid (XB0.out.below b)
  have M := Lib.hid (M.out.below b)
  have R0 := Lib.hid (R0.out.below b)
  have R1 := Lib.hid (R1.out.below b)
  have BW := Lib.hid (below_then BW.out b)
  have O3 := Lib.hid (show IntsIn w20.heap.size w21.heap.size w21 (.slice VO3 LS.length eO3) LS from IntsIn.of ow)
  clear ow b
  clear R0
  clear R1
  have dP00 := P0.out 0 _ rfl
  have dP01 := P0.out 1 _ rfl
  have dP02 := P0.out 2 _ rfl
  have dXB00 := XB0.out 0 _ rfl
  have dXB01 := XB0.out 1 _ rfl
  have dXB02 := XB0.out 2 _ rfl
  go_wp2_with fail
  refine (eqInts_b _ _ _ _ _ _ _ _ _ (O3.out.nums rfl) (O1.out.nums rfl) (by omega) (by omega)).mono ?_
  rw [sameB_t rfl]
  rintro e w22 ⟨rfl, b⟩
  clear dP00 dP01 dP02 dXB00 dXB01 dXB02
  have Z22 := Lib.hid (Below.size b)
  have P0 := Lib.hid (P0.out.below b)
  have O1 := Lib.hid (O1.out.below b)
  have XB0 := Lib.hid (XB0.out.below b)
  have M := Lib.hid (M.out.below b)
  have O3 := Lib.hid (O3.out.below b)
  have BW := Lib.hid (below_then BW.out b)
  clear b
  have dP00 := P0.out 0 _ rfl
  have dP01 := P0.out 1 _ rfl
  have dP02 := P0.out 2 _ rfl
  have dXB00 := XB0.out 0 _ rfl
  have dXB01 := XB0.out 1 _ rfl
  have dXB02 := XB0.out 2 _ rfl
  go_wp2_with fail
  refine (heldInt64S_any VO2 LS.length eO2 1 w22 (M.out.nums (marks_length _ _)) (by omega) hkm).mono ?_
  rintro e w23 ⟨rfl, hsame⟩
  clear dP00 dP01 dP02 dXB00 dXB01 dXB02
  have b := below_same hsame
  clear hsame
  have Z23 := Lib.hid (Below.size b)
  have P0 := Lib.hid (P0.out.below b)
  have O1 := Lib.hid (O1.out.below b)
  have XB0 := Lib.hid (XB0.out.below b)
  have M := Lib.hid (M.out.below b)
  have O3 := Lib.hid (O3.out.below b)
  have BW := Lib.hid (below_then BW.out b)
  clear b
  go_wp2_with fail
  go_ret
  exact ⟨rfl, BW.out⟩

set_option maxRecDepth 100000 in
theorem lifted (os : Os) (started : os.Started) (H : Type) (enc : TypeId × Value → H) :
    ReturnsInHanded {} Try.checked os 5 .any (Rows.fnExactAdaptiveRunSpec.pre6 enc Try.prog Try.f5 Rows.fnExactAdaptiveRunRow.domain false) (Rows.fnExactAdaptiveRunSpec.post enc Try.prog Try.f5 false true false false) := by
  refine returnsInHanded_of_change (C := Try.checked) own started (by kernel_rfl) Try.func5
    (ChangeSpec.witness6 (enc := enc) (C := Try.checked) false ⟨#[], #[.agg #[.int .i64 0, .slice none 0 0, .slice none 0 0], .slice none 0 0, .int .i64 0], []⟩ 8 (by kernel_rfl) (by kernel_rfl) (by kernel_rfl) (by kernel_rfl)) ?_
  intro W base args ds gs before hval0 hW hcnd _
  have hval : ∀ (j : Nat) t v, Try.f5.params[j]? = some t → args[j]? = some v → Value.okWide Try.prog W .any base t v := hval0
  have hW' := hW
  obtain ⟨p, q, hA0, hV, rfl, hfz, hnd⟩ := hW
  have hA : DataW.TrodAll enc Try.prog W 0 (fun _ => true) true Try.f5.params.toList args.toList ds p := hA0
  rw [Try.params5] at hA hval
  obtain ⟨v0, vs0, d0, ds0, p0, q0, hargs, rfl, rfl, h0, r0⟩ := trodAll_cons hA
  obtain ⟨v1, vs1, d1, ds1, p1, q1, rfl, rfl, rfl, h1, r1⟩ := trodAll_cons r0
  obtain ⟨v2, vs2, d2, ds2, p2, q2, rfl, rfl, rfl, h2, r2⟩ := trodAll_cons r1
  obtain ⟨rfl, rfl, rfl⟩ := trodAll_nil r2
  obtain rfl : args = #[v0, v1, v2] := by cases args; simp_all
  obtain ⟨rfl, rfl⟩ := trodVars_none hV
  have lt0 : ∀ x ∈ p0, x.block < W.heap.size := by obtain ⟨m, hm⟩ := h0; exact DataW.trod_lt m _ _ _ hm
  have k0 := h0
  obtain ⟨s0, a0, n0, c0, xs0, b0, m0, e0, ys0, rfl, hr0, hn0, hw0, gr0, gn0⟩ := lit_of_trod (hval 0 27 v0 rfl rfl) h0
  have lt1 : ∀ x ∈ p1, x.block < W.heap.size := by obtain ⟨m, hm⟩ := h1; exact DataW.trod_lt m _ _ _ hm
  have k1 := h1
  obtain ⟨a1, n1, c1, rfl⟩ := okWide_slice Try.underlying25 (hval 1 25 v1 rfl rfl)
  obtain ⟨xs1, hr1, hn1⟩ := nums_of_trod h1
  have lt2 : ∀ x ∈ p2, x.block < W.heap.size := by obtain ⟨m, hm⟩ := h2; exact DataW.trod_lt m _ _ _ hm
  have k2 := h2
  obtain ⟨x2, rfl, _, _, hr2⟩ := open_int Try.underlying2 (hval 2 2 v2 rfl rfl) h2
  clear hA0 hval0
  refine (walk s0 a0 n0 c0 xs0 b0 m0 e0 ys0 a1 n1 c1 xs1 x2 W hr0 hn0 hw0 gr0 gn0 hr1 hn1).mono fun e W' ⟨he, bel⟩ => ?_
  subst he
  exact ⟨_, rfl, _, _, _, [], _, [], hW', trodAll_mk1 (shut_bool Try.underlying4 _), (trodAll_cons_mk (Below.trod laidOut (by kernel_rfl) (of_decide_eq_true (by kernel_rfl)) k0 bel lt0) (trodAll_cons_mk (Below.trod laidOut (by kernel_rfl) (of_decide_eq_true (by kernel_rfl)) k1 bel lt1) (trodAll_cons_mk (Below.trod laidOut (by kernel_rfl) (of_decide_eq_true (by kernel_rfl)) k2 bel lt2) trodAll_mk0))), rfl, bel.frame _, fun h => by cases h⟩

theorem over : Rows.fnExactAdaptiveRunRow.holds Try.pinned (OpenSpec.ofChange Rows.fnExactAdaptiveRunSpec) :=
  OpenClaim.holds_of_wide 5 Try.f5 rfl rfl rfl rfl rfl rfl rfl ⟨rfl, rfl, rfl, rfl, rfl⟩ rfl rfl rfl rfl rfl (by kernel_rfl) Try.func5 (by kernel_rfl)
    (of_decide_eq_true (by kernel_rfl)) (by unfold Func.isWrapper; first | (rw [if_pos (by decide +kernel)]; kernel_rfl) | (rw [if_neg (by decide +kernel)]; exact ⟨rfl, rfl⟩))
    (fun os started H enc _ => lifted os started H enc)

/-- The statement. -/
theorem proved : Rows.FnExactAdaptiveRunSaid := over
#print axioms proved
end fnExactAdaptiveRun
end Go.Proofs.Ytdelanjkaokiaaa
