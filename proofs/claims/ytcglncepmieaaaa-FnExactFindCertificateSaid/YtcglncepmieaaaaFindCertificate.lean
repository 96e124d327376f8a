/-
  FnExactFindCertificate: for every choice of its arguments (automaton) the law returns true: both functions give the same answer and code, what the program answers is new memory each time, and no argument is written. No condition.
-/
import Derived.Test.YtcglncepmieaaaaFndI
import Derived.WalkSpells
namespace Go.Proofs.Ytcglncepmieaaaa
open Go.RowKit Go.Deep Go.ChangeShapes Go.WideShapes

namespace fnExactFindCertificate
open Go.ChangeAt

set_option maxHeartbeats 8000000 in
set_option maxRecDepth 100000 in
theorem walk (s0 : Int) (A0 : Option Addr) (n0 c0 : Nat) (xs0 : List (List Int)) (w : World) (h0 : RowsAt w A0 n0 xs0) (hn0 : n0 ≤ 9223372036854775807) (hr0 : ∀ (r : Nat) (xs : List Int), xs0[r]? = some xs → xs.length ≤ 9223372036854775807) :
    Calls Try.prog 7 #[.agg #[.int .i64 s0, .slice A0 n0 c0]] w fun e w' => e = .returned (.bool true) ∧ Below w.heap.size w w' := by
  have HR0 := Lib.hid hr0
  have HL0 := Lib.hid h0.1
  clear hr0
  go_enter Try.func7, Try.ntmps7
  go_wp2_with fail
  obtain ⟨w1, hw1⟩ : ∃ w1, w1 = w.alloc (.cells #[.int .i64 s0, .slice A0 n0 c0] 24) := ⟨_, rfl⟩
  rw [← hw1]
  have bw1 : Below w.heap.size w w1 := by rw [hw1]; exact (Below.refl _ _).alloc (Nat.le_refl _) _
  have P0x := Lib.hid (show Box w1 w.heap.size [.int .i64 s0, .slice A0 n0 c0] by rw [hw1]; exact Box.new _ _ _)
  have P0L := Lib.hid (show w.heap.size < w1.heap.size by rw [hw1, World.size_alloc]; exact Nat.lt_succ_self _)
  have Z1 := Lib.hid (Below.size bw1)
  have BW := Lib.hid (show Below w.heap.size w w1 from bw1)
  have P0 := P0x
  clear hw1 bw1 P0x
  refine (szAutomaton_any s0 A0 n0 c0 xs0 _ _ (h0.below BW.out) hn0 HR0.out (by omega) (by omega)).mono ?_
  rintro e w2 ⟨r0, rfl, hS, b⟩
  have HS0 := Lib.hid hS
  clear hS
  have Z2 := Lib.hid (Below.size b)
  have P0 := Lib.hid (P0.out.below b)
  have BW := Lib.hid (below_then BW.out b)
  clear b
  rcases Int.lt_or_le r0 0 with hneg | hneg
  · skip
    have dP00 := P0.out 0 _ rfl
    have dP01 := P0.out 1 _ rfl
    go_wp2_with fail
    go_ret
    exact ⟨rfl, BW.out⟩
  have hneg' : ¬ r0 < 0 := by omega
  have HN0 := Lib.hid (sized_n HS0.out hneg' HL0.out)
  have HR0 := Lib.hid (sized_rows HS0.out hneg')
  have HSUM0 := Lib.hid (sized_sum HS0.out (by omega) hneg')
  obtain ⟨hp0, hp0'⟩ := sized_left HS0.out hneg'
  have HW0 := Lib.hid (rows_wide HR0.out)
  have hl0 : n0 ≤ 4611686018427387904 := by have := HN0.out; omega
  clear hn0
  obtain ⟨SS, hSS⟩ : ∃ SS, SS = (findCertificate s0 xs0).1 := ⟨_, rfl⟩
  obtain ⟨LS, hLS⟩ : ∃ LS, LS = (findCertificate s0 xs0).2.1 := ⟨_, rfl⟩
  obtain ⟨OS, hOS⟩ : ∃ OS, OS = (findCertificate s0 xs0).2.2.1 := ⟨_, rfl⟩
  obtain ⟨CO, hCO⟩ : ∃ CO, CO = (findCertificate s0 xs0).2.2.2 := ⟨_, rfl⟩
  have hlen : LS.length ≤ 1048576 := by rw [hLS]; exact Nat.le_trans (findCertificate_len s0 xs0) (by omega)
  have hleo : OS.length ≤ 1048576 := by rw [hOS]; exact Nat.le_trans (findCertificate_olen s0 xs0) (by omega)
  have hsum : sumLens LS + sumLens OS ≤ 1048576 := by rw [hLS, hOS]; exact Nat.le_trans (findCertificate_sum s0 xs0) (by omega)
  have HRW := Lib.hid (show ∀ (r : Nat) (xs : List Int), LS[r]? = some xs → xs.length ≤ 4611686018427387904 from fun r xs hx => by have := len_le_sum hx; omega)
  have HRO := Lib.hid (show ∀ (r : Nat) (xs : List Int), OS[r]? = some xs → xs.length ≤ 4611686018427387904 from fun r xs hx => by have := len_le_sum hx; omega)
  have HSS := Lib.hid hSS
  clear hSS
  have HOS := Lib.hid hOS
  clear hOS
  have HLS := Lib.hid hLS
  have HCO := Lib.hid hCO
  clear hLS hCO
  have dP00 := P0.out 0 _ rfl
  have dP01 := P0.out 1 _ rfl
  go_wp2_with fail
  refine (toAutomaton_any s0 A0 n0 c0 xs0 _ (h0.below BW.out) HN0.out HR0.out).mono ?_
  rintro e w3 ⟨rfl, g, b, z⟩
  clear dP00 dP01
  have Z3 := Lib.hid (Below.size b)
  have P0 := Lib.hid (P0.out.below b)
  have BW := Lib.hid (below_then BW.out b)
  have S0 := Lib.hid ((tab_of_grid g).wide (lo' := w2.heap.size) (hi' := w3.heap.size) (by omega) (by have := HL0.out; omega))
  have hrw0 := HL0.out
  rw [hrw0] at S0
  clear g b z hrw0
  have dP00 := P0.out 0 _ rfl
  have dP01 := P0.out 1 _ rfl
  go_wp2_with fail
  refine (specFindCertificate_any s0 _ n0 n0 xs0 _ (S0.out.rows HL0.out) hl0 HW0.out).mono ?_
  clear dP00 dP01
  rintro e w4 ⟨v, v2, rfl, ow, b⟩
  rw [← HLS.out, ← HOS.out] at ow
  rw [← HSS.out, ← HCO.out]
  obtain ⟨⟨VO1, eO1, rfl⟩, UO1, dO1, rfl⟩ := ow.form
  have Z4 := Lib.hid (Below.size b)
  have P0 := Lib.hid (P0.out.below b)
  have S0 := Lib.hid (S0.out.below b)
  have BW := Lib.hid (below_then BW.out b)
  have O1 := Lib.hid ow
  clear ow b
  have qP0 := P0.out.below ((Below.refl _ w4).alloc (Nat.le_refl _) (.cells #[.int .i64 SS, .slice VO1 LS.length eO1, .slice UO1 OS.length dO1] 41))
  have dP00 := qP0 0 _ rfl
  have dP01 := qP0 1 _ rfl
  clear qP0
  go_wp2_with fail
  clear dP00 dP01
  obtain ⟨w5, hw5⟩ : ∃ w5, w5 = w4.alloc (.cells #[.int .i64 SS, .slice VO1 LS.length eO1, .slice UO1 OS.length dO1] 41) := ⟨_, rfl⟩
  rw [← hw5]
  have bw5 : Below w4.heap.size w4 w5 := by rw [hw5]; exact (Below.refl _ _).alloc (Nat.le_refl _) _
  have O1Bx := Lib.hid (show Box w5 w4.heap.size [.int .i64 SS, .slice VO1 LS.length eO1, .slice UO1 OS.length dO1] by rw [hw5]; exact Box.new _ _ _)
  have O1BL := Lib.hid (show w4.heap.size < w5.heap.size by rw [hw5, World.size_alloc]; exact Nat.lt_succ_self _)
  have Z5 := Lib.hid (Below.size bw5)
  have P0 := Lib.hid (P0.out.below bw5)
  have S0 := Lib.hid (S0.out.below bw5)
  have O1 := Lib.hid (O1.out.below bw5)
  have BW := Lib.hid (below_then BW.out bw5)
  have O1B := O1Bx
  clear hw5 bw5 O1Bx
  clear S0
  refine (toAutomaton_any s0 A0 n0 c0 xs0 _ (h0.below BW.out) HN0.out HR0.out).mono ?_
  rintro e w6 ⟨rfl, g, b, z⟩
  have Z6 := Lib.hid (Below.size b)
  have P0 := Lib.hid (P0.out.below b)
  have O1 := Lib.hid (O1.out.below b)
  have O1B := Lib.hid (O1B.out.below b)
  have BW := Lib.hid (below_then BW.out b)
  have X0 := Lib.hid ((tab_of_grid g).wide (lo' := w5.heap.size) (hi' := w6.heap.size) (by omega) (by have := HL0.out; omega))
  have hrw0 := HL0.out
  rw [hrw0] at X0
  clear g b z hrw0
  have qP0 := P0.out.below ((Below.refl _ w6).alloc (Nat.le_refl _) (.cells #[.int .i64 s0, .slice (some ⟨w5.heap.size + 3, 0, none⟩) n0 n0] 28))
  have dP00 := qP0 0 _ rfl
  have dP01 := qP0 1 _ rfl
  clear qP0
  have qO1B := O1B.out.below ((Below.refl _ w6).alloc (Nat.le_refl _) (.cells #[.int .i64 s0, .slice (some ⟨w5.heap.size + 3, 0, none⟩) n0 n0] 28))
  have dO1B0 := qO1B 0 _ rfl
  have dO1B1 := qO1B 1 _ rfl
  have dO1B2 := qO1B 2 _ rfl
  clear qO1B
  go_wp2_with fail
  clear dP00 dP01 dO1B0 dO1B1 dO1B2
  obtain ⟨w7, hw7⟩ : ∃ w7, w7 = w6.alloc (.cells #[.int .i64 s0, .slice (some ⟨w5.heap.size + 3, 0, none⟩) n0 n0] 28) := ⟨_, rfl⟩
  rw [← hw7]
  have bw7 : Below w6.heap.size w6 w7 := by rw [hw7]; exact (Below.refl _ _).alloc (Nat.le_refl _) _
  have XB0x := Lib.hid (show Box w7 w6.heap.size [.int .i64 s0, .slice (some ⟨w5.heap.size + 3, 0, none⟩) n0 n0] by rw [hw7]; exact Box.new _ _ _)
  have XB0L := Lib.hid (show w6.heap.size < w7.heap.size by rw [hw7, World.size_alloc]; exact Nat.lt_succ_self _)
  have Z7 := Lib.hid (Below.size bw7)
  have P0 := Lib.hid (P0.out.below bw7)
  have O1 := Lib.hid (O1.out.below bw7)
  have O1B := Lib.hid (O1B.out.below bw7)
  have X0 := Lib.hid (X0.out.below bw7)
  have BW := Lib.hid (below_then BW.out bw7)
  have XB0 := XB0x
  clear hw7 bw7 XB0x
  refine (implFindCertificate_any s0 _ n0 n0 xs0 _ (X0.out.rows HL0.out) hl0 HW0.out).mono ?_
  rintro e w8 ⟨v, v2, rfl, ow, b⟩
  rw [← HLS.out, ← HOS.out] at ow
  rw [← HSS.out, ← HCO.out]
  obtain ⟨⟨VO2, eO2, rfl⟩, UO2, dO2, rfl⟩ := ow.form
  have Z8 := Lib.hid (Below.size b)
  have P0 := Lib.hid (P0.out.below b)
  have O1 := Lib.hid (O1.out.below b)
  have O1B := Lib.hid (O1B.out.below b)
  have X0 := Lib.hid (X0.out.below b)
  have XB0 := Lib.hid (XB0.out.below b)
  have BW := Lib.hid (below_then BW.out b)
  have O2 := Lib.hid ow
  clear ow b
  have qP0 := P0.out.below ((Below.refl _ w8).alloc (Nat.le_refl _) (.cells #[.int .i64 SS, .slice VO2 LS.length eO2, .slice UO2 OS.length dO2] 41))
  have dP00 := qP0 0 _ rfl
  have dP01 := qP0 1 _ rfl
  clear qP0
  have qO1B := O1B.out.below ((Below.refl _ w8).alloc (Nat.le_refl _) (.cells #[.int .i64 SS, .slice VO2 LS.length eO2, .slice UO2 OS.length dO2] 41))
  have dO1B0 := qO1B 0 _ rfl
  have dO1B1 := qO1B 1 _ rfl
  have dO1B2 := qO1B 2 _ rfl
  clear qO1B
  have qXB0 := XB0.out.below ((Below.refl _ w8).alloc (Nat.le_refl _) (.cells #[.int .i64 SS, .slice VO2 LS.length eO2, .slice UO2 OS.length dO2] 41))
  have dXB00 := qXB0 0 _ rfl
  have dXB01 := qXB0 1 _ rfl
  clear qXB0
  go_wp2_with fail
  clear dP00 dP01 dO1B0 dO1B1 dO1B2 dXB00 dXB01
  obtain ⟨w9, hw9⟩ : ∃ w9, w9 = w8.alloc (.cells #[.int .i64 SS, .slice VO2 LS.length eO2, .slice UO2 OS.length dO2] 41) := ⟨_, rfl⟩
  rw [← hw9]
  have bw9 : Below w8.heap.size w8 w9 := by rw [hw9]; exact (Below.refl _ _).alloc (Nat.le_refl _) _
  have O2Bx := Lib.hid (show Box w9 w8.heap.size [.int .i64 SS, .slice VO2 LS.length eO2, .slice UO2 OS.length dO2] by rw [hw9]; exact Box.new _ _ _)
  have O2BL := Lib.hid (show w8.heap.size < w9.heap.size by rw [hw9, World.size_alloc]; exact Nat.lt_succ_self _)
  have Z9 := Lib.hid (Below.size bw9)
  have P0 := Lib.hid (P0.out.below bw9)
  have O1 := Lib.hid (O1.out.below bw9)
  have O1B := Lib.hid (O1B.out.below bw9)
  have X0 := Lib.hid (X0.out.below bw9)
  have XB0 := Lib.hid (XB0.out.below bw9)
  have O2 := Lib.hid (O2.out.below bw9)
  have BW := Lib.hid (below_then BW.out bw9)
  have O2B := O2Bx
  clear hw9 bw9 O2Bx
  refine (eqCertificate_t SS _ _ LS.length LS.length _ _ LS _ _ OS.length OS.length _ _ OS _ (O2.out.rows rfl) (O1.out.rows rfl) (by omega) (by omega) HRW.out (O2.out.outs rfl) (O1.out.outs rfl) (by omega) (by omega) HRO.out).mono ?_
  rintro e w10 ⟨rfl, b⟩
  have Z10 := Lib.hid (Below.size b)
  have P0 := Lib.hid (P0.out.below b)
  have O1 := Lib.hid (O1.out.below b)
  have O1B := Lib.hid (O1B.out.below b)
  have X0 := Lib.hid (X0.out.below b)
  have XB0 := Lib.hid (XB0.out.below b)
  have O2 := Lib.hid (O2.out.below b)
  have O2B := Lib.hid (O2B.out.below b)
  have BW := Lib.hid (below_then BW.out b)
  clear b
  have rP00 := P0.out.rule (j := 0) rfl
  have rP01 := P0.out.rule (j := 1) rfl
  have rO1B0 := O1B.out.rule (j := 0) rfl
  have rO1B1 := O1B.out.rule (j := 1) rfl
  have rO1B2 := O1B.out.rule (j := 2) rfl
  have rXB00 := XB0.out.rule (j := 0) rfl
  have rXB01 := XB0.out.rule (j := 1) rfl
  have rO2B0 := O2B.out.rule (j := 0) rfl
  have rO2B1 := O2B.out.rule (j := 1) rfl
  have rO2B2 := O2B.out.rule (j := 2) rfl
  have c9 : Below w10.heap.size w10 w10 := Below.refl _ _
  have dP00 := P0.out 0 _ rfl
  have dP01 := P0.out 1 _ rfl
  have dO1B0 := O1B.out 0 _ rfl
  have dO1B1 := O1B.out 1 _ rfl
  have dO1B2 := O1B.out 2 _ rfl
  have dXB00 := XB0.out 0 _ rfl
  have dXB01 := XB0.out 1 _ rfl
  have dO2B0 := O2B.out 0 _ rfl
  have dO2B1 := O2B.out 1 _ rfl
  have dO2B2 := O2B.out 2 _ rfl
  go_wp2_with fail
  clear dP00 dP01 dO1B0 dO1B1 dO1B2 dXB00 dXB01 dO2B0 dO2B1 dO2B2
  go_region_held3 (fun w' => Below w10.heap.size w10 w') (first | assumption | exact below_drewN' (by assumption) _)
    (first
      | (go_at_call 13; refine (toAutomaton_any s0 A0 n0 c0 xs0 _ (h0.below (below_then BW.out (by first | assumption | exact below_drewN' (by assumption) _))) HN0.out HR0.out).mono ?_; rintro e wa ⟨rfl, ga, ba, za⟩; have ca : Below w10.heap.size w10 wa := below_then (by first | assumption | exact below_drewN' (by assumption) _) ba; have GA := Lib.hid (ga.rowsN HL0.out); clear ga ba za)
      | (go_at_call 16; refine (eqAutomaton_any s0 s0 _ _ n0 n0 n0 n0 xs0 xs0 _ ((X0.out.below ca).rows HL0.out) GA.out hl0 hl0 HW0.out HW0.out).mono ?_; rw [sameA_t rfl rfl]; rintro e w11 ⟨rfl, be⟩; have ce : Below w10.heap.size w10 w11 := below_then ca be; clear be))
  clear rP00 rP01 rO1B0 rO1B1 rO1B2 rXB00 rXB01 rO2B0 rO2B1 rO2B2 c9 ca GA
  have Z11 := Lib.hid (Below.size ce)
  have P0 := Lib.hid (P0.out.below ce)
  have O1 := Lib.hid (O1.out.below ce)
  have O1B := Lib.hid (O1B.out.below ce)
  have X0 := Lib.hid (X0.out.below ce)
  have XB0 := Lib.hid (XB0.out.below ce)
  have O2 := Lib.hid (O2.out.below ce)
  have O2B := Lib.hid (O2B.out.below ce)
  have BW := Lib.hid (below_then BW.out ce)
  clear ce
  have hk0a : (0 : Int) ≤ 1 := by omega
  have hk0b : 1 + (sumLens xs0 : Int) ≤ 4611686018427387904 := by have := HSUM0.out; omega
  have dP00 := P0.out 0 _ rfl
  have dP01 := P0.out 1 _ rfl
  have dO1B0 := O1B.out 0 _ rfl
  have dO1B1 := O1B.out 1 _ rfl
  have dO1B2 := O1B.out 2 _ rfl
  have dXB00 := XB0.out 0 _ rfl
  have dXB01 := XB0.out 1 _ rfl
  have dO2B0 := O2B.out 0 _ rfl
  have dO2B1 := O2B.out 1 _ rfl
  have dO2B2 := O2B.out 2 _ rfl
  go_wp2_with fail
  refine (markAutomatonT_any w5.heap.size w6.heap.size s0 _ n0 n0 xs0 (1) w11 X0.out HL0.out hk0a HN0.out hk0b).mono ?_
  rintro e w12 ⟨rfl, u, mt⟩
  clear dP00 dP01 dO1B0 dO1B1 dO1B2 dXB00 dXB01 dO2B0 dO2B1 dO2B2
  have Z12 := Lib.hid (Only.size u)
  have P0 := Lib.hid (P0.out.only u (.inl (by have := P0L.out; have := Z2.out; have := Z3.out; have := Z4.out; have := Z5.out; omega)))
  have O1 := Lib.hid (O1.out.only u (.inl (by have := Z5.out; omega)))
  have O1B := Lib.hid (O1B.out.only u (.inl (by have := O1BL.out;  omega)))
  have XB0 := Lib.hid (XB0.out.only u (.inr (by skip; omega)))
  have O2 := Lib.hid (O2.out.only u (.inr (by have := Z7.out; omega)))
  have O2B := Lib.hid (O2B.out.only u (.inr (by have := Z7.out; have := Z8.out; omega)))
  have BW := Lib.hid (Only.below BW.out u (by have := Z1.out; have := Z2.out; have := Z3.out; have := Z4.out; have := Z5.out; omega) (by have := Z1.out; have := Z2.out; have := Z3.out; have := Z4.out; have := Z5.out; have := Z6.out; have := Z7.out; have := Z8.out; have := Z9.out; have := Z10.out; have := Z11.out; omega))
  clear u mt hk0a hk0b
  clear X0
  have hdec : decide (1 + (sumLens xs0 : Int) < 0) = false := by simp; omega
  have dP00 := P0.out 0 _ rfl
  have dP01 := P0.out 1 _ rfl
  have dO1B0 := O1B.out 0 _ rfl
  have dO1B1 := O1B.out 1 _ rfl
  have dO1B2 := O1B.out 2 _ rfl
  have dXB00 := XB0.out 0 _ rfl
  have dXB01 := XB0.out 1 _ rfl
  have dO2B0 := O2B.out 0 _ rfl
  have dO2B1 := O2B.out 1 _ rfl
  have dO2B2 := O2B.out 2 _ rfl
  go_wp2_with fail
  refine (eqCertificate_t SS _ _ LS.length LS.length _ _ LS _ _ OS.length OS.length _ _ OS _ (O2.out.rows rfl) (O1.out.rows rfl) (by omega) (by omega) HRW.out (O2.out.outs rfl) (O1.out.outs rfl) (by omega) (by omega) HRO.out).mono ?_
  rintro e w13 ⟨rfl, b⟩
  clear dP00 dP01 dO1B0 dO1B1 dO1B2 dXB00 dXB01 dO2B0 dO2B1 dO2B2
  have Z13 := Lib.hid (Below.size b)
  have P0 := Lib.hid (P0.out.below b)
  have O1 := Lib.hid (O1.out.below b)
  have O1B := Lib.hid (O1B.out.below b)
  have XB0 := Lib.hid (XB0.out.below b)
  have O2 := Lib.hid (O2.out.below b)
  have O2B := Lib.hid (O2B.out.below b)
  have BW := Lib.hid (below_then BW.out b)
  clear b
  have hkm : (1 : Int) + (sumLens LS : Int) + (sumLens OS : Int) ≤ 4611686018427387904 := by omega
  have hkm0 : (0 : Int) ≤ 1 + (sumLens LS : Int) + (sumLens OS : Int) := by omega
  have dP00 := P0.out 0 _ rfl
  have dP01 := P0.out 1 _ rfl
  have dO1B0 := O1B.out 0 _ rfl
  have dO1B1 := O1B.out 1 _ rfl
  have dO1B2 := O1B.out 2 _ rfl
  have dXB00 := XB0.out 0 _ rfl
  have dXB01 := XB0.out 1 _ rfl
  have dO2B0 := O2B.out 0 _ rfl
  have dO2B1 := O2B.out 1 _ rfl
  have dO2B2 := O2B.out 2 _ rfl
  go_wp2_with fail
  refine (markCertificateT_any w7.heap.size w8.heap.size SS VO2 LS.length eO2 LS UO2 OS.length dO2 OS 1 w13 O2.out (by have := Z9.out; have := Z10.out; have := Z11.out; have := Z12.out; have := Z13.out; omega) rfl rfl (by omega) hlen hleo hkm).mono ?_
  rintro e w14 ⟨rfl, u, mt⟩
  clear dP00 dP01 dO1B0 dO1B1 dO1B2 dXB00 dXB01 dO2B0 dO2B1 dO2B2
  have Z14 := Lib.hid (Only.size u)
  have P0 := Lib.hid (P0.out.only u (.inl (by have := P0L.out; have := Z2.out; have := Z3.out; have := Z4.out; have := Z5.out; have := Z6.out; have := Z7.out; omega)))
  have O1 := Lib.hid (O1.out.only u (.inl (by have := Z5.out; have := Z6.out; have := Z7.out; omega)))
  have O1B := Lib.hid (O1B.out.only u (.inl (by have := O1BL.out; have := Z6.out; have := Z7.out; omega)))
  have XB0 := Lib.hid (XB0.out.only u (.inl (by have := XB0L.out;  omega)))
  have O2B := Lib.hid (O2B.out.only u (.inr (by skip; omega)))
  have BW := Lib.hid (Only.below BW.out u (by have := Z1.out; have := Z2.out; have := Z3.out; have := Z4.out; have := Z5.out; have := Z6.out; have := Z7.out; omega) (by have := Z1.out; have := Z2.out; have := Z3.out; have := Z4.out; have := Z5.out; have := Z6.out; have := Z7.out; have := Z8.out; have := Z9.out; have := Z10.out; have := Z11.out; have := Z12.out; have := Z13.out; omega))
  have M := Lib.hid mt
  clear u mt
  clear O2
  have dP00 := P0.out 0 _ rfl
  have dP01 := P0.out 1 _ rfl
  have dO1B0 := O1B.out 0 _ rfl
  have dO1B1 := O1B.out 1 _ rfl
  have dO1B2 := O1B.out 2 _ rfl
  have dXB00 := XB0.out 0 _ rfl
  have dXB01 := XB0.out 1 _ rfl
  have dO2B0 := O2B.out 0 _ rfl
  have dO2B1 := O2B.out 1 _ rfl
  have dO2B2 := O2B.out 2 _ rfl
  go_wp2_with fail
  refine (heldCertificateT_any SS VO2 LS.length eO2 LS UO2 OS.length dO2 OS 1 w14 (M.out.rows (marksT_len _ _)) (M.out.outs (marksT_len _ _)) rfl rfl (by omega) hlen hleo hkm).mono ?_
  rintro e w15 ⟨rfl, b⟩
  clear dP00 dP01 dO1B0 dO1B1 dO1B2 dXB00 dXB01 dO2B0 dO2B1 dO2B2
  have Z15 := Lib.hid (Below.size b)
  have P0 := Lib.hid (P0.out.below b)
  have O1 := Lib.hid (O1.out.below b)
  have O1B := Lib.hid (O1B.out.below b)
  have XB0 := Lib.hid (XB0.out.below b)
  have O2B := Lib.hid (O2B.out.below b)
  have M := Lib.hid (M.out.below b)
  have BW := Lib.hid (below_then BW.out b)
  clear b
  have dP00 := P0.out 0 _ rfl
  have dP01 := P0.out 1 _ rfl
  have dO1B0 := O1B.out 0 _ rfl
  have dO1B1 := O1B.out 1 _ rfl
  have dO1B2 := O1B.out 2 _ rfl
  have dXB00 := XB0.out 0 _ rfl
  have dXB01 := XB0.out 1 _ rfl
  have dO2B0 := O2B.out 0 _ rfl
  have dO2B1 := O2B.out 1 _ rfl
  have dO2B2 := O2B.out 2 _ rfl
  go_wp2_with fail
  refine (toAutomaton_any s0 A0 n0 c0 xs0 _ (h0.below BW.out) HN0.out HR0.out).mono ?_
  rintro e w16 ⟨rfl, g, b, z⟩
  clear dP00 dP01 dO1B0 dO1B1 dO1B2 dXB00 dXB01 dO2B0 dO2B1 dO2B2
  have Z16 := Lib.hid (Below.size b)
  have P0 := Lib.hid (P0.out.below b)
  have O1 := Lib.hid (O1.out.below b)
  have O1B := Lib.hid (O1B.out.below b)
  have XB0 := Lib.hid (XB0.out.below b)
  have O2B := Lib.hid (O2B.out.below b)
  have M := Lib.hid (M.out.below b)
  have BW := Lib.hid (below_then BW.out b)
  have R0 := Lib.hid ((tab_of_grid g).wide (lo' := w15.heap.size) (hi' := w16.heap.size) (by omega) (by have := HL0.out; omega))
  have hrw0 := HL0.out
  rw [hrw0] at R0
  clear g b z hrw0
  have dP00 := P0.out 0 _ rfl
  have dP01 := P0.out 1 _ rfl
  have dO1B0 := O1B.out 0 _ rfl
  have dO1B1 := O1B.out 1 _ rfl
  have dO1B2 := O1B.out 2 _ rfl
  have dXB00 := XB0.out 0 _ rfl
  have dXB01 := XB0.out 1 _ rfl
  have dO2B0 := O2B.out 0 _ rfl
  have dO2B1 := O2B.out 1 _ rfl
  have dO2B2 := O2B.out 2 _ rfl
  go_wp2_with fail
  refine (implFindCertificate_any s0 _ n0 n0 xs0 _ (R0.out.rows HL0.out) hl0 HW0.out).mono ?_
  clear dP00 dP01 dO1B0 dO1B1 dO1B2 dXB00 dXB01 dO2B0 dO2B1 dO2B2
  rintro e w17 ⟨v, v2, rfl, ow, b⟩
  rw [← HLS.out, ← HOS.out] at ow
  rw [← HSS.out, ← HCO.out]
  obtain ⟨⟨VO3, eO3, rfl⟩, UO3, dO3, rfl⟩ := ow.form
  have Z17 := Lib.hid (Below.size b)
  have P0 := Lib.hid (P0.out.below b)
  have O1 := Lib.hid (O1.out.below b)
  have O1B := Lib.hid (O1B.out.below b)
  have XB0 := Lib.hid (XB0.out.below b)
  have O2B := Lib.hid (O2B.out.below b)
  have M := Lib.hid (M.out.below b)
  have R0 := Lib.hid (R0.out.below b)
  have BW := Lib.hid (below_then BW.out b)
  have O3 := Lib.hid ow
  clear ow b
  have qP0 := P0.out.below ((Below.refl _ w17).alloc (Nat.le_refl _) (.cells #[.int .i64 SS, .slice VO3 LS.length eO3, .slice UO3 OS.length dO3] 41))
  have dP00 := qP0 0 _ rfl
  have dP01 := qP0 1 _ rfl
  clear qP0
  have qO1B := O1B.out.below ((Below.refl _ w17).alloc (Nat.le_refl _) (.cells #[.int .i64 SS, .slice VO3 LS.length eO3, .slice UO3 OS.length dO3] 41))
  have dO1B0 := qO1B 0 _ rfl
  have dO1B1 := qO1B 1 _ rfl
  have dO1B2 := qO1B 2 _ rfl
  clear qO1B
  have qXB0 := XB0.out.below ((Below.refl _ w17).alloc (Nat.le_refl _) (.cells #[.int .i64 SS, .slice VO3 LS.length eO3, .slice UO3 OS.length dO3] 41))
  have dXB00 := qXB0 0 _ rfl
  have dXB01 := qXB0 1 _ rfl
  clear qXB0
  have qO2B := O2B.out.below ((Below.refl _ w17).alloc (Nat.le_refl _) (.cells #[.int .i64 SS, .slice VO3 LS.length eO3, .slice UO3 OS.length dO3] 41))
  have dO2B0 := qO2B 0 _ rfl
  have dO2B1 := qO2B 1 _ rfl
  have dO2B2 := qO2B 2 _ rfl
  clear qO2B
  go_wp2_with fail
  clear dP00 dP01 dO1B0 dO1B1 dO1B2 dXB00 dXB01 dO2B0 dO2B1 dO2B2
  obtain ⟨w18, hw18⟩ : ∃ w18, w18 = w17.alloc (.cells #[.int .i64 SS, .slice VO3 LS.length eO3, .slice UO3 OS.length dO3] 41) := ⟨_, rfl⟩
  rw [← hw18]
  have bw18 : Below w17.heap.size w17 w18 := by rw [hw18]; exact (Below.refl _ _).alloc (Nat.le_refl _) _
  have O3Bx := Lib.hid (show Box w18 w17.heap.size [.int .i64 SS, .slice VO3 LS.length eO3, .slice UO3 OS.length dO3] by rw [hw18]; exact Box.new _ _ _)
  have O3BL := Lib.hid (show w17.heap.size < w18.heap.size by rw [hw18, World.size_alloc]; exact Nat.lt_succ_self _)
  have Z18 := Lib.hid (Below.size bw18)
  have P0 := Lib.hid (P0.out.below bw18)
  have O1 := Lib.hid (O1.out.below bw18)
  have O1B := Lib.hid (O1B.out.below bw18)
  have XB0 := Lib.hid (XB0.out.below bw18)
  have O2B := Lib.hid (O2B.out.below bw18)
  have M := Lib.hid (M.out.below bw18)
  have R0 := Lib.hid (R0.out.below bw18)
  have O3 := Lib.hid (O3.out.below bw18)
  have BW := Lib.hid (below_then BW.out bw18)
  have O3B := O3Bx
  clear hw18 bw18 O3Bx
  clear R0
  refine (eqCertificate_t SS _ _ LS.length LS.length _ _ LS _ _ OS.length OS.length _ _ OS _ (O3.out.rows rfl) (O1.out.rows rfl) (by omega) (by omega) HRW.out (O3.out.outs rfl) (O1.out.outs rfl) (by omega) (by omega) HRO.out).mono ?_
  rintro e w19 ⟨rfl, b⟩
  have Z19 := Lib.hid (Below.size b)
  have P0 := Lib.hid (P0.out.below b)
  have O1 := Lib.hid (O1.out.below b)
  have O1B := Lib.hid (O1B.out.below b)
  have XB0 := Lib.hid (XB0.out.below b)
  have O2B := Lib.hid (O2B.out.below b)
  have M := Lib.hid (M.out.below b)
  have O3 := Lib.hid (O3.out.below b)
  have O3B := Lib.hid (O3B.out.below b)
  have BW := Lib.hid (below_then BW.out b)
  clear b
  have dP00 := P0.out 0 _ rfl
  have dP01 := P0.out 1 _ rfl
  have dO1B0 := O1B.out 0 _ rfl
  have dO1B1 := O1B.out 1 _ rfl
  have dO1B2 := O1B.out 2 _ rfl
  have dXB00 := XB0.out 0 _ rfl
  have dXB01 := XB0.out 1 _ rfl
  have dO2B0 := O2B.out 0 _ rfl
  have dO2B1 := O2B.out 1 _ rfl
  have dO2B2 := O2B.out 2 _ rfl
  have dO3B0 := O3B.out 0 _ rfl
  have dO3B1 := O3B.out 1 _ rfl
  have dO3B2 := O3B.out 2 _ rfl
  go_wp2_with fail
  refine (heldCertificateT_any SS VO2 LS.length eO2 LS UO2 OS.length dO2 OS 1 w19 (M.out.rows (marksT_len _ _)) (M.out.outs (marksT_len _ _)) rfl rfl (by omega) hlen hleo hkm).mono ?_
  rintro e w20 ⟨rfl, b⟩
  clear dP00 dP01 dO1B0 dO1B1 dO1B2 dXB00 dXB01 dO2B0 dO2B1 dO2B2 dO3B0 dO3B1 dO3B2
  have Z20 := Lib.hid (Below.size b)
  have P0 := Lib.hid (P0.out.below b)
  have O1 := Lib.hid (O1.out.below b)
  have O1B := Lib.hid (O1B.out.below b)
  have XB0 := Lib.hid (XB0.out.below b)
  have O2B := Lib.hid (O2B.out.below b)
  have M := Lib.hid (M.out.below b)
  have O3 := Lib.hid (O3.out.below b)
  have O3B := Lib.hid (O3B.out.below b)
  have BW := Lib.hid (below_then BW.out b)
  clear b
  go_wp2_with fail
  go_ret
  exact ⟨rfl, BW.out⟩

set_option maxRecDepth 100000 in
theorem lifted (os : Os) (started : os.Started) (H : Type) (enc : TypeId × Value → H) :
    ReturnsInHanded {} Try.checked os 7 .any (Rows.fnExactFindCertificateSpec.pre6 enc Try.prog Try.f7 Rows.fnExactFindCertificateRow.domain false) (Rows.fnExactFindCertificateSpec.post enc Try.prog Try.f7 false true false false) := by
  refine returnsInHanded_of_change (C := Try.checked) own started (by kernel_rfl) Try.func7
    (ChangeSpec.witness6 (enc := enc) (C := Try.checked) false ⟨#[], #[.agg #[.int .i64 0, .slice none 0 0]], []⟩ 8 (by kernel_rfl) (by kernel_rfl) (by kernel_rfl) (by kernel_rfl)) ?_
  intro W base args ds gs before hval0 hW hcnd _
  have hval : ∀ (j : Nat) t v, Try.f7.params[j]? = some t → args[j]? = some v → Value.okWide Try.prog W .any base t v := hval0
  have hW' := hW
  obtain ⟨p, q, hA0, hV, rfl, hfz, hnd⟩ := hW
  have hA : DataW.TrodAll enc Try.prog W 0 (fun _ => true) true Try.f7.params.toList args.toList ds p := hA0
  rw [Try.params7] at hA hval
  obtain ⟨v0, vs0, d0, ds0, p0, q0, hargs, rfl, rfl, h0, r0⟩ := trodAll_cons hA
  obtain ⟨rfl, rfl, rfl⟩ := trodAll_nil r0
  obtain rfl : args = #[v0] := by cases args; simp_all
  obtain ⟨rfl, rfl⟩ := trodVars_none hV
  have lt0 : ∀ x ∈ p0, x.block < W.heap.size := by obtain ⟨m, hm⟩ := h0; exact DataW.trod_lt m _ _ _ hm
  have k0 := h0
  obtain ⟨s0, a0, n0, c0, xs0, rfl, hr0, hn0, hw0⟩ := auto_of_trod (hval 0 24 v0 rfl rfl) h0
  clear hA0 hval0
  refine (walk s0 a0 n0 c0 xs0 W hr0 hn0 hw0).mono fun e W' ⟨he, bel⟩ => ?_
  subst he
  exact ⟨_, rfl, _, _, _, [], _, [], hW', trodAll_mk1 (shut_bool Try.underlying4 _), (trodAll_cons_mk (Below.trod laidOut (by kernel_rfl) (of_decide_eq_true (by kernel_rfl)) k0 bel lt0) trodAll_mk0), rfl, bel.frame _, fun h => by cases h⟩

theorem over : Rows.fnExactFindCertificateRow.holds Try.pinned (OpenSpec.ofChange Rows.fnExactFindCertificateSpec) :=
  OpenClaim.holds_of_wide 7 Try.f7 rfl rfl rfl rfl rfl rfl rfl ⟨rfl, rfl, rfl, rfl, rfl⟩ rfl rfl rfl rfl rfl (by kernel_rfl) Try.func7 (by kernel_rfl)
    (of_decide_eq_true (by kernel_rfl)) (by unfold Func.isWrapper; first | (rw [if_pos (by decide +kernel)]; kernel_rfl) | (rw [if_neg (by decide +kernel)]; exact ⟨rfl, rfl⟩))
    (fun os started H enc _ => lifted os started H enc)

/-- The statement. -/
theorem proved : Rows.FnExactFindCertificateSaid := over
#print axioms proved
end fnExactFindCertificate
end Go.Proofs.Ytcglncepmieaaaa
