/-
  FnExactValidSuite: for every choice of its arguments (machine, list of lists) the law returns true: both functions give the same answer and code, what the program answers is new memory each time, and no argument is written. No condition.
-/
import Derived.Test.YtdhmciendlihoaaDoorSuit
import Derived.Test.YtdhmciendlihoaaDoorHand
import Derived.Test.YtdhmciendlihoaaDoorTie
import Derived.Test.YtdhmciendlihoaaDoorCards
import Derived.SevenTiedAt
import Derived.WalkSpells
namespace Go.Proofs.YtdhmciendlihoaaDoor
open Go.RowKit Go.Deep Go.ChangeShapes Go.WideShapes

namespace fnExactValidSuite
open Go.ChangeAt

set_option maxHeartbeats 8000000 in
set_option maxRecDepth 100000 in
theorem walk (s0 q0 : Int) (A0 : Option Addr) (n0 c0 : Nat) (xs0 : List (List Int)) (B0 : Option Addr) (m0 d0 : Nat) (ys0 : List (List Int)) (A1 : Option Addr) (n1 c1 : Nat) (xs1 : List (List Int)) (w : World) (hHand : HandleAt w) (h0 : RowsAt w A0 n0 xs0) (hn0 : n0 ≤ 9223372036854775807) (hr0 : ∀ (r : Nat) (xs : List Int), xs0[r]? = some xs → xs.length ≤ 9223372036854775807) (g0 : RowsAt w B0 m0 ys0) (gn0 : m0 ≤ 9223372036854775807) (gr0 : ∀ (r : Nat) (xs : List Int), ys0[r]? = some xs → xs.length ≤ 9223372036854775807) (h1 : RowsAt w A1 n1 xs1) (hn1 : n1 ≤ 9223372036854775807) (hr1 : ∀ (r : Nat) (xs : List Int), xs1[r]? = some xs → xs.length ≤ 9223372036854775807) :
    Calls Tryd.prog 3 #[.agg #[.int .i64 s0, .int .i64 q0, .slice A0 n0 c0, .slice B0 m0 d0], .slice A1 n1 c1] w fun e w' => e = .returned (.bool true) ∧ Below w.heap.size w w' := by
  have HR0 := Lib.hid hr0
  have HL0 := Lib.hid h0.1
  clear hr0
  have HR1 := Lib.hid hr1
  have HL1 := Lib.hid h1.1
  clear hr1
  have GR0 := Lib.hid gr0
  have GL0 := Lib.hid g0.1
  clear gr0
  go_enter Tryd.func3, Tryd.ntmps3
  go_wp2_with fail
  obtain ⟨w1, hw1⟩ : ∃ w1, w1 = w.alloc (.cells #[.int .i64 s0, .int .i64 q0, .slice A0 n0 c0, .slice B0 m0 d0] 24) := ⟨_, rfl⟩
  rw [← hw1]
  have bw1 : Below w.heap.size w w1 := by rw [hw1]; exact (Below.refl _ _).alloc (Nat.le_refl _) _
  have P0x := Lib.hid (show Box w1 w.heap.size [.int .i64 s0, .int .i64 q0, .slice A0 n0 c0, .slice B0 m0 d0] by rw [hw1]; exact Box.new _ _ _)
  have P0L := Lib.hid (show w.heap.size < w1.heap.size by rw [hw1, World.size_alloc]; exact Nat.lt_succ_self _)
  have Z1 := Lib.hid (Below.size bw1)
  have BW := Lib.hid (show Below w.heap.size w w1 from bw1)
  have P0 := P0x
  clear hw1 bw1 P0x
  refine (szMachine_any s0 q0 A0 n0 c0 xs0 B0 m0 d0 ys0 _ _ (h0.below BW.out) hn0 HR0.out (g0.below BW.out) gn0 GR0.out (by omega) (by omega)).mono ?_
  rintro e w2 ⟨r0, rfl, hS, b⟩
  have HS0 := Lib.hid hS
  clear hS
  have Z2 := Lib.hid (Below.size b)
  have P0 := Lib.hid (P0.out.below b)
  have BW := Lib.hid (below_then BW.out b)
  clear b
  rcases Int.lt_or_le r0 0 with hneg | hneg
  · skip
    have dP00 := P0.out 0 _ rfl
    have dP01 := P0.out 1 _ rfl
    have dP02 := P0.out 2 _ rfl
    have dP03 := P0.out 3 _ rfl
    go_wp2_with fail
    go_ret
    exact ⟨rfl, BW.out⟩
  have hneg' : ¬ r0 < 0 := by omega
  have HN0 := Lib.hid (sized2_n HS0.out (by omega) hneg' HL0.out)
  have HR0 := Lib.hid (sized2_rows HS0.out (by omega) hneg' )
  have GN0 := Lib.hid (sized2_m HS0.out (by omega) hneg' GL0.out)
  have GR0 := Lib.hid (sized2_outs HS0.out (by omega) hneg' )
  have HSUM0 := Lib.hid (sized2_sum HS0.out (by omega) hneg' )
  obtain ⟨hp0, hp0'⟩ := sized2_left HS0.out hneg'
  have GW0 := Lib.hid (rows_wide GR0.out)
  have gl0 : m0 ≤ 4611686018427387904 := by have := GN0.out; omega
  clear gn0
  have HW0 := Lib.hid (rows_wide HR0.out)
  have hl0 : n0 ≤ 4611686018427387904 := by have := HN0.out; omega
  clear hn0
  have dP00 := P0.out 0 _ rfl
  have dP01 := P0.out 1 _ rfl
  have dP02 := P0.out 2 _ rfl
  have dP03 := P0.out 3 _ rfl
  go_wp2_with fail
  refine (szInt64SS_any A1 n1 c1 xs1 _ _ (h1.below BW.out) hn1 HR1.out hp0 (by omega)).mono ?_
  rintro e w9 ⟨r1, rfl, hS, rfl⟩
  have HS1 := Lib.hid hS
  clear hS dP00 dP01 dP02 dP03
  rcases Int.lt_or_le r1 0 with hneg | hneg
  · skip
    have dP00 := P0.out 0 _ rfl
    have dP01 := P0.out 1 _ rfl
    have dP02 := P0.out 2 _ rfl
    have dP03 := P0.out 3 _ rfl
    go_wp2_with fail
    go_ret
    exact ⟨rfl, BW.out⟩
  have hneg' : ¬ r1 < 0 := by omega
  have HN1 := Lib.hid (sized_n' HS1.out (by omega) hneg' HL1.out)
  have HR1 := Lib.hid (sized_rows' HS1.out (by omega) hneg')
  have HSUM1 := Lib.hid (sized_sum HS1.out (by omega) hneg')
  obtain ⟨hp1, hp1'⟩ := sized_left HS1.out hneg'
  have HW1 := Lib.hid (rows_wide HR1.out)
  have hl1 : n1 ≤ 4611686018427387904 := by have := HN1.out; omega
  clear hn1
  obtain ⟨LS, hLS⟩ : ∃ LS, LS = validSuite s0 q0 xs0 ys0 xs1 := ⟨_, rfl⟩
  have HLS := Lib.hid hLS
  clear hLS
  have dP00 := P0.out 0 _ rfl
  have dP01 := P0.out 1 _ rfl
  have dP02 := P0.out 2 _ rfl
  have dP03 := P0.out 3 _ rfl
  go_wp2_with fail
  refine (toMachine_any s0 q0 A0 n0 c0 xs0 B0 m0 d0 ys0 _ (h0.below BW.out) HN0.out HR0.out (g0.below BW.out) GN0.out GR0.out).mono ?_
  rintro e w3 ⟨rfl, g, b⟩
  clear dP00 dP01 dP02 dP03
  have Z3 := Lib.hid (Below.size b)
  have P0 := Lib.hid (P0.out.below b)
  have BW := Lib.hid (below_then BW.out b)
  have S0 := Lib.hid g
  clear g b
  have dP00 := P0.out 0 _ rfl
  have dP01 := P0.out 1 _ rfl
  have dP02 := P0.out 2 _ rfl
  have dP03 := P0.out 3 _ rfl
  go_wp2_with fail
  refine (toInt64SS_any A1 n1 c1 xs1 _ (h1.below BW.out) HN1.out HR1.out).mono ?_
  rintro e w4 ⟨rfl, g, b, z⟩
  clear dP00 dP01 dP02 dP03
  have Z4 := Lib.hid (Below.size b)
  have P0 := Lib.hid (P0.out.below b)
  have S0 := Lib.hid (S0.out.below b)
  have BW := Lib.hid (below_then BW.out b)
  have S1 := Lib.hid ((tab_of_grid g).wide (lo' := w3.heap.size) (hi' := w4.heap.size) (by omega) (by have := HL1.out; omega))
  have hrw1 := HL1.out
  rw [hrw1] at S1
  clear g b z hrw1
  have dP00 := P0.out 0 _ rfl
  have dP01 := P0.out 1 _ rfl
  have dP02 := P0.out 2 _ rfl
  have dP03 := P0.out 3 _ rfl
  go_wp2_with fail
  refine (specValidSuite_any s0 q0 _ n0 n0 xs0 _ m0 m0 ys0 _ n1 n1 xs1 _ (S0.out.rows HL0.out) hl0 HW0.out (S0.out.outs GL0.out) gl0 GW0.out (S1.out.rows HL1.out) hl1 HW1.out).mono ?_
  clear dP00 dP01 dP02 dP03
  rintro e w5 ⟨rfl, b⟩
  rw [← HLS.out]
  have Z5 := Lib.hid (Below.size b)
  have P0 := Lib.hid (P0.out.below b)
  have S0 := Lib.hid (S0.out.below b)
  have S1 := Lib.hid (S1.out.below b)
  have BW := Lib.hid (below_then BW.out b)
  clear b
  clear S0
  clear S1
  have dP00 := P0.out 0 _ rfl
  have dP01 := P0.out 1 _ rfl
  have dP02 := P0.out 2 _ rfl
  have dP03 := P0.out 3 _ rfl
  go_wp2_with fail
  refine (toMachine_any s0 q0 A0 n0 c0 xs0 B0 m0 d0 ys0 _ (h0.below BW.out) HN0.out HR0.out (g0.below BW.out) GN0.out GR0.out).mono ?_
  rintro e w6 ⟨rfl, g, b⟩
  clear dP00 dP01 dP02 dP03
  have Z6 := Lib.hid (Below.size b)
  have P0 := Lib.hid (P0.out.below b)
  have BW := Lib.hid (below_then BW.out b)
  have X0 := Lib.hid g
  clear g b
  have qP0 := P0.out.below ((Below.refl _ w6).alloc (Nat.le_refl _) (.cells #[.int .i64 s0, .int .i64 q0, .slice (some ⟨w5.heap.size + 3, 0, none⟩) n0 n0, .slice (some ⟨w5.heap.size + 4 + n0, 0, none⟩) m0 m0] 28))
  have dP00 := qP0 0 _ rfl
  have dP01 := qP0 1 _ rfl
  have dP02 := qP0 2 _ rfl
  have dP03 := qP0 3 _ rfl
  clear qP0
  go_wp2_with fail
  clear dP00 dP01 dP02 dP03
  obtain ⟨w7, hw7⟩ : ∃ w7, w7 = w6.alloc (.cells #[.int .i64 s0, .int .i64 q0, .slice (some ⟨w5.heap.size + 3, 0, none⟩) n0 n0, .slice (some ⟨w5.heap.size + 4 + n0, 0, none⟩) m0 m0] 28) := ⟨_, rfl⟩
  rw [← hw7]
  have bw7 : Below w6.heap.size w6 w7 := by rw [hw7]; exact (Below.refl _ _).alloc (Nat.le_refl _) _
  have XB0x := Lib.hid (show Box w7 w6.heap.size [.int .i64 s0, .int .i64 q0, .slice (some ⟨w5.heap.size + 3, 0, none⟩) n0 n0, .slice (some ⟨w5.heap.size + 4 + n0, 0, none⟩) m0 m0] by rw [hw7]; exact Box.new _ _ _)
  have XB0L := Lib.hid (show w6.heap.size < w7.heap.size by rw [hw7, World.size_alloc]; exact Nat.lt_succ_self _)
  have Z7 := Lib.hid (Below.size bw7)
  have P0 := Lib.hid (P0.out.below bw7)
  have X0 := Lib.hid (X0.out.below bw7)
  have BW := Lib.hid (below_then BW.out bw7)
  have XB0 := XB0x
  clear hw7 bw7 XB0x
  refine (toInt64SS_any A1 n1 c1 xs1 _ (h1.below BW.out) HN1.out HR1.out).mono ?_
  rintro e w8 ⟨rfl, g, b, z⟩
  have Z8 := Lib.hid (Below.size b)
  have P0 := Lib.hid (P0.out.below b)
  have X0 := Lib.hid (X0.out.below b)
  have XB0 := Lib.hid (XB0.out.below b)
  have BW := Lib.hid (below_then BW.out b)
  have X1 := Lib.hid ((tab_of_grid g).wide (lo' := w7.heap.size) (hi' := w8.heap.size) (by omega) (by have := HL1.out; omega))
  have hrw1 := HL1.out
  rw [hrw1] at X1
  clear g b z hrw1
  have dP00 := P0.out 0 _ rfl
  have dP01 := P0.out 1 _ rfl
  have dP02 := P0.out 2 _ rfl
  have dP03 := P0.out 3 _ rfl
  have dXB00 := XB0.out 0 _ rfl
  have dXB01 := XB0.out 1 _ rfl
  have dXB02 := XB0.out 2 _ rfl
  have dXB03 := XB0.out 3 _ rfl
  go_wp2_with fail
  refine (implValidSuite_any s0 q0 _ n0 n0 xs0 _ m0 m0 ys0 _ n1 n1 xs1 _ (hHand.on BW.out) (X0.out.rows HL0.out) hl0 HW0.out (X0.out.outs GL0.out) gl0 GW0.out (X1.out.rows HL1.out) hl1 HW1.out).mono ?_
  clear dP00 dP01 dP02 dP03 dXB00 dXB01 dXB02 dXB03
  rintro e w9 ⟨rfl, b⟩
  rw [← HLS.out]
  have Z9 := Lib.hid (Below.size b)
  have P0 := Lib.hid (P0.out.below b)
  have X0 := Lib.hid (X0.out.below b)
  have XB0 := Lib.hid (XB0.out.below b)
  have X1 := Lib.hid (X1.out.below b)
  have BW := Lib.hid (below_then BW.out b)
  clear b
  have rP00 := P0.out.rule (j := 0) rfl
  have rP01 := P0.out.rule (j := 1) rfl
  have rP02 := P0.out.rule (j := 2) rfl
  have rP03 := P0.out.rule (j := 3) rfl
  have rXB00 := XB0.out.rule (j := 0) rfl
  have rXB01 := XB0.out.rule (j := 1) rfl
  have rXB02 := XB0.out.rule (j := 2) rfl
  have rXB03 := XB0.out.rule (j := 3) rfl
  have c9 : Below w9.heap.size w9 w9 := Below.refl _ _
  have dP00 := P0.out 0 _ rfl
  have dP01 := P0.out 1 _ rfl
  have dP02 := P0.out 2 _ rfl
  have dP03 := P0.out 3 _ rfl
  have dXB00 := XB0.out 0 _ rfl
  have dXB01 := XB0.out 1 _ rfl
  have dXB02 := XB0.out 2 _ rfl
  have dXB03 := XB0.out 3 _ rfl
  go_wp2_with fail
  clear dP00 dP01 dP02 dP03 dXB00 dXB01 dXB02 dXB03
  go_region_held3 (fun w' => Below w9.heap.size w9 w') (first | assumption | exact below_drewN' (by assumption) _)
    (first
      | (go_at_call 12; refine (toMachine_any s0 q0 A0 n0 c0 xs0 B0 m0 d0 ys0 _ (h0.below (below_then BW.out (by first | assumption | exact below_drewN' (by assumption) _))) HN0.out HR0.out (g0.below (below_then BW.out (by first | assumption | exact below_drewN' (by assumption) _))) GN0.out GR0.out).mono ?_; rintro e wa ⟨rfl, ga, ba⟩; have ca : Below w9.heap.size w9 wa := below_then (by first | assumption | exact below_drewN' (by assumption) _) ba; have GA := Lib.hid ga; clear ga ba)
      | (go_at_call 15; refine (eqMachine_t s0 q0 _ _ n0 n0 _ _ xs0 _ _ m0 m0 _ _ ys0 _ ((X0.out.below ca).rows HL0.out) (GA.out.rows HL0.out) hl0 hl0 HW0.out ((X0.out.below ca).outs GL0.out) (GA.out.outs GL0.out) gl0 gl0 GW0.out).mono ?_; rintro e w10 ⟨rfl, be⟩; have ce : Below w9.heap.size w9 w10 := below_then ca be; clear be))
  clear rP00 rP01 rP02 rP03 rXB00 rXB01 rXB02 rXB03 c9 ca GA
  have Z10 := Lib.hid (Below.size ce)
  have P0 := Lib.hid (P0.out.below ce)
  have X0 := Lib.hid (X0.out.below ce)
  have XB0 := Lib.hid (XB0.out.below ce)
  have X1 := Lib.hid (X1.out.below ce)
  have BW := Lib.hid (below_then BW.out ce)
  clear ce
  have dP00 := P0.out 0 _ rfl
  have dP01 := P0.out 1 _ rfl
  have dP02 := P0.out 2 _ rfl
  have dP03 := P0.out 3 _ rfl
  have dXB00 := XB0.out 0 _ rfl
  have dXB01 := XB0.out 1 _ rfl
  have dXB02 := XB0.out 2 _ rfl
  have dXB03 := XB0.out 3 _ rfl
  go_wp2_with fail
  refine (toInt64SS_any A1 n1 c1 xs1 _ (h1.below BW.out) HN1.out HR1.out).mono ?_
  rintro e w11 ⟨rfl, g, b, z⟩
  clear dP00 dP01 dP02 dP03 dXB00 dXB01 dXB02 dXB03
  have Z11 := Lib.hid (Below.size b)
  have P0 := Lib.hid (P0.out.below b)
  have X0 := Lib.hid (X0.out.below b)
  have XB0 := Lib.hid (XB0.out.below b)
  have X1 := Lib.hid (X1.out.below b)
  have BW := Lib.hid (below_then BW.out b)
  have Y1 := Lib.hid (g.rowsN HL1.out)
  clear g b z
  have dP00 := P0.out 0 _ rfl
  have dP01 := P0.out 1 _ rfl
  have dP02 := P0.out 2 _ rfl
  have dP03 := P0.out 3 _ rfl
  have dXB00 := XB0.out 0 _ rfl
  have dXB01 := XB0.out 1 _ rfl
  have dXB02 := XB0.out 2 _ rfl
  have dXB03 := XB0.out 3 _ rfl
  go_wp2_with fail
  refine (eqInt64SS_any _ _ n1 n1 _ _ xs1 xs1 _ (X1.out.rows HL1.out) Y1.out hl1 hl1 HW1.out HW1.out).mono ?_
  rw [sameR_t rfl]
  rintro e w12 ⟨rfl, kk, hkk⟩
  have b : Below w11.heap.size w11 w12 := by rw [hkk]; exact below_drewN' (Below.refl _ _) _
  clear hkk
  clear dP00 dP01 dP02 dP03 dXB00 dXB01 dXB02 dXB03
  have Z12 := Lib.hid (Below.size b)
  have P0 := Lib.hid (P0.out.below b)
  have X0 := Lib.hid (X0.out.below b)
  have XB0 := Lib.hid (XB0.out.below b)
  have X1 := Lib.hid (X1.out.below b)
  have BW := Lib.hid (below_then BW.out b)
  clear b Y1
  go_wp2_with fail
  go_ret
  exact ⟨rfl, BW.out⟩

set_option maxRecDepth 100000 in
theorem lifted (os : Os) (started : os.Started) (H : Type) (enc : TypeId × Value → H) :
    ReturnsInHanded {} Tryd.checked os 3 .any (fun w args => (Rows.fnExactValidSuiteSpec.pre enc Tryd.prog Tryd.f3 [] false w args ∧ laidMetH Tryd.prog handLaid w) ∧ sizedMet enc Tryd.prog Tryd.f3 (OpenSpec.ofChange Rows.fnExactValidSuiteSpec) false w args)
      (Rows.fnExactValidSuiteSpec.post enc Tryd.prog Tryd.f3 false true false false) := by
  refine returnsInHanded_of_change_and (C := Tryd.checked) (X := fun w _ => laidMetH Tryd.prog handLaid w) (fun _ _ _ hh h => h.of_heap hh) own started (by kernel_rfl) Tryd.func3
    (ChangeSpec.witness_at (enc := enc) (C := Tryd.checked) (os := os) (X := fun w _ => laidMetH Tryd.prog handLaid w) false (handWorld os) #[.agg #[.int .i64 0, .int .i64 0, .slice none 0 0, .slice none 0 0], .slice none 0 0] 8 rfl (by kernel_rfl) (by kernel_rfl) (by kernel_rfl) (by kernel_rfl) (by kernel_rfl) (handWorld_met os _)) ?_
  intro W base args ds gs before hval0 hW _ _ hL0 _
  have hHand := handle_of_laid hL0
  have hval : ∀ (j : Nat) t v, Tryd.f3.params[j]? = some t → args[j]? = some v → Value.okWide Tryd.prog W .any base t v := hval0
  have hW' := hW
  obtain ⟨p, q, hA0, hV0, rfl, hfz, hnd⟩ := hW
  have hV : DataW.TrodVars enc Tryd.prog W (fun _ => true) [] gs q := hV0
  have hA : DataW.TrodAll enc Tryd.prog W 0 (fun _ => true) true Tryd.f3.params.toList args.toList ds p := hA0
  rw [Tryd.params3] at hA hval
  obtain ⟨v0, vs0, d0, ds0, p0, q0, hargs, rfl, rfl, h0, r0⟩ := trodAll_cons hA
  obtain ⟨v1, vs1, d1, ds1, p1, q1, rfl, rfl, rfl, h1, r1⟩ := trodAll_cons r0
  obtain ⟨rfl, rfl, rfl⟩ := trodAll_nil r1
  obtain rfl : args = #[v0, v1] := by cases args; simp_all
  obtain ⟨rfl, rfl⟩ := trodVars_none hV
  have lt0 : ∀ x ∈ p0, x.block < W.heap.size := by obtain ⟨m, hm⟩ := h0; exact DataW.trod_lt m _ _ _ hm
  have k0 := h0
  obtain ⟨s0, q0, a0, n0, c0, xs0, b0, m0, e0, ys0, rfl, hr0, hn0, hw0, gr0, gn0, gw0⟩ := mach_of_trod (hval 0 24 v0 rfl rfl) h0
  have lt1 : ∀ x ∈ p1, x.block < W.heap.size := by obtain ⟨m, hm⟩ := h1; exact DataW.trod_lt m _ _ _ hm
  have k1 := h1
  obtain ⟨a1, n1, c1, xs1, rfl, hr1, hn1, hw1⟩ := tab_of_trod (hval 1 22 v1 rfl rfl) h1
  clear hA0 hval0
  refine (walk s0 q0 a0 n0 c0 xs0 b0 m0 e0 ys0 a1 n1 c1 xs1 W hHand hr0 hn0 hw0 gr0 gn0 gw0 hr1 hn1 hw1).mono fun e W' ⟨he, bel⟩ => ?_
  subst he
  exact ⟨_, rfl, _, _, _, [], _, [], hW', trodAll_mk1 (shut_bool Tryd.underlying4 _), (trodAll_cons_mk (Below.trod laidOut (by kernel_rfl) (of_decide_eq_true (by kernel_rfl)) k0 bel lt0) (trodAll_cons_mk (Below.trod laidOut (by kernel_rfl) (of_decide_eq_true (by kernel_rfl)) k1 bel lt1) trodAll_mk0)), rfl, bel.frame _, fun h => by cases h⟩

theorem over : Rows.fnExactValidSuiteRow.holds Tryd.pinned (OpenSpec.ofChange Rows.fnExactValidSuiteSpec) :=
  OpenClaim.holds_of_wide 3 Tryd.f3 rfl rfl rfl rfl rfl rfl rfl ⟨rfl, rfl, rfl, rfl, rfl⟩ rfl rfl rfl rfl rfl (by kernel_rfl) Tryd.func3 (by kernel_rfl)
    (of_decide_eq_true (by kernel_rfl)) (by unfold Func.isWrapper; first | (rw [if_pos (by decide +kernel)]; kernel_rfl) | (rw [if_neg (by decide +kernel)]; exact ⟨rfl, rfl⟩))
    (fun os started H enc _ => lifted os started H enc)

/-- The statement. -/
theorem proved : Rows.FnExactValidSuiteCardSaid :=
  Claim7.holds_tied_plain_at .later [] [.handle] true _ true
    over (fun _ h => by cases h) (by kernel_rfl) (fun _ h => by cases h) fnExactValidSuite_row_tie rfl ⟨rfl, rfl⟩ (by kernel_rfl) rfl
    (fun f fn hf hfn => by
      obtain rfl : f = 3 := Option.some.inj ((show Tryd.prog.funcNamed "loop.example/g01102/laws.FnExactValidSuite" = some 3 by kernel_rfl).symm.trans hf) |>.symm
      obtain rfl : fn = Tryd.f3 := (Option.some.inj (Tryd.func3.symm.trans hfn)).symm
      exact ⟨by kernel_rfl, fun j t ht => by
        rw [Tryd.params3] at ht
        rcases j with _ | j
        · have h9 : t = 24 := by simpa using ht.symm
          subst h9
          exact (show Tryd.prog.wantsStandIn 24 = false by kernel_rfl)
        rcases j with _ | j
        · have h9 : t = 22 := by simpa using ht.symm
          subst h9
          exact (show Tryd.prog.wantsStandIn 22 = false by kernel_rfl)
        simp at ht⟩)
    (by kernel_rfl)
#print axioms proved
end fnExactValidSuite
end Go.Proofs.YtdhmciendlihoaaDoor
