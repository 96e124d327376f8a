/-
  FnExactAdaptiveLetter: for every choice of its arguments (automaton with lamps, list) the law returns true: both functions give the same answer and code, what the program answers is new memory each time, and no argument is written. No condition.
-/
import Derived.Test.YtdelanjkaokiaaaLetT
import Derived.Test.YtdelanjkaokiaaaLetI
import Derived.WalkSpells
namespace Go.Proofs.Ytdelanjkaokiaaa
open Go.RowKit Go.Deep Go.ChangeShapes Go.WideShapes

namespace fnExactAdaptiveLetter
open Go.ChangeAt

set_option maxHeartbeats 8000000 in
set_option maxRecDepth 100000 in
theorem walk (s0 : Int) (A0 : Option Addr) (n0 c0 : Nat) (xs0 : List (List Int)) (B0 : Option Addr) (m0 d0 : Nat) (ys0 : List Int) (A1 : Option Addr) (n1 c1 : Nat) (xs1 : List Int) (w : World) (h0 : RowsAt w A0 n0 xs0) (hn0 : n0 ≤ 9223372036854775807) (hr0 : ∀ (r : Nat) (xs : List Int), xs0[r]? = some xs → xs.length ≤ 9223372036854775807) (g0 : NumsAt w B0 m0 ys0) (gn0 : m0 ≤ 9223372036854775807) (h1 : NumsAt w A1 n1 xs1) (hn1 : n1 ≤ maxLen) :
    Calls Try.prog 4 #[.agg #[.int .i64 s0, .slice A0 n0 c0, .slice B0 m0 d0], .slice A1 n1 c1] w fun e w' => e = .returned (.bool true) ∧ Below w.heap.size w w' := by
  have HR0 := Lib.hid hr0
  have HL0 := Lib.hid h0.1
  clear hr0
  have GL0 := Lib.hid g0.1
  have hq1 : n1 ≤ 9223372036854775807 := hn1
  clear hn1
  rcases Nat.lt_or_ge 1048576 n1 with hbig | hbig
  · have hbig' : (1048576 : Int) < (n1 : Int) := by omega
    go_enter Try.func4, Try.ntmps4
    go_wp2_with fail
    go_ret
    exact ⟨rfl, by go_grown⟩
  have hsmall1 : decide ((1048576 : Int) < (n1 : Int)) = false := by simp; omega
  have hl1 : n1 ≤ 4611686018427387904 := by omega
  have HB1 := Lib.hid hbig
  clear hbig hq1
  go_enter Try.func4, Try.ntmps4
  go_wp2_with fail
  obtain ⟨w1, hw1⟩ : ∃ w1, w1 = w.alloc (.cells #[.int .i64 s0, .slice A0 n0 c0, .slice B0 m0 d0] 27) := ⟨_, rfl⟩
  rw [← hw1]
  have bw1 : Below w.heap.size w w1 := by rw [hw1]; exact (Below.refl _ _).alloc (Nat.le_refl _) _
  have P0x := Lib.hid (show Box w1 w.heap.size [.int .i64 s0, .slice A0 n0 c0, .slice B0 m0 d0] by rw [hw1]; exact Box.new _ _ _)
  have P0L := Lib.hid (show w.heap.size < w1.heap.size by rw [hw1, World.size_alloc]; exact Nat.lt_succ_self _)
  have Z1 := Lib.hid (Below.size bw1)
  have BW := Lib.hid (show Below w.heap.size w w1 from bw1)
  have P0 := P0x
  clear hw1 bw1 P0x
  refine (szLit_any s0 A0 n0 c0 xs0 B0 m0 d0 _ _ (h0.below BW.out) hn0 HR0.out gn0 (by omega) (by omega)).mono ?_
  rintro e w2 ⟨r0, rfl, hS, b⟩
  have HS0 := Lib.hid hS
  clear hS
  have Z2 := Lib.hid (Below.size b)
  have P0 := Lib.hid (P0.out.below b)
  have BW := Lib.hid (below_then BW.out b)
  clear b
  rcases Int.lt_or_le r0 0 with hneg | hneg
  · skip
    have dP00 := P0.out 0 _ rfl
    have dP01 := P0.out 1 _ rfl
    have dP02 := P0.out 2 _ rfl
    go_wp2_with fail
    go_ret
    exact ⟨rfl, BW.out⟩
  have hneg' : ¬ r0 < 0 := by omega
  have HN0 := Lib.hid (sizedL_n HS0.out (by omega) hneg' HL0.out)
  have HR0 := Lib.hid (sizedL_rows HS0.out (by omega) hneg' )
  have GN0 := Lib.hid (sizedL_m HS0.out (by omega) hneg' )
  have HSUM0 := Lib.hid (sizedL_sum HS0.out (by omega) hneg' )
  obtain ⟨hp0, hp0'⟩ := sizedL_left HS0.out hneg'
  have gl0 : m0 ≤ 4611686018427387904 := by have := GN0.out; omega
  clear gn0
  have HW0 := Lib.hid (rows_wide HR0.out)
  have hl0 : n0 ≤ 4611686018427387904 := by have := HN0.out; omega
  clear hn0
  obtain ⟨LS, hLS⟩ : ∃ LS, LS = (adaptiveLetter s0 xs0 ys0 xs1).1 := ⟨_, rfl⟩
  obtain ⟨CO, hCO⟩ : ∃ CO, CO = (adaptiveLetter s0 xs0 ys0 xs1).2 := ⟨_, rfl⟩
  have HLS := Lib.hid hLS
  have HCO := Lib.hid hCO
  clear hLS hCO
  have dP00 := P0.out 0 _ rfl
  have dP01 := P0.out 1 _ rfl
  have dP02 := P0.out 2 _ rfl
  go_wp2_with fail
  refine (toLit_any s0 A0 n0 c0 xs0 B0 m0 d0 ys0 _ (h0.below BW.out) HN0.out HR0.out (g0.below BW.out) GN0.out).mono ?_
  rintro e w3 ⟨rfl, g, b⟩
  clear dP00 dP01 dP02
  have Z3 := Lib.hid (Below.size b)
  have P0 := Lib.hid (P0.out.below b)
  have BW := Lib.hid (below_then BW.out b)
  have S0 := Lib.hid g
  clear g b
  have dP00 := P0.out 0 _ rfl
  have dP01 := P0.out 1 _ rfl
  have dP02 := P0.out 2 _ rfl
  go_wp2_with fail
  refine (toInt64S_any _ _ _ _ _ (h1.below BW.out) HB1.out).mono ?_
  rintro e w4 ⟨rfl, ow, b, z⟩
  clear dP00 dP01 dP02
  have Z4 := Lib.hid (Below.size b)
  have P0 := Lib.hid (P0.out.below b)
  have S0 := Lib.hid (S0.out.below b)
  have BW := Lib.hid (below_then BW.out b)
  have S1 := Lib.hid (show IntsIn w3.heap.size w4.heap.size w4 (.slice (some ⟨w3.heap.size, 0, none⟩) n1 n1) xs1 from IntsIn.of (by have e := h1.1; subst e; exact ow))
  clear ow b z
  have dP00 := P0.out 0 _ rfl
  have dP01 := P0.out 1 _ rfl
  have dP02 := P0.out 2 _ rfl
  go_wp2_with fail
  refine (specAdaptiveLetter_any s0 _ n0 n0 xs0 _ m0 m0 ys0 _ n1 n1 xs1 _ (S0.out.rows HL0.out) hl0 HW0.out (S0.out.outs GL0.out) gl0 (S1.out.nums h1.1) hl1).mono ?_
  clear dP00 dP01 dP02
  rintro e w5 ⟨rfl, b⟩
  rw [← HLS.out, ← HCO.out]
  have Z5 := Lib.hid (Below.size b)
  have P0 := Lib.hid (P0.out.below b)
  have S0 := Lib.hid (S0.out.below b)
  have S1 := Lib.hid (S1.out.below b)
  have BW := Lib.hid (below_then BW.out b)
  clear b
  clear S0
  clear S1
  have dP00 := P0.out 0 _ rfl
  have dP01 := P0.out 1 _ rfl
  have dP02 := P0.out 2 _ rfl
  go_wp2_with fail
  refine (toLit_any s0 A0 n0 c0 xs0 B0 m0 d0 ys0 _ (h0.below BW.out) HN0.out HR0.out (g0.below BW.out) GN0.out).mono ?_
  rintro e w6 ⟨rfl, g, b⟩
  clear dP00 dP01 dP02
  have Z6 := Lib.hid (Below.size b)
  have P0 := Lib.hid (P0.out.below b)
  have BW := Lib.hid (below_then BW.out b)
  have X0 := Lib.hid g
  clear g b
  have qP0 := P0.out.below ((Below.refl _ w6).alloc (Nat.le_refl _) (.cells #[.int .i64 s0, .slice (some ⟨w5.heap.size + 6, 0, none⟩) n0 n0, .slice (some ⟨w5.heap.size + 7 + n0, 0, none⟩) m0 m0] 33))
  have dP00 := qP0 0 _ rfl
  have dP01 := qP0 1 _ rfl
  have dP02 := qP0 2 _ rfl
  clear qP0
  go_wp2_with fail
  clear dP00 dP01 dP02
  obtain ⟨w7, hw7⟩ : ∃ w7, w7 = w6.alloc (.cells #[.int .i64 s0, .slice (some ⟨w5.heap.size + 6, 0, none⟩) n0 n0, .slice (some ⟨w5.heap.size + 7 + n0, 0, none⟩) m0 m0] 33) := ⟨_, rfl⟩
  rw [← hw7]
  have bw7 : Below w6.heap.size w6 w7 := by rw [hw7]; exact (Below.refl _ _).alloc (Nat.le_refl _) _
  have XB0x := Lib.hid (show Box w7 w6.heap.size [.int .i64 s0, .slice (some ⟨w5.heap.size + 6, 0, none⟩) n0 n0, .slice (some ⟨w5.heap.size + 7 + n0, 0, none⟩) m0 m0] by rw [hw7]; exact Box.new _ _ _)
  have XB0L := Lib.hid (show w6.heap.size < w7.heap.size by rw [hw7, World.size_alloc]; exact Nat.lt_succ_self _)
  have Z7 := Lib.hid (Below.size bw7)
  have P0 := Lib.hid (P0.out.below bw7)
  have X0 := Lib.hid (X0.out.below bw7)
  have BW := Lib.hid (below_then BW.out bw7)
  have XB0 := XB0x
  clear hw7 bw7 XB0x
  refine (toInt64S_any _ _ _ _ _ (h1.below BW.out) HB1.out).mono ?_
  rintro e w8 ⟨rfl, ow, b, z⟩
  have Z8 := Lib.hid (Below.size b)
  have P0 := Lib.hid (P0.out.below b)
  have X0 := Lib.hid (X0.out.below b)
  have XB0 := Lib.hid (XB0.out.below b)
  have BW := Lib.hid (below_then BW.out b)
  have X1 := Lib.hid (show IntsIn w7.heap.size w8.heap.size w8 (.slice (some ⟨w7.heap.size, 0, none⟩) n1 n1) xs1 from IntsIn.of (by have e := h1.1; subst e; exact ow))
  clear ow b z
  have dP00 := P0.out 0 _ rfl
  have dP01 := P0.out 1 _ rfl
  have dP02 := P0.out 2 _ rfl
  have dXB00 := XB0.out 0 _ rfl
  have dXB01 := XB0.out 1 _ rfl
  have dXB02 := XB0.out 2 _ rfl
  go_wp2_with fail
  refine (implAdaptiveLetter_any s0 _ n0 n0 xs0 _ m0 m0 ys0 _ n1 n1 xs1 _ (X0.out.rows HL0.out) hl0 HW0.out (X0.out.outs GL0.out) gl0 (X1.out.nums h1.1) hl1).mono ?_
  clear dP00 dP01 dP02 dXB00 dXB01 dXB02
  rintro e w9 ⟨rfl, b⟩
  rw [← HLS.out, ← HCO.out]
  have Z9 := Lib.hid (Below.size b)
  have P0 := Lib.hid (P0.out.below b)
  have X0 := Lib.hid (X0.out.below b)
  have XB0 := Lib.hid (XB0.out.below b)
  have X1 := Lib.hid (X1.out.below b)
  have BW := Lib.hid (below_then BW.out b)
  clear b
  have rP00 := P0.out.rule (j := 0) rfl
  have rP01 := P0.out.rule (j := 1) rfl
  have rP02 := P0.out.rule (j := 2) rfl
  have rXB00 := XB0.out.rule (j := 0) rfl
  have rXB01 := XB0.out.rule (j := 1) rfl
  have rXB02 := XB0.out.rule (j := 2) rfl
  have c9 : Below w9.heap.size w9 w9 := Below.refl _ _
  have dP00 := P0.out 0 _ rfl
  have dP01 := P0.out 1 _ rfl
  have dP02 := P0.out 2 _ rfl
  have dXB00 := XB0.out 0 _ rfl
  have dXB01 := XB0.out 1 _ rfl
  have dXB02 := XB0.out 2 _ rfl
  go_wp2_with fail
  clear dP00 dP01 dP02 dXB00 dXB01 dXB02
  go_region_held3 (fun w' => Below w9.heap.size w9 w') (first | assumption | exact below_drewN' (by assumption) _)
    (first
      | (go_at_call 13; refine (toLit_any s0 A0 n0 c0 xs0 B0 m0 d0 ys0 _ (h0.below (below_then BW.out (by first | assumption | exact below_drewN' (by assumption) _))) HN0.out HR0.out (g0.below (below_then BW.out (by first | assumption | exact below_drewN' (by assumption) _))) GN0.out).mono ?_; rintro e wa ⟨rfl, ga, ba⟩; have ca : Below w9.heap.size w9 wa := below_then (by first | assumption | exact below_drewN' (by assumption) _) ba; have GA := Lib.hid ga; clear ga ba)
      | (go_at_call 16; refine (eqLit_t s0 _ _ n0 n0 _ _ xs0 _ _ m0 m0 _ _ ys0 _ ((X0.out.below ca).rows HL0.out) (GA.out.rows HL0.out) hl0 hl0 HW0.out ((X0.out.below ca).outs GL0.out) (GA.out.outs GL0.out) gl0 gl0).mono ?_; rintro e w10 ⟨rfl, be⟩; have ce : Below w9.heap.size w9 w10 := below_then ca be; clear be))
  clear rP00 rP01 rP02 rXB00 rXB01 rXB02 c9 ca GA
  have Z10 := Lib.hid (Below.size ce)
  have P0 := Lib.hid (P0.out.below ce)
  have X0 := Lib.hid (X0.out.below ce)
  have XB0 := Lib.hid (XB0.out.below ce)
  have X1 := Lib.hid (X1.out.below ce)
  have BW := Lib.hid (below_then BW.out ce)
  clear ce
  have dP00 := P0.out 0 _ rfl
  have dP01 := P0.out 1 _ rfl
  have dP02 := P0.out 2 _ rfl
  have dXB00 := XB0.out 0 _ rfl
  have dXB01 := XB0.out 1 _ rfl
  have dXB02 := XB0.out 2 _ rfl
  go_wp2_with fail
  refine (toInt64S_any _ _ _ _ _ (h1.below BW.out) HB1.out).mono ?_
  rintro e w11 ⟨rfl, ow, b, z⟩
  clear dP00 dP01 dP02 dXB00 dXB01 dXB02
  have Z11 := Lib.hid (Below.size b)
  have P0 := Lib.hid (P0.out.below b)
  have X0 := Lib.hid (X0.out.below b)
  have XB0 := Lib.hid (XB0.out.below b)
  have X1 := Lib.hid (X1.out.below b)
  have BW := Lib.hid (below_then BW.out b)
  have Y1 := Lib.hid (show IntsIn w10.heap.size w11.heap.size w11 (.slice (some ⟨w10.heap.size, 0, none⟩) n1 n1) xs1 from IntsIn.of (by have e := h1.1; subst e; exact ow))
  clear ow b z
  have dP00 := P0.out 0 _ rfl
  have dP01 := P0.out 1 _ rfl
  have dP02 := P0.out 2 _ rfl
  have dXB00 := XB0.out 0 _ rfl
  have dXB01 := XB0.out 1 _ rfl
  have dXB02 := XB0.out 2 _ rfl
  go_wp2_with fail
  refine (eqInts_b _ _ _ _ _ _ _ _ _ (X1.out.nums h1.1) (Y1.out.nums h1.1) hl1 hl1).mono ?_
  rw [sameB_t rfl]
  rintro e w12 ⟨rfl, b⟩
  clear dP00 dP01 dP02 dXB00 dXB01 dXB02
  have Z12 := Lib.hid (Below.size b)
  have P0 := Lib.hid (P0.out.below b)
  have X0 := Lib.hid (X0.out.below b)
  have XB0 := Lib.hid (XB0.out.below b)
  have X1 := Lib.hid (X1.out.below b)
  have Y1 := Lib.hid (Y1.out.below b)
  have BW := Lib.hid (below_then BW.out b)
  clear b
  clear Y1
  go_wp2_with fail
  go_ret
  exact ⟨rfl, BW.out⟩

set_option maxRecDepth 100000 in
theorem lifted (os : Os) (started : os.Started) (H : Type) (enc : TypeId × Value → H) :
    ReturnsInHanded {} Try.checked os 4 .any (Rows.fnExactAdaptiveLetterSpec.pre6 enc Try.prog Try.f4 Rows.fnExactAdaptiveLetterRow.domain false) (Rows.fnExactAdaptiveLetterSpec.post enc Try.prog Try.f4 false true false false) := by
  refine returnsInHanded_of_change (C := Try.checked) own started (by kernel_rfl) Try.func4
    (ChangeSpec.witness6 (enc := enc) (C := Try.checked) false ⟨#[], #[.agg #[.int .i64 0, .slice none 0 0, .slice none 0 0], .slice none 0 0], []⟩ 8 (by kernel_rfl) (by kernel_rfl) (by kernel_rfl) (by kernel_rfl)) ?_
  intro W base args ds gs before hval0 hW hcnd _
  have hval : ∀ (j : Nat) t v, Try.f4.params[j]? = some t → args[j]? = some v → Value.okWide Try.prog W .any base t v := hval0
  have hW' := hW
  obtain ⟨p, q, hA0, hV, rfl, hfz, hnd⟩ := hW
  have hA : DataW.TrodAll enc Try.prog W 0 (fun _ => true) true Try.f4.params.toList args.toList ds p := hA0
  rw [Try.params4] at hA hval
  obtain ⟨v0, vs0, d0, ds0, p0, q0, hargs, rfl, rfl, h0, r0⟩ := trodAll_cons hA
  obtain ⟨v1, vs1, d1, ds1, p1, q1, rfl, rfl, rfl, h1, r1⟩ := trodAll_cons r0
  obtain ⟨rfl, rfl, rfl⟩ := trodAll_nil r1
  obtain rfl : args = #[v0, v1] := by cases args; simp_all
  obtain ⟨rfl, rfl⟩ := trodVars_none hV
  have lt0 : ∀ x ∈ p0, x.block < W.heap.size := by obtain ⟨m, hm⟩ := h0; exact DataW.trod_lt m _ _ _ hm
  have k0 := h0
  obtain ⟨s0, a0, n0, c0, xs0, b0, m0, e0, ys0, rfl, hr0, hn0, hw0, gr0, gn0⟩ := lit_of_trod (hval 0 27 v0 rfl rfl) h0
  have lt1 : ∀ x ∈ p1, x.block < W.heap.size := by obtain ⟨m, hm⟩ := h1; exact DataW.trod_lt m _ _ _ hm
  have k1 := h1
  obtain ⟨a1, n1, c1, rfl⟩ := okWide_slice Try.underlying25 (hval 1 25 v1 rfl rfl)
  obtain ⟨xs1, hr1, hn1⟩ := nums_of_trod h1
  clear hA0 hval0
  refine (walk s0 a0 n0 c0 xs0 b0 m0 e0 ys0 a1 n1 c1 xs1 W hr0 hn0 hw0 gr0 gn0 hr1 hn1).mono fun e W' ⟨he, bel⟩ => ?_
  subst he
  exact ⟨_, rfl, _, _, _, [], _, [], hW', trodAll_mk1 (shut_bool Try.underlying4 _), (trodAll_cons_mk (Below.trod laidOut (by kernel_rfl) (of_decide_eq_true (by kernel_rfl)) k0 bel lt0) (trodAll_cons_mk (Below.trod laidOut (by kernel_rfl) (of_decide_eq_true (by kernel_rfl)) k1 bel lt1) trodAll_mk0)), rfl, bel.frame _, fun h => by cases h⟩

theorem over : Rows.fnExactAdaptiveLetterRow.holds Try.pinned (OpenSpec.ofChange Rows.fnExactAdaptiveLetterSpec) :=
  OpenClaim.holds_of_wide 4 Try.f4 rfl rfl rfl rfl rfl rfl rfl ⟨rfl, rfl, rfl, rfl, rfl⟩ rfl rfl rfl rfl rfl (by kernel_rfl) Try.func4 (by kernel_rfl)
    (of_decide_eq_true (by kernel_rfl)) (by unfold Func.isWrapper; first | (rw [if_pos (by decide +kernel)]; kernel_rfl) | (rw [if_neg (by decide +kernel)]; exact ⟨rfl, rfl⟩))
    (fun os started H enc _ => lifted os started H enc)

/-- The statement. -/
theorem proved : Rows.FnExactAdaptiveLetterSaid := over
#print axioms proved
end fnExactAdaptiveLetter
end Go.Proofs.Ytdelanjkaokiaaa
