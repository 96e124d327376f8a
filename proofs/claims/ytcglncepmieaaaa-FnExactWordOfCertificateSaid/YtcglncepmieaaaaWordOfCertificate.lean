/-
  FnExactWordOfCertificate: for every choice of its arguments (automaton, certificate) the law returns true: both functions give the same answer and code, what the program answers is new memory each time, and no argument is written. No condition.
-/
import Derived.Test.YtcglncepmieaaaaWrdC
import Derived.Deep.DeepCutAuto
import Derived.WalkSpells
namespace Go.Proofs.Ytcglncepmieaaaa
open Go.RowKit Go.Deep Go.ChangeShapes Go.WideShapes

namespace fnExactWordOfCertificate
open Go.ChangeAt

set_option maxHeartbeats 8000000 in
set_option maxRecDepth 100000 in
theorem walk (s0 : Int) (A0 : Option Addr) (n0 c0 : Nat) (xs0 : List (List Int)) (s1 : Int) (A1 : Option Addr) (n1 c1 : Nat) (xs1 : List (List Int)) (B1 : Option Addr) (m1 d1 : Nat) (ys1 : List (List Int)) (w : World) (h0 : RowsAt w A0 n0 xs0) (hn0 : n0 ≤ 9223372036854775807) (hr0 : ∀ (r : Nat) (xs : List Int), xs0[r]? = some xs → xs.length ≤ 9223372036854775807) (h1 : RowsAt w A1 n1 xs1) (hn1 : n1 ≤ 9223372036854775807) (hr1 : ∀ (r : Nat) (xs : List Int), xs1[r]? = some xs → xs.length ≤ 9223372036854775807) (g1 : RowsAt w B1 m1 ys1) (gn1 : m1 ≤ 9223372036854775807) (gr1 : ∀ (r : Nat) (xs : List Int), ys1[r]? = some xs → xs.length ≤ 9223372036854775807) :
    Calls Try.prog 9 #[.agg #[.int .i64 s0, .slice A0 n0 c0], .agg #[.int .i64 s1, .slice A1 n1 c1, .slice B1 m1 d1]] w fun e w' => e = .returned (.bool true) ∧ Below w.heap.size w w' := by
  have HR0 := Lib.hid hr0
  have HL0 := Lib.hid h0.1
  clear hr0
  have HR1 := Lib.hid hr1
  have HL1 := Lib.hid h1.1
  clear hr1
  have GR1 := Lib.hid gr1
  have GL1 := Lib.hid g1.1
  clear gr1
  go_enter Try.func9, Try.ntmps9
  go_wp2_with fail
  obtain ⟨w1, hw1⟩ : ∃ w1, w1 = w.alloc (.cells #[.int .i64 s0, .slice A0 n0 c0] 24) := ⟨_, rfl⟩
  rw [← hw1]
  have bw1 : Below w.heap.size w w1 := by rw [hw1]; exact (Below.refl _ _).alloc (Nat.le_refl _) _
  have P0x := Lib.hid (show Box w1 w.heap.size [.int .i64 s0, .slice A0 n0 c0] by rw [hw1]; exact Box.new _ _ _)
  have P0L := Lib.hid (show w.heap.size < w1.heap.size by rw [hw1, World.size_alloc]; exact Nat.lt_succ_self _)
  have Z1 := Lib.hid (Below.size bw1)
  have BW := Lib.hid (show Below w.heap.size w w1 from bw1)
  have P0 := P0x
  have hz1 : w1.heap.size = w.heap.size + 1 := by rw [hw1, World.size_alloc]
  clear hw1 bw1 P0x
  obtain ⟨w2, hw2⟩ : ∃ w2, w2 = w1.alloc (.cells #[.int .i64 s1, .slice A1 n1 c1, .slice B1 m1 d1] 46) := ⟨_, rfl⟩
  rw [← hw2]
  have bw2 : Below w1.heap.size w1 w2 := by rw [hw2]; exact (Below.refl _ _).alloc (Nat.le_refl _) _
  have P1x := Lib.hid (show Box w2 w1.heap.size [.int .i64 s1, .slice A1 n1 c1, .slice B1 m1 d1] by rw [hw2]; exact Box.new _ _ _)
  have P1L := Lib.hid (show w1.heap.size < w2.heap.size by rw [hw2, World.size_alloc]; exact Nat.lt_succ_self _)
  have Z2 := Lib.hid (Below.size bw2)
  have P0 := Lib.hid (P0.out.below bw2)
  have BW := Lib.hid (below_then BW.out bw2)
  have P1 := P1x
  clear hw2 bw2 P1x
  rw [hz1] at P1 P1L
  clear hz1
  refine (szAutomaton_any s0 A0 n0 c0 xs0 _ _ (h0.below BW.out) hn0 HR0.out (by omega) (by omega)).mono ?_
  rintro e w3 ⟨r0, rfl, hS, b⟩
  have HS0 := Lib.hid hS
  clear hS
  have Z3 := Lib.hid (Below.size b)
  have P0 := Lib.hid (P0.out.below b)
  have P1 := Lib.hid (P1.out.below b)
  have BW := Lib.hid (below_then BW.out b)
  clear b
  rcases Int.lt_or_le r0 0 with hneg | hneg
  · skip
    have dP00 := P0.out 0 _ rfl
    have dP01 := P0.out 1 _ rfl
    have dP10 := P1.out 0 _ rfl
    have dP11 := P1.out 1 _ rfl
    have dP12 := P1.out 2 _ rfl
    go_wp2_with fail
    go_ret
    exact ⟨rfl, BW.out⟩
  have hneg' : ¬ r0 < 0 := by omega
  have HN0 := Lib.hid (sized_n HS0.out hneg' HL0.out)
  have HR0 := Lib.hid (sized_rows HS0.out hneg')
  have HSUM0 := Lib.hid (sized_sum HS0.out (by omega) hneg')
  obtain ⟨hp0, hp0'⟩ := sized_left HS0.out hneg'
  have HW0 := Lib.hid (rows_wide HR0.out)
  have hl0 : n0 ≤ 4611686018427387904 := by have := HN0.out; omega
  clear hn0
  have dP00 := P0.out 0 _ rfl
  have dP01 := P0.out 1 _ rfl
  have dP10 := P1.out 0 _ rfl
  have dP11 := P1.out 1 _ rfl
  have dP12 := P1.out 2 _ rfl
  go_wp2_with fail
  refine (szCertificate_any s1 A1 n1 c1 xs1 B1 m1 d1 ys1 _ _ (h1.below BW.out) hn1 HR1.out (g1.below BW.out) gn1 GR1.out hp0 (by omega)).mono ?_
  rintro e w4 ⟨r1, rfl, hS, b⟩
  have HS1 := Lib.hid hS
  clear hS dP00 dP01 dP10 dP11 dP12
  have Z4 := Lib.hid (Below.size b)
  have P0 := Lib.hid (P0.out.below b)
  have P1 := Lib.hid (P1.out.below b)
  have BW := Lib.hid (below_then BW.out b)
  clear b
  rcases Int.lt_or_le r1 0 with hneg | hneg
  · skip
    have dP00 := P0.out 0 _ rfl
    have dP01 := P0.out 1 _ rfl
    have dP10 := P1.out 0 _ rfl
    have dP11 := P1.out 1 _ rfl
    have dP12 := P1.out 2 _ rfl
    go_wp2_with fail
    go_ret
    exact ⟨rfl, BW.out⟩
  have hneg' : ¬ r1 < 0 := by omega
  have HN1 := Lib.hid (sized2_n HS1.out (by omega) hneg' HL1.out)
  have HR1 := Lib.hid (sized2_rows HS1.out (by omega) hneg' )
  have GN1 := Lib.hid (sized2_m HS1.out (by omega) hneg' GL1.out)
  have GR1 := Lib.hid (sized2_outs HS1.out (by omega) hneg' )
  have HSUM1 := Lib.hid (sized2_sum HS1.out (by omega) hneg' )
  obtain ⟨hp1, hp1'⟩ := sized2_left HS1.out hneg'
  have GW1 := Lib.hid (rows_wide GR1.out)
  have gl1 : m1 ≤ 4611686018427387904 := by have := GN1.out; omega
  clear gn1
  have HW1 := Lib.hid (rows_wide HR1.out)
  have hl1 : n1 ≤ 4611686018427387904 := by have := HN1.out; omega
  clear hn1
  obtain ⟨LS, hLS⟩ : ∃ LS, LS = (wordOfCertificate s0 xs0 s1 xs1 ys1).1 := ⟨_, rfl⟩
  obtain ⟨CO, hCO⟩ : ∃ CO, CO = (wordOfCertificate s0 xs0 s1 xs1 ys1).2 := ⟨_, rfl⟩
  have hlen : LS.length ≤ 1048576 := by rw [hLS]; exact Nat.le_trans (wordOfCertificate_len s0 xs0 s1 xs1 ys1) (by omega)
  have HLS := Lib.hid hLS
  have HCO := Lib.hid hCO
  clear hLS hCO
  have dP00 := P0.out 0 _ rfl
  have dP01 := P0.out 1 _ rfl
  have dP10 := P1.out 0 _ rfl
  have dP11 := P1.out 1 _ rfl
  have dP12 := P1.out 2 _ rfl
  go_upto_region 8 with fail
  clear dP00 dP01 dP10 dP11 dP12
  have rP00 := P0.out.rule (j := 0) rfl
  have rP01 := P0.out.rule (j := 1) rfl
  have rP10 := P1.out.rule (j := 0) rfl
  have rP11 := P1.out.rule (j := 1) rfl
  have rP12 := P1.out.rule (j := 2) rfl
  have c9 : Below w4.heap.size w4 w4 := Below.refl _ _
  go_cut [6, 7] (fun sp sc wx => ∃ (V : Option Addr) (e0 : Nat), sp = .slice V LS.length e0 ∧ sc = .int .i64 CO ∧ IntsIn w4.heap.size wx.heap.size wx (.slice V LS.length e0) LS ∧ Below w4.heap.size w4 wx)
  case first =>
    go_region_held3 (fun w' => Below w4.heap.size w4 w') (first | assumption | exact below_drewN' (by assumption) _ | exact c9 | exact ca | exact cb | exact cC | exact below_drewN' c9 _ | exact below_drewN' ca _ | exact below_drewN' cb _ | exact below_drewN' cC _)
      (first
        | (go_at_call_of 13 (Value.agg #[Value.int IntKind.i64 s0, Value.slice A0 n0 c0]); refine (toAutomaton_any s0 A0 n0 c0 xs0 _ (h0.below (below_then BW.out (by first | exact c9 | exact ca | exact cb | exact cC | exact below_drewN' c9 _ | exact below_drewN' ca _ | exact below_drewN' cb _ | exact below_drewN' cC _))) HN0.out HR0.out).mono ?_; rintro e wa ⟨rfl, ga, ba, za⟩; have ca : Below w4.heap.size w4 wa := below_then (by first | assumption | exact c9 | exact ca | exact cb | exact cC | exact below_drewN' c9 _ | exact below_drewN' ca _ | exact below_drewN' cb _ | exact below_drewN' cC _) ba; have Ga := Lib.hid (ga.rowsN HL0.out); have Ka := Lib.hid ba; clear ga ba za)
        | (go_at_call_of 36 (Value.agg #[Value.int IntKind.i64 s1, Value.slice A1 n1 c1, Value.slice B1 m1 d1]); refine (toCertificate_any s1 A1 n1 c1 xs1 B1 m1 d1 ys1 _ (h1.below (below_then BW.out (by first | exact c9 | exact ca | exact cb | exact cC | exact below_drewN' c9 _ | exact below_drewN' ca _ | exact below_drewN' cb _ | exact below_drewN' cC _))) HN1.out HR1.out (g1.below (below_then BW.out (by first | exact c9 | exact ca | exact cb | exact cC | exact below_drewN' c9 _ | exact below_drewN' ca _ | exact below_drewN' cb _ | exact below_drewN' cC _))) GN1.out GR1.out).mono ?_; rintro e wb ⟨rfl, ga, ba⟩; have cb : Below w4.heap.size w4 wb := below_then (by first | assumption | exact c9 | exact ca | exact cb | exact cC | exact below_drewN' c9 _ | exact below_drewN' ca _ | exact below_drewN' cb _ | exact below_drewN' cC _) ba; have Gb := Lib.hid ga; have Kb := Lib.hid ba; clear ga ba)
        | (go_at_call 38; refine (specWordOfCertificate_any s0 _ n0 n0 xs0 s1 _ n1 n1 xs1 _ m1 m1 ys1 _ (by first | exact Ga.out | exact Ga.out.below Kb.out | exact Ga.out.below (below_drewN' (Below.refl _ _) _) | exact (Ga.out.below Kb.out).below (below_drewN' (Below.refl _ _) _)) hl0 HW0.out (by first | exact (Gb.out.below Ka.out).rows HL1.out | exact Gb.out.rows HL1.out | exact ((show MachIn _ _ _ _ _ _ _ from Gb.out).below (below_drewN' (Below.refl _ _) _)).rows HL1.out) hl1 HW1.out (by first | exact (Gb.out.below Ka.out).outs GL1.out | exact Gb.out.outs GL1.out | exact ((show MachIn _ _ _ _ _ _ _ from Gb.out).below (below_drewN' (Below.refl _ _) _)).outs GL1.out) gl1 GW1.out).mono ?_; rintro e wC ⟨v, rfl, ow, bC⟩; rw [← HLS.out] at ow; rw [← HCO.out]; obtain ⟨VC, eC, rfl⟩ := own_form ow; have OC := Lib.hid (IntsIn.of ow); have cC : Below w4.heap.size w4 wC := below_then (by first | assumption | exact c9 | exact ca | exact cb | exact cC | exact below_drewN' c9 _ | exact below_drewN' ca _ | exact below_drewN' cb _ | exact below_drewN' cC _) bC; have KC := Lib.hid bC.size; clear ow bC)
        | fail)
    all_goals (go_wp2_with fail; go_meet; exact ⟨VC, eC, rfl, rfl, (show IntsIn _ _ _ _ _ from OC.out).wide (by first | exact cb.size | exact ca.size) (Nat.le_refl _), by first | assumption | exact below_drewN' (by assumption) _⟩)
  case rest =>
    obtain ⟨VO1, eO1, rfl, rfl, htb, hbw⟩ := hcut
    obtain ⟨w5, hw5⟩ : ∃ w5, w5 = wc := ⟨_, rfl⟩
    rw [← hw5] at hbw htb ⊢
    clear hw5 rP00 rP01 rP10 rP11 rP12 c9
    have Z5 := Lib.hid (Below.size hbw)
    have P0 := Lib.hid (P0.out.below hbw)
    have P1 := Lib.hid (P1.out.below hbw)
    have BW := Lib.hid (below_then BW.out hbw)
    have O1 := Lib.hid htb
    clear htb
    clear hbw
    have dP00 := P0.out 0 _ rfl
    have dP01 := P0.out 1 _ rfl
    have dP10 := P1.out 0 _ rfl
    have dP11 := P1.out 1 _ rfl
    have dP12 := P1.out 2 _ rfl
    go_wp2_with fail
    refine (toAutomaton_any s0 A0 n0 c0 xs0 _ (h0.below BW.out) HN0.out HR0.out).mono ?_
    rintro e w6 ⟨rfl, g, b, z⟩
    clear dP00 dP01 dP10 dP11 dP12
    have Z6 := Lib.hid (Below.size b)
    have P0 := Lib.hid (P0.out.below b)
    have P1 := Lib.hid (P1.out.below b)
    have O1 := Lib.hid (O1.out.below b)
    have BW := Lib.hid (below_then BW.out b)
    have X0 := Lib.hid ((tab_of_grid g).wide (lo' := w5.heap.size) (hi' := w6.heap.size) (by omega) (by have := HL0.out; omega))
    have hrw0 := HL0.out
    rw [hrw0] at X0
    clear g b z hrw0
    have qP0 := P0.out.below ((Below.refl _ w6).alloc (Nat.le_refl _) (.cells #[.int .i64 s0, .slice (some ⟨w5.heap.size + 3, 0, none⟩) n0 n0] 28))
    have dP00 := qP0 0 _ rfl
    have dP01 := qP0 1 _ rfl
    clear qP0
    have qP1 := P1.out.below ((Below.refl _ w6).alloc (Nat.le_refl _) (.cells #[.int .i64 s0, .slice (some ⟨w5.heap.size + 3, 0, none⟩) n0 n0] 28))
    have dP10 := qP1 0 _ rfl
    have dP11 := qP1 1 _ rfl
    have dP12 := qP1 2 _ rfl
    clear qP1
    go_wp2_with fail
    clear dP00 dP01 dP10 dP11 dP12
    obtain ⟨w7, hw7⟩ : ∃ w7, w7 = w6.alloc (.cells #[.int .i64 s0, .slice (some ⟨w5.heap.size + 3, 0, none⟩) n0 n0] 28) := ⟨_, rfl⟩
    rw [← hw7]
    have bw7 : Below w6.heap.size w6 w7 := by rw [hw7]; exact (Below.refl _ _).alloc (Nat.le_refl _) _
    have XB0x := Lib.hid (show Box w7 w6.heap.size [.int .i64 s0, .slice (some ⟨w5.heap.size + 3, 0, none⟩) n0 n0] by rw [hw7]; exact Box.new _ _ _)
    have XB0L := Lib.hid (show w6.heap.size < w7.heap.size by rw [hw7, World.size_alloc]; exact Nat.lt_succ_self _)
    have Z7 := Lib.hid (Below.size bw7)
    have P0 := Lib.hid (P0.out.below bw7)
    have P1 := Lib.hid (P1.out.below bw7)
    have O1 := Lib.hid (O1.out.below bw7)
    have X0 := Lib.hid (X0.out.below bw7)
    have BW := Lib.hid (below_then BW.out bw7)
    have XB0 := XB0x
    clear hw7 bw7 XB0x
    refine (toCertificate_any s1 A1 n1 c1 xs1 B1 m1 d1 ys1 _ (h1.below BW.out) HN1.out HR1.out (g1.below BW.out) GN1.out GR1.out).mono ?_
    rintro e w8 ⟨rfl, g, b⟩
    have Z8 := Lib.hid (Below.size b)
    have P0 := Lib.hid (P0.out.below b)
    have P1 := Lib.hid (P1.out.below b)
    have O1 := Lib.hid (O1.out.below b)
    have X0 := Lib.hid (X0.out.below b)
    have XB0 := Lib.hid (XB0.out.below b)
    have BW := Lib.hid (below_then BW.out b)
    have X1 := Lib.hid g
    clear g b
    have qP0 := P0.out.below ((Below.refl _ w8).alloc (Nat.le_refl _) (.cells #[.int .i64 s1, .slice (some ⟨w7.heap.size + 3, 0, none⟩) n1 n1, .slice (some ⟨w7.heap.size + 4 + n1, 0, none⟩) m1 m1] 41))
    have dP00 := qP0 0 _ rfl
    have dP01 := qP0 1 _ rfl
    clear qP0
    have qP1 := P1.out.below ((Below.refl _ w8).alloc (Nat.le_refl _) (.cells #[.int .i64 s1, .slice (some ⟨w7.heap.size + 3, 0, none⟩) n1 n1, .slice (some ⟨w7.heap.size + 4 + n1, 0, none⟩) m1 m1] 41))
    have dP10 := qP1 0 _ rfl
    have dP11 := qP1 1 _ rfl
    have dP12 := qP1 2 _ rfl
    clear qP1
    have qXB0 := XB0.out.below ((Below.refl _ w8).alloc (Nat.le_refl _) (.cells #[.int .i64 s1, .slice (some ⟨w7.heap.size + 3, 0, none⟩) n1 n1, .slice (some ⟨w7.heap.size + 4 + n1, 0, none⟩) m1 m1] 41))
    have dXB00 := qXB0 0 _ rfl
    have dXB01 := qXB0 1 _ rfl
    clear qXB0
    go_wp2_with fail
    clear dP00 dP01 dP10 dP11 dP12 dXB00 dXB01
    obtain ⟨w9, hw9⟩ : ∃ w9, w9 = w8.alloc (.cells #[.int .i64 s1, .slice (some ⟨w7.heap.size + 3, 0, none⟩) n1 n1, .slice (some ⟨w7.heap.size + 4 + n1, 0, none⟩) m1 m1] 41) := ⟨_, rfl⟩
    rw [← hw9]
    have bw9 : Below w8.heap.size w8 w9 := by rw [hw9]; exact (Below.refl _ _).alloc (Nat.le_refl _) _
    have XB1x := Lib.hid (show Box w9 w8.heap.size [.int .i64 s1, .slice (some ⟨w7.heap.size + 3, 0, none⟩) n1 n1, .slice (some ⟨w7.heap.size + 4 + n1, 0, none⟩) m1 m1] by rw [hw9]; exact Box.new _ _ _)
    have XB1L := Lib.hid (show w8.heap.size < w9.heap.size by rw [hw9, World.size_alloc]; exact Nat.lt_succ_self _)
    have Z9 := Lib.hid (Below.size bw9)
    have P0 := Lib.hid (P0.out.below bw9)
    have P1 := Lib.hid (P1.out.below bw9)
    have O1 := Lib.hid (O1.out.below bw9)
    have X0 := Lib.hid (X0.out.below bw9)
    have XB0 := Lib.hid (XB0.out.below bw9)
    have X1 := Lib.hid (X1.out.below bw9)
    have BW := Lib.hid (below_then BW.out bw9)
    have XB1 := XB1x
    clear hw9 bw9 XB1x
    refine (implWordOfCertificate_any s0 _ n0 n0 xs0 s1 _ n1 n1 xs1 _ m1 m1 ys1 _ (X0.out.rows HL0.out) hl0 HW0.out (X1.out.rows HL1.out) hl1 HW1.out (X1.out.outs GL1.out) gl1 GW1.out).mono ?_
    rintro e w10 ⟨v, rfl, ow, b⟩
    rw [← HLS.out] at ow
    rw [← HCO.out]
    obtain ⟨VO2, eO2, rfl⟩ := own_form ow
    have Z10 := Lib.hid (Below.size b)
    have P0 := Lib.hid (P0.out.below b)
    have P1 := Lib.hid (P1.out.below b)
    have O1 := Lib.hid (O1.out.below b)
    have X0 := Lib.hid (X0.out.below b)
    have XB0 := Lib.hid (XB0.out.below b)
    have X1 := Lib.hid (X1.out.below b)
    have XB1 := Lib.hid (XB1.out.below b)
    have BW := Lib.hid (below_then BW.out b)
    have O2 := Lib.hid (show IntsIn w9.heap.size w10.heap.size w10 (.slice VO2 LS.length eO2) LS from IntsIn.of ow)
    clear ow b
    have dP00 := P0.out 0 _ rfl
    have dP01 := P0.out 1 _ rfl
    have dP10 := P1.out 0 _ rfl
    have dP11 := P1.out 1 _ rfl
    have dP12 := P1.out 2 _ rfl
    have dXB00 := XB0.out 0 _ rfl
    have dXB01 := XB0.out 1 _ rfl
    have dXB10 := XB1.out 0 _ rfl
    have dXB11 := XB1.out 1 _ rfl
    have dXB12 := XB1.out 2 _ rfl
    go_wp2_with fail
    refine (eqInts_b _ _ _ _ _ _ _ _ _ (O2.out.nums rfl) (O1.out.nums rfl) (by omega) (by omega)).mono ?_
    rw [sameB_t rfl]
    rintro e w11 ⟨rfl, b⟩
    clear dP00 dP01 dP10 dP11 dP12 dXB00 dXB01 dXB10 dXB11 dXB12
    have Z11 := Lib.hid (Below.size b)
    have P0 := Lib.hid (P0.out.below b)
    have P1 := Lib.hid (P1.out.below b)
    have O1 := Lib.hid (O1.out.below b)
    have X0 := Lib.hid (X0.out.below b)
    have XB0 := Lib.hid (XB0.out.below b)
    have X1 := Lib.hid (X1.out.below b)
    have XB1 := Lib.hid (XB1.out.below b)
    have O2 := Lib.hid (O2.out.below b)
    have BW := Lib.hid (below_then BW.out b)
    clear b
    have rP00 := P0.out.rule (j := 0) rfl
    have rP01 := P0.out.rule (j := 1) rfl
    have rP10 := P1.out.rule (j := 0) rfl
    have rP11 := P1.out.rule (j := 1) rfl
    have rP12 := P1.out.rule (j := 2) rfl
    have rXB00 := XB0.out.rule (j := 0) rfl
    have rXB01 := XB0.out.rule (j := 1) rfl
    have rXB10 := XB1.out.rule (j := 0) rfl
    have rXB11 := XB1.out.rule (j := 1) rfl
    have rXB12 := XB1.out.rule (j := 2) rfl
    have c9 : Below w11.heap.size w11 w11 := Below.refl _ _
    have dP00 := P0.out 0 _ rfl
    have dP01 := P0.out 1 _ rfl
    have dP10 := P1.out 0 _ rfl
    have dP11 := P1.out 1 _ rfl
    have dP12 := P1.out 2 _ rfl
    have dXB00 := XB0.out 0 _ rfl
    have dXB01 := XB0.out 1 _ rfl
    have dXB10 := XB1.out 0 _ rfl
    have dXB11 := XB1.out 1 _ rfl
    have dXB12 := XB1.out 2 _ rfl
    go_wp2_with fail
    clear dP00 dP01 dP10 dP11 dP12 dXB00 dXB01 dXB10 dXB11 dXB12
    go_region_held3 (fun w' => Below w11.heap.size w11 w') (first | assumption | exact below_drewN' (by assumption) _)
      (first
        | (go_at_call 13; refine (toAutomaton_any s0 A0 n0 c0 xs0 _ (h0.below (below_then BW.out (by first | assumption | exact below_drewN' (by assumption) _))) HN0.out HR0.out).mono ?_; rintro e wa ⟨rfl, ga, ba, za⟩; have ca : Below w11.heap.size w11 wa := below_then (by first | assumption | exact below_drewN' (by assumption) _) ba; have GA := Lib.hid (ga.rowsN HL0.out); clear ga ba za)
        | (go_at_call 16; refine (eqAutomaton_any s0 s0 _ _ n0 n0 n0 n0 xs0 xs0 _ ((X0.out.below ca).rows HL0.out) GA.out hl0 hl0 HW0.out HW0.out).mono ?_; rw [sameA_t rfl rfl]; rintro e w12 ⟨rfl, be⟩; have ce : Below w11.heap.size w11 w12 := below_then ca be; clear be))
    clear rP00 rP01 rP10 rP11 rP12 rXB00 rXB01 rXB10 rXB11 rXB12 c9 ca GA
    have Z12 := Lib.hid (Below.size ce)
    have P0 := Lib.hid (P0.out.below ce)
    have P1 := Lib.hid (P1.out.below ce)
    have O1 := Lib.hid (O1.out.below ce)
    have X0 := Lib.hid (X0.out.below ce)
    have XB0 := Lib.hid (XB0.out.below ce)
    have X1 := Lib.hid (X1.out.below ce)
    have XB1 := Lib.hid (XB1.out.below ce)
    have O2 := Lib.hid (O2.out.below ce)
    have BW := Lib.hid (below_then BW.out ce)
    clear ce
    have rP00 := P0.out.rule (j := 0) rfl
    have rP01 := P0.out.rule (j := 1) rfl
    have rP10 := P1.out.rule (j := 0) rfl
    have rP11 := P1.out.rule (j := 1) rfl
    have rP12 := P1.out.rule (j := 2) rfl
    have rXB00 := XB0.out.rule (j := 0) rfl
    have rXB01 := XB0.out.rule (j := 1) rfl
    have rXB10 := XB1.out.rule (j := 0) rfl
    have rXB11 := XB1.out.rule (j := 1) rfl
    have rXB12 := XB1.out.rule (j := 2) rfl
    have c9 : Below w12.heap.size w12 w12 := Below.refl _ _
    have dP00 := P0.out 0 _ rfl
    have dP01 := P0.out 1 _ rfl
    have dP10 := P1.out 0 _ rfl
    have dP11 := P1.out 1 _ rfl
    have dP12 := P1.out 2 _ rfl
    have dXB00 := XB0.out 0 _ rfl
    have dXB01 := XB0.out 1 _ rfl
    have dXB10 := XB1.out 0 _ rfl
    have dXB11 := XB1.out 1 _ rfl
    have dXB12 := XB1.out 2 _ rfl
    go_wp2_with fail
    clear dP00 dP01 dP10 dP11 dP12 dXB00 dXB01 dXB10 dXB11 dXB12
    go_region_held3 (fun w' => Below w12.heap.size w12 w') (first | assumption | exact below_drewN' (by assumption) _)
      (first
        | (go_at_call 36; refine (toCertificate_any s1 A1 n1 c1 xs1 B1 m1 d1 ys1 _ (h1.below (below_then BW.out (by first | assumption | exact below_drewN' (by assumption) _))) HN1.out HR1.out (g1.below (below_then BW.out (by first | assumption | exact below_drewN' (by assumption) _))) GN1.out GR1.out).mono ?_; rintro e wa ⟨rfl, ga, ba⟩; have ca : Below w12.heap.size w12 wa := below_then (by first | assumption | exact below_drewN' (by assumption) _) ba; have GA := Lib.hid ga; clear ga ba)
        | (go_at_call 31; refine (eqCertificate_t s1 _ _ n1 n1 _ _ xs1 _ _ m1 m1 _ _ ys1 _ ((X1.out.below ca).rows HL1.out) (GA.out.rows HL1.out) hl1 hl1 HW1.out ((X1.out.below ca).outs GL1.out) (GA.out.outs GL1.out) gl1 gl1 GW1.out).mono ?_; rintro e w13 ⟨rfl, be⟩; have ce : Below w12.heap.size w12 w13 := below_then ca be; clear be))
    clear rP00 rP01 rP10 rP11 rP12 rXB00 rXB01 rXB10 rXB11 rXB12 c9 ca GA
    have Z13 := Lib.hid (Below.size ce)
    have P0 := Lib.hid (P0.out.below ce)
    have P1 := Lib.hid (P1.out.below ce)
    have O1 := Lib.hid (O1.out.below ce)
    have X0 := Lib.hid (X0.out.below ce)
    have XB0 := Lib.hid (XB0.out.below ce)
    have X1 := Lib.hid (X1.out.below ce)
    have XB1 := Lib.hid (XB1.out.below ce)
    have O2 := Lib.hid (O2.out.below ce)
    have BW := Lib.hid (below_then BW.out ce)
    clear ce
    have hk0a : (0 : Int) ≤ 1 := by omega
    have hk0b : 1 + (sumLens xs0 : Int) ≤ 4611686018427387904 := by have := HSUM0.out; have := HSUM1.out; omega
    have dP00 := P0.out 0 _ rfl
    have dP01 := P0.out 1 _ rfl
    have dP10 := P1.out 0 _ rfl
    have dP11 := P1.out 1 _ rfl
    have dP12 := P1.out 2 _ rfl
    have dXB00 := XB0.out 0 _ rfl
    have dXB01 := XB0.out 1 _ rfl
    have dXB10 := XB1.out 0 _ rfl
    have dXB11 := XB1.out 1 _ rfl
    have dXB12 := XB1.out 2 _ rfl
    go_wp2_with fail
    refine (markAutomatonT_any w5.heap.size w6.heap.size s0 _ n0 n0 xs0 (1) w13 X0.out HL0.out hk0a HN0.out hk0b).mono ?_
    rintro e w14 ⟨rfl, u, mt⟩
    clear dP00 dP01 dP10 dP11 dP12 dXB00 dXB01 dXB10 dXB11 dXB12
    have Z14 := Lib.hid (Only.size u)
    have P0 := Lib.hid (P0.out.only u (.inl (by have := P0L.out; have := Z2.out; have := Z3.out; have := Z4.out; have := Z5.out; omega)))
    have P1 := Lib.hid (P1.out.only u (.inl (by have := P1L.out; have := Z3.out; have := Z4.out; have := Z5.out; omega)))
    have O1 := Lib.hid (O1.out.only u (.inl (Nat.le_refl _)))
    have XB0 := Lib.hid (XB0.out.only u (.inr (by skip; omega)))
    have X1 := Lib.hid (X1.out.only u (.inr (by have := Z7.out; omega)))
    have XB1 := Lib.hid (XB1.out.only u (.inr (by have := Z7.out; have := Z8.out; omega)))
    have O2 := Lib.hid (O2.out.only u (.inr (by have := Z7.out; have := Z8.out; have := Z9.out; omega)))
    have BW := Lib.hid (Only.below BW.out u (by have := Z1.out; have := Z2.out; have := Z3.out; have := Z4.out; have := Z5.out; omega) (by have := Z1.out; have := Z2.out; have := Z3.out; have := Z4.out; have := Z5.out; have := Z6.out; have := Z7.out; have := Z8.out; have := Z9.out; have := Z10.out; have := Z11.out; have := Z12.out; have := Z13.out; omega))
    clear u mt hk0a hk0b
    clear X0
    have hk1a : (0 : Int) ≤ 1 + (sumLens xs0 : Int) := by omega
    have hk1b : 1 + (sumLens xs0 : Int) + (sumLens xs1 : Int) + (sumLens ys1 : Int) ≤ 4611686018427387904 := by have := HSUM0.out; have := HSUM1.out; omega
    have dP00 := P0.out 0 _ rfl
    have dP01 := P0.out 1 _ rfl
    have dP10 := P1.out 0 _ rfl
    have dP11 := P1.out 1 _ rfl
    have dP12 := P1.out 2 _ rfl
    have dXB00 := XB0.out 0 _ rfl
    have dXB01 := XB0.out 1 _ rfl
    have dXB10 := XB1.out 0 _ rfl
    have dXB11 := XB1.out 1 _ rfl
    have dXB12 := XB1.out 2 _ rfl
    go_wp2_with fail
    refine (markCertificateT_any w7.heap.size w8.heap.size s1 _ n1 n1 xs1 _ m1 m1 ys1 (1 + (sumLens xs0 : Int)) w14 X1.out (by have := Z9.out; have := Z10.out; have := Z11.out; have := Z12.out; have := Z13.out; have := Z14.out; omega) HL1.out GL1.out hk1a HN1.out GN1.out hk1b).mono ?_
    rintro e w15 ⟨rfl, u, mt⟩
    clear dP00 dP01 dP10 dP11 dP12 dXB00 dXB01 dXB10 dXB11 dXB12
    have Z15 := Lib.hid (Only.size u)
    have P0 := Lib.hid (P0.out.only u (.inl (by have := P0L.out; have := Z2.out; have := Z3.out; have := Z4.out; have := Z5.out; have := Z6.out; have := Z7.out; omega)))
    have P1 := Lib.hid (P1.out.only u (.inl (by have := P1L.out; have := Z3.out; have := Z4.out; have := Z5.out; have := Z6.out; have := Z7.out; omega)))
    have O1 := Lib.hid (O1.out.only u (.inl (by have := Z6.out; have := Z7.out; omega)))
    have XB0 := Lib.hid (XB0.out.only u (.inl (by have := XB0L.out;  omega)))
    have XB1 := Lib.hid (XB1.out.only u (.inr (by skip; omega)))
    have O2 := Lib.hid (O2.out.only u (.inr (by have := Z9.out; omega)))
    have BW := Lib.hid (Only.below BW.out u (by have := Z1.out; have := Z2.out; have := Z3.out; have := Z4.out; have := Z5.out; have := Z6.out; have := Z7.out; omega) (by have := Z1.out; have := Z2.out; have := Z3.out; have := Z4.out; have := Z5.out; have := Z6.out; have := Z7.out; have := Z8.out; have := Z9.out; have := Z10.out; have := Z11.out; have := Z12.out; have := Z13.out; have := Z14.out; omega))
    clear u mt hk1a hk1b
    clear X1
    have hdec : decide (1 + (sumLens xs0 : Int) + (sumLens xs1 : Int) + (sumLens ys1 : Int) < 0) = false := by simp; omega
    have dP00 := P0.out 0 _ rfl
    have dP01 := P0.out 1 _ rfl
    have dP10 := P1.out 0 _ rfl
    have dP11 := P1.out 1 _ rfl
    have dP12 := P1.out 2 _ rfl
    have dXB00 := XB0.out 0 _ rfl
    have dXB01 := XB0.out 1 _ rfl
    have dXB10 := XB1.out 0 _ rfl
    have dXB11 := XB1.out 1 _ rfl
    have dXB12 := XB1.out 2 _ rfl
    go_wp2_with fail
    refine (eqInts_b _ _ _ _ _ _ _ _ _ (O2.out.nums rfl) (O1.out.nums rfl) (by omega) (by omega)).mono ?_
    rw [sameB_t rfl]
    rintro e w16 ⟨rfl, b⟩
    clear dP00 dP01 dP10 dP11 dP12 dXB00 dXB01 dXB10 dXB11 dXB12
    have Z16 := Lib.hid (Below.size b)
    have P0 := Lib.hid (P0.out.below b)
    have P1 := Lib.hid (P1.out.below b)
    have O1 := Lib.hid (O1.out.below b)
    have XB0 := Lib.hid (XB0.out.below b)
    have XB1 := Lib.hid (XB1.out.below b)
    have O2 := Lib.hid (O2.out.below b)
    have BW := Lib.hid (below_then BW.out b)
    clear b
    have hkm : (1 : Int) + (LS.length : Int) ≤ 4611686018427387904 := by omega
    have hkm0 : (0 : Int) ≤ 1 + (LS.length : Int) := by omega
    have dP00 := P0.out 0 _ rfl
    have dP01 := P0.out 1 _ rfl
    have dP10 := P1.out 0 _ rfl
    have dP11 := P1.out 1 _ rfl
    have dP12 := P1.out 2 _ rfl
    have dXB00 := XB0.out 0 _ rfl
    have dXB01 := XB0.out 1 _ rfl
    have dXB10 := XB1.out 0 _ rfl
    have dXB11 := XB1.out 1 _ rfl
    have dXB12 := XB1.out 2 _ rfl
    go_wp2_with fail
    refine (markInts_in w9.heap.size w10.heap.size LS.length eO2 VO2 LS 1 w16 O2.out rfl (by omega) hkm).mono ?_
    rintro e w17 ⟨rfl, u, mt, mz⟩
    clear dP00 dP01 dP10 dP11 dP12 dXB00 dXB01 dXB10 dXB11 dXB12
    have Z17 := Lib.hid (Only.size u)
    have P0 := Lib.hid (P0.out.only u (.inl (by have := P0L.out; have := Z2.out; have := Z3.out; have := Z4.out; have := Z5.out; have := Z6.out; have := Z7.out; have := Z8.out; have := Z9.out; omega)))
    have P1 := Lib.hid (P1.out.only u (.inl (by have := P1L.out; have := Z3.out; have := Z4.out; have := Z5.out; have := Z6.out; have := Z7.out; have := Z8.out; have := Z9.out; omega)))
    have O1 := Lib.hid (O1.out.only u (.inl (by have := Z6.out; have := Z7.out; have := Z8.out; have := Z9.out; omega)))
    have XB0 := Lib.hid (XB0.out.only u (.inl (by have := XB0L.out; have := Z8.out; have := Z9.out; omega)))
    have XB1 := Lib.hid (XB1.out.only u (.inl (by have := XB1L.out;  omega)))
    have BW := Lib.hid (Only.below BW.out u (by have := Z1.out; have := Z2.out; have := Z3.out; have := Z4.out; have := Z5.out; have := Z6.out; have := Z7.out; have := Z8.out; have := Z9.out; omega) (by have := Z1.out; have := Z2.out; have := Z3.out; have := Z4.out; have := Z5.out; have := Z6.out; have := Z7.out; have := Z8.out; have := Z9.out; have := Z10.out; have := Z11.out; have := Z12.out; have := Z13.out; have := Z14.out; have := Z15.out; have := Z16.out; omega))
    have M := Lib.hid mt
    clear u mt mz
    clear O2
    have dP00 := P0.out 0 _ rfl
    have dP01 := P0.out 1 _ rfl
    have dP10 := P1.out 0 _ rfl
    have dP11 := P1.out 1 _ rfl
    have dP12 := P1.out 2 _ rfl
    have dXB00 := XB0.out 0 _ rfl
    have dXB01 := XB0.out 1 _ rfl
    have dXB10 := XB1.out 0 _ rfl
    have dXB11 := XB1.out 1 _ rfl
    have dXB12 := XB1.out 2 _ rfl
    go_wp2_with fail
    refine (heldInt64S_any VO2 LS.length eO2 1 w17 (M.out.nums (marks_length _ _)) (by omega) hkm).mono ?_
    rintro e w18 ⟨rfl, hsame⟩
    clear dP00 dP01 dP10 dP11 dP12 dXB00 dXB01 dXB10 dXB11 dXB12
    have b := below_same hsame
    clear hsame
    have Z18 := Lib.hid (Below.size b)
    have P0 := Lib.hid (P0.out.below b)
    have P1 := Lib.hid (P1.out.below b)
    have O1 := Lib.hid (O1.out.below b)
    have XB0 := Lib.hid (XB0.out.below b)
    have XB1 := Lib.hid (XB1.out.below b)
    have M := Lib.hid (M.out.below b)
    have BW := Lib.hid (below_then BW.out b)
    clear b
    have dP00 := P0.out 0 _ rfl
    have dP01 := P0.out 1 _ rfl
    have dP10 := P1.out 0 _ rfl
    have dP11 := P1.out 1 _ rfl
    have dP12 := P1.out 2 _ rfl
    have dXB00 := XB0.out 0 _ rfl
    have dXB01 := XB0.out 1 _ rfl
    have dXB10 := XB1.out 0 _ rfl
    have dXB11 := XB1.out 1 _ rfl
    have dXB12 := XB1.out 2 _ rfl
    go_upto_region 31 with fail
    clear dP00 dP01 dP10 dP11 dP12 dXB00 dXB01 dXB10 dXB11 dXB12
    have rP00 := P0.out.rule (j := 0) rfl
    have rP01 := P0.out.rule (j := 1) rfl
    have rP10 := P1.out.rule (j := 0) rfl
    have rP11 := P1.out.rule (j := 1) rfl
    have rP12 := P1.out.rule (j := 2) rfl
    have rXB00 := XB0.out.rule (j := 0) rfl
    have rXB01 := XB0.out.rule (j := 1) rfl
    have rXB10 := XB1.out.rule (j := 0) rfl
    have rXB11 := XB1.out.rule (j := 1) rfl
    have rXB12 := XB1.out.rule (j := 2) rfl
    have c9 : Below w18.heap.size w18 w18 := Below.refl _ _
    go_cut [15, 16] (fun sp sc wx => ∃ (V : Option Addr) (e0 : Nat), sp = .slice V LS.length e0 ∧ sc = .int .i64 CO ∧ IntsIn w18.heap.size wx.heap.size wx (.slice V LS.length e0) LS ∧ Below w18.heap.size w18 wx)
    case first =>
      go_region_held3 (fun w' => Below w18.heap.size w18 w') (first | assumption | exact below_drewN' (by assumption) _ | exact c9 | exact ca | exact cb | exact cC | exact below_drewN' c9 _ | exact below_drewN' ca _ | exact below_drewN' cb _ | exact below_drewN' cC _)
        (first
          | (go_at_call_of 13 (Value.agg #[Value.int IntKind.i64 s0, Value.slice A0 n0 c0]); refine (toAutomaton_any s0 A0 n0 c0 xs0 _ (h0.below (below_then BW.out (by first | exact c9 | exact ca | exact cb | exact cC | exact below_drewN' c9 _ | exact below_drewN' ca _ | exact below_drewN' cb _ | exact below_drewN' cC _))) HN0.out HR0.out).mono ?_; rintro e wa ⟨rfl, ga, ba, za⟩; have ca : Below w18.heap.size w18 wa := below_then (by first | assumption | exact c9 | exact ca | exact cb | exact cC | exact below_drewN' c9 _ | exact below_drewN' ca _ | exact below_drewN' cb _ | exact below_drewN' cC _) ba; have Ga := Lib.hid (ga.rowsN HL0.out); have Ka := Lib.hid ba; clear ga ba za)
          | (go_at_call_of 36 (Value.agg #[Value.int IntKind.i64 s1, Value.slice A1 n1 c1, Value.slice B1 m1 d1]); refine (toCertificate_any s1 A1 n1 c1 xs1 B1 m1 d1 ys1 _ (h1.below (below_then BW.out (by first | exact c9 | exact ca | exact cb | exact cC | exact below_drewN' c9 _ | exact below_drewN' ca _ | exact below_drewN' cb _ | exact below_drewN' cC _))) HN1.out HR1.out (g1.below (below_then BW.out (by first | exact c9 | exact ca | exact cb | exact cC | exact below_drewN' c9 _ | exact below_drewN' ca _ | exact below_drewN' cb _ | exact below_drewN' cC _))) GN1.out GR1.out).mono ?_; rintro e wb ⟨rfl, ga, ba⟩; have cb : Below w18.heap.size w18 wb := below_then (by first | assumption | exact c9 | exact ca | exact cb | exact cC | exact below_drewN' c9 _ | exact below_drewN' ca _ | exact below_drewN' cb _ | exact below_drewN' cC _) ba; have Gb := Lib.hid ga; have Kb := Lib.hid ba; clear ga ba)
          | (go_at_call 39; refine (implWordOfCertificate_any s0 _ n0 n0 xs0 s1 _ n1 n1 xs1 _ m1 m1 ys1 _ (by first | exact Ga.out | exact Ga.out.below Kb.out | exact Ga.out.below (below_drewN' (Below.refl _ _) _) | exact (Ga.out.below Kb.out).below (below_drewN' (Below.refl _ _) _)) hl0 HW0.out (by first | exact (Gb.out.below Ka.out).rows HL1.out | exact Gb.out.rows HL1.out | exact ((show MachIn _ _ _ _ _ _ _ from Gb.out).below (below_drewN' (Below.refl _ _) _)).rows HL1.out) hl1 HW1.out (by first | exact (Gb.out.below Ka.out).outs GL1.out | exact Gb.out.outs GL1.out | exact ((show MachIn _ _ _ _ _ _ _ from Gb.out).below (below_drewN' (Below.refl _ _) _)).outs GL1.out) gl1 GW1.out).mono ?_; rintro e wC ⟨v, rfl, ow, bC⟩; rw [← HLS.out] at ow; rw [← HCO.out]; obtain ⟨VC, eC, rfl⟩ := own_form ow; have OC := Lib.hid (IntsIn.of ow); have cC : Below w18.heap.size w18 wC := below_then (by first | assumption | exact c9 | exact ca | exact cb | exact cC | exact below_drewN' c9 _ | exact below_drewN' ca _ | exact below_drewN' cb _ | exact below_drewN' cC _) bC; have KC := Lib.hid bC.size; clear ow bC)
          | fail)
      all_goals (go_wp2_with fail; go_meet; exact ⟨VC, eC, rfl, rfl, (show IntsIn _ _ _ _ _ from OC.out).wide (by first | exact cb.size | exact ca.size) (Nat.le_refl _), by first | assumption | exact below_drewN' (by assumption) _⟩)
    case rest =>
      obtain ⟨VO3, eO3, rfl, rfl, htb, hbw⟩ := hcut
      obtain ⟨w19, hw19⟩ : ∃ w19, w19 = wc := ⟨_, rfl⟩
      rw [← hw19] at hbw htb ⊢
      clear hw19 rP00 rP01 rP10 rP11 rP12 rXB00 rXB01 rXB10 rXB11 rXB12 c9
      have Z19 := Lib.hid (Below.size hbw)
      have P0 := Lib.hid (P0.out.below hbw)
      have P1 := Lib.hid (P1.out.below hbw)
      have O1 := Lib.hid (O1.out.below hbw)
      have XB0 := Lib.hid (XB0.out.below hbw)
      have XB1 := Lib.hid (XB1.out.below hbw)
      have M := Lib.hid (M.out.below hbw)
      have BW := Lib.hid (below_then BW.out hbw)
      have O3 := Lib.hid htb
      clear htb
      clear hbw
      have dP00 := P0.out 0 _ rfl
      have dP01 := P0.out 1 _ rfl
      have dP10 := P1.out 0 _ rfl
      have dP11 := P1.out 1 _ rfl
      have dP12 := P1.out 2 _ rfl
      have dXB00 := XB0.out 0 _ rfl
      have dXB01 := XB0.out 1 _ rfl
      have dXB10 := XB1.out 0 _ rfl
      have dXB11 := XB1.out 1 _ rfl
      have dXB12 := XB1.out 2 _ rfl
      go_wp2_with fail
      refine (eqInts_b _ _ _ _ _ _ _ _ _ (O3.out.nums rfl) (O1.out.nums rfl) (by omega) (by omega)).mono ?_
      rw [sameB_t rfl]
      rintro e w20 ⟨rfl, b⟩
      clear dP00 dP01 dP10 dP11 dP12 dXB00 dXB01 dXB10 dXB11 dXB12
      have Z20 := Lib.hid (Below.size b)
      have P0 := Lib.hid (P0.out.below b)
      have P1 := Lib.hid (P1.out.below b)
      have O1 := Lib.hid (O1.out.below b)
      have XB0 := Lib.hid (XB0.out.below b)
      have XB1 := Lib.hid (XB1.out.below b)
      have M := Lib.hid (M.out.below b)
      have O3 := Lib.hid (O3.out.below b)
      have BW := Lib.hid (below_then BW.out b)
      clear b
      have dP00 := P0.out 0 _ rfl
      have dP01 := P0.out 1 _ rfl
      have dP10 := P1.out 0 _ rfl
      have dP11 := P1.out 1 _ rfl
      have dP12 := P1.out 2 _ rfl
      have dXB00 := XB0.out 0 _ rfl
      have dXB01 := XB0.out 1 _ rfl
      have dXB10 := XB1.out 0 _ rfl
      have dXB11 := XB1.out 1 _ rfl
      have dXB12 := XB1.out 2 _ rfl
      go_wp2_with fail
      refine (heldInt64S_any VO2 LS.length eO2 1 w20 (M.out.nums (marks_length _ _)) (by omega) hkm).mono ?_
      rintro e w21 ⟨rfl, hsame⟩
      clear dP00 dP01 dP10 dP11 dP12 dXB00 dXB01 dXB10 dXB11 dXB12
      have b := below_same hsame
      clear hsame
      have Z21 := Lib.hid (Below.size b)
      have P0 := Lib.hid (P0.out.below b)
      have P1 := Lib.hid (P1.out.below b)
      have O1 := Lib.hid (O1.out.below b)
      have XB0 := Lib.hid (XB0.out.below b)
      have XB1 := Lib.hid (XB1.out.below b)
      have M := Lib.hid (M.out.below b)
      have O3 := Lib.hid (O3.out.below b)
      have BW := Lib.hid (below_then BW.out b)
      clear b
      go_wp2_with fail
      go_ret
      exact ⟨rfl, BW.out⟩

set_option maxRecDepth 100000 in
theorem lifted (os : Os) (started : os.Started) (H : Type) (enc : TypeId × Value → H) :
    ReturnsInHanded {} Try.checked os 9 .any (Rows.fnExactWordOfCertificateSpec.pre6 enc Try.prog Try.f9 Rows.fnExactWordOfCertificateRow.domain false) (Rows.fnExactWordOfCertificateSpec.post enc Try.prog Try.f9 false true false false) := by
  refine returnsInHanded_of_change (C := Try.checked) own started (by kernel_rfl) Try.func9
    (ChangeSpec.witness6 (enc := enc) (C := Try.checked) false ⟨#[], #[.agg #[.int .i64 0, .slice none 0 0], .agg #[.int .i64 0, .slice none 0 0, .slice none 0 0]], []⟩ 8 (by kernel_rfl) (by kernel_rfl) (by kernel_rfl) (by kernel_rfl)) ?_
  intro W base args ds gs before hval0 hW hcnd _
  have hval : ∀ (j : Nat) t v, Try.f9.params[j]? = some t → args[j]? = some v → Value.okWide Try.prog W .any base t v := hval0
  have hW' := hW
  obtain ⟨p, q, hA0, hV, rfl, hfz, hnd⟩ := hW
  have hA : DataW.TrodAll enc Try.prog W 0 (fun _ => true) true Try.f9.params.toList args.toList ds p := hA0
  rw [Try.params9] at hA hval
  obtain ⟨v0, vs0, d0, ds0, p0, q0, hargs, rfl, rfl, h0, r0⟩ := trodAll_cons hA
  obtain ⟨v1, vs1, d1, ds1, p1, q1, rfl, rfl, rfl, h1, r1⟩ := trodAll_cons r0
  obtain ⟨rfl, rfl, rfl⟩ := trodAll_nil r1
  obtain rfl : args = #[v0, v1] := by cases args; simp_all
  obtain ⟨rfl, rfl⟩ := trodVars_none hV
  have lt0 : ∀ x ∈ p0, x.block < W.heap.size := by obtain ⟨m, hm⟩ := h0; exact DataW.trod_lt m _ _ _ hm
  have k0 := h0
  obtain ⟨s0, a0, n0, c0, xs0, rfl, hr0, hn0, hw0⟩ := auto_of_trod (hval 0 24 v0 rfl rfl) h0
  have lt1 : ∀ x ∈ p1, x.block < W.heap.size := by obtain ⟨m, hm⟩ := h1; exact DataW.trod_lt m _ _ _ hm
  have k1 := h1
  obtain ⟨s1, a1, n1, c1, xs1, b1, m1, e1, ys1, rfl, hr1, hn1, hw1, gr1, gn1, gw1⟩ := cert_of_trod (hval 1 46 v1 rfl rfl) h1
  clear hA0 hval0
  refine (walk s0 a0 n0 c0 xs0 s1 a1 n1 c1 xs1 b1 m1 e1 ys1 W hr0 hn0 hw0 hr1 hn1 hw1 gr1 gn1 gw1).mono fun e W' ⟨he, bel⟩ => ?_
  subst he
  exact ⟨_, rfl, _, _, _, [], _, [], hW', trodAll_mk1 (shut_bool Try.underlying4 _), (trodAll_cons_mk (Below.trod laidOut (by kernel_rfl) (of_decide_eq_true (by kernel_rfl)) k0 bel lt0) (trodAll_cons_mk (Below.trod laidOut (by kernel_rfl) (of_decide_eq_true (by kernel_rfl)) k1 bel lt1) trodAll_mk0)), rfl, bel.frame _, fun h => by cases h⟩

theorem over : Rows.fnExactWordOfCertificateRow.holds Try.pinned (OpenSpec.ofChange Rows.fnExactWordOfCertificateSpec) :=
  OpenClaim.holds_of_wide 9 Try.f9 rfl rfl rfl rfl rfl rfl rfl ⟨rfl, rfl, rfl, rfl, rfl⟩ rfl rfl rfl rfl rfl (by kernel_rfl) Try.func9 (by kernel_rfl)
    (of_decide_eq_true (by kernel_rfl)) (by unfold Func.isWrapper; first | (rw [if_pos (by decide +kernel)]; kernel_rfl) | (rw [if_neg (by decide +kernel)]; exact ⟨rfl, rfl⟩))
    (fun os started H enc _ => lifted os started H enc)

/-- The statement. -/
theorem proved : Rows.FnExactWordOfCertificateSaid := over
#print axioms proved
end fnExactWordOfCertificate
end Go.Proofs.Ytcglncepmieaaaa
