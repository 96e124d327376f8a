/-
  FnExactPasses: for every choice of its arguments (machine, machine, list of lists) the law returns true: both functions give the same answer and code, what the program answers is new memory each time, and no argument is written. No condition.
-/
import Derived.Test.YtdhmciendlihoaaDoorFailT
import Derived.Test.YtdhmciendlihoaaDoorHand
import Derived.Test.YtdhmciendlihoaaDoorTie
import Derived.Test.YtdhmciendlihoaaDoorCards
import Derived.SevenTiedAt
import Derived.Deep.DeepCutAuto
import Derived.WalkSpells
namespace Go.Proofs.YtdhmciendlihoaaDoor
open Go.RowKit Go.Deep Go.ChangeShapes Go.WideShapes

namespace fnExactPasses
open Go.ChangeAt

set_option maxHeartbeats 8000000 in
set_option maxRecDepth 100000 in
theorem walk (s0 q0 : Int) (A0 : Option Addr) (n0 c0 : Nat) (xs0 : List (List Int)) (B0 : Option Addr) (m0 d0 : Nat) (ys0 : List (List Int)) (s1 q1 : Int) (A1 : Option Addr) (n1 c1 : Nat) (xs1 : List (List Int)) (B1 : Option Addr) (m1 d1 : Nat) (ys1 : List (List Int)) (A2 : Option Addr) (n2 c2 : Nat) (xs2 : List (List Int)) (w : World) (hHand : HandleAt w) (h0 : RowsAt w A0 n0 xs0) (hn0 : n0 ≤ 9223372036854775807) (hr0 : ∀ (r : Nat) (xs : List Int), xs0[r]? = some xs → xs.length ≤ 9223372036854775807) (g0 : RowsAt w B0 m0 ys0) (gn0 : m0 ≤ 9223372036854775807) (gr0 : ∀ (r : Nat) (xs : List Int), ys0[r]? = some xs → xs.length ≤ 9223372036854775807) (h1 : RowsAt w A1 n1 xs1) (hn1 : n1 ≤ 9223372036854775807) (hr1 : ∀ (r : Nat) (xs : List Int), xs1[r]? = some xs → xs.length ≤ 9223372036854775807) (g1 : RowsAt w B1 m1 ys1) (gn1 : m1 ≤ 9223372036854775807) (gr1 : ∀ (r : Nat) (xs : List Int), ys1[r]? = some xs → xs.length ≤ 9223372036854775807) (h2 : RowsAt w A2 n2 xs2) (hn2 : n2 ≤ 9223372036854775807) (hr2 : ∀ (r : Nat) (xs : List Int), xs2[r]? = some xs → xs.length ≤ 9223372036854775807) :
    Calls Tryd.prog 7 #[.agg #[.int .i64 s0, .int .i64 q0, .slice A0 n0 c0, .slice B0 m0 d0], .agg #[.int .i64 s1, .int .i64 q1, .slice A1 n1 c1, .slice B1 m1 d1], .slice A2 n2 c2] w fun e w' => e = .returned (.bool true) ∧ Below w.heap.size w w' := by
  have HR0 := Lib.hid hr0
  have HL0 := Lib.hid h0.1
  clear hr0
  have HR1 := Lib.hid hr1
  have HL1 := Lib.hid h1.1
  clear hr1
  have HR2 := Lib.hid hr2
  have HL2 := Lib.hid h2.1
  clear hr2
  have GR0 := Lib.hid gr0
  have GL0 := Lib.hid g0.1
  clear gr0
  have GR1 := Lib.hid gr1
  have GL1 := Lib.hid g1.1
  clear gr1
  go_enter Tryd.func7, Tryd.ntmps7
  go_wp2_with fail
  obtain ⟨w1, hw1⟩ : ∃ w1, w1 = w.alloc (.cells #[.int .i64 s0, .int .i64 q0, .slice A0 n0 c0, .slice B0 m0 d0] 24) := ⟨_, rfl⟩
  rw [← hw1]
  have bw1 : Below w.heap.size w w1 := by rw [hw1]; exact (Below.refl _ _).alloc (Nat.le_refl _) _
  have P0x := Lib.hid (show Box w1 w.heap.size [.int .i64 s0, .int .i64 q0, .slice A0 n0 c0, .slice B0 m0 d0] by rw [hw1]; exact Box.new _ _ _)
  have P0L := Lib.hid (show w.heap.size < w1.heap.size by rw [hw1, World.size_alloc]; exact Nat.lt_succ_self _)
  have Z1 := Lib.hid (Below.size bw1)
  have BW := Lib.hid (show Below w.heap.size w w1 from bw1)
  have P0 := P0x
  have hz1 : w1.heap.size = w.heap.size + 1 := by rw [hw1, World.size_alloc]
  clear hw1 bw1 P0x
  obtain ⟨w2, hw2⟩ : ∃ w2, w2 = w1.alloc (.cells #[.int .i64 s1, .int .i64 q1, .slice A1 n1 c1, .slice B1 m1 d1] 24) := ⟨_, rfl⟩
  rw [← hw2]
  have bw2 : Below w1.heap.size w1 w2 := by rw [hw2]; exact (Below.refl _ _).alloc (Nat.le_refl _) _
  have P1x := Lib.hid (show Box w2 w1.heap.size [.int .i64 s1, .int .i64 q1, .slice A1 n1 c1, .slice B1 m1 d1] by rw [hw2]; exact Box.new _ _ _)
  have P1L := Lib.hid (show w1.heap.size < w2.heap.size by rw [hw2, World.size_alloc]; exact Nat.lt_succ_self _)
  have Z2 := Lib.hid (Below.size bw2)
  have P0 := Lib.hid (P0.out.below bw2)
  have BW := Lib.hid (below_then BW.out bw2)
  have P1 := P1x
  clear hw2 bw2 P1x
  rw [hz1] at P1 P1L
  clear hz1
  refine (szMachine_any s0 q0 A0 n0 c0 xs0 B0 m0 d0 ys0 _ _ (h0.below BW.out) hn0 HR0.out (g0.below BW.out) gn0 GR0.out (by omega) (by omega)).mono ?_
  rintro e w3 ⟨r0, rfl, hS, b⟩
  have HS0 := Lib.hid hS
  clear hS
  have Z3 := Lib.hid (Below.size b)
  have P0 := Lib.hid (P0.out.below b)
  have P1 := Lib.hid (P1.out.below b)
  have BW := Lib.hid (below_then BW.out b)
  clear b
  rcases Int.lt_or_le r0 0 with hneg | hneg
  · skip
    have dP00 := P0.out 0 _ rfl
    have dP01 := P0.out 1 _ rfl
    have dP02 := P0.out 2 _ rfl
    have dP03 := P0.out 3 _ rfl
    have dP10 := P1.out 0 _ rfl
    have dP11 := P1.out 1 _ rfl
    have dP12 := P1.out 2 _ rfl
    have dP13 := P1.out 3 _ rfl
    go_wp2_with fail
    go_ret
    exact ⟨rfl, BW.out⟩
  have hneg' : ¬ r0 < 0 := by omega
  have HN0 := Lib.hid (sized2_n HS0.out (by omega) hneg' HL0.out)
  have HR0 := Lib.hid (sized2_rows HS0.out (by omega) hneg' )
  have GN0 := Lib.hid (sized2_m HS0.out (by omega) hneg' GL0.out)
  have GR0 := Lib.hid (sized2_outs HS0.out (by omega) hneg' )
  have HSUM0 := Lib.hid (sized2_sum HS0.out (by omega) hneg' )
  obtain ⟨hp0, hp0'⟩ := sized2_left HS0.out hneg'
  have GW0 := Lib.hid (rows_wide GR0.out)
  have gl0 : m0 ≤ 4611686018427387904 := by have := GN0.out; omega
  clear gn0
  have HW0 := Lib.hid (rows_wide HR0.out)
  have hl0 : n0 ≤ 4611686018427387904 := by have := HN0.out; omega
  clear hn0
  have dP00 := P0.out 0 _ rfl
  have dP01 := P0.out 1 _ rfl
  have dP02 := P0.out 2 _ rfl
  have dP03 := P0.out 3 _ rfl
  have dP10 := P1.out 0 _ rfl
  have dP11 := P1.out 1 _ rfl
  have dP12 := P1.out 2 _ rfl
  have dP13 := P1.out 3 _ rfl
  go_wp2_with fail
  refine (szMachine_any s1 q1 A1 n1 c1 xs1 B1 m1 d1 ys1 _ _ (h1.below BW.out) hn1 HR1.out (g1.below BW.out) gn1 GR1.out hp0 (by omega)).mono ?_
  rintro e w4 ⟨r1, rfl, hS, b⟩
  have HS1 := Lib.hid hS
  clear hS dP00 dP01 dP02 dP03 dP10 dP11 dP12 dP13
  have Z4 := Lib.hid (Below.size b)
  have P0 := Lib.hid (P0.out.below b)
  have P1 := Lib.hid (P1.out.below b)
  have BW := Lib.hid (below_then BW.out b)
  clear b
  rcases Int.lt_or_le r1 0 with hneg | hneg
  · skip
    have dP00 := P0.out 0 _ rfl
    have dP01 := P0.out 1 _ rfl
    have dP02 := P0.out 2 _ rfl
    have dP03 := P0.out 3 _ rfl
    have dP10 := P1.out 0 _ rfl
    have dP11 := P1.out 1 _ rfl
    have dP12 := P1.out 2 _ rfl
    have dP13 := P1.out 3 _ rfl
    go_wp2_with fail
    go_ret
    exact ⟨rfl, BW.out⟩
  have hneg' : ¬ r1 < 0 := by omega
  have HN1 := Lib.hid (sized2_n HS1.out (by omega) hneg' HL1.out)
  have HR1 := Lib.hid (sized2_rows HS1.out (by omega) hneg' )
  have GN1 := Lib.hid (sized2_m HS1.out (by omega) hneg' GL1.out)
  have GR1 := Lib.hid (sized2_outs HS1.out (by omega) hneg' )
  have HSUM1 := Lib.hid (sized2_sum HS1.out (by omega) hneg' )
  obtain ⟨hp1, hp1'⟩ := sized2_left HS1.out hneg'
  have GW1 := Lib.hid (rows_wide GR1.out)
  have gl1 : m1 ≤ 4611686018427387904 := by have := GN1.out; omega
  clear gn1
  have HW1 := Lib.hid (rows_wide HR1.out)
  have hl1 : n1 ≤ 4611686018427387904 := by have := HN1.out; omega
  clear hn1
  have dP00 := P0.out 0 _ rfl
  have dP01 := P0.out 1 _ rfl
  have dP02 := P0.out 2 _ rfl
  have dP03 := P0.out 3 _ rfl
  have dP10 := P1.out 0 _ rfl
  have dP11 := P1.out 1 _ rfl
  have dP12 := P1.out 2 _ rfl
  have dP13 := P1.out 3 _ rfl
  go_wp2_with fail
  refine (szInt64SS_any A2 n2 c2 xs2 _ _ (h2.below BW.out) hn2 HR2.out hp1 (by omega)).mono ?_
  rintro e w9 ⟨r2, rfl, hS, rfl⟩
  have HS2 := Lib.hid hS
  clear hS dP00 dP01 dP02 dP03 dP10 dP11 dP12 dP13
  rcases Int.lt_or_le r2 0 with hneg | hneg
  · skip
    have dP00 := P0.out 0 _ rfl
    have dP01 := P0.out 1 _ rfl
    have dP02 := P0.out 2 _ rfl
    have dP03 := P0.out 3 _ rfl
    have dP10 := P1.out 0 _ rfl
    have dP11 := P1.out 1 _ rfl
    have dP12 := P1.out 2 _ rfl
    have dP13 := P1.out 3 _ rfl
    go_wp2_with fail
    go_ret
    exact ⟨rfl, BW.out⟩
  have hneg' : ¬ r2 < 0 := by omega
  have HN2 := Lib.hid (sized_n' HS2.out (by omega) hneg' HL2.out)
  have HR2 := Lib.hid (sized_rows' HS2.out (by omega) hneg')
  have HSUM2 := Lib.hid (sized_sum HS2.out (by omega) hneg')
  obtain ⟨hp2, hp2'⟩ := sized_left HS2.out hneg'
  have HW2 := Lib.hid (rows_wide HR2.out)
  have hl2 : n2 ≤ 4611686018427387904 := by have := HN2.out; omega
  clear hn2
  obtain ⟨LS, hLS⟩ : ∃ LS, LS = (passes s0 q0 xs0 ys0 s1 q1 xs1 ys1 xs2).1 := ⟨_, rfl⟩
  obtain ⟨CO, hCO⟩ : ∃ CO, CO = (passes s0 q0 xs0 ys0 s1 q1 xs1 ys1 xs2).2 := ⟨_, rfl⟩
  have HLS := Lib.hid hLS
  have HCO := Lib.hid hCO
  clear hLS hCO
  have dP00 := P0.out 0 _ rfl
  have dP01 := P0.out 1 _ rfl
  have dP02 := P0.out 2 _ rfl
  have dP03 := P0.out 3 _ rfl
  have dP10 := P1.out 0 _ rfl
  have dP11 := P1.out 1 _ rfl
  have dP12 := P1.out 2 _ rfl
  have dP13 := P1.out 3 _ rfl
  go_upto_region 11 with fail
  clear dP00 dP01 dP02 dP03 dP10 dP11 dP12 dP13
  have rP00 := P0.out.rule (j := 0) rfl
  have rP01 := P0.out.rule (j := 1) rfl
  have rP02 := P0.out.rule (j := 2) rfl
  have rP03 := P0.out.rule (j := 3) rfl
  have rP10 := P1.out.rule (j := 0) rfl
  have rP11 := P1.out.rule (j := 1) rfl
  have rP12 := P1.out.rule (j := 2) rfl
  have rP13 := P1.out.rule (j := 3) rfl
  have c9 : Below w4.heap.size w4 w4 := Below.refl _ _
  go_cut [8, 9] (fun sp0 sp1 wx => sp0 = .bool LS ∧ sp1 = .int .i64 CO ∧ Below w4.heap.size w4 wx)
  case first =>
    go_region_held3 (fun w' => Below w4.heap.size w4 w') (first | assumption | exact below_drewN' (by assumption) _ | exact c9 | exact ca | exact cb | exact ct | exact cC | exact below_drewN' c9 _ | exact below_drewN' ca _ | exact below_drewN' cb _ | exact below_drewN' ct _ | exact below_drewN' cC _)
      (first
        | (go_at_call_of 12 (Value.agg #[Value.int IntKind.i64 s0, Value.int IntKind.i64 q0, Value.slice A0 n0 c0, Value.slice B0 m0 d0]); refine (toMachine_any s0 q0 A0 n0 c0 xs0 B0 m0 d0 ys0 _ (h0.below (below_then BW.out (by first | exact c9 | exact ca | exact cb | exact ct | exact cC | exact below_drewN' c9 _ | exact below_drewN' ca _ | exact below_drewN' cb _ | exact below_drewN' ct _ | exact below_drewN' cC _))) HN0.out HR0.out (g0.below (below_then BW.out (by first | exact c9 | exact ca | exact cb | exact ct | exact cC | exact below_drewN' c9 _ | exact below_drewN' ca _ | exact below_drewN' cb _ | exact below_drewN' ct _ | exact below_drewN' cC _))) GN0.out GR0.out).mono ?_; rintro e wa ⟨rfl, ga, ba⟩; have ca : Below w4.heap.size w4 wa := below_then (by first | assumption | exact c9 | exact ca | exact cb | exact ct | exact cC | exact below_drewN' c9 _ | exact below_drewN' ca _ | exact below_drewN' cb _ | exact below_drewN' ct _ | exact below_drewN' cC _) ba; have Ga := Lib.hid ga; have Ka := Lib.hid ba; clear ga ba)
        | (go_at_call_of 12 (Value.agg #[Value.int IntKind.i64 s1, Value.int IntKind.i64 q1, Value.slice A1 n1 c1, Value.slice B1 m1 d1]); refine (toMachine_any s1 q1 A1 n1 c1 xs1 B1 m1 d1 ys1 _ (h1.below (below_then BW.out (by first | exact c9 | exact ca | exact cb | exact ct | exact cC | exact below_drewN' c9 _ | exact below_drewN' ca _ | exact below_drewN' cb _ | exact below_drewN' ct _ | exact below_drewN' cC _))) HN1.out HR1.out (g1.below (below_then BW.out (by first | exact c9 | exact ca | exact cb | exact ct | exact cC | exact below_drewN' c9 _ | exact below_drewN' ca _ | exact below_drewN' cb _ | exact below_drewN' ct _ | exact below_drewN' cC _))) GN1.out GR1.out).mono ?_; rintro e wb ⟨rfl, ga, ba⟩; have cb : Below w4.heap.size w4 wb := below_then (by first | assumption | exact c9 | exact ca | exact cb | exact ct | exact cC | exact below_drewN' c9 _ | exact below_drewN' ca _ | exact below_drewN' cb _ | exact below_drewN' ct _ | exact below_drewN' cC _) ba; have Gb := Lib.hid ga; have Kb := Lib.hid ba; clear ga ba)
        | (go_at_call 13; refine (toInt64SS_any A2 n2 c2 xs2 _ (h2.below (below_then BW.out (by first | exact c9 | exact ca | exact cb | exact ct | exact cC | exact below_drewN' c9 _ | exact below_drewN' ca _ | exact below_drewN' cb _ | exact below_drewN' ct _ | exact below_drewN' cC _))) HN2.out HR2.out).mono ?_; rintro e wt ⟨rfl, gt, bt, zt⟩; have ct : Below w4.heap.size w4 wt := below_then (by first | assumption | exact c9 | exact ca | exact cb | exact ct | exact cC | exact below_drewN' c9 _ | exact below_drewN' ca _ | exact below_drewN' cb _ | exact below_drewN' ct _ | exact below_drewN' cC _) bt; have Gt := Lib.hid (gt.rowsN HL2.out); have Kt := Lib.hid bt; clear gt bt zt)
        | (go_at_call 23; refine (specPasses_any s0 q0 _ n0 n0 xs0 _ m0 m0 ys0 s1 q1 _ n1 n1 xs1 _ m1 m1 ys1 _ n2 n2 xs2 _ (by first | exact ((Ga.out.below Kb.out).below Kt.out).rows HL0.out | exact (((show MachIn _ _ _ _ _ _ _ from Ga.out).below Kb.out).below Kt.out).rows HL0.out | exact (((Ga.out.below Kb.out).below Kt.out).below (below_drewN' (Below.refl _ _) _)).rows HL0.out | exact ((((show MachIn _ _ _ _ _ _ _ from Ga.out).below Kb.out).below Kt.out).below (below_drewN' (Below.refl _ _) _)).rows HL0.out) hl0 HW0.out (by first | exact ((Ga.out.below Kb.out).below Kt.out).outs GL0.out | exact (((show MachIn _ _ _ _ _ _ _ from Ga.out).below Kb.out).below Kt.out).outs GL0.out | exact (((Ga.out.below Kb.out).below Kt.out).below (below_drewN' (Below.refl _ _) _)).outs GL0.out | exact ((((show MachIn _ _ _ _ _ _ _ from Ga.out).below Kb.out).below Kt.out).below (below_drewN' (Below.refl _ _) _)).outs GL0.out) gl0 GW0.out (by first | exact (Gb.out.below Kt.out).rows HL1.out | exact ((show MachIn _ _ _ _ _ _ _ from Gb.out).below Kt.out).rows HL1.out | exact ((Gb.out.below Kt.out).below (below_drewN' (Below.refl _ _) _)).rows HL1.out | exact (((show MachIn _ _ _ _ _ _ _ from Gb.out).below Kt.out).below (below_drewN' (Below.refl _ _) _)).rows HL1.out) hl1 HW1.out (by first | exact (Gb.out.below Kt.out).outs GL1.out | exact ((show MachIn _ _ _ _ _ _ _ from Gb.out).below Kt.out).outs GL1.out | exact ((Gb.out.below Kt.out).below (below_drewN' (Below.refl _ _) _)).outs GL1.out | exact (((show MachIn _ _ _ _ _ _ _ from Gb.out).below Kt.out).below (below_drewN' (Below.refl _ _) _)).outs GL1.out) gl1 GW1.out (by first | exact Gt.out | exact Gt.out.below (below_drewN' (Below.refl _ _) _)) hl2 HW2.out).mono ?_; rintro e wC ⟨rfl, bC⟩; rw [← HLS.out, ← HCO.out]; have cC : Below w4.heap.size w4 wC := below_then (by first | assumption | exact c9 | exact ca | exact cb | exact ct | exact cC | exact below_drewN' c9 _ | exact below_drewN' ca _ | exact below_drewN' cb _ | exact below_drewN' ct _ | exact below_drewN' cC _) bC; clear bC)
        | fail)
    all_goals (go_wp2_with fail; go_meet; exact ⟨rfl, rfl, by first | assumption | exact below_drewN' (by assumption) _⟩)
  case rest =>
    obtain ⟨rfl, rfl, hbw⟩ := hcut
    obtain ⟨w5, hw5⟩ : ∃ w5, w5 = wc := ⟨_, rfl⟩
    rw [← hw5] at hbw ⊢
    clear hw5 rP00 rP01 rP02 rP03 rP10 rP11 rP12 rP13 c9
    have Z5 := Lib.hid (Below.size hbw)
    have P0 := Lib.hid (P0.out.below hbw)
    have P1 := Lib.hid (P1.out.below hbw)
    have BW := Lib.hid (below_then BW.out hbw)
    clear hbw
    have dP00 := P0.out 0 _ rfl
    have dP01 := P0.out 1 _ rfl
    have dP02 := P0.out 2 _ rfl
    have dP03 := P0.out 3 _ rfl
    have dP10 := P1.out 0 _ rfl
    have dP11 := P1.out 1 _ rfl
    have dP12 := P1.out 2 _ rfl
    have dP13 := P1.out 3 _ rfl
    go_wp2_with fail
    refine (toMachine_any s0 q0 A0 n0 c0 xs0 B0 m0 d0 ys0 _ (h0.below BW.out) HN0.out HR0.out (g0.below BW.out) GN0.out GR0.out).mono ?_
    rintro e w6 ⟨rfl, g, b⟩
    clear dP00 dP01 dP02 dP03 dP10 dP11 dP12 dP13
    have Z6 := Lib.hid (Below.size b)
    have P0 := Lib.hid (P0.out.below b)
    have P1 := Lib.hid (P1.out.below b)
    have BW := Lib.hid (below_then BW.out b)
    have X0 := Lib.hid g
    clear g b
    have qP0 := P0.out.below ((Below.refl _ w6).alloc (Nat.le_refl _) (.cells #[.int .i64 s0, .int .i64 q0, .slice (some ⟨w5.heap.size + 3, 0, none⟩) n0 n0, .slice (some ⟨w5.heap.size + 4 + n0, 0, none⟩) m0 m0] 28))
    have dP00 := qP0 0 _ rfl
    have dP01 := qP0 1 _ rfl
    have dP02 := qP0 2 _ rfl
    have dP03 := qP0 3 _ rfl
    clear qP0
    have qP1 := P1.out.below ((Below.refl _ w6).alloc (Nat.le_refl _) (.cells #[.int .i64 s0, .int .i64 q0, .slice (some ⟨w5.heap.size + 3, 0, none⟩) n0 n0, .slice (some ⟨w5.heap.size + 4 + n0, 0, none⟩) m0 m0] 28))
    have dP10 := qP1 0 _ rfl
    have dP11 := qP1 1 _ rfl
    have dP12 := qP1 2 _ rfl
    have dP13 := qP1 3 _ rfl
    clear qP1
    go_wp2_with fail
    clear dP00 dP01 dP02 dP03 dP10 dP11 dP12 dP13
    obtain ⟨w7, hw7⟩ : ∃ w7, w7 = w6.alloc (.cells #[.int .i64 s0, .int .i64 q0, .slice (some ⟨w5.heap.size + 3, 0, none⟩) n0 n0, .slice (some ⟨w5.heap.size + 4 + n0, 0, none⟩) m0 m0] 28) := ⟨_, rfl⟩
    rw [← hw7]
    have bw7 : Below w6.heap.size w6 w7 := by rw [hw7]; exact (Below.refl _ _).alloc (Nat.le_refl _) _
    have XB0x := Lib.hid (show Box w7 w6.heap.size [.int .i64 s0, .int .i64 q0, .slice (some ⟨w5.heap.size + 3, 0, none⟩) n0 n0, .slice (some ⟨w5.heap.size + 4 + n0, 0, none⟩) m0 m0] by rw [hw7]; exact Box.new _ _ _)
    have XB0L := Lib.hid (show w6.heap.size < w7.heap.size by rw [hw7, World.size_alloc]; exact Nat.lt_succ_self _)
    have Z7 := Lib.hid (Below.size bw7)
    have P0 := Lib.hid (P0.out.below bw7)
    have P1 := Lib.hid (P1.out.below bw7)
    have X0 := Lib.hid (X0.out.below bw7)
    have BW := Lib.hid (below_then BW.out bw7)
    have XB0 := XB0x
    clear hw7 bw7 XB0x
    refine (toMachine_any s1 q1 A1 n1 c1 xs1 B1 m1 d1 ys1 _ (h1.below BW.out) HN1.out HR1.out (g1.below BW.out) GN1.out GR1.out).mono ?_
    rintro e w8 ⟨rfl, g, b⟩
    have Z8 := Lib.hid (Below.size b)
    have P0 := Lib.hid (P0.out.below b)
    have P1 := Lib.hid (P1.out.below b)
    have X0 := Lib.hid (X0.out.below b)
    have XB0 := Lib.hid (XB0.out.below b)
    have BW := Lib.hid (below_then BW.out b)
    have X1 := Lib.hid g
    clear g b
    have qP0 := P0.out.below ((Below.refl _ w8).alloc (Nat.le_refl _) (.cells #[.int .i64 s1, .int .i64 q1, .slice (some ⟨w7.heap.size + 3, 0, none⟩) n1 n1, .slice (some ⟨w7.heap.size + 4 + n1, 0, none⟩) m1 m1] 28))
    have dP00 := qP0 0 _ rfl
    have dP01 := qP0 1 _ rfl
    have dP02 := qP0 2 _ rfl
    have dP03 := qP0 3 _ rfl
    clear qP0
    have qP1 := P1.out.below ((Below.refl _ w8).alloc (Nat.le_refl _) (.cells #[.int .i64 s1, .int .i64 q1, .slice (some ⟨w7.heap.size + 3, 0, none⟩) n1 n1, .slice (some ⟨w7.heap.size + 4 + n1, 0, none⟩) m1 m1] 28))
    have dP10 := qP1 0 _ rfl
    have dP11 := qP1 1 _ rfl
    have dP12 := qP1 2 _ rfl
    have dP13 := qP1 3 _ rfl
    clear qP1
    have qXB0 := XB0.out.below ((Below.refl _ w8).alloc (Nat.le_refl _) (.cells #[.int .i64 s1, .int .i64 q1, .slice (some ⟨w7.heap.size + 3, 0, none⟩) n1 n1, .slice (some ⟨w7.heap.size + 4 + n1, 0, none⟩) m1 m1] 28))
    have dXB00 := qXB0 0 _ rfl
    have dXB01 := qXB0 1 _ rfl
    have dXB02 := qXB0 2 _ rfl
    have dXB03 := qXB0 3 _ rfl
    clear qXB0
    go_wp2_with fail
    clear dP00 dP01 dP02 dP03 dP10 dP11 dP12 dP13 dXB00 dXB01 dXB02 dXB03
    obtain ⟨w9, hw9⟩ : ∃ w9, w9 = w8.alloc (.cells #[.int .i64 s1, .int .i64 q1, .slice (some ⟨w7.heap.size + 3, 0, none⟩) n1 n1, .slice (some ⟨w7.heap.size + 4 + n1, 0, none⟩) m1 m1] 28) := ⟨_, rfl⟩
    rw [← hw9]
    have bw9 : Below w8.heap.size w8 w9 := by rw [hw9]; exact (Below.refl _ _).alloc (Nat.le_refl _) _
    have XB1x := Lib.hid (show Box w9 w8.heap.size [.int .i64 s1, .int .i64 q1, .slice (some ⟨w7.heap.size + 3, 0, none⟩) n1 n1, .slice (some ⟨w7.heap.size + 4 + n1, 0, none⟩) m1 m1] by rw [hw9]; exact Box.new _ _ _)
    have XB1L := Lib.hid (show w8.heap.size < w9.heap.size by rw [hw9, World.size_alloc]; exact Nat.lt_succ_self _)
    have Z9 := Lib.hid (Below.size bw9)
    have P0 := Lib.hid (P0.out.below bw9)
    have P1 := Lib.hid (P1.out.below bw9)
    have X0 := Lib.hid (X0.out.below bw9)
    have XB0 := Lib.hid (XB0.out.below bw9)
    have X1 := Lib.hid (X1.out.below bw9)
    have BW := Lib.hid (below_then BW.out bw9)
    have XB1 := XB1x
    clear hw9 bw9 XB1x
    refine (toInt64SS_any A2 n2 c2 xs2 _ (h2.below BW.out) HN2.out HR2.out).mono ?_
    rintro e w10 ⟨rfl, g, b, z⟩
    have Z10 := Lib.hid (Below.size b)
    have P0 := Lib.hid (P0.out.below b)
    have P1 := Lib.hid (P1.out.below b)
    have X0 := Lib.hid (X0.out.below b)
    have XB0 := Lib.hid (XB0.out.below b)
    have X1 := Lib.hid (X1.out.below b)
    have XB1 := Lib.hid (XB1.out.below b)
    have BW := Lib.hid (below_then BW.out b)
    have X2 := Lib.hid ((tab_of_grid g).wide (lo' := w9.heap.size) (hi' := w10.heap.size) (by omega) (by have := HL2.out; omega))
    have hrw2 := HL2.out
    rw [hrw2] at X2
    clear g b z hrw2
    have dP00 := P0.out 0 _ rfl
    have dP01 := P0.out 1 _ rfl
    have dP02 := P0.out 2 _ rfl
    have dP03 := P0.out 3 _ rfl
    have dP10 := P1.out 0 _ rfl
    have dP11 := P1.out 1 _ rfl
    have dP12 := P1.out 2 _ rfl
    have dP13 := P1.out 3 _ rfl
    have dXB00 := XB0.out 0 _ rfl
    have dXB01 := XB0.out 1 _ rfl
    have dXB02 := XB0.out 2 _ rfl
    have dXB03 := XB0.out 3 _ rfl
    have dXB10 := XB1.out 0 _ rfl
    have dXB11 := XB1.out 1 _ rfl
    have dXB12 := XB1.out 2 _ rfl
    have dXB13 := XB1.out 3 _ rfl
    go_wp2_with fail
    refine (implPasses_any s0 q0 _ n0 n0 xs0 _ m0 m0 ys0 s1 q1 _ n1 n1 xs1 _ m1 m1 ys1 _ n2 n2 xs2 _ (hHand.on BW.out) (X0.out.rows HL0.out) hl0 HW0.out (X0.out.outs GL0.out) gl0 GW0.out (X1.out.rows HL1.out) hl1 HW1.out (X1.out.outs GL1.out) gl1 GW1.out (X2.out.rows HL2.out) hl2 HW2.out).mono ?_
    clear dP00 dP01 dP02 dP03 dP10 dP11 dP12 dP13 dXB00 dXB01 dXB02 dXB03 dXB10 dXB11 dXB12 dXB13
    rintro e w11 ⟨rfl, b⟩
    rw [← HLS.out, ← HCO.out]
    have Z11 := Lib.hid (Below.size b)
    have P0 := Lib.hid (P0.out.below b)
    have P1 := Lib.hid (P1.out.below b)
    have X0 := Lib.hid (X0.out.below b)
    have XB0 := Lib.hid (XB0.out.below b)
    have X1 := Lib.hid (X1.out.below b)
    have XB1 := Lib.hid (XB1.out.below b)
    have X2 := Lib.hid (X2.out.below b)
    have BW := Lib.hid (below_then BW.out b)
    clear b
    have rP00 := P0.out.rule (j := 0) rfl
    have rP01 := P0.out.rule (j := 1) rfl
    have rP02 := P0.out.rule (j := 2) rfl
    have rP03 := P0.out.rule (j := 3) rfl
    have rP10 := P1.out.rule (j := 0) rfl
    have rP11 := P1.out.rule (j := 1) rfl
    have rP12 := P1.out.rule (j := 2) rfl
    have rP13 := P1.out.rule (j := 3) rfl
    have rXB00 := XB0.out.rule (j := 0) rfl
    have rXB01 := XB0.out.rule (j := 1) rfl
    have rXB02 := XB0.out.rule (j := 2) rfl
    have rXB03 := XB0.out.rule (j := 3) rfl
    have rXB10 := XB1.out.rule (j := 0) rfl
    have rXB11 := XB1.out.rule (j := 1) rfl
    have rXB12 := XB1.out.rule (j := 2) rfl
    have rXB13 := XB1.out.rule (j := 3) rfl
    have c9 : Below w11.heap.size w11 w11 := Below.refl _ _
    have dP00 := P0.out 0 _ rfl
    have dP01 := P0.out 1 _ rfl
    have dP02 := P0.out 2 _ rfl
    have dP03 := P0.out 3 _ rfl
    have dP10 := P1.out 0 _ rfl
    have dP11 := P1.out 1 _ rfl
    have dP12 := P1.out 2 _ rfl
    have dP13 := P1.out 3 _ rfl
    have dXB00 := XB0.out 0 _ rfl
    have dXB01 := XB0.out 1 _ rfl
    have dXB02 := XB0.out 2 _ rfl
    have dXB03 := XB0.out 3 _ rfl
    have dXB10 := XB1.out 0 _ rfl
    have dXB11 := XB1.out 1 _ rfl
    have dXB12 := XB1.out 2 _ rfl
    have dXB13 := XB1.out 3 _ rfl
    go_wp2_with fail
    clear dP00 dP01 dP02 dP03 dP10 dP11 dP12 dP13 dXB00 dXB01 dXB02 dXB03 dXB10 dXB11 dXB12 dXB13
    go_region_held3 (fun w' => Below w11.heap.size w11 w') (first | assumption | exact below_drewN' (by assumption) _)
      (first
        | (go_at_call 12; refine (toMachine_any s0 q0 A0 n0 c0 xs0 B0 m0 d0 ys0 _ (h0.below (below_then BW.out (by first | assumption | exact below_drewN' (by assumption) _))) HN0.out HR0.out (g0.below (below_then BW.out (by first | assumption | exact below_drewN' (by assumption) _))) GN0.out GR0.out).mono ?_; rintro e wa ⟨rfl, ga, ba⟩; have ca : Below w11.heap.size w11 wa := below_then (by first | assumption | exact below_drewN' (by assumption) _) ba; have GA := Lib.hid ga; clear ga ba)
        | (go_at_call 15; refine (eqMachine_t s0 q0 _ _ n0 n0 _ _ xs0 _ _ m0 m0 _ _ ys0 _ ((X0.out.below ca).rows HL0.out) (GA.out.rows HL0.out) hl0 hl0 HW0.out ((X0.out.below ca).outs GL0.out) (GA.out.outs GL0.out) gl0 gl0 GW0.out).mono ?_; rintro e w12 ⟨rfl, be⟩; have ce : Below w11.heap.size w11 w12 := below_then ca be; clear be))
    clear rP00 rP01 rP02 rP03 rP10 rP11 rP12 rP13 rXB00 rXB01 rXB02 rXB03 rXB10 rXB11 rXB12 rXB13 c9 ca GA
    have Z12 := Lib.hid (Below.size ce)
    have P0 := Lib.hid (P0.out.below ce)
    have P1 := Lib.hid (P1.out.below ce)
    have X0 := Lib.hid (X0.out.below ce)
    have XB0 := Lib.hid (XB0.out.below ce)
    have X1 := Lib.hid (X1.out.below ce)
    have XB1 := Lib.hid (XB1.out.below ce)
    have X2 := Lib.hid (X2.out.below ce)
    have BW := Lib.hid (below_then BW.out ce)
    clear ce
    have rP00 := P0.out.rule (j := 0) rfl
    have rP01 := P0.out.rule (j := 1) rfl
    have rP02 := P0.out.rule (j := 2) rfl
    have rP03 := P0.out.rule (j := 3) rfl
    have rP10 := P1.out.rule (j := 0) rfl
    have rP11 := P1.out.rule (j := 1) rfl
    have rP12 := P1.out.rule (j := 2) rfl
    have rP13 := P1.out.rule (j := 3) rfl
    have rXB00 := XB0.out.rule (j := 0) rfl
    have rXB01 := XB0.out.rule (j := 1) rfl
    have rXB02 := XB0.out.rule (j := 2) rfl
    have rXB03 := XB0.out.rule (j := 3) rfl
    have rXB10 := XB1.out.rule (j := 0) rfl
    have rXB11 := XB1.out.rule (j := 1) rfl
    have rXB12 := XB1.out.rule (j := 2) rfl
    have rXB13 := XB1.out.rule (j := 3) rfl
    have c9 : Below w12.heap.size w12 w12 := Below.refl _ _
    have dP00 := P0.out 0 _ rfl
    have dP01 := P0.out 1 _ rfl
    have dP02 := P0.out 2 _ rfl
    have dP03 := P0.out 3 _ rfl
    have dP10 := P1.out 0 _ rfl
    have dP11 := P1.out 1 _ rfl
    have dP12 := P1.out 2 _ rfl
    have dP13 := P1.out 3 _ rfl
    have dXB00 := XB0.out 0 _ rfl
    have dXB01 := XB0.out 1 _ rfl
    have dXB02 := XB0.out 2 _ rfl
    have dXB03 := XB0.out 3 _ rfl
    have dXB10 := XB1.out 0 _ rfl
    have dXB11 := XB1.out 1 _ rfl
    have dXB12 := XB1.out 2 _ rfl
    have dXB13 := XB1.out 3 _ rfl
    go_wp2_with fail
    clear dP00 dP01 dP02 dP03 dP10 dP11 dP12 dP13 dXB00 dXB01 dXB02 dXB03 dXB10 dXB11 dXB12 dXB13
    go_region_held3 (fun w' => Below w12.heap.size w12 w') (first | assumption | exact below_drewN' (by assumption) _)
      (first
        | (go_at_call 12; refine (toMachine_any s1 q1 A1 n1 c1 xs1 B1 m1 d1 ys1 _ (h1.below (below_then BW.out (by first | assumption | exact below_drewN' (by assumption) _))) HN1.out HR1.out (g1.below (below_then BW.out (by first | assumption | exact below_drewN' (by assumption) _))) GN1.out GR1.out).mono ?_; rintro e wa ⟨rfl, ga, ba⟩; have ca : Below w12.heap.size w12 wa := below_then (by first | assumption | exact below_drewN' (by assumption) _) ba; have GA := Lib.hid ga; clear ga ba)
        | (go_at_call 15; refine (eqMachine_t s1 q1 _ _ n1 n1 _ _ xs1 _ _ m1 m1 _ _ ys1 _ ((X1.out.below ca).rows HL1.out) (GA.out.rows HL1.out) hl1 hl1 HW1.out ((X1.out.below ca).outs GL1.out) (GA.out.outs GL1.out) gl1 gl1 GW1.out).mono ?_; rintro e w13 ⟨rfl, be⟩; have ce : Below w12.heap.size w12 w13 := below_then ca be; clear be))
    clear rP00 rP01 rP02 rP03 rP10 rP11 rP12 rP13 rXB00 rXB01 rXB02 rXB03 rXB10 rXB11 rXB12 rXB13 c9 ca GA
    have Z13 := Lib.hid (Below.size ce)
    have P0 := Lib.hid (P0.out.below ce)
    have P1 := Lib.hid (P1.out.below ce)
    have X0 := Lib.hid (X0.out.below ce)
    have XB0 := Lib.hid (XB0.out.below ce)
    have X1 := Lib.hid (X1.out.below ce)
    have XB1 := Lib.hid (XB1.out.below ce)
    have X2 := Lib.hid (X2.out.below ce)
    have BW := Lib.hid (below_then BW.out ce)
    clear ce
    have dP00 := P0.out 0 _ rfl
    have dP01 := P0.out 1 _ rfl
    have dP02 := P0.out 2 _ rfl
    have dP03 := P0.out 3 _ rfl
    have dP10 := P1.out 0 _ rfl
    have dP11 := P1.out 1 _ rfl
    have dP12 := P1.out 2 _ rfl
    have dP13 := P1.out 3 _ rfl
    have dXB00 := XB0.out 0 _ rfl
    have dXB01 := XB0.out 1 _ rfl
    have dXB02 := XB0.out 2 _ rfl
    have dXB03 := XB0.out 3 _ rfl
    have dXB10 := XB1.out 0 _ rfl
    have dXB11 := XB1.out 1 _ rfl
    have dXB12 := XB1.out 2 _ rfl
    have dXB13 := XB1.out 3 _ rfl
    go_wp2_with fail
    refine (toInt64SS_any A2 n2 c2 xs2 _ (h2.below BW.out) HN2.out HR2.out).mono ?_
    rintro e w14 ⟨rfl, g, b, z⟩
    clear dP00 dP01 dP02 dP03 dP10 dP11 dP12 dP13 dXB00 dXB01 dXB02 dXB03 dXB10 dXB11 dXB12 dXB13
    have Z14 := Lib.hid (Below.size b)
    have P0 := Lib.hid (P0.out.below b)
    have P1 := Lib.hid (P1.out.below b)
    have X0 := Lib.hid (X0.out.below b)
    have XB0 := Lib.hid (XB0.out.below b)
    have X1 := Lib.hid (X1.out.below b)
    have XB1 := Lib.hid (XB1.out.below b)
    have X2 := Lib.hid (X2.out.below b)
    have BW := Lib.hid (below_then BW.out b)
    have Y2 := Lib.hid (g.rowsN HL2.out)
    clear g b z
    have dP00 := P0.out 0 _ rfl
    have dP01 := P0.out 1 _ rfl
    have dP02 := P0.out 2 _ rfl
    have dP03 := P0.out 3 _ rfl
    have dP10 := P1.out 0 _ rfl
    have dP11 := P1.out 1 _ rfl
    have dP12 := P1.out 2 _ rfl
    have dP13 := P1.out 3 _ rfl
    have dXB00 := XB0.out 0 _ rfl
    have dXB01 := XB0.out 1 _ rfl
    have dXB02 := XB0.out 2 _ rfl
    have dXB03 := XB0.out 3 _ rfl
    have dXB10 := XB1.out 0 _ rfl
    have dXB11 := XB1.out 1 _ rfl
    have dXB12 := XB1.out 2 _ rfl
    have dXB13 := XB1.out 3 _ rfl
    go_wp2_with fail
    refine (eqInt64SS_any _ _ n2 n2 _ _ xs2 xs2 _ (X2.out.rows HL2.out) Y2.out hl2 hl2 HW2.out HW2.out).mono ?_
    rw [sameR_t rfl]
    rintro e w15 ⟨rfl, kk, hkk⟩
    have b : Below w14.heap.size w14 w15 := by rw [hkk]; exact below_drewN' (Below.refl _ _) _
    clear hkk
    clear dP00 dP01 dP02 dP03 dP10 dP11 dP12 dP13 dXB00 dXB01 dXB02 dXB03 dXB10 dXB11 dXB12 dXB13
    have Z15 := Lib.hid (Below.size b)
    have P0 := Lib.hid (P0.out.below b)
    have P1 := Lib.hid (P1.out.below b)
    have X0 := Lib.hid (X0.out.below b)
    have XB0 := Lib.hid (XB0.out.below b)
    have X1 := Lib.hid (X1.out.below b)
    have XB1 := Lib.hid (XB1.out.below b)
    have X2 := Lib.hid (X2.out.below b)
    have BW := Lib.hid (below_then BW.out b)
    clear b Y2
    go_wp2_with fail
    go_ret
    exact ⟨rfl, BW.out⟩

set_option maxRecDepth 100000 in
theorem lifted (os : Os) (started : os.Started) (H : Type) (enc : TypeId × Value → H) :
    ReturnsInHanded {} Tryd.checked os 7 .any (fun w args => (Rows.fnExactPassesSpec.pre enc Tryd.prog Tryd.f7 [] false w args ∧ laidMetH Tryd.prog handLaid w) ∧ sizedMet enc Tryd.prog Tryd.f7 (OpenSpec.ofChange Rows.fnExactPassesSpec) false w args)
      (Rows.fnExactPassesSpec.post enc Tryd.prog Tryd.f7 false true false false) := by
  refine returnsInHanded_of_change_and (C := Tryd.checked) (X := fun w _ => laidMetH Tryd.prog handLaid w) (fun _ _ _ hh h => h.of_heap hh) own started (by kernel_rfl) Tryd.func7
    (ChangeSpec.witness_at (enc := enc) (C := Tryd.checked) (os := os) (X := fun w _ => laidMetH Tryd.prog handLaid w) false (handWorld os) #[.agg #[.int .i64 0, .int .i64 0, .slice none 0 0, .slice none 0 0], .agg #[.int .i64 0, .int .i64 0, .slice none 0 0, .slice none 0 0], .slice none 0 0] 8 rfl (by kernel_rfl) (by kernel_rfl) (by kernel_rfl) (by kernel_rfl) (by kernel_rfl) (handWorld_met os _)) ?_
  intro W base args ds gs before hval0 hW _ _ hL0 _
  have hHand := handle_of_laid hL0
  have hval : ∀ (j : Nat) t v, Tryd.f7.params[j]? = some t → args[j]? = some v → Value.okWide Tryd.prog W .any base t v := hval0
  have hW' := hW
  obtain ⟨p, q, hA0, hV0, rfl, hfz, hnd⟩ := hW
  have hV : DataW.TrodVars enc Tryd.prog W (fun _ => true) [] gs q := hV0
  have hA : DataW.TrodAll enc Tryd.prog W 0 (fun _ => true) true Tryd.f7.params.toList args.toList ds p := hA0
  rw [Tryd.params7] at hA hval
  obtain ⟨v0, vs0, d0, ds0, p0, q0, hargs, rfl, rfl, h0, r0⟩ := trodAll_cons hA
  obtain ⟨v1, vs1, d1, ds1, p1, q1, rfl, rfl, rfl, h1, r1⟩ := trodAll_cons r0
  obtain ⟨v2, vs2, d2, ds2, p2, q2, rfl, rfl, rfl, h2, r2⟩ := trodAll_cons r1
  obtain ⟨rfl, rfl, rfl⟩ := trodAll_nil r2
  obtain rfl : args = #[v0, v1, v2] := by cases args; simp_all
  obtain ⟨rfl, rfl⟩ := trodVars_none hV
  have lt0 : ∀ x ∈ p0, x.block < W.heap.size := by obtain ⟨m, hm⟩ := h0; exact DataW.trod_lt m _ _ _ hm
  have k0 := h0
  obtain ⟨s0, q0, a0, n0, c0, xs0, b0, m0, e0, ys0, rfl, hr0, hn0, hw0, gr0, gn0, gw0⟩ := mach_of_trod (hval 0 24 v0 rfl rfl) h0
  have lt1 : ∀ x ∈ p1, x.block < W.heap.size := by obtain ⟨m, hm⟩ := h1; exact DataW.trod_lt m _ _ _ hm
  have k1 := h1
  obtain ⟨s1, q1, a1, n1, c1, xs1, b1, m1, e1, ys1, rfl, hr1, hn1, hw1, gr1, gn1, gw1⟩ := mach_of_trod (hval 1 24 v1 rfl rfl) h1
  have lt2 : ∀ x ∈ p2, x.block < W.heap.size := by obtain ⟨m, hm⟩ := h2; exact DataW.trod_lt m _ _ _ hm
  have k2 := h2
  obtain ⟨a2, n2, c2, xs2, rfl, hr2, hn2, hw2⟩ := tab_of_trod (hval 2 22 v2 rfl rfl) h2
  clear hA0 hval0
  refine (walk s0 q0 a0 n0 c0 xs0 b0 m0 e0 ys0 s1 q1 a1 n1 c1 xs1 b1 m1 e1 ys1 a2 n2 c2 xs2 W hHand hr0 hn0 hw0 gr0 gn0 gw0 hr1 hn1 hw1 gr1 gn1 gw1 hr2 hn2 hw2).mono fun e W' ⟨he, bel⟩ => ?_
  subst he
  exact ⟨_, rfl, _, _, _, [], _, [], hW', trodAll_mk1 (shut_bool Tryd.underlying4 _), (trodAll_cons_mk (Below.trod laidOut (by kernel_rfl) (of_decide_eq_true (by kernel_rfl)) k0 bel lt0) (trodAll_cons_mk (Below.trod laidOut (by kernel_rfl) (of_decide_eq_true (by kernel_rfl)) k1 bel lt1) (trodAll_cons_mk (Below.trod laidOut (by kernel_rfl) (of_decide_eq_true (by kernel_rfl)) k2 bel lt2) trodAll_mk0))), rfl, bel.frame _, fun h => by cases h⟩

theorem over : Rows.fnExactPassesRow.holds Tryd.pinned (OpenSpec.ofChange Rows.fnExactPassesSpec) :=
  OpenClaim.holds_of_wide 7 Tryd.f7 rfl rfl rfl rfl rfl rfl rfl ⟨rfl, rfl, rfl, rfl, rfl⟩ rfl rfl rfl rfl rfl (by kernel_rfl) Tryd.func7 (by kernel_rfl)
    (of_decide_eq_true (by kernel_rfl)) (by unfold Func.isWrapper; first | (rw [if_pos (by decide +kernel)]; kernel_rfl) | (rw [if_neg (by decide +kernel)]; exact ⟨rfl, rfl⟩))
    (fun os started H enc _ => lifted os started H enc)

/-- The statement. -/
theorem proved : Rows.FnExactPassesCardSaid :=
  Claim7.holds_tied_plain_at .later [] [.handle] true _ true
    over (fun _ h => by cases h) (by kernel_rfl) (fun _ h => by cases h) fnExactPasses_row_tie rfl ⟨rfl, rfl⟩ (by kernel_rfl) rfl
    (fun f fn hf hfn => by
      obtain rfl : f = 7 := Option.some.inj ((show Tryd.prog.funcNamed "loop.example/g01102/laws.FnExactPasses" = some 7 by kernel_rfl).symm.trans hf) |>.symm
      obtain rfl : fn = Tryd.f7 := (Option.some.inj (Tryd.func7.symm.trans hfn)).symm
      exact ⟨by kernel_rfl, fun j t ht => by
        rw [Tryd.params7] at ht
        rcases j with _ | j
        · have h9 : t = 24 := by simpa using ht.symm
          subst h9
          exact (show Tryd.prog.wantsStandIn 24 = false by kernel_rfl)
        rcases j with _ | j
        · have h9 : t = 24 := by simpa using ht.symm
          subst h9
          exact (show Tryd.prog.wantsStandIn 24 = false by kernel_rfl)
        rcases j with _ | j
        · have h9 : t = 22 := by simpa using ht.symm
          subst h9
          exact (show Tryd.prog.wantsStandIn 22 = false by kernel_rfl)
        simp at ht⟩)
    (by kernel_rfl)
#print axioms proved
end fnExactPasses
end Go.Proofs.YtdhmciendlihoaaDoor
