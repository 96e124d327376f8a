/-
  FnExactProductOf: for every choice of its arguments (automaton, automaton) the law returns true: both functions give the same answer and code, what the program answers is new memory each time, and no argument is written. No condition.
-/
import Derived.Test.YtfkmpabohebcfaaProd2
import Derived.Test.YtfkmpabohebcfaaLaw
import Derived.Deep.DeepCutAuto
import Derived.WalkSpells
namespace Go.Proofs.Ytfkmpabohebcfaa
open Go.RowKit Go.Deep Go.ChangeShapes Go.WideShapes

namespace fnExactProductOf
open Go.ChangeAt

set_option maxHeartbeats 8000000 in
set_option maxRecDepth 100000 in
theorem walk (s0 : Int) (A0 : Option Addr) (n0 c0 : Nat) (xs0 : List (List Int)) (s1 : Int) (A1 : Option Addr) (n1 c1 : Nat) (xs1 : List (List Int)) (w : World) (h0 : RowsAt w A0 n0 xs0) (hn0 : n0 ≤ 9223372036854775807) (hr0 : ∀ (r : Nat) (xs : List Int), xs0[r]? = some xs → xs.length ≤ 9223372036854775807) (h1 : RowsAt w A1 n1 xs1) (hn1 : n1 ≤ 9223372036854775807) (hr1 : ∀ (r : Nat) (xs : List Int), xs1[r]? = some xs → xs.length ≤ 9223372036854775807) :
    Calls Try.prog 10 #[.agg #[.int .i64 s0, .slice A0 n0 c0], .agg #[.int .i64 s1, .slice A1 n1 c1]] w fun e w' => e = .returned (.bool true) ∧ Below w.heap.size w w' := by
  have HR0 := Lib.hid hr0
  have HL0 := Lib.hid h0.1
  clear hr0
  have HR1 := Lib.hid hr1
  have HL1 := Lib.hid h1.1
  clear hr1
  go_enter Try.func10, Try.ntmps10
  go_wp2_with fail
  obtain ⟨w1, hw1⟩ : ∃ w1, w1 = w.alloc (.cells #[.int .i64 s0, .slice A0 n0 c0] 24) := ⟨_, rfl⟩
  rw [← hw1]
  have bw1 : Below w.heap.size w w1 := by rw [hw1]; exact (Below.refl _ _).alloc (Nat.le_refl _) _
  have P0x := Lib.hid (show Box w1 w.heap.size [.int .i64 s0, .slice A0 n0 c0] by rw [hw1]; exact Box.new _ _ _)
  have P0L := Lib.hid (show w.heap.size < w1.heap.size by rw [hw1, World.size_alloc]; exact Nat.lt_succ_self _)
  have Z1 := Lib.hid (Below.size bw1)
  have BW := Lib.hid (show Below w.heap.size w w1 from bw1)
  have P0 := P0x
  have hz1 : w1.heap.size = w.heap.size + 1 := by rw [hw1, World.size_alloc]
  clear hw1 bw1 P0x
  obtain ⟨w2, hw2⟩ : ∃ w2, w2 = w1.alloc (.cells #[.int .i64 s1, .slice A1 n1 c1] 24) := ⟨_, rfl⟩
  rw [← hw2]
  have bw2 : Below w1.heap.size w1 w2 := by rw [hw2]; exact (Below.refl _ _).alloc (Nat.le_refl _) _
  have P1x := Lib.hid (show Box w2 w1.heap.size [.int .i64 s1, .slice A1 n1 c1] by rw [hw2]; exact Box.new _ _ _)
  have P1L := Lib.hid (show w1.heap.size < w2.heap.size by rw [hw2, World.size_alloc]; exact Nat.lt_succ_self _)
  have Z2 := Lib.hid (Below.size bw2)
  have P0 := Lib.hid (P0.out.below bw2)
  have BW := Lib.hid (below_then BW.out bw2)
  have P1 := P1x
  clear hw2 bw2 P1x
  rw [hz1] at P1 P1L
  clear hz1
  refine (szAutomaton_any s0 A0 n0 c0 xs0 _ _ (h0.below BW.out) hn0 HR0.out (by omega) (by omega)).mono ?_
  rintro e w3 ⟨r0, rfl, hS, b⟩
  have HS0 := Lib.hid hS
  clear hS
  have Z3 := Lib.hid (Below.size b)
  have P0 := Lib.hid (P0.out.below b)
  have P1 := Lib.hid (P1.out.below b)
  have BW := Lib.hid (below_then BW.out b)
  clear b
  rcases Int.lt_or_le r0 0 with hneg | hneg
  · skip
    have dP00 := P0.out 0 _ rfl
    have dP01 := P0.out 1 _ rfl
    have dP10 := P1.out 0 _ rfl
    have dP11 := P1.out 1 _ rfl
    go_wp2_with fail
    go_ret
    exact ⟨rfl, BW.out⟩
  have hneg' : ¬ r0 < 0 := by omega
  have HN0 := Lib.hid (sized_n HS0.out hneg' HL0.out)
  have HR0 := Lib.hid (sized_rows HS0.out hneg')
  have HSUM0 := Lib.hid (sized_sum HS0.out (by omega) hneg')
  obtain ⟨hp0, hp0'⟩ := sized_left HS0.out hneg'
  have HW0 := Lib.hid (rows_wide HR0.out)
  have hl0 : n0 ≤ 4611686018427387904 := by have := HN0.out; omega
  clear hn0
  have dP00 := P0.out 0 _ rfl
  have dP01 := P0.out 1 _ rfl
  have dP10 := P1.out 0 _ rfl
  have dP11 := P1.out 1 _ rfl
  go_wp2_with fail
  refine (szAutomaton_any s1 A1 n1 c1 xs1 _ _ (h1.below BW.out) hn1 HR1.out hp0 (by omega)).mono ?_
  rintro e w4 ⟨r1, rfl, hS, b⟩
  have HS1 := Lib.hid hS
  clear hS dP00 dP01 dP10 dP11
  have Z4 := Lib.hid (Below.size b)
  have P0 := Lib.hid (P0.out.below b)
  have P1 := Lib.hid (P1.out.below b)
  have BW := Lib.hid (below_then BW.out b)
  clear b
  rcases Int.lt_or_le r1 0 with hneg | hneg
  · skip
    have dP00 := P0.out 0 _ rfl
    have dP01 := P0.out 1 _ rfl
    have dP10 := P1.out 0 _ rfl
    have dP11 := P1.out 1 _ rfl
    go_wp2_with fail
    go_ret
    exact ⟨rfl, BW.out⟩
  have hneg' : ¬ r1 < 0 := by omega
  have HN1 := Lib.hid (sized_n' HS1.out (by omega) hneg' HL1.out)
  have HR1 := Lib.hid (sized_rows' HS1.out (by omega) hneg')
  have HSUM1 := Lib.hid (sized_sum HS1.out (by omega) hneg')
  have HW1 := Lib.hid (rows_wide HR1.out)
  have hl1 : n1 ≤ 4611686018427387904 := by have := HN1.out; omega
  clear hn1
  obtain ⟨SS, hSS⟩ : ∃ SS, SS = (productOf s0 xs0 s1 xs1).1 := ⟨_, rfl⟩
  obtain ⟨LS, hLS⟩ : ∃ LS, LS = (productOf s0 xs0 s1 xs1).2.1 := ⟨_, rfl⟩
  obtain ⟨CO, hCO⟩ : ∃ CO, CO = (productOf s0 xs0 s1 xs1).2.2 := ⟨_, rfl⟩
  have hlen : LS.length ≤ 1048576 := by rw [hLS]; exact Nat.le_trans (productOf_len s0 xs0 s1 xs1) (by omega)
  have hsum : sumLens LS ≤ 1048576 := by rw [hLS]; exact Nat.le_trans (productOf_sum s0 xs0 s1 xs1) (by omega)
  have HRW := Lib.hid (show ∀ (r : Nat) (xs : List Int), LS[r]? = some xs → xs.length ≤ 4611686018427387904 from fun r xs hx => by have := len_le_sum hx; omega)
  have HSS := Lib.hid hSS
  clear hSS
  have HLS := Lib.hid hLS
  have HCO := Lib.hid hCO
  clear hLS hCO
  have dP00 := P0.out 0 _ rfl
  have dP01 := P0.out 1 _ rfl
  have dP10 := P1.out 0 _ rfl
  have dP11 := P1.out 1 _ rfl
  go_upto_region 8 with fail
  clear dP00 dP01 dP10 dP11
  have rP00 := P0.out.rule (j := 0) rfl
  have rP01 := P0.out.rule (j := 1) rfl
  have rP10 := P1.out.rule (j := 0) rfl
  have rP11 := P1.out.rule (j := 1) rfl
  have c9 : Below w4.heap.size w4 w4 := Below.refl _ _
  go_cut [6, 7] (fun sp sc wx => ∃ (V : Option Addr) (e0 B : Nat), sp = .pointer (some ⟨B, 0, none⟩) ∧ sc = .int .i64 CO ∧ Box wx B [.int .i64 SS, .slice V LS.length e0] ∧ B < wx.heap.size ∧ TabIn w4.heap.size wx.heap.size wx (.slice V LS.length e0) LS ∧ Below w4.heap.size w4 wx)
  case first =>
    go_region_held3 (fun w' => Below w4.heap.size w4 w') (first | exact cS | exact cS0 | exact c9.drew | exact (c9.alloc (Nat.le_refl _) _).drew | exact c9.drew.alloc (Nat.le_refl _) _ | exact ca | exact ca.alloc ca.size _ | exact cb | exact cb.alloc cb.size _ | exact cC | exact cC.alloc cC.size _)
      (first
        | (go_at_call_of 17 (Value.agg #[Value.int IntKind.i64 s0, Value.slice A0 n0 c0]); refine (toAutomaton_any s0 A0 n0 c0 xs0 _ (h0.below (below_then BW.out (by first | exact c9.drew | exact (c9.alloc (Nat.le_refl _) _).drew | exact c9.drew.alloc (Nat.le_refl _) _ | exact ca | exact ca.alloc ca.size _ | exact cb | exact cb.alloc cb.size _ | exact cC | exact cC.alloc cC.size _))) HN0.out HR0.out).mono ?_; rintro e wa ⟨rfl, ga, ba, za⟩; have ca : Below w4.heap.size w4 wa := below_then (by first | exact c9.drew | exact (c9.alloc (Nat.le_refl _) _).drew | exact c9.drew.alloc (Nat.le_refl _) _ | exact ca | exact ca.alloc ca.size _ | exact cb | exact cb.alloc cb.size _ | exact cC | exact cC.alloc cC.size _) ba; have gr := ga.rowsN HL0.out; (try rw [World.size_alloc] at gr); (try rw [show (World.drew (World.alloc w4 _)).heap.size = w4.heap.size + 1 from World.size_alloc _ _] at gr); have Ga := Lib.hid gr; have Ka := Lib.hid ba; clear ga ba za gr)
        | (go_at_call_of 17 (Value.agg #[Value.int IntKind.i64 s1, Value.slice A1 n1 c1]); refine (toAutomaton_any s1 A1 n1 c1 xs1 _ (h1.below (below_then BW.out (by first | exact c9.drew | exact (c9.alloc (Nat.le_refl _) _).drew | exact c9.drew.alloc (Nat.le_refl _) _ | exact ca | exact ca.alloc ca.size _ | exact cb | exact cb.alloc cb.size _ | exact cC | exact cC.alloc cC.size _))) HN1.out HR1.out).mono ?_; rintro e wb ⟨rfl, ga, ba, za⟩; have cb : Below w4.heap.size w4 wb := below_then (by first | exact c9.drew | exact (c9.alloc (Nat.le_refl _) _).drew | exact c9.drew.alloc (Nat.le_refl _) _ | exact ca | exact ca.alloc ca.size _ | exact cb | exact cb.alloc cb.size _ | exact cC | exact cC.alloc cC.size _) ba; have gr := ga.rowsN HL1.out; (try rw [World.size_alloc] at gr); (try rw [show (World.drew (World.alloc w4 _)).heap.size = w4.heap.size + 1 from World.size_alloc _ _] at gr); have Gb := Lib.hid gr; have Kb := Lib.hid ba; clear ga ba za gr)
        | (go_at_call 38; refine (specProductOf_any s0 _ n0 n0 xs0 s1 _ n1 n1 xs1 _ (by first | exact Ga.out.below Kb.out | exact (Ga.out.below Kb.out).below ((Below.refl _ _).alloc (Nat.le_refl _) _) | exact Ga.out.below (below_then ((Below.refl _ _).alloc (Nat.le_refl _) _) Kb.out)) hl0 HW0.out (by first | exact Gb.out | exact Gb.out.below ((Below.refl _ _).alloc (Nat.le_refl _) _)) hl1 HW1.out).mono ?_; rintro e wC ⟨v, rfl, ow, bC⟩; rw [← HLS.out] at ow; rw [← HSS.out, ← HCO.out]; obtain ⟨VC, eC, rfl⟩ := ow.form; have OC := Lib.hid ow; have cC : Below w4.heap.size w4 wC := below_then (by first | exact cb | exact cb.alloc cb.size _) bC; have xr : wC.heap[wb.heap.size]? = some (.cells #[.int .i64 0, .slice none 0 0] 29 (0, 0)) := (bC.block _ (by first | (simp; done) | (rw [World.size_alloc]; exact Nat.lt_succ_self _) | (show _ < (World.alloc _ _).heap.size; rw [World.size_alloc]; exact Nat.lt_succ_self _))).trans (by first | exact heap_alloc_new _ _ | (show (World.alloc _ _).heap[_]? = _; exact heap_alloc_new _ _)); obtain ⟨e0, e1, e2, e3⟩ := box2_cells xr; have XR := Lib.hid xr; have cS0 : Below w4.heap.size w4 (wC.setCell ⟨wb.heap.size, 0, none⟩ (.int .i64 SS)) := cC.setCell cb.size _; have cS : Below w4.heap.size w4 ((wC.setCell ⟨wb.heap.size, 0, none⟩ (.int .i64 SS)).setCell ⟨wb.heap.size, 1, none⟩ (.slice VC LS.length eC)) := cS0.setCell cb.size _; clear ow bC xr)
        | (go_at_call 38; refine (specProductOf_any s0 _ n0 n0 xs0 s1 _ n1 n1 xs1 _ (by first | exact Ga.out.below Kb.out | exact (Ga.out.below Kb.out).below ((Below.refl _ _).alloc (Nat.le_refl _) _) | exact Ga.out.below (below_then ((Below.refl _ _).alloc (Nat.le_refl _) _) Kb.out)) hl0 HW0.out (by first | exact Gb.out | exact Gb.out.below ((Below.refl _ _).alloc (Nat.le_refl _) _)) hl1 HW1.out).mono ?_; rintro e wC ⟨v, rfl, ow, bC⟩; rw [← HLS.out] at ow; rw [← HSS.out, ← HCO.out]; obtain ⟨VC, eC, rfl⟩ := ow.form; have OC := Lib.hid ow; have cC : Below w4.heap.size w4 wC := below_then (by first | exact cb | exact cb.alloc cb.size _) bC; have hq0 : wb.heap[wa.heap.size]? = some (.cells #[.int .i64 0, .slice none 0 0] 29 (0, 0)) := (Kb.out.block _ (by first | (simp; done) | (rw [World.size_alloc]; exact Nat.lt_succ_self _) | (show _ < (World.alloc _ _).heap.size; rw [World.size_alloc]; exact Nat.lt_succ_self _))).trans (by first | exact heap_alloc_new _ _ | (show (World.alloc _ _).heap[_]? = _; exact heap_alloc_new _ _)); have xr : wC.heap[wa.heap.size]? = some (.cells #[.int .i64 0, .slice none 0 0] 29 (0, 0)) := (bC.block _ (block_lt hq0)).trans hq0; obtain ⟨e0, e1, e2, e3⟩ := box2_cells xr; have XR := Lib.hid xr; have cS0 : Below w4.heap.size w4 (wC.setCell ⟨wa.heap.size, 0, none⟩ (.int .i64 SS)) := cC.setCell ca.size _; have cS : Below w4.heap.size w4 ((wC.setCell ⟨wa.heap.size, 0, none⟩ (.int .i64 SS)).setCell ⟨wa.heap.size, 1, none⟩ (.slice VC LS.length eC)) := cS0.setCell ca.size _; clear ow bC xr hq0)
        | (go_at_call 38; refine (specProductOf_any s0 _ n0 n0 xs0 s1 _ n1 n1 xs1 _ (by first | exact Ga.out.below Kb.out | exact (Ga.out.below Kb.out).below ((Below.refl _ _).alloc (Nat.le_refl _) _) | exact Ga.out.below (below_then ((Below.refl _ _).alloc (Nat.le_refl _) _) Kb.out)) hl0 HW0.out (by first | exact Gb.out | exact Gb.out.below ((Below.refl _ _).alloc (Nat.le_refl _) _)) hl1 HW1.out).mono ?_; rintro e wC ⟨v, rfl, ow, bC⟩; rw [← HLS.out] at ow; rw [← HSS.out, ← HCO.out]; obtain ⟨VC, eC, rfl⟩ := ow.form; have OC := Lib.hid ow; have cC : Below w4.heap.size w4 wC := below_then (by first | exact cb | exact cb.alloc cb.size _) bC; have hq1 : wa.heap[w4.heap.size]? = some (.cells #[.int .i64 0, .slice none 0 0] 29 (0, 0)) := (Ka.out.block _ (by first | (simp; done) | (rw [World.size_alloc]; exact Nat.lt_succ_self _) | (show _ < (World.alloc _ _).heap.size; rw [World.size_alloc]; exact Nat.lt_succ_self _))).trans (by first | exact heap_alloc_new _ _ | (show (World.alloc _ _).heap[_]? = _; exact heap_alloc_new _ _)); have hq0 : wb.heap[w4.heap.size]? = some (.cells #[.int .i64 0, .slice none 0 0] 29 (0, 0)) := (Kb.out.block _ (block_lt hq1)).trans hq1; have xr : wC.heap[w4.heap.size]? = some (.cells #[.int .i64 0, .slice none 0 0] 29 (0, 0)) := (bC.block _ (block_lt hq0)).trans hq0; obtain ⟨e0, e1, e2, e3⟩ := box2_cells xr; have XR := Lib.hid xr; have cS0 : Below w4.heap.size w4 (wC.setCell ⟨w4.heap.size, 0, none⟩ (.int .i64 SS)) := cC.setCell (Nat.le_refl _) _; have cS : Below w4.heap.size w4 ((wC.setCell ⟨w4.heap.size, 0, none⟩ (.int .i64 SS)).setCell ⟨w4.heap.size, 1, none⟩ (.slice VC LS.length eC)) := cS0.setCell (Nat.le_refl _) _; clear ow bC xr hq0 hq1)
        | (go_at_call 38; refine (specProductOf_any s0 _ n0 n0 xs0 s1 _ n1 n1 xs1 _ (by first | exact Ga.out.below Kb.out | exact (Ga.out.below Kb.out).below ((Below.refl _ _).alloc (Nat.le_refl _) _) | exact Ga.out.below (below_then ((Below.refl _ _).alloc (Nat.le_refl _) _) Kb.out)) hl0 HW0.out (by first | exact Gb.out | exact Gb.out.below ((Below.refl _ _).alloc (Nat.le_refl _) _)) hl1 HW1.out).mono ?_; rintro e wC ⟨v, rfl, ow, bC⟩; rw [← HLS.out] at ow; rw [← HSS.out, ← HCO.out]; obtain ⟨VC, eC, rfl⟩ := ow.form; have OC := Lib.hid ow; have cC : Below w4.heap.size w4 wC := below_then (by first | exact cb | exact cb.alloc cb.size _) bC; clear ow bC)
        | fail)
    all_goals
      go_wp2_with fail
      go_meet
      first
        | (have g8 : (wC.setCell ⟨wb.heap.size, 0, none⟩ (.int .i64 SS)).heap[wb.heap.size]? = some (.cells #[.int .i64 SS, .slice none 0 0] 29 (0, 0)) := (by rw [heap_setCell_same wC (wb.heap.size) 0 _ _ _ XR.out]; rfl); have g9 : ((wC.setCell ⟨wb.heap.size, 0, none⟩ (.int .i64 SS)).setCell ⟨wb.heap.size, 1, none⟩ (.slice VC LS.length eC)).heap[wb.heap.size]? = some (.cells #[.int .i64 SS, .slice VC LS.length eC] 29 (0, 0)) := (by rw [heap_setCell_same _ (wb.heap.size) 1 _ _ _ g8]; rfl); refine ⟨VC, eC, wb.heap.size, rfl, rfl, fun j u hu => ?_, block_lt g9, ?_, cS⟩; (rw [cell_of_row _ (wb.heap.size) j _ _ _ g9, ← Array.getElem?_toList]; exact hu); exact (OC.out.only (set2_only _ _ _ _) (.inr (by simp))).wide (by have := cb.size; first | omega | (simp; omega)) (by rw [set2_size]; exact Nat.le_refl _))
        | (have g8 : (wC.setCell ⟨wa.heap.size, 0, none⟩ (.int .i64 SS)).heap[wa.heap.size]? = some (.cells #[.int .i64 SS, .slice none 0 0] 29 (0, 0)) := (by rw [heap_setCell_same wC (wa.heap.size) 0 _ _ _ XR.out]; rfl); have g9 : ((wC.setCell ⟨wa.heap.size, 0, none⟩ (.int .i64 SS)).setCell ⟨wa.heap.size, 1, none⟩ (.slice VC LS.length eC)).heap[wa.heap.size]? = some (.cells #[.int .i64 SS, .slice VC LS.length eC] 29 (0, 0)) := (by rw [heap_setCell_same _ (wa.heap.size) 1 _ _ _ g8]; rfl); refine ⟨VC, eC, wa.heap.size, rfl, rfl, fun j u hu => ?_, block_lt g9, ?_, cS⟩; (rw [cell_of_row _ (wa.heap.size) j _ _ _ g9, ← Array.getElem?_toList]; exact hu); exact (OC.out.only (set2_only _ _ _ _) (.inr (by have h1 := Kb.out.size; rw [World.size_alloc] at h1; exact h1))).wide (by have := cb.size; first | omega | (simp; omega)) (by rw [set2_size]; exact Nat.le_refl _))
        | (have g8 : (wC.setCell ⟨w4.heap.size, 0, none⟩ (.int .i64 SS)).heap[w4.heap.size]? = some (.cells #[.int .i64 SS, .slice none 0 0] 29 (0, 0)) := (by rw [heap_setCell_same wC (w4.heap.size) 0 _ _ _ XR.out]; rfl); have g9 : ((wC.setCell ⟨w4.heap.size, 0, none⟩ (.int .i64 SS)).setCell ⟨w4.heap.size, 1, none⟩ (.slice VC LS.length eC)).heap[w4.heap.size]? = some (.cells #[.int .i64 SS, .slice VC LS.length eC] 29 (0, 0)) := (by rw [heap_setCell_same _ (w4.heap.size) 1 _ _ _ g8]; rfl); refine ⟨VC, eC, w4.heap.size, rfl, rfl, fun j u hu => ?_, block_lt g9, ?_, cS⟩; (rw [cell_of_row _ (w4.heap.size) j _ _ _ g9, ← Array.getElem?_toList]; exact hu); exact (OC.out.only (set2_only _ _ _ _) (.inr (Nat.le_trans (by have h2 := Ka.out.size; first | (rw [World.size_alloc] at h2; exact h2) | (rw [show (World.drew (World.alloc w4 _)).heap.size = w4.heap.size + 1 from World.size_alloc _ _] at h2; exact h2)) Kb.out.size))).wide (by have := cb.size; first | omega | (simp; omega)) (by rw [set2_size]; exact Nat.le_refl _))
        | (refine ⟨VC, eC, wC.heap.size, rfl, rfl, Box.new _ _ _, by rw [World.size_alloc]; exact Nat.lt_succ_self _, ?_, cC.alloc cC.size _⟩; exact (OC.out.below ((Below.refl _ _).alloc (Nat.le_refl _) _)).wide (by have := cb.size; first | omega | (simp; omega)) (by rw [World.size_alloc]; exact Nat.le_succ _))
        | fail
  case rest =>
    obtain ⟨VO1, eO1, BO1, rfl, rfl, hbx, hbl, htb, hbw⟩ := hcut
    obtain ⟨w5, hw5⟩ : ∃ w5, w5 = wc := ⟨_, rfl⟩
    rw [← hw5] at hbx hbl htb hbw ⊢
    clear hw5 rP00 rP01 rP10 rP11 c9
    have Z5 := Lib.hid (Below.size hbw)
    have P0 := Lib.hid (P0.out.below hbw)
    have P1 := Lib.hid (P1.out.below hbw)
    have BW := Lib.hid (below_then BW.out hbw)
    have O1 := Lib.hid htb
    have O1B := Lib.hid hbx
    have O1BL := Lib.hid hbl
    clear hbx hbl htb hbw
    have dP00 := P0.out 0 _ rfl
    have dP01 := P0.out 1 _ rfl
    have dP10 := P1.out 0 _ rfl
    have dP11 := P1.out 1 _ rfl
    have dO1B0 := O1B.out 0 _ rfl
    have dO1B1 := O1B.out 1 _ rfl
    go_wp2_with fail
    refine (toAutomaton_any s0 A0 n0 c0 xs0 _ (h0.below BW.out) HN0.out HR0.out).mono ?_
    rintro e w6 ⟨rfl, g, b, z⟩
    clear dP00 dP01 dP10 dP11 dO1B0 dO1B1
    have Z6 := Lib.hid (Below.size b)
    have P0 := Lib.hid (P0.out.below b)
    have P1 := Lib.hid (P1.out.below b)
    have O1 := Lib.hid (O1.out.below b)
    have O1B := Lib.hid (O1B.out.below b)
    have BW := Lib.hid (below_then BW.out b)
    have X0 := Lib.hid ((tab_of_grid g).wide (lo' := w5.heap.size) (hi' := w6.heap.size) (by omega) (by have := HL0.out; omega))
    have hrw0 := HL0.out
    rw [hrw0] at X0
    clear g b z hrw0
    have qP0 := P0.out.below ((Below.refl _ w6).alloc (Nat.le_refl _) (.cells #[.int .i64 s0, .slice (some ⟨w5.heap.size + 3, 0, none⟩) n0 n0] 29))
    have dP00 := qP0 0 _ rfl
    have dP01 := qP0 1 _ rfl
    clear qP0
    have qP1 := P1.out.below ((Below.refl _ w6).alloc (Nat.le_refl _) (.cells #[.int .i64 s0, .slice (some ⟨w5.heap.size + 3, 0, none⟩) n0 n0] 29))
    have dP10 := qP1 0 _ rfl
    have dP11 := qP1 1 _ rfl
    clear qP1
    have qO1B := O1B.out.below ((Below.refl _ w6).alloc (Nat.le_refl _) (.cells #[.int .i64 s0, .slice (some ⟨w5.heap.size + 3, 0, none⟩) n0 n0] 29))
    have dO1B0 := qO1B 0 _ rfl
    have dO1B1 := qO1B 1 _ rfl
    clear qO1B
    go_wp2_with fail
    clear dP00 dP01 dP10 dP11 dO1B0 dO1B1
    obtain ⟨w7, hw7⟩ : ∃ w7, w7 = w6.alloc (.cells #[.int .i64 s0, .slice (some ⟨w5.heap.size + 3, 0, none⟩) n0 n0] 29) := ⟨_, rfl⟩
    rw [← hw7]
    have bw7 : Below w6.heap.size w6 w7 := by rw [hw7]; exact (Below.refl _ _).alloc (Nat.le_refl _) _
    have XB0x := Lib.hid (show Box w7 w6.heap.size [.int .i64 s0, .slice (some ⟨w5.heap.size + 3, 0, none⟩) n0 n0] by rw [hw7]; exact Box.new _ _ _)
    have XB0L := Lib.hid (show w6.heap.size < w7.heap.size by rw [hw7, World.size_alloc]; exact Nat.lt_succ_self _)
    have Z7 := Lib.hid (Below.size bw7)
    have P0 := Lib.hid (P0.out.below bw7)
    have P1 := Lib.hid (P1.out.below bw7)
    have O1 := Lib.hid (O1.out.below bw7)
    have O1B := Lib.hid (O1B.out.below bw7)
    have X0 := Lib.hid (X0.out.below bw7)
    have BW := Lib.hid (below_then BW.out bw7)
    have XB0 := XB0x
    clear hw7 bw7 XB0x
    refine (toAutomaton_any s1 A1 n1 c1 xs1 _ (h1.below BW.out) HN1.out HR1.out).mono ?_
    rintro e w8 ⟨rfl, g, b, z⟩
    have Z8 := Lib.hid (Below.size b)
    have P0 := Lib.hid (P0.out.below b)
    have P1 := Lib.hid (P1.out.below b)
    have O1 := Lib.hid (O1.out.below b)
    have O1B := Lib.hid (O1B.out.below b)
    have X0 := Lib.hid (X0.out.below b)
    have XB0 := Lib.hid (XB0.out.below b)
    have BW := Lib.hid (below_then BW.out b)
    have X1 := Lib.hid ((tab_of_grid g).wide (lo' := w7.heap.size) (hi' := w8.heap.size) (by omega) (by have := HL1.out; omega))
    have hrw1 := HL1.out
    rw [hrw1] at X1
    clear g b z hrw1
    have qP0 := P0.out.below ((Below.refl _ w8).alloc (Nat.le_refl _) (.cells #[.int .i64 s1, .slice (some ⟨w7.heap.size + 3, 0, none⟩) n1 n1] 29))
    have dP00 := qP0 0 _ rfl
    have dP01 := qP0 1 _ rfl
    clear qP0
    have qP1 := P1.out.below ((Below.refl _ w8).alloc (Nat.le_refl _) (.cells #[.int .i64 s1, .slice (some ⟨w7.heap.size + 3, 0, none⟩) n1 n1] 29))
    have dP10 := qP1 0 _ rfl
    have dP11 := qP1 1 _ rfl
    clear qP1
    have qO1B := O1B.out.below ((Below.refl _ w8).alloc (Nat.le_refl _) (.cells #[.int .i64 s1, .slice (some ⟨w7.heap.size + 3, 0, none⟩) n1 n1] 29))
    have dO1B0 := qO1B 0 _ rfl
    have dO1B1 := qO1B 1 _ rfl
    clear qO1B
    have qXB0 := XB0.out.below ((Below.refl _ w8).alloc (Nat.le_refl _) (.cells #[.int .i64 s1, .slice (some ⟨w7.heap.size + 3, 0, none⟩) n1 n1] 29))
    have dXB00 := qXB0 0 _ rfl
    have dXB01 := qXB0 1 _ rfl
    clear qXB0
    go_wp2_with fail
    clear dP00 dP01 dP10 dP11 dO1B0 dO1B1 dXB00 dXB01
    obtain ⟨w9, hw9⟩ : ∃ w9, w9 = w8.alloc (.cells #[.int .i64 s1, .slice (some ⟨w7.heap.size + 3, 0, none⟩) n1 n1] 29) := ⟨_, rfl⟩
    rw [← hw9]
    have bw9 : Below w8.heap.size w8 w9 := by rw [hw9]; exact (Below.refl _ _).alloc (Nat.le_refl _) _
    have XB1x := Lib.hid (show Box w9 w8.heap.size [.int .i64 s1, .slice (some ⟨w7.heap.size + 3, 0, none⟩) n1 n1] by rw [hw9]; exact Box.new _ _ _)
    have XB1L := Lib.hid (show w8.heap.size < w9.heap.size by rw [hw9, World.size_alloc]; exact Nat.lt_succ_self _)
    have Z9 := Lib.hid (Below.size bw9)
    have P0 := Lib.hid (P0.out.below bw9)
    have P1 := Lib.hid (P1.out.below bw9)
    have O1 := Lib.hid (O1.out.below bw9)
    have O1B := Lib.hid (O1B.out.below bw9)
    have X0 := Lib.hid (X0.out.below bw9)
    have XB0 := Lib.hid (XB0.out.below bw9)
    have X1 := Lib.hid (X1.out.below bw9)
    have BW := Lib.hid (below_then BW.out bw9)
    have XB1 := XB1x
    clear hw9 bw9 XB1x
    refine (implProductOf_any s0 _ n0 n0 xs0 s1 _ n1 n1 xs1 _ (X0.out.rows HL0.out) hl0 HW0.out (X1.out.rows HL1.out) hl1 HW1.out).mono ?_
    rintro e w10 ⟨v, rfl, ow, b⟩
    rw [← HLS.out] at ow
    rw [← HSS.out, ← HCO.out]
    obtain ⟨VO2, eO2, rfl⟩ := ow.form
    have Z10 := Lib.hid (Below.size b)
    have P0 := Lib.hid (P0.out.below b)
    have P1 := Lib.hid (P1.out.below b)
    have O1 := Lib.hid (O1.out.below b)
    have O1B := Lib.hid (O1B.out.below b)
    have X0 := Lib.hid (X0.out.below b)
    have XB0 := Lib.hid (XB0.out.below b)
    have X1 := Lib.hid (X1.out.below b)
    have XB1 := Lib.hid (XB1.out.below b)
    have BW := Lib.hid (below_then BW.out b)
    have O2 := Lib.hid ow
    clear ow b
    have qP0 := P0.out.below ((Below.refl _ w10).alloc (Nat.le_refl _) (.cells #[.int .i64 SS, .slice VO2 LS.length eO2] 29))
    have dP00 := qP0 0 _ rfl
    have dP01 := qP0 1 _ rfl
    clear qP0
    have qP1 := P1.out.below ((Below.refl _ w10).alloc (Nat.le_refl _) (.cells #[.int .i64 SS, .slice VO2 LS.length eO2] 29))
    have dP10 := qP1 0 _ rfl
    have dP11 := qP1 1 _ rfl
    clear qP1
    have qO1B := O1B.out.below ((Below.refl _ w10).alloc (Nat.le_refl _) (.cells #[.int .i64 SS, .slice VO2 LS.length eO2] 29))
    have dO1B0 := qO1B 0 _ rfl
    have dO1B1 := qO1B 1 _ rfl
    clear qO1B
    have qXB0 := XB0.out.below ((Below.refl _ w10).alloc (Nat.le_refl _) (.cells #[.int .i64 SS, .slice VO2 LS.length eO2] 29))
    have dXB00 := qXB0 0 _ rfl
    have dXB01 := qXB0 1 _ rfl
    clear qXB0
    have qXB1 := XB1.out.below ((Below.refl _ w10).alloc (Nat.le_refl _) (.cells #[.int .i64 SS, .slice VO2 LS.length eO2] 29))
    have dXB10 := qXB1 0 _ rfl
    have dXB11 := qXB1 1 _ rfl
    clear qXB1
    go_wp2_with fail
    clear dP00 dP01 dP10 dP11 dO1B0 dO1B1 dXB00 dXB01 dXB10 dXB11
    obtain ⟨w11, hw11⟩ : ∃ w11, w11 = w10.alloc (.cells #[.int .i64 SS, .slice VO2 LS.length eO2] 29) := ⟨_, rfl⟩
    rw [← hw11]
    have bw11 : Below w10.heap.size w10 w11 := by rw [hw11]; exact (Below.refl _ _).alloc (Nat.le_refl _) _
    have O2Bx := Lib.hid (show Box w11 w10.heap.size [.int .i64 SS, .slice VO2 LS.length eO2] by rw [hw11]; exact Box.new _ _ _)
    have O2BL := Lib.hid (show w10.heap.size < w11.heap.size by rw [hw11, World.size_alloc]; exact Nat.lt_succ_self _)
    have Z11 := Lib.hid (Below.size bw11)
    have P0 := Lib.hid (P0.out.below bw11)
    have P1 := Lib.hid (P1.out.below bw11)
    have O1 := Lib.hid (O1.out.below bw11)
    have O1B := Lib.hid (O1B.out.below bw11)
    have X0 := Lib.hid (X0.out.below bw11)
    have XB0 := Lib.hid (XB0.out.below bw11)
    have X1 := Lib.hid (X1.out.below bw11)
    have XB1 := Lib.hid (XB1.out.below bw11)
    have O2 := Lib.hid (O2.out.below bw11)
    have BW := Lib.hid (below_then BW.out bw11)
    have O2B := O2Bx
    clear hw11 bw11 O2Bx
    refine (eqAutomaton_any SS SS _ _ LS.length LS.length _ _ LS LS _ (O2.out.rows rfl) (O1.out.rows rfl) (by omega) (by omega) HRW.out HRW.out).mono ?_
    rw [sameA_t rfl rfl]
    rintro e w12 ⟨rfl, b⟩
    have Z12 := Lib.hid (Below.size b)
    have P0 := Lib.hid (P0.out.below b)
    have P1 := Lib.hid (P1.out.below b)
    have O1 := Lib.hid (O1.out.below b)
    have O1B := Lib.hid (O1B.out.below b)
    have X0 := Lib.hid (X0.out.below b)
    have XB0 := Lib.hid (XB0.out.below b)
    have X1 := Lib.hid (X1.out.below b)
    have XB1 := Lib.hid (XB1.out.below b)
    have O2 := Lib.hid (O2.out.below b)
    have O2B := Lib.hid (O2B.out.below b)
    have BW := Lib.hid (below_then BW.out b)
    clear b
    have rP00 := P0.out.rule (j := 0) rfl
    have rP01 := P0.out.rule (j := 1) rfl
    have rP10 := P1.out.rule (j := 0) rfl
    have rP11 := P1.out.rule (j := 1) rfl
    have rO1B0 := O1B.out.rule (j := 0) rfl
    have rO1B1 := O1B.out.rule (j := 1) rfl
    have rXB00 := XB0.out.rule (j := 0) rfl
    have rXB01 := XB0.out.rule (j := 1) rfl
    have rXB10 := XB1.out.rule (j := 0) rfl
    have rXB11 := XB1.out.rule (j := 1) rfl
    have rO2B0 := O2B.out.rule (j := 0) rfl
    have rO2B1 := O2B.out.rule (j := 1) rfl
    have c9 : Below w12.heap.size w12 w12 := Below.refl _ _
    have dP00 := P0.out 0 _ rfl
    have dP01 := P0.out 1 _ rfl
    have dP10 := P1.out 0 _ rfl
    have dP11 := P1.out 1 _ rfl
    have dO1B0 := O1B.out 0 _ rfl
    have dO1B1 := O1B.out 1 _ rfl
    have dXB00 := XB0.out 0 _ rfl
    have dXB01 := XB0.out 1 _ rfl
    have dXB10 := XB1.out 0 _ rfl
    have dXB11 := XB1.out 1 _ rfl
    have dO2B0 := O2B.out 0 _ rfl
    have dO2B1 := O2B.out 1 _ rfl
    go_wp2_with fail
    clear dP00 dP01 dP10 dP11 dO1B0 dO1B1 dXB00 dXB01 dXB10 dXB11 dO2B0 dO2B1
    go_region_held3 (fun w' => Below w12.heap.size w12 w') (first | assumption | exact below_drewN' (by assumption) _)
      (first
        | (go_at_call 17; refine (toAutomaton_any s0 A0 n0 c0 xs0 _ (h0.below (below_then BW.out (by first | assumption | exact below_drewN' (by assumption) _))) HN0.out HR0.out).mono ?_; rintro e wa ⟨rfl, ga, ba, za⟩; have ca : Below w12.heap.size w12 wa := below_then (by first | assumption | exact below_drewN' (by assumption) _) ba; have GA := Lib.hid (ga.rowsN HL0.out); clear ga ba za)
        | (go_at_call 20; refine (eqAutomaton_any s0 s0 _ _ n0 n0 n0 n0 xs0 xs0 _ ((X0.out.below ca).rows HL0.out) GA.out hl0 hl0 HW0.out HW0.out).mono ?_; rw [sameA_t rfl rfl]; rintro e w13 ⟨rfl, be⟩; have ce : Below w12.heap.size w12 w13 := below_then ca be; clear be))
    clear rP00 rP01 rP10 rP11 rO1B0 rO1B1 rXB00 rXB01 rXB10 rXB11 rO2B0 rO2B1 c9 ca GA
    have Z13 := Lib.hid (Below.size ce)
    have P0 := Lib.hid (P0.out.below ce)
    have P1 := Lib.hid (P1.out.below ce)
    have O1 := Lib.hid (O1.out.below ce)
    have O1B := Lib.hid (O1B.out.below ce)
    have X0 := Lib.hid (X0.out.below ce)
    have XB0 := Lib.hid (XB0.out.below ce)
    have X1 := Lib.hid (X1.out.below ce)
    have XB1 := Lib.hid (XB1.out.below ce)
    have O2 := Lib.hid (O2.out.below ce)
    have O2B := Lib.hid (O2B.out.below ce)
    have BW := Lib.hid (below_then BW.out ce)
    clear ce
    have rP00 := P0.out.rule (j := 0) rfl
    have rP01 := P0.out.rule (j := 1) rfl
    have rP10 := P1.out.rule (j := 0) rfl
    have rP11 := P1.out.rule (j := 1) rfl
    have rO1B0 := O1B.out.rule (j := 0) rfl
    have rO1B1 := O1B.out.rule (j := 1) rfl
    have rXB00 := XB0.out.rule (j := 0) rfl
    have rXB01 := XB0.out.rule (j := 1) rfl
    have rXB10 := XB1.out.rule (j := 0) rfl
    have rXB11 := XB1.out.rule (j := 1) rfl
    have rO2B0 := O2B.out.rule (j := 0) rfl
    have rO2B1 := O2B.out.rule (j := 1) rfl
    have c9 : Below w13.heap.size w13 w13 := Below.refl _ _
    have dP00 := P0.out 0 _ rfl
    have dP01 := P0.out 1 _ rfl
    have dP10 := P1.out 0 _ rfl
    have dP11 := P1.out 1 _ rfl
    have dO1B0 := O1B.out 0 _ rfl
    have dO1B1 := O1B.out 1 _ rfl
    have dXB00 := XB0.out 0 _ rfl
    have dXB01 := XB0.out 1 _ rfl
    have dXB10 := XB1.out 0 _ rfl
    have dXB11 := XB1.out 1 _ rfl
    have dO2B0 := O2B.out 0 _ rfl
    have dO2B1 := O2B.out 1 _ rfl
    go_wp2_with fail
    clear dP00 dP01 dP10 dP11 dO1B0 dO1B1 dXB00 dXB01 dXB10 dXB11 dO2B0 dO2B1
    go_region_held3 (fun w' => Below w13.heap.size w13 w') (first | assumption | exact below_drewN' (by assumption) _)
      (first
        | (go_at_call 17; refine (toAutomaton_any s1 A1 n1 c1 xs1 _ (h1.below (below_then BW.out (by first | assumption | exact below_drewN' (by assumption) _))) HN1.out HR1.out).mono ?_; rintro e wa ⟨rfl, ga, ba, za⟩; have ca : Below w13.heap.size w13 wa := below_then (by first | assumption | exact below_drewN' (by assumption) _) ba; have GA := Lib.hid (ga.rowsN HL1.out); clear ga ba za)
        | (go_at_call 20; refine (eqAutomaton_any s1 s1 _ _ n1 n1 n1 n1 xs1 xs1 _ ((X1.out.below ca).rows HL1.out) GA.out hl1 hl1 HW1.out HW1.out).mono ?_; rw [sameA_t rfl rfl]; rintro e w14 ⟨rfl, be⟩; have ce : Below w13.heap.size w13 w14 := below_then ca be; clear be))
    clear rP00 rP01 rP10 rP11 rO1B0 rO1B1 rXB00 rXB01 rXB10 rXB11 rO2B0 rO2B1 c9 ca GA
    have Z14 := Lib.hid (Below.size ce)
    have P0 := Lib.hid (P0.out.below ce)
    have P1 := Lib.hid (P1.out.below ce)
    have O1 := Lib.hid (O1.out.below ce)
    have O1B := Lib.hid (O1B.out.below ce)
    have X0 := Lib.hid (X0.out.below ce)
    have XB0 := Lib.hid (XB0.out.below ce)
    have X1 := Lib.hid (X1.out.below ce)
    have XB1 := Lib.hid (XB1.out.below ce)
    have O2 := Lib.hid (O2.out.below ce)
    have O2B := Lib.hid (O2B.out.below ce)
    have BW := Lib.hid (below_then BW.out ce)
    clear ce
    have hk0a : (0 : Int) ≤ 1 := by omega
    have hk0b : 1 + (sumLens xs0 : Int) ≤ 4611686018427387904 := by have := HSUM0.out; have := HSUM1.out; omega
    have dP00 := P0.out 0 _ rfl
    have dP01 := P0.out 1 _ rfl
    have dP10 := P1.out 0 _ rfl
    have dP11 := P1.out 1 _ rfl
    have dO1B0 := O1B.out 0 _ rfl
    have dO1B1 := O1B.out 1 _ rfl
    have dXB00 := XB0.out 0 _ rfl
    have dXB01 := XB0.out 1 _ rfl
    have dXB10 := XB1.out 0 _ rfl
    have dXB11 := XB1.out 1 _ rfl
    have dO2B0 := O2B.out 0 _ rfl
    have dO2B1 := O2B.out 1 _ rfl
    go_wp2_with fail
    refine (markAutomatonT_any w5.heap.size w6.heap.size s0 _ n0 n0 xs0 (1) w14 X0.out HL0.out hk0a HN0.out hk0b).mono ?_
    rintro e w15 ⟨rfl, u, mt⟩
    clear dP00 dP01 dP10 dP11 dO1B0 dO1B1 dXB00 dXB01 dXB10 dXB11 dO2B0 dO2B1
    have Z15 := Lib.hid (Only.size u)
    have P0 := Lib.hid (P0.out.only u (.inl (by have := P0L.out; have := Z2.out; have := Z3.out; have := Z4.out; have := Z5.out; omega)))
    have P1 := Lib.hid (P1.out.only u (.inl (by have := P1L.out; have := Z3.out; have := Z4.out; have := Z5.out; omega)))
    have O1 := Lib.hid (O1.out.only u (.inl (Nat.le_refl _)))
    have O1B := Lib.hid (O1B.out.only u (.inl (by have := O1BL.out;  omega)))
    have XB0 := Lib.hid (XB0.out.only u (.inr (by skip; omega)))
    have X1 := Lib.hid (X1.out.only u (.inr (by have := Z7.out; omega)))
    have XB1 := Lib.hid (XB1.out.only u (.inr (by have := Z7.out; have := Z8.out; omega)))
    have O2 := Lib.hid (O2.out.only u (.inr (by have := Z7.out; have := Z8.out; have := Z9.out; omega)))
    have O2B := Lib.hid (O2B.out.only u (.inr (by have := Z7.out; have := Z8.out; have := Z9.out; have := Z10.out; omega)))
    have BW := Lib.hid (Only.below BW.out u (by have := Z1.out; have := Z2.out; have := Z3.out; have := Z4.out; have := Z5.out; omega) (by have := Z1.out; have := Z2.out; have := Z3.out; have := Z4.out; have := Z5.out; have := Z6.out; have := Z7.out; have := Z8.out; have := Z9.out; have := Z10.out; have := Z11.out; have := Z12.out; have := Z13.out; have := Z14.out; omega))
    clear u mt hk0a hk0b
    clear X0
    have hk1a : (0 : Int) ≤ 1 + (sumLens xs0 : Int) := by omega
    have hk1b : 1 + (sumLens xs0 : Int) + (sumLens xs1 : Int) ≤ 4611686018427387904 := by have := HSUM0.out; have := HSUM1.out; omega
    have dP00 := P0.out 0 _ rfl
    have dP01 := P0.out 1 _ rfl
    have dP10 := P1.out 0 _ rfl
    have dP11 := P1.out 1 _ rfl
    have dO1B0 := O1B.out 0 _ rfl
    have dO1B1 := O1B.out 1 _ rfl
    have dXB00 := XB0.out 0 _ rfl
    have dXB01 := XB0.out 1 _ rfl
    have dXB10 := XB1.out 0 _ rfl
    have dXB11 := XB1.out 1 _ rfl
    have dO2B0 := O2B.out 0 _ rfl
    have dO2B1 := O2B.out 1 _ rfl
    go_wp2_with fail
    refine (markAutomatonT_any w7.heap.size w8.heap.size s1 _ n1 n1 xs1 (1 + (sumLens xs0 : Int)) w15 X1.out HL1.out hk1a HN1.out hk1b).mono ?_
    rintro e w16 ⟨rfl, u, mt⟩
    clear dP00 dP01 dP10 dP11 dO1B0 dO1B1 dXB00 dXB01 dXB10 dXB11 dO2B0 dO2B1
    have Z16 := Lib.hid (Only.size u)
    have P0 := Lib.hid (P0.out.only u (.inl (by have := P0L.out; have := Z2.out; have := Z3.out; have := Z4.out; have := Z5.out; have := Z6.out; have := Z7.out; omega)))
    have P1 := Lib.hid (P1.out.only u (.inl (by have := P1L.out; have := Z3.out; have := Z4.out; have := Z5.out; have := Z6.out; have := Z7.out; omega)))
    have O1 := Lib.hid (O1.out.only u (.inl (by have := Z6.out; have := Z7.out; omega)))
    have O1B := Lib.hid (O1B.out.only u (.inl (by have := O1BL.out; have := Z6.out; have := Z7.out; omega)))
    have XB0 := Lib.hid (XB0.out.only u (.inl (by have := XB0L.out;  omega)))
    have XB1 := Lib.hid (XB1.out.only u (.inr (by skip; omega)))
    have O2 := Lib.hid (O2.out.only u (.inr (by have := Z9.out; omega)))
    have O2B := Lib.hid (O2B.out.only u (.inr (by have := Z9.out; have := Z10.out; omega)))
    have BW := Lib.hid (Only.below BW.out u (by have := Z1.out; have := Z2.out; have := Z3.out; have := Z4.out; have := Z5.out; have := Z6.out; have := Z7.out; omega) (by have := Z1.out; have := Z2.out; have := Z3.out; have := Z4.out; have := Z5.out; have := Z6.out; have := Z7.out; have := Z8.out; have := Z9.out; have := Z10.out; have := Z11.out; have := Z12.out; have := Z13.out; have := Z14.out; have := Z15.out; omega))
    clear u mt hk1a hk1b
    clear X1
    have hdec : decide (1 + (sumLens xs0 : Int) + (sumLens xs1 : Int) < 0) = false := by simp; omega
    have dP00 := P0.out 0 _ rfl
    have dP01 := P0.out 1 _ rfl
    have dP10 := P1.out 0 _ rfl
    have dP11 := P1.out 1 _ rfl
    have dO1B0 := O1B.out 0 _ rfl
    have dO1B1 := O1B.out 1 _ rfl
    have dXB00 := XB0.out 0 _ rfl
    have dXB01 := XB0.out 1 _ rfl
    have dXB10 := XB1.out 0 _ rfl
    have dXB11 := XB1.out 1 _ rfl
    have dO2B0 := O2B.out 0 _ rfl
    have dO2B1 := O2B.out 1 _ rfl
    go_wp2_with fail
    refine (eqAutomaton_any SS SS _ _ LS.length LS.length _ _ LS LS _ (O2.out.rows rfl) (O1.out.rows rfl) (by omega) (by omega) HRW.out HRW.out).mono ?_
    rw [sameA_t rfl rfl]
    rintro e w17 ⟨rfl, b⟩
    clear dP00 dP01 dP10 dP11 dO1B0 dO1B1 dXB00 dXB01 dXB10 dXB11 dO2B0 dO2B1
    have Z17 := Lib.hid (Below.size b)
    have P0 := Lib.hid (P0.out.below b)
    have P1 := Lib.hid (P1.out.below b)
    have O1 := Lib.hid (O1.out.below b)
    have O1B := Lib.hid (O1B.out.below b)
    have XB0 := Lib.hid (XB0.out.below b)
    have XB1 := Lib.hid (XB1.out.below b)
    have O2 := Lib.hid (O2.out.below b)
    have O2B := Lib.hid (O2B.out.below b)
    have BW := Lib.hid (below_then BW.out b)
    clear b
    have hkm : (1 : Int) + (sumLens LS : Int) ≤ 4611686018427387904 := by omega
    have hkm0 : (0 : Int) ≤ 1 + (sumLens LS : Int) := by omega
    have dP00 := P0.out 0 _ rfl
    have dP01 := P0.out 1 _ rfl
    have dP10 := P1.out 0 _ rfl
    have dP11 := P1.out 1 _ rfl
    have dO1B0 := O1B.out 0 _ rfl
    have dO1B1 := O1B.out 1 _ rfl
    have dXB00 := XB0.out 0 _ rfl
    have dXB01 := XB0.out 1 _ rfl
    have dXB10 := XB1.out 0 _ rfl
    have dXB11 := XB1.out 1 _ rfl
    have dO2B0 := O2B.out 0 _ rfl
    have dO2B1 := O2B.out 1 _ rfl
    go_wp2_with fail
    refine (markAutomatonT_any w9.heap.size w10.heap.size SS VO2 LS.length eO2 LS 1 w17 O2.out rfl (by omega) hlen hkm).mono ?_
    rintro e w18 ⟨rfl, u, mt⟩
    clear dP00 dP01 dP10 dP11 dO1B0 dO1B1 dXB00 dXB01 dXB10 dXB11 dO2B0 dO2B1
    have Z18 := Lib.hid (Only.size u)
    have P0 := Lib.hid (P0.out.only u (.inl (by have := P0L.out; have := Z2.out; have := Z3.out; have := Z4.out; have := Z5.out; have := Z6.out; have := Z7.out; have := Z8.out; have := Z9.out; omega)))
    have P1 := Lib.hid (P1.out.only u (.inl (by have := P1L.out; have := Z3.out; have := Z4.out; have := Z5.out; have := Z6.out; have := Z7.out; have := Z8.out; have := Z9.out; omega)))
    have O1 := Lib.hid (O1.out.only u (.inl (by have := Z6.out; have := Z7.out; have := Z8.out; have := Z9.out; omega)))
    have O1B := Lib.hid (O1B.out.only u (.inl (by have := O1BL.out; have := Z6.out; have := Z7.out; have := Z8.out; have := Z9.out; omega)))
    have XB0 := Lib.hid (XB0.out.only u (.inl (by have := XB0L.out; have := Z8.out; have := Z9.out; omega)))
    have XB1 := Lib.hid (XB1.out.only u (.inl (by have := XB1L.out;  omega)))
    have O2B := Lib.hid (O2B.out.only u (.inr (by skip; omega)))
    have BW := Lib.hid (Only.below BW.out u (by have := Z1.out; have := Z2.out; have := Z3.out; have := Z4.out; have := Z5.out; have := Z6.out; have := Z7.out; have := Z8.out; have := Z9.out; omega) (by have := Z1.out; have := Z2.out; have := Z3.out; have := Z4.out; have := Z5.out; have := Z6.out; have := Z7.out; have := Z8.out; have := Z9.out; have := Z10.out; have := Z11.out; have := Z12.out; have := Z13.out; have := Z14.out; have := Z15.out; have := Z16.out; have := Z17.out; omega))
    have M := Lib.hid mt
    clear u mt
    clear O2
    have dP00 := P0.out 0 _ rfl
    have dP01 := P0.out 1 _ rfl
    have dP10 := P1.out 0 _ rfl
    have dP11 := P1.out 1 _ rfl
    have dO1B0 := O1B.out 0 _ rfl
    have dO1B1 := O1B.out 1 _ rfl
    have dXB00 := XB0.out 0 _ rfl
    have dXB01 := XB0.out 1 _ rfl
    have dXB10 := XB1.out 0 _ rfl
    have dXB11 := XB1.out 1 _ rfl
    have dO2B0 := O2B.out 0 _ rfl
    have dO2B1 := O2B.out 1 _ rfl
    go_wp2_with fail
    refine (heldAutomatonT_any SS VO2 LS.length eO2 LS 1 w18 (M.out.rows (marksT_len _ _)) rfl (by omega) hlen hkm).mono ?_
    rintro e w19 ⟨rfl, b⟩
    clear dP00 dP01 dP10 dP11 dO1B0 dO1B1 dXB00 dXB01 dXB10 dXB11 dO2B0 dO2B1
    have Z19 := Lib.hid (Below.size b)
    have P0 := Lib.hid (P0.out.below b)
    have P1 := Lib.hid (P1.out.below b)
    have O1 := Lib.hid (O1.out.below b)
    have O1B := Lib.hid (O1B.out.below b)
    have XB0 := Lib.hid (XB0.out.below b)
    have XB1 := Lib.hid (XB1.out.below b)
    have O2B := Lib.hid (O2B.out.below b)
    have M := Lib.hid (M.out.below b)
    have BW := Lib.hid (below_then BW.out b)
    clear b
    have dP00 := P0.out 0 _ rfl
    have dP01 := P0.out 1 _ rfl
    have dP10 := P1.out 0 _ rfl
    have dP11 := P1.out 1 _ rfl
    have dO1B0 := O1B.out 0 _ rfl
    have dO1B1 := O1B.out 1 _ rfl
    have dXB00 := XB0.out 0 _ rfl
    have dXB01 := XB0.out 1 _ rfl
    have dXB10 := XB1.out 0 _ rfl
    have dXB11 := XB1.out 1 _ rfl
    have dO2B0 := O2B.out 0 _ rfl
    have dO2B1 := O2B.out 1 _ rfl
    go_upto_region 31 with fail
    clear dP00 dP01 dP10 dP11 dO1B0 dO1B1 dXB00 dXB01 dXB10 dXB11 dO2B0 dO2B1
    have rP00 := P0.out.rule (j := 0) rfl
    have rP01 := P0.out.rule (j := 1) rfl
    have rP10 := P1.out.rule (j := 0) rfl
    have rP11 := P1.out.rule (j := 1) rfl
    have rO1B0 := O1B.out.rule (j := 0) rfl
    have rO1B1 := O1B.out.rule (j := 1) rfl
    have rXB00 := XB0.out.rule (j := 0) rfl
    have rXB01 := XB0.out.rule (j := 1) rfl
    have rXB10 := XB1.out.rule (j := 0) rfl
    have rXB11 := XB1.out.rule (j := 1) rfl
    have rO2B0 := O2B.out.rule (j := 0) rfl
    have rO2B1 := O2B.out.rule (j := 1) rfl
    have c9 : Below w19.heap.size w19 w19 := Below.refl _ _
    go_cut [15, 16] (fun sp sc wx => ∃ (V : Option Addr) (e0 B : Nat), sp = .pointer (some ⟨B, 0, none⟩) ∧ sc = .int .i64 CO ∧ Box wx B [.int .i64 SS, .slice V LS.length e0] ∧ B < wx.heap.size ∧ TabIn w19.heap.size wx.heap.size wx (.slice V LS.length e0) LS ∧ Below w19.heap.size w19 wx)
    case first =>
      go_region_held3 (fun w' => Below w19.heap.size w19 w') (first | exact cS | exact cS0 | exact c9.drew | exact (c9.alloc (Nat.le_refl _) _).drew | exact c9.drew.alloc (Nat.le_refl _) _ | exact ca | exact ca.alloc ca.size _ | exact cb | exact cb.alloc cb.size _ | exact cC | exact cC.alloc cC.size _)
        (first
          | (go_at_call_of 17 (Value.agg #[Value.int IntKind.i64 s0, Value.slice A0 n0 c0]); refine (toAutomaton_any s0 A0 n0 c0 xs0 _ (h0.below (below_then BW.out (by first | exact c9.drew | exact (c9.alloc (Nat.le_refl _) _).drew | exact c9.drew.alloc (Nat.le_refl _) _ | exact ca | exact ca.alloc ca.size _ | exact cb | exact cb.alloc cb.size _ | exact cC | exact cC.alloc cC.size _))) HN0.out HR0.out).mono ?_; rintro e wa ⟨rfl, ga, ba, za⟩; have ca : Below w19.heap.size w19 wa := below_then (by first | exact c9.drew | exact (c9.alloc (Nat.le_refl _) _).drew | exact c9.drew.alloc (Nat.le_refl _) _ | exact ca | exact ca.alloc ca.size _ | exact cb | exact cb.alloc cb.size _ | exact cC | exact cC.alloc cC.size _) ba; have gr := ga.rowsN HL0.out; (try rw [World.size_alloc] at gr); (try rw [show (World.drew (World.alloc w19 _)).heap.size = w19.heap.size + 1 from World.size_alloc _ _] at gr); have Ga := Lib.hid gr; have Ka := Lib.hid ba; clear ga ba za gr)
          | (go_at_call_of 17 (Value.agg #[Value.int IntKind.i64 s1, Value.slice A1 n1 c1]); refine (toAutomaton_any s1 A1 n1 c1 xs1 _ (h1.below (below_then BW.out (by first | exact c9.drew | exact (c9.alloc (Nat.le_refl _) _).drew | exact c9.drew.alloc (Nat.le_refl _) _ | exact ca | exact ca.alloc ca.size _ | exact cb | exact cb.alloc cb.size _ | exact cC | exact cC.alloc cC.size _))) HN1.out HR1.out).mono ?_; rintro e wb ⟨rfl, ga, ba, za⟩; have cb : Below w19.heap.size w19 wb := below_then (by first | exact c9.drew | exact (c9.alloc (Nat.le_refl _) _).drew | exact c9.drew.alloc (Nat.le_refl _) _ | exact ca | exact ca.alloc ca.size _ | exact cb | exact cb.alloc cb.size _ | exact cC | exact cC.alloc cC.size _) ba; have gr := ga.rowsN HL1.out; (try rw [World.size_alloc] at gr); (try rw [show (World.drew (World.alloc w19 _)).heap.size = w19.heap.size + 1 from World.size_alloc _ _] at gr); have Gb := Lib.hid gr; have Kb := Lib.hid ba; clear ga ba za gr)
          | (go_at_call 39; refine (implProductOf_any s0 _ n0 n0 xs0 s1 _ n1 n1 xs1 _ (by first | exact Ga.out.below Kb.out | exact (Ga.out.below Kb.out).below ((Below.refl _ _).alloc (Nat.le_refl _) _) | exact Ga.out.below (below_then ((Below.refl _ _).alloc (Nat.le_refl _) _) Kb.out)) hl0 HW0.out (by first | exact Gb.out | exact Gb.out.below ((Below.refl _ _).alloc (Nat.le_refl _) _)) hl1 HW1.out).mono ?_; rintro e wC ⟨v, rfl, ow, bC⟩; rw [← HLS.out] at ow; rw [← HSS.out, ← HCO.out]; obtain ⟨VC, eC, rfl⟩ := ow.form; have OC := Lib.hid ow; have cC : Below w19.heap.size w19 wC := below_then (by first | exact cb | exact cb.alloc cb.size _) bC; have xr : wC.heap[wb.heap.size]? = some (.cells #[.int .i64 0, .slice none 0 0] 29 (0, 0)) := (bC.block _ (by first | (simp; done) | (rw [World.size_alloc]; exact Nat.lt_succ_self _) | (show _ < (World.alloc _ _).heap.size; rw [World.size_alloc]; exact Nat.lt_succ_self _))).trans (by first | exact heap_alloc_new _ _ | (show (World.alloc _ _).heap[_]? = _; exact heap_alloc_new _ _)); obtain ⟨e0, e1, e2, e3⟩ := box2_cells xr; have XR := Lib.hid xr; have cS0 : Below w19.heap.size w19 (wC.setCell ⟨wb.heap.size, 0, none⟩ (.int .i64 SS)) := cC.setCell cb.size _; have cS : Below w19.heap.size w19 ((wC.setCell ⟨wb.heap.size, 0, none⟩ (.int .i64 SS)).setCell ⟨wb.heap.size, 1, none⟩ (.slice VC LS.length eC)) := cS0.setCell cb.size _; clear ow bC xr)
          | (go_at_call 39; refine (implProductOf_any s0 _ n0 n0 xs0 s1 _ n1 n1 xs1 _ (by first | exact Ga.out.below Kb.out | exact (Ga.out.below Kb.out).below ((Below.refl _ _).alloc (Nat.le_refl _) _) | exact Ga.out.below (below_then ((Below.refl _ _).alloc (Nat.le_refl _) _) Kb.out)) hl0 HW0.out (by first | exact Gb.out | exact Gb.out.below ((Below.refl _ _).alloc (Nat.le_refl _) _)) hl1 HW1.out).mono ?_; rintro e wC ⟨v, rfl, ow, bC⟩; rw [← HLS.out] at ow; rw [← HSS.out, ← HCO.out]; obtain ⟨VC, eC, rfl⟩ := ow.form; have OC := Lib.hid ow; have cC : Below w19.heap.size w19 wC := below_then (by first | exact cb | exact cb.alloc cb.size _) bC; have hq0 : wb.heap[wa.heap.size]? = some (.cells #[.int .i64 0, .slice none 0 0] 29 (0, 0)) := (Kb.out.block _ (by first | (simp; done) | (rw [World.size_alloc]; exact Nat.lt_succ_self _) | (show _ < (World.alloc _ _).heap.size; rw [World.size_alloc]; exact Nat.lt_succ_self _))).trans (by first | exact heap_alloc_new _ _ | (show (World.alloc _ _).heap[_]? = _; exact heap_alloc_new _ _)); have xr : wC.heap[wa.heap.size]? = some (.cells #[.int .i64 0, .slice none 0 0] 29 (0, 0)) := (bC.block _ (block_lt hq0)).trans hq0; obtain ⟨e0, e1, e2, e3⟩ := box2_cells xr; have XR := Lib.hid xr; have cS0 : Below w19.heap.size w19 (wC.setCell ⟨wa.heap.size, 0, none⟩ (.int .i64 SS)) := cC.setCell ca.size _; have cS : Below w19.heap.size w19 ((wC.setCell ⟨wa.heap.size, 0, none⟩ (.int .i64 SS)).setCell ⟨wa.heap.size, 1, none⟩ (.slice VC LS.length eC)) := cS0.setCell ca.size _; clear ow bC xr hq0)
          | (go_at_call 39; refine (implProductOf_any s0 _ n0 n0 xs0 s1 _ n1 n1 xs1 _ (by first | exact Ga.out.below Kb.out | exact (Ga.out.below Kb.out).below ((Below.refl _ _).alloc (Nat.le_refl _) _) | exact Ga.out.below (below_then ((Below.refl _ _).alloc (Nat.le_refl _) _) Kb.out)) hl0 HW0.out (by first | exact Gb.out | exact Gb.out.below ((Below.refl _ _).alloc (Nat.le_refl _) _)) hl1 HW1.out).mono ?_; rintro e wC ⟨v, rfl, ow, bC⟩; rw [← HLS.out] at ow; rw [← HSS.out, ← HCO.out]; obtain ⟨VC, eC, rfl⟩ := ow.form; have OC := Lib.hid ow; have cC : Below w19.heap.size w19 wC := below_then (by first | exact cb | exact cb.alloc cb.size _) bC; have hq1 : wa.heap[w19.heap.size]? = some (.cells #[.int .i64 0, .slice none 0 0] 29 (0, 0)) := (Ka.out.block _ (by first | (simp; done) | (rw [World.size_alloc]; exact Nat.lt_succ_self _) | (show _ < (World.alloc _ _).heap.size; rw [World.size_alloc]; exact Nat.lt_succ_self _))).trans (by first | exact heap_alloc_new _ _ | (show (World.alloc _ _).heap[_]? = _; exact heap_alloc_new _ _)); have hq0 : wb.heap[w19.heap.size]? = some (.cells #[.int .i64 0, .slice none 0 0] 29 (0, 0)) := (Kb.out.block _ (block_lt hq1)).trans hq1; have xr : wC.heap[w19.heap.size]? = some (.cells #[.int .i64 0, .slice none 0 0] 29 (0, 0)) := (bC.block _ (block_lt hq0)).trans hq0; obtain ⟨e0, e1, e2, e3⟩ := box2_cells xr; have XR := Lib.hid xr; have cS0 : Below w19.heap.size w19 (wC.setCell ⟨w19.heap.size, 0, none⟩ (.int .i64 SS)) := cC.setCell (Nat.le_refl _) _; have cS : Below w19.heap.size w19 ((wC.setCell ⟨w19.heap.size, 0, none⟩ (.int .i64 SS)).setCell ⟨w19.heap.size, 1, none⟩ (.slice VC LS.length eC)) := cS0.setCell (Nat.le_refl _) _; clear ow bC xr hq0 hq1)
          | (go_at_call 39; refine (implProductOf_any s0 _ n0 n0 xs0 s1 _ n1 n1 xs1 _ (by first | exact Ga.out.below Kb.out | exact (Ga.out.below Kb.out).below ((Below.refl _ _).alloc (Nat.le_refl _) _) | exact Ga.out.below (below_then ((Below.refl _ _).alloc (Nat.le_refl _) _) Kb.out)) hl0 HW0.out (by first | exact Gb.out | exact Gb.out.below ((Below.refl _ _).alloc (Nat.le_refl _) _)) hl1 HW1.out).mono ?_; rintro e wC ⟨v, rfl, ow, bC⟩; rw [← HLS.out] at ow; rw [← HSS.out, ← HCO.out]; obtain ⟨VC, eC, rfl⟩ := ow.form; have OC := Lib.hid ow; have cC : Below w19.heap.size w19 wC := below_then (by first | exact cb | exact cb.alloc cb.size _) bC; clear ow bC)
          | fail)
      all_goals
        go_wp2_with fail
        go_meet
        first
          | (have g8 : (wC.setCell ⟨wb.heap.size, 0, none⟩ (.int .i64 SS)).heap[wb.heap.size]? = some (.cells #[.int .i64 SS, .slice none 0 0] 29 (0, 0)) := (by rw [heap_setCell_same wC (wb.heap.size) 0 _ _ _ XR.out]; rfl); have g9 : ((wC.setCell ⟨wb.heap.size, 0, none⟩ (.int .i64 SS)).setCell ⟨wb.heap.size, 1, none⟩ (.slice VC LS.length eC)).heap[wb.heap.size]? = some (.cells #[.int .i64 SS, .slice VC LS.length eC] 29 (0, 0)) := (by rw [heap_setCell_same _ (wb.heap.size) 1 _ _ _ g8]; rfl); refine ⟨VC, eC, wb.heap.size, rfl, rfl, fun j u hu => ?_, block_lt g9, ?_, cS⟩; (rw [cell_of_row _ (wb.heap.size) j _ _ _ g9, ← Array.getElem?_toList]; exact hu); exact (OC.out.only (set2_only _ _ _ _) (.inr (by simp))).wide (by have := cb.size; first | omega | (simp; omega)) (by rw [set2_size]; exact Nat.le_refl _))
          | (have g8 : (wC.setCell ⟨wa.heap.size, 0, none⟩ (.int .i64 SS)).heap[wa.heap.size]? = some (.cells #[.int .i64 SS, .slice none 0 0] 29 (0, 0)) := (by rw [heap_setCell_same wC (wa.heap.size) 0 _ _ _ XR.out]; rfl); have g9 : ((wC.setCell ⟨wa.heap.size, 0, none⟩ (.int .i64 SS)).setCell ⟨wa.heap.size, 1, none⟩ (.slice VC LS.length eC)).heap[wa.heap.size]? = some (.cells #[.int .i64 SS, .slice VC LS.length eC] 29 (0, 0)) := (by rw [heap_setCell_same _ (wa.heap.size) 1 _ _ _ g8]; rfl); refine ⟨VC, eC, wa.heap.size, rfl, rfl, fun j u hu => ?_, block_lt g9, ?_, cS⟩; (rw [cell_of_row _ (wa.heap.size) j _ _ _ g9, ← Array.getElem?_toList]; exact hu); exact (OC.out.only (set2_only _ _ _ _) (.inr (by have h1 := Kb.out.size; rw [World.size_alloc] at h1; exact h1))).wide (by have := cb.size; first | omega | (simp; omega)) (by rw [set2_size]; exact Nat.le_refl _))
          | (have g8 : (wC.setCell ⟨w19.heap.size, 0, none⟩ (.int .i64 SS)).heap[w19.heap.size]? = some (.cells #[.int .i64 SS, .slice none 0 0] 29 (0, 0)) := (by rw [heap_setCell_same wC (w19.heap.size) 0 _ _ _ XR.out]; rfl); have g9 : ((wC.setCell ⟨w19.heap.size, 0, none⟩ (.int .i64 SS)).setCell ⟨w19.heap.size, 1, none⟩ (.slice VC LS.length eC)).heap[w19.heap.size]? = some (.cells #[.int .i64 SS, .slice VC LS.length eC] 29 (0, 0)) := (by rw [heap_setCell_same _ (w19.heap.size) 1 _ _ _ g8]; rfl); refine ⟨VC, eC, w19.heap.size, rfl, rfl, fun j u hu => ?_, block_lt g9, ?_, cS⟩; (rw [cell_of_row _ (w19.heap.size) j _ _ _ g9, ← Array.getElem?_toList]; exact hu); exact (OC.out.only (set2_only _ _ _ _) (.inr (Nat.le_trans (by have h2 := Ka.out.size; first | (rw [World.size_alloc] at h2; exact h2) | (rw [show (World.drew (World.alloc w19 _)).heap.size = w19.heap.size + 1 from World.size_alloc _ _] at h2; exact h2)) Kb.out.size))).wide (by have := cb.size; first | omega | (simp; omega)) (by rw [set2_size]; exact Nat.le_refl _))
          | (refine ⟨VC, eC, wC.heap.size, rfl, rfl, Box.new _ _ _, by rw [World.size_alloc]; exact Nat.lt_succ_self _, ?_, cC.alloc cC.size _⟩; exact (OC.out.below ((Below.refl _ _).alloc (Nat.le_refl _) _)).wide (by have := cb.size; first | omega | (simp; omega)) (by rw [World.size_alloc]; exact Nat.le_succ _))
          | fail
    case rest =>
      obtain ⟨VO3, eO3, BO3, rfl, rfl, hbx, hbl, htb, hbw⟩ := hcut
      obtain ⟨w20, hw20⟩ : ∃ w20, w20 = wc := ⟨_, rfl⟩
      rw [← hw20] at hbx hbl htb hbw ⊢
      clear hw20 rP00 rP01 rP10 rP11 rO1B0 rO1B1 rXB00 rXB01 rXB10 rXB11 rO2B0 rO2B1 c9
      have Z20 := Lib.hid (Below.size hbw)
      have P0 := Lib.hid (P0.out.below hbw)
      have P1 := Lib.hid (P1.out.below hbw)
      have O1 := Lib.hid (O1.out.below hbw)
      have O1B := Lib.hid (O1B.out.below hbw)
      have XB0 := Lib.hid (XB0.out.below hbw)
      have XB1 := Lib.hid (XB1.out.below hbw)
      have O2B := Lib.hid (O2B.out.below hbw)
      have M := Lib.hid (M.out.below hbw)
      have BW := Lib.hid (below_then BW.out hbw)
      have O3 := Lib.hid htb
      have O3B := Lib.hid hbx
      have O3BL := Lib.hid hbl
      clear hbx hbl htb hbw
      have dP00 := P0.out 0 _ rfl
      have dP01 := P0.out 1 _ rfl
      have dP10 := P1.out 0 _ rfl
      have dP11 := P1.out 1 _ rfl
      have dO1B0 := O1B.out 0 _ rfl
      have dO1B1 := O1B.out 1 _ rfl
      have dXB00 := XB0.out 0 _ rfl
      have dXB01 := XB0.out 1 _ rfl
      have dXB10 := XB1.out 0 _ rfl
      have dXB11 := XB1.out 1 _ rfl
      have dO2B0 := O2B.out 0 _ rfl
      have dO2B1 := O2B.out 1 _ rfl
      have dO3B0 := O3B.out 0 _ rfl
      have dO3B1 := O3B.out 1 _ rfl
      go_wp2_with fail
      refine (eqAutomaton_any SS SS _ _ LS.length LS.length _ _ LS LS _ (O3.out.rows rfl) (O1.out.rows rfl) (by omega) (by omega) HRW.out HRW.out).mono ?_
      rw [sameA_t rfl rfl]
      rintro e w21 ⟨rfl, b⟩
      clear dP00 dP01 dP10 dP11 dO1B0 dO1B1 dXB00 dXB01 dXB10 dXB11 dO2B0 dO2B1 dO3B0 dO3B1
      have Z21 := Lib.hid (Below.size b)
      have P0 := Lib.hid (P0.out.below b)
      have P1 := Lib.hid (P1.out.below b)
      have O1 := Lib.hid (O1.out.below b)
      have O1B := Lib.hid (O1B.out.below b)
      have XB0 := Lib.hid (XB0.out.below b)
      have XB1 := Lib.hid (XB1.out.below b)
      have O2B := Lib.hid (O2B.out.below b)
      have M := Lib.hid (M.out.below b)
      have O3 := Lib.hid (O3.out.below b)
      have O3B := Lib.hid (O3B.out.below b)
      have BW := Lib.hid (below_then BW.out b)
      clear b
      have dP00 := P0.out 0 _ rfl
      have dP01 := P0.out 1 _ rfl
      have dP10 := P1.out 0 _ rfl
      have dP11 := P1.out 1 _ rfl
      have dO1B0 := O1B.out 0 _ rfl
      have dO1B1 := O1B.out 1 _ rfl
      have dXB00 := XB0.out 0 _ rfl
      have dXB01 := XB0.out 1 _ rfl
      have dXB10 := XB1.out 0 _ rfl
      have dXB11 := XB1.out 1 _ rfl
      have dO2B0 := O2B.out 0 _ rfl
      have dO2B1 := O2B.out 1 _ rfl
      have dO3B0 := O3B.out 0 _ rfl
      have dO3B1 := O3B.out 1 _ rfl
      go_wp2_with fail
      refine (heldAutomatonT_any SS VO2 LS.length eO2 LS 1 w21 (M.out.rows (marksT_len _ _)) rfl (by omega) hlen hkm).mono ?_
      rintro e w22 ⟨rfl, b⟩
      clear dP00 dP01 dP10 dP11 dO1B0 dO1B1 dXB00 dXB01 dXB10 dXB11 dO2B0 dO2B1 dO3B0 dO3B1
      have Z22 := Lib.hid (Below.size b)
      have P0 := Lib.hid (P0.out.below b)
      have P1 := Lib.hid (P1.out.below b)
      have O1 := Lib.hid (O1.out.below b)
      have O1B := Lib.hid (O1B.out.below b)
      have XB0 := Lib.hid (XB0.out.below b)
      have XB1 := Lib.hid (XB1.out.below b)
      have O2B := Lib.hid (O2B.out.below b)
      have M := Lib.hid (M.out.below b)
      have O3 := Lib.hid (O3.out.below b)
      have O3B := Lib.hid (O3B.out.below b)
      have BW := Lib.hid (below_then BW.out b)
      clear b
      go_wp2_with fail
      go_ret
      exact ⟨rfl, BW.out⟩

set_option maxRecDepth 100000 in
theorem lifted (os : Os) (started : os.Started) (H : Type) (enc : TypeId × Value → H) :
    ReturnsInHanded {} Try.checked os 10 .any (Rows.fnExactProductOfSpec.pre6 enc Try.prog Try.f10 Rows.fnExactProductOfRow.domain false) (Rows.fnExactProductOfSpec.post enc Try.prog Try.f10 false true false false) := by
  refine returnsInHanded_of_change (C := Try.checked) own started (by kernel_rfl) Try.func10
    (ChangeSpec.witness6 (enc := enc) (C := Try.checked) false ⟨#[], #[.agg #[.int .i64 0, .slice none 0 0], .agg #[.int .i64 0, .slice none 0 0]], []⟩ 8 (by kernel_rfl) (by kernel_rfl) (by kernel_rfl) (by kernel_rfl)) ?_
  intro W base args ds gs before hval0 hW hcnd _
  have hval : ∀ (j : Nat) t v, Try.f10.params[j]? = some t → args[j]? = some v → Value.okWide Try.prog W .any base t v := hval0
  have hW' := hW
  obtain ⟨p, q, hA0, hV, rfl, hfz, hnd⟩ := hW
  have hA : DataW.TrodAll enc Try.prog W 0 (fun _ => true) true Try.f10.params.toList args.toList ds p := hA0
  rw [Try.params10] at hA hval
  obtain ⟨v0, vs0, d0, ds0, p0, q0, hargs, rfl, rfl, h0, r0⟩ := trodAll_cons hA
  obtain ⟨v1, vs1, d1, ds1, p1, q1, rfl, rfl, rfl, h1, r1⟩ := trodAll_cons r0
  obtain ⟨rfl, rfl, rfl⟩ := trodAll_nil r1
  obtain rfl : args = #[v0, v1] := by cases args; simp_all
  obtain ⟨rfl, rfl⟩ := trodVars_none hV
  have lt0 : ∀ x ∈ p0, x.block < W.heap.size := by obtain ⟨m, hm⟩ := h0; exact DataW.trod_lt m _ _ _ hm
  have k0 := h0
  obtain ⟨s0, a0, n0, c0, xs0, rfl, hr0, hn0, hw0⟩ := auto_of_trod (hval 0 24 v0 rfl rfl) h0
  have lt1 : ∀ x ∈ p1, x.block < W.heap.size := by obtain ⟨m, hm⟩ := h1; exact DataW.trod_lt m _ _ _ hm
  have k1 := h1
  obtain ⟨s1, a1, n1, c1, xs1, rfl, hr1, hn1, hw1⟩ := auto_of_trod (hval 1 24 v1 rfl rfl) h1
  clear hA0 hval0
  refine (walk s0 a0 n0 c0 xs0 s1 a1 n1 c1 xs1 W hr0 hn0 hw0 hr1 hn1 hw1).mono fun e W' ⟨he, bel⟩ => ?_
  subst he
  exact ⟨_, rfl, _, _, _, [], _, [], hW', trodAll_mk1 (shut_bool Try.underlying4 _), (trodAll_cons_mk (Below.trod laidOut (by kernel_rfl) (of_decide_eq_true (by kernel_rfl)) k0 bel lt0) (trodAll_cons_mk (Below.trod laidOut (by kernel_rfl) (of_decide_eq_true (by kernel_rfl)) k1 bel lt1) trodAll_mk0)), rfl, bel.frame _, fun h => by cases h⟩

theorem over : Rows.fnExactProductOfRow.holds Try.pinned (OpenSpec.ofChange Rows.fnExactProductOfSpec) :=
  OpenClaim.holds_of_wide 10 Try.f10 rfl rfl rfl rfl rfl rfl rfl ⟨rfl, rfl, rfl, rfl, rfl⟩ rfl rfl rfl rfl rfl (by kernel_rfl) Try.func10 (by kernel_rfl)
    (of_decide_eq_true (by kernel_rfl)) (by unfold Func.isWrapper; first | (rw [if_pos (by decide +kernel)]; kernel_rfl) | (rw [if_neg (by decide +kernel)]; exact ⟨rfl, rfl⟩))
    (fun os started H enc _ => lifted os started H enc)

/-- The statement. -/
theorem proved : Rows.FnExactProductOfSaid := over
#print axioms proved
end fnExactProductOf
end Go.Proofs.Ytfkmpabohebcfaa
