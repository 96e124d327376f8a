/-
  The filling of the gaps: the model's l04Fill.
-/
import Derived.Test.YtikimfncpemmkaaFillL
import Derived.Test.YtikimfncpemmkaaOwnRows
import Derived.Deep.DeepCutAuto
namespace Go.Proofs.Ytikimfncpemmkaa
open Go.RowKit Go.Deep Go.ChangeShapes Go.WideShapes

set_option maxRecDepth 100000 in
set_option maxHeartbeats 4000000 in
theorem l04Fill_any (p : Nat) (A A2 : Option Addr) (n m cap l cap2 : Nat) (xss : List (List Int)) (vals : List Int) (w : World) (hg : GoodP n m xss) (c0 : w.cell? ⟨p, 0, none⟩ = some (.int .i64 (n : Int))) (c1 : w.cell? ⟨p, 1, none⟩ = some (.slice A m cap)) (hR : RowsAt w A m xss) (hV : NumsAt w A2 l vals) (hl : l = (gapsL xss m).length) :
    Calls Try.prog 72 #[.pointer (some ⟨p, 0, none⟩), .slice A2 l cap2] w fun e w' => ∃ v, e = .returned (.agg #[.int .i64 (n : Int), v]) ∧ TabIn w.heap.size w'.heap.size w' v (fillG (gapsL xss m) vals xss) ∧ Below w.heap.size w w' := by
  have hm3 : m ≤ 3 := hg.m3
  have hm1 : 1 ≤ m := hg.m1
  have hn10 : n ≤ 10 := hg.n10
  have HG := Lib.hid hg
  have HV := Lib.hid hV
  have HL := Lib.hid hl
  have HGL := Lib.hid (gapsL_len hg m (Nat.le_refl _))
  obtain ⟨W2, hW2⟩ : ∃ W2, W2 = w.alloc (.cells #[.int .i64 0, .slice none 0 0] 39) := ⟨_, rfl⟩
  have b2 : Below w.heap.size w W2 := by rw [hW2]; go_grown
  have x0 : W2.cell? ⟨p, 0, none⟩ = some (.int .i64 (n : Int)) := (b2.cell (cell_lt c0)).trans c0
  have x1 : W2.cell? ⟨p, 1, none⟩ = some (.slice A m cap) := (b2.cell (cell_lt c1)).trans c1
  have xr : W2.heap[w.heap.size]? = some (.cells #[.int .i64 0, .slice none 0 0] 39 (0, 0)) := by rw [hW2]; exact heap_alloc_new _ _
  have B2 := Lib.hid b2
  have H2 := Lib.hid (hR.below b2)
  have XR := Lib.hid xr
  have HW2 := Lib.hid hW2
  have HZ2 := Lib.hid (show W2.heap.size = w.heap.size + 1 by rw [hW2, World.size_alloc])
  clear b2 xr hW2 hV hR hg hl
  go_enter Try.func72, Try.ntmps72
  go_wp2_with fail
  rw [← HW2.out]
  refine (l04Gaps_any p A n m cap xss W2 HG.out x1 H2.out).mono ?_
  rintro e w4 ⟨u, rfl, o4, b4⟩
  obtain ⟨GS, hGS⟩ : ∃ GS, GS = gapsL xss m := ⟨_, rfl⟩
  rw [← hGS] at o4
  obtain ⟨Au, cu, rfl⟩ := ownK_form o4
  have HGS := Lib.hid hGS
  have z0 : w4.cell? ⟨p, 0, none⟩ = some (.int .i64 (n : Int)) := (b4.cell (cell_lt x0)).trans x0
  have z1 : w4.cell? ⟨p, 1, none⟩ = some (.slice A m cap) := (b4.cell (cell_lt x1)).trans x1
  have HRR4 := Lib.hid ((b4.block _ (block_lt XR.out)).trans XR.out)
  have H4 := Lib.hid (H2.out.below b4)
  have HO4 := Lib.hid o4
  have B4 := Lib.hid (below_then B2.out b4)
  have HZ4 := Lib.hid b4.size
  clear o4 b4 hGS x0 x1
  go_upto_region 2 with fail
  have r0 : ∀ W', Below w4.heap.size w4 W' → W'.cell? ⟨p, 0, none⟩ = some (.int .i64 (n : Int)) := fun W' hb => (hb.cell (cell_lt z0)).trans z0
  have r1 : ∀ W', Below w4.heap.size w4 W' → W'.cell? ⟨p, 1, none⟩ = some (.slice A m cap) := fun W' hb => (hb.cell (cell_lt z1)).trans z1
  have c9 : Below w4.heap.size w4 w4 := Below.refl _ _
  go_cut [6] (fun s6 wx => ∃ (V : Value) (B : Nat), s6 = .pointer (some ⟨B, 0, none⟩) ∧ wx.heap[B]? = some (.cells #[.int .i64 (n : Int), V] 39 (0, 0)) ∧ TabIn w4.heap.size wx.heap.size wx V xss ∧ Below w4.heap.size w4 wx)
  case first =>
    go_region_held3 (fun w' => Below w4.heap.size w4 w') (first | exact cS | exact cS0 | exact c9.drew | exact (c9.alloc (Nat.le_refl _) _).drew | exact c9.drew.alloc (Nat.le_refl _) _ | exact cC | exact cC.alloc cC.size _ | assumption)
      (first
        | (go_at_call 113; refine (l06OwnRows_any A n m cap xss _ HG.out (H4.out.below (by first | exact c9.drew | exact (c9.alloc (Nat.le_refl _) _).drew | exact c9.drew.alloc (Nat.le_refl _) _ | exact c9))).mono ?_; rintro e wC ⟨V, rfl, tC, bC⟩; obtain ⟨AV, CV, rfl⟩ := tC.form; have cC : Below w4.heap.size w4 wC := below_then (by first | exact c9.drew | exact (c9.alloc (Nat.le_refl _) _).drew | exact c9.drew.alloc (Nat.le_refl _) _ | exact c9) bC; have TC := Lib.hid tC; have BC := Lib.hid bC.size; have xr : wC.heap[w4.heap.size]? = some (.cells #[.int .i64 0, .slice none 0 0] 39 (0, 0)) := (bC.block _ (by first | (simp; done) | (rw [World.size_alloc]; exact Nat.lt_succ_self _) | (show _ < (World.alloc _ _).heap.size; rw [World.size_alloc]; exact Nat.lt_succ_self _))).trans (by first | exact heap_alloc_new _ _ | (show (World.alloc _ _).heap[_]? = _; exact heap_alloc_new _ _)); obtain ⟨e0, e1, e2, e3⟩ := box2_cellsT xr; have XR8 := Lib.hid xr; have cS0 : Below w4.heap.size w4 (wC.setCell ⟨w4.heap.size, 0, none⟩ (.int .i64 (n : Int))) := cC.setCell (Nat.le_refl _) _; have cS : Below w4.heap.size w4 ((wC.setCell ⟨w4.heap.size, 0, none⟩ (.int .i64 (n : Int))).setCell ⟨w4.heap.size, 1, none⟩ (.slice AV xss.length CV)) := cS0.setCell (Nat.le_refl _) _; clear tC bC xr)
        | (go_at_call 113; refine (l06OwnRows_any A n m cap xss _ HG.out (H4.out.below (by first | exact c9.drew | exact (c9.alloc (Nat.le_refl _) _).drew | exact c9.drew.alloc (Nat.le_refl _) _ | exact c9))).mono ?_; rintro e wC ⟨V, rfl, tC, bC⟩; obtain ⟨AV, CV, rfl⟩ := tC.form; have cC : Below w4.heap.size w4 wC := below_then (by first | exact c9.drew | exact (c9.alloc (Nat.le_refl _) _).drew | exact c9.drew.alloc (Nat.le_refl _) _ | exact c9) bC; have TC := Lib.hid tC; have BC := Lib.hid bC.size; clear tC bC)
        | fail)
    all_goals
      go_wp2_with fail
      go_meet
      first
        | (have g8 : (wC.setCell ⟨w4.heap.size, 0, none⟩ (.int .i64 (n : Int))).heap[w4.heap.size]? = some (.cells #[.int .i64 (n : Int), .slice none 0 0] 39 (0, 0)) := (by rw [heap_setCell_same wC w4.heap.size 0 _ _ _ XR8.out]; rfl); have g9 : ((wC.setCell ⟨w4.heap.size, 0, none⟩ (.int .i64 (n : Int))).setCell ⟨w4.heap.size, 1, none⟩ (.slice AV xss.length CV)).heap[w4.heap.size]? = some (.cells #[.int .i64 (n : Int), .slice AV xss.length CV] 39 (0, 0)) := (by rw [heap_setCell_same _ w4.heap.size 1 _ _ _ g8]; rfl); refine ⟨_, w4.heap.size, rfl, g9, ?_, cS⟩; exact (TC.out.only (set2_onlyT _ _ _ _) (.inr (by simp))).wide (by simp) (by rw [set2_sizeT]; exact Nat.le_refl _))
        | (refine ⟨_, wC.heap.size, rfl, heap_alloc_new _ _, ?_, cC.alloc cC.size _⟩; exact (TC.out.below ((Below.refl _ _).alloc (Nat.le_refl _) _)).wide (by simp) (by rw [World.size_alloc]; exact Nat.le_succ _))
        | fail
  case rest =>
    obtain ⟨V, B, rfl, hbx, tV, bw⟩ := hcut
    obtain ⟨vs0, tV⟩ := tV
    obtain ⟨A1, c1', rfl⟩ := own_form tV.out
    rw [HG.out.len] at tV hbx
    obtain ⟨g, rfl⟩ : ∃ g, A1 = some ⟨g, 0, none⟩ := by
      have ho := tV.out
      rw [HG.out.len] at ho
      exact own_addr ho (by omega)
    obtain ⟨w5, hw5⟩ : ∃ w5, w5 = wc := ⟨_, rfl⟩
    rw [← hw5] at hbx tV bw ⊢
    obtain ⟨LO, hLO⟩ : ∃ LO, LO = w4.heap.size := ⟨_, rfl⟩
    obtain ⟨HI, hHI⟩ : ∃ HI, HI = w5.heap.size := ⟨_, rfl⟩
    rw [← hLO, ← hHI] at tV
    have HB5 := Lib.hid hbx
    have HT5 := Lib.hid tV
    have HRR5 := Lib.hid ((bw.block _ (block_lt HRR4.out)).trans HRR4.out)
    have HO5 := Lib.hid (ownK_below HO4.out bw)
    have B5 := Lib.hid (below_then B4.out bw)
    have HLO := Lib.hid (show w.heap.size + 1 ≤ LO by rw [hLO]; have := HZ4.out; have := HZ2.out; omega)
    have HHI := Lib.hid (show HI ≤ w5.heap.size by rw [hHI]; exact Nat.le_refl _)
    clear hbx tV bw hLO hHI hw5 r0 r1 c9 z0 z1
    go_wp2_with fail
    go_loopw [7] (fun i wr => ∃ k : Nat, k ≤ GS.length ∧ i = .int .i64 k ∧ wr.heap[w.heap.size]? = some (.cells #[.int .i64 0, .slice none 0 0] 39 (0, 0)) ∧ wr.heap[B]? = some (.cells #[.int .i64 (n : Int), .slice (some ⟨g, 0, none⟩) m c1'] 39 (0, 0)) ∧
        TabV LO HI wr (.slice (some ⟨g, 0, none⟩) m c1') vs0 (fillG (GS.take k) (vals.take k) xss) ∧ wr.ownsRow W2.heap.size 82 2 (.slice Au GS.length cu) GS.length (gcells GS) ∧ Below w.heap.size w wr ∧ HI ≤ wr.heap.size) (fun i _ => GS.length - (intOf i).toNat)
    case atStart => exact ⟨0, Nat.zero_le _, rfl, HRR5.out, HB5.out, HT5.out, HO5.out, B5.out, HHI.out⟩
    case round =>
      obtain ⟨k, hk, rfl, hrr, hc5, htab, hown, hbel, hhi⟩ := hrel
      obtain ⟨X, hX⟩ : ∃ X, X = fillG (GS.take k) (vals.take k) xss := ⟨_, rfl⟩
      rw [← hX] at htab
      have HX := Lib.hid hX
      have HR5 := Lib.hid hrr
      have H5 := Lib.hid hc5
      have HT := Lib.hid htab
      have HO := Lib.hid hown
      have HB := Lib.hid hbel
      have HHI2 := Lib.hid hhi
      obtain ⟨y0, y1, y2, y3⟩ := box2_cellsT hc5
      clear hX hrr hhi
      by_cases hlt : k < GS.length
      · obtain ⟨gg, rfl⟩ := ownK_addr hown (by omega)
        obtain ⟨⟨a1, a2⟩, hgk⟩ : ∃ p, GS[k]? = some p := ⟨_, List.getElem?_eq_getElem hlt⟩
        obtain ⟨val, hvk⟩ : ∃ x, vals[k]? = some x := ⟨_, List.getElem?_eq_getElem (by have := HV.out.1; have := HL.out; rw [← HGS.out] at this; omega)⟩
        obtain ⟨ha1, ha2⟩ : a1 < m ∧ a2 < n := by
          have h1 := gapsL_mem (show (a1, a2) ∈ gapsL xss m by rw [← HGS.out]; exact List.mem_of_getElem? hgk)
          exact ⟨h1.1, by rw [← (HG.out.at_ h1.1).1]; exact h1.2.1⟩
        have hXl : X.map List.length = xss.map List.length := by rw [HX.out, fillG_lens]
        obtain ⟨row, hrow, hrl⟩ : ∃ row, X[a1]? = some row ∧ row.length = n := by
          have h1 : (X.map List.length)[a1]? = some n := by rw [hXl, lens_good HG.out]; simp [ha1]
          rw [List.getElem?_map, Option.map_eq_some_iff] at h1
          exact h1
        have hXm : X.length = m := by have := congrArg List.length hXl; rw [List.length_map, List.length_map, HG.out.len] at this; exact this
        have e1 : wr.cell? ⟨gg, k * 2, none⟩ = some (.int .i64 (a1 : Int)) := (hown.cellAt (k * 2) (by omega)).trans (gcells_at GS k _ hgk).1
        have e2 : wr.cell? ⟨gg, k * 2 + 1, none⟩ = some (.int .i64 (a2 : Int)) := (hown.cellAt (k * 2 + 1) (by omega)).trans (gcells_at GS k _ hgk).2
        obtain ⟨g', u, hg', hu, hcu⟩ := htab.cell (r := a1) (by omega)
        have hgg : g' = g := by simpa using hg'.symm
        subst hgg
        have hri := htab.row a1 u row hu hrow
        obtain ⟨A3, c3, rfl⟩ := hri.form
        obtain ⟨gr, rfl⟩ := own_addr hri.1 (by omega)
        obtain ⟨z, hz⟩ : ∃ z, wr.cell? ⟨gr, a2, none⟩ = some z := ⟨_, (hri.1.cellAt a2 (by omega)).trans (List.getElem?_eq_getElem (by rw [List.length_map]; omega))⟩
        have hfz : wr.frozen? ⟨gr, a2, none⟩ = false := hri.1.frozenAt a2
        have hVw := HV.out.below hbel
        obtain ⟨val', bv, ov, hv', rfl, hcv⟩ := hVw.at_ (k := k) (by have := HL.out; rw [← HGS.out] at this; omega)
        rw [hvk] at hv'
        obtain rfl := Option.some.inj hv'
        have hg30 : GS.length ≤ 30 := by rw [HGS.out]; have := HGL.out; omega
        have i1 : (0 : Int) ≤ (k : Int) := by omega
        have i2 : (k : Int) < (GS.length : Int) := by omega
        have i3 : (0 : Int) ≤ (a1 : Int) := by omega
        have i4 : (a1 : Int) < (m : Int) := by omega
        have i5 : (0 : Int) ≤ (a2 : Int) := by omega
        have i6 : (a2 : Int) < (n : Int) := by omega
        have i7 : (k : Int) < (l : Int) := by have := HL.out; rw [← HGS.out] at this; omega
        rw [hrl] at hcu
        have HNB := Lib.hid (show gr ≠ B from fun e => own_typeT hri.1 hc5 (by decide) (by rw [← e]; rfl))
        have HNG := Lib.hid (show gg ≠ gr from fun e => by
          obtain ⟨_, h2⟩ := hown
          rcases h2 with ⟨h2, _⟩ | ⟨q, cap', cur, h2, _, hq, _⟩
          · cases h2
          · simp at h2
            exact own_typeT hri.1 (z := gg) (by rw [h2.1]; exact hq) (by decide) (by rw [e]; rfl))
        have HRI := Lib.hid hri
        have HU := Lib.hid hu
        have HROW := Lib.hid hrow
        have HRL := Lib.hid hrl
        have HXM := Lib.hid hXm
        have HGK := Lib.hid hgk
        have HVK := Lib.hid hvk
        clear hri hu hrow hrl hXm hgk hvk hVw hXl htab hc5 hg' hown hbel
        go_wp2_with fail
        go_still_tail 19, (by kernel_rfl)
        obtain ⟨W5, hW5⟩ : ∃ W5, W5 = wr.drew := ⟨_, rfl⟩
        have b5 : Below wr.heap.size wr W5 := by rw [hW5]; exact below_drewN' (Below.refl _ _) 1
        have hzd : W5.cell? ⟨gr, a2, none⟩ = some z := by rw [hW5]; exact hz
        have hfd : W5.frozen? ⟨gr, a2, none⟩ = false := by rw [hW5]; exact hfz
        have HB6 := Lib.hid b5
        change wpList _ _ _ _ _ wr.drew
        rw [← hW5]
        clear hW5 b5 e1 e2 y0 y1 y2 y3 hz hfz hcv hcu
        go_wp2_with fail
        go_roundw
        case rel =>
          have h5 := HB6.out
          have hrb := HRI.out.1.lt gr rfl
          have hlo := HLO.out
          have hnb := HNB.out
          have hng := HNG.out
          have hst := (own_below HRI.out.1 h5).stored a2 (.int .i64 val)
          have hgo := ownK_below HO.out h5
          refine ⟨k + 1, by omega, by go_num, ?_, ?_, ?_, hgo.kept hst.2 (.inr (fun e => hng (by simpa [Value.ownBlock] using e))), (below_then HB.out h5).setCell (by simp; omega) _, by rw [World.size_setCell]; exact Nat.le_trans HHI2.out h5.size⟩
          · rw [heap_setCell_other W5 ⟨gr, a2, none⟩ _ _ (by simp; omega)]
            exact (h5.block _ (block_lt HR5.out)).trans HR5.out
          · rw [heap_setCell_other W5 ⟨gr, a2, none⟩ _ _ (by simp; omega)]
            exact (h5.block _ (block_lt H5.out)).trans H5.out
          · rw [fillG_snoc GS vals _ k (a1, a2) val HGK.out HVK.out, ← HX.out]
            unfold stL
            rw [List.getD_eq_getElem?_getD, HROW.out, Option.getD_some]
            refine TabV.set (HT.out.below h5) HU.out HROW.out hst.2 ⟨?_, HRI.out.2⟩
            rw [List.length_set, List.map_set]
            exact hst.1
        case measure => simp [intOf]; omega
      · have hkl : k = GS.length := by omega
        have HKL := Lib.hid hkl
        obtain ⟨r0, r1, r2, r3⟩ := box2_cellsT HR5.out
        obtain ⟨g2, g3⟩ := box2_setT HR5.out (.int .i64 (n : Int)) (.slice (some ⟨g, 0, none⟩) m c1')
        clear hkl htab hown hbel
        go_wp2_with fail
        refine bodyPost_ret (v := .agg #[.int .i64 (n : Int), .slice (some ⟨g, 0, none⟩) m c1']) (by simp [results, Try.results72, go_sem, g2, g3]) rfl ?_
        refine ⟨_, rfl, ?_, (HB.out.setCell (by simp) _).setCell (by simp) _⟩
        rw [set2_sizeT]
        have ht := HT.out
        rw [HX.out, HKL.out, List.take_of_length_le (Nat.le_refl _), List.take_of_length_le (by rw [HV.out.1, HL.out, HGS.out]; exact Nat.le_refl _), HGS.out] at ht
        have hlo := HLO.out
        exact (TabIn.only ⟨vs0, ht⟩ (set2_onlyT _ _ _ _) (.inr (by omega))).wide (by omega) HHI2.out

theorem in_below (s x : Int) : inB 0 (s - 1) x = belowB s x := by
  unfold inB belowB
  congr 1
  exact propext ⟨fun h => by omega, fun h => by omega⟩

set_option maxRecDepth 100000 in
set_option maxHeartbeats 4000000 in
theorem specFillGaps_any (s : Int) (A : Option Addr) (m cap : Nat) (xss : List (List Int)) (A2 : Option Addr) (l cap2 : Nat) (vals : List Int) (w : World) (h : RowsAt w A m xss) (hm : m ≤ 4611686018427387904)
    (hrows : ∀ (r : Nat) (xs : List Int), xss[r]? = some xs → xs.length ≤ 4611686018427387904) (hv : NumsAt w A2 l vals) (hl : l ≤ 4611686018427387904) :
    Calls Try.prog 28 #[.agg #[.int .i64 s, .slice A m cap], .slice A2 l cap2] w (AutosTo (fillGaps s xss vals) w) := by
  have HR := Lib.hid hrows
  have HM := Lib.hid h.1
  obtain ⟨W2, hW2⟩ : ∃ W2, W2 = (w.alloc (.cells #[.int .i64 s, .slice A m cap] 27)).alloc (.cells #[.int .i64 0, .slice none 0 0] 39) := ⟨_, rfl⟩
  have b2 : Below w.heap.size w W2 := by rw [hW2]; go_grown
  have x0 : W2.cell? ⟨w.heap.size, 0, none⟩ = some (.int .i64 s) := by rw [hW2]; go_cell
  have x1 : W2.cell? ⟨w.heap.size, 1, none⟩ = some (.slice A m cap) := by rw [hW2]; go_cell
  have xr : W2.heap[w.heap.size + 1]? = some (.cells #[.int .i64 0, .slice none 0 0] 39 (0, 0)) := by
    have := heap_alloc_new (w.alloc (.cells #[.int .i64 s, .slice A m cap] 27)) (.cells #[.int .i64 0, .slice none 0 0] 39)
    rw [World.size_alloc, ← hW2] at this
    exact this
  have B2 := Lib.hid b2
  have H2 := Lib.hid (h.below b2)
  have V2 := Lib.hid (hv.below b2)
  have XR := Lib.hid xr
  have HW2 := Lib.hid hW2
  have HVL := Lib.hid hv.1
  clear hrows b2 xr hW2
  go_enter Try.func28, Try.ntmps28
  go_wp2_with fail
  rw [← HW2.out]
  refine (l04Ok_any w.heap.size s A m cap xss _ x0 x1 H2.out hm HR.out).mono ?_
  rcases hok : okP s xss with _ | _
  · have HF := Lib.hid (fillGaps_1 (vals := vals) hok)
    rintro e w1 ⟨rfl, d, hw1⟩
    have b1 : Below W2.heap.size W2 w1 := by rw [hw1]; exact below_drewN' (Below.refl _ _) d
    have xr := (b1.block _ (block_lt XR.out)).trans XR.out
    obtain ⟨e0, e1, e2, e3⟩ := box2_cellsT xr
    have B1 := Lib.hid (below_then B2.out b1)
    obtain ⟨g2, g3⟩ := box2_setT xr (.int .i64 0) (.slice none 0 0)
    clear b1 xr x0 x1 hw1
    go_wp2_with fail
    refine bodyPost_ret (v := .tuple #[.agg #[.int .i64 0, .slice none 0 0], .int .i64 1]) (by simp [results, Try.results28, go_sem, g2, g3]) rfl ?_
    exact autosTo_mk HF.out (tab_nil _ _ _) ((B1.out.setCell (by simp; try omega) _).setCell (by simp; try omega) _)
  · obtain ⟨n, hsn, hg⟩ := goodP_of hok HM.out
    subst hsn
    have HG := Lib.hid hg
    have hm3 : m ≤ 3 := hg.m3
    have hn10 : n ≤ 10 := hg.n10
    have HGL := Lib.hid (gapsL_len hg m (Nat.le_refl _))
    have HSUB := Lib.hid (show IntKind.i64.wrap ((n : Int) - 1) = (n : Int) - 1 from IntWalk.i64_in _ (by omega))
    clear hg
    rintro e w1 ⟨rfl, d, hw1⟩
    have b1 : Below W2.heap.size W2 w1 := by rw [hw1]; exact below_drewN' (Below.refl _ _) d
    have x0' : w1.cell? ⟨w.heap.size, 0, none⟩ = some (.int .i64 (n : Int)) := (b1.cell (cell_lt x0)).trans x0
    have x1' : w1.cell? ⟨w.heap.size, 1, none⟩ = some (.slice A m cap) := (b1.cell (cell_lt x1)).trans x1
    have XR1 := Lib.hid ((b1.block _ (block_lt XR.out)).trans XR.out)
    have H1 := Lib.hid (H2.out.below b1)
    have V1 := Lib.hid (V2.out.below b1)
    have B1 := Lib.hid (below_then B2.out b1)
    clear b1 x0 x1 hw1
    go_wp2_with fail
    refine (l04Gaps_any w.heap.size A n m cap xss w1 HG.out x1' H1.out).mono ?_
    rintro e w2 ⟨u, rfl, o2, b2⟩
    obtain ⟨GS, hGS⟩ : ∃ GS, GS = gapsL xss m := ⟨_, rfl⟩
    rw [← hGS] at o2
    obtain ⟨Au, cu, rfl⟩ := ownK_form o2
    have HGS := Lib.hid hGS
    have Y0 := Lib.hid ((b2.cell (cell_lt x0')).trans x0')
    have Y1 := Lib.hid ((b2.cell (cell_lt x1')).trans x1')
    have XR2 := Lib.hid ((b2.block _ (block_lt XR1.out)).trans XR1.out)
    have H3 := Lib.hid (H1.out.below b2)
    have V3 := Lib.hid (V1.out.below b2)
    have B3 := Lib.hid (below_then B1.out b2)
    clear b2 o2 hGS x0' x1'
    by_cases hlen : l = GS.length
    · have hne : ((l : Int) != (GS.length : Int)) = false := by simp [hlen]
      have HLEN := Lib.hid hlen
      have hl30 : l ≤ 30 := by rw [hlen, HGS.out]; have := HGL.out; omega
      clear hlen
      go_wp2_with fail
      clear hne
      go_loopw [6] (fun i wr => ∃ k d : Nat, k ≤ l ∧ i = .int .i64 k ∧ wr = w2.drewN d ∧ (vals.take k).all (belowB (n : Int)) = true) (fun i _ => l - (intOf i).toNat)
      case atStart => exact ⟨0, 0, Nat.zero_le _, rfl, rfl, by simp⟩
      case round =>
        obtain ⟨k, d, hk, rfl, hw, hall⟩ := hrel
        have HA := Lib.hid hall
        have bw : Below w2.heap.size w2 wr := by rw [hw]; exact below_drewN' (Below.refl _ _) d
        have HW := Lib.hid hw
        have HBW := Lib.hid bw
        have hV := V3.out.below bw
        have xr := (bw.block _ (block_lt XR2.out)).trans XR2.out
        have XR3 := Lib.hid xr
        have y0 : wr.cell? ⟨w.heap.size, 0, none⟩ = some (.int .i64 (n : Int)) := (bw.cell (cell_lt Y0.out)).trans Y0.out
        have y1 : wr.cell? ⟨w.heap.size, 1, none⟩ = some (.slice A m cap) := (bw.cell (cell_lt Y1.out)).trans Y1.out
        clear hall hw bw
        by_cases hlt : k < l
        · obtain ⟨x, b, off, hx, rfl, hc⟩ := hV.at_ hlt
          have HX := Lib.hid hx
          have hk0 : (0 : Int) ≤ (k : Int) := by omega
          have hkl : (k : Int) < (l : Int) := by omega
          have hsub := HSUB.out
          clear hx hV xr y1
          rcases hb : inB 0 ((n : Int) - 1) x with _ | _
          · have HB := Lib.hid hb
            go_wp2_with fail
            go_quiet ((go_at_call 71; exact quiet_eq (l00In_any _ _ _ _)))
            have hbl : belowB (n : Int) x = false := by rw [← in_below]; exact HB.out
            have HF := Lib.hid (fillGaps_2 (vals := vals) hok (fun hc => by rw [all_stop HX.out hbl] at hc; exact absurd hc.2 (by simp)))
            obtain ⟨W7, hW7⟩ : ∃ W7, W7 = wr.drewN nq := ⟨_, rfl⟩
            have b7 : Below wr.heap.size wr W7 := by rw [hW7]; exact below_drewN' (Below.refl _ _) _
            rw [← hW7]
            have xr7 := (b7.block _ (block_lt XR3.out)).trans XR3.out
            have B7 := Lib.hid (below_then (below_then B3.out HBW.out) b7)
            obtain ⟨e0, e1, e2, e3⟩ := box2_cellsT xr7
            obtain ⟨g2, g3⟩ := box2_setT xr7 (.int .i64 0) (.slice none 0 0)
            clear hsub y0 hc hb hbl hW7 b7 xr7
            go_wp2_with fail
            refine bodyPost_ret (v := .tuple #[.agg #[.int .i64 0, .slice none 0 0], .int .i64 2]) (by simp [results, Try.results28, go_sem, g2, g3]) rfl ?_
            exact autosTo_mk HF.out (tab_nil _ _ _) ((B7.out.setCell (by simp; try omega) _).setCell (by simp; try omega) _)
          · have HB := Lib.hid hb
            go_wp2_with fail
            go_quiet ((go_at_call 71; exact quiet_eq (l00In_any _ _ _ _)))
            clear hsub
            go_wp2_with fail
            go_roundw
            case rel => exact ⟨k + 1, _, by omega, by go_num, by rw [HW.out, World.drewN_drewN], all_snoc HA.out HX.out (by rw [← in_below]; exact HB.out)⟩
            case measure => simp [intOf]; omega
        · have hkl : k = l := by omega
          have HKL := Lib.hid hkl
          clear hkl xr hV
          have hall : vals.all (belowB (n : Int)) = true := all_done HVL.out (by rw [← HKL.out]; exact HA.out)
          have HF := Lib.hid (fillGaps_0 (vals := vals) hok (by rw [HVL.out, HLEN.out, HGS.out, HM.out]) hall)
          clear hall
          go_wp2_with fail
          refine (l04Fill_any w.heap.size A A2 n m cap l cap2 xss vals wr HG.out y0 y1 (H3.out.below HBW.out) (V3.out.below HBW.out) (by rw [HLEN.out, HGS.out])).mono ?_
          rintro e w3 ⟨v, rfl, t3, b3⟩
          have XR4 := Lib.hid ((b3.block _ (block_lt XR3.out)).trans XR3.out)
          have B4 := Lib.hid (below_then (below_then B3.out HBW.out) b3)
          obtain ⟨Y, hY⟩ : ∃ Y, Y = fillG (gapsL xss m) vals xss := ⟨_, rfl⟩
          rw [← hY] at t3
          obtain ⟨Av, cv, rfl⟩ := t3.form
          have HY := Lib.hid hY
          have HT := Lib.hid t3
          have HLO := Lib.hid (show w.heap.size + 1 < wr.heap.size from block_lt XR3.out)
          clear y0 y1 t3 b3 hY
          obtain ⟨e0, e1, e2, e3⟩ := box2_cellsT XR4.out
          obtain ⟨g2, g3⟩ := box2_setT XR4.out (.int .i64 (n : Int)) (.slice Av Y.length cv)
          go_wp2_with fail
          refine bodyPost_ret (v := .tuple #[.agg #[.int .i64 (n : Int), .slice Av Y.length cv], .int .i64 0]) (by simp [results, Try.results28, go_sem, g2, g3]) rfl ?_
          refine autosTo_mk HF.out ?_ ((B4.out.setCell (by simp) _).setCell (by simp) _)
          rw [set2_sizeT, HM.out, ← HY.out]
          have hlo := HLO.out
          exact (HT.out.only (set2_onlyT _ _ _ _) (.inr (by omega))).wide (by omega) (Nat.le_refl _)
    · have hne : ((l : Int) != (GS.length : Int)) = true := by simp; omega
      have HF := Lib.hid (fillGaps_2 (vals := vals) hok (fun hc => hlen (by rw [← HVL.out, hc.1, HM.out, HGS.out])))
      obtain ⟨e0, e1, e2, e3⟩ := box2_cellsT XR2.out
      obtain ⟨g2, g3⟩ := box2_setT XR2.out (.int .i64 0) (.slice none 0 0)
      clear hlen
      go_wp2_with fail
      refine bodyPost_ret (v := .tuple #[.agg #[.int .i64 0, .slice none 0 0], .int .i64 2]) (by simp [results, Try.results28, go_sem, g2, g3]) rfl ?_
      exact autosTo_mk HF.out (tab_nil _ _ _) ((B3.out.setCell (by simp; try omega) _).setCell (by simp; try omega) _)

end Go.Proofs.Ytikimfncpemmkaa
