/-
  Letters exchanged at a state: the contract of the program's SwapColours.
-/
import Derived.Test.YtkhhemlfahdbnabSwap
import Derived.Test.YtkhhemlfahdbnabFloat
namespace Go.Proofs.Ytkhhemlfahdbnab
open Go.RowKit Go.Deep Go.ChangeShapes Go.WideShapes

set_option maxRecDepth 100000 in
set_option maxHeartbeats 8000000 in
theorem implSwapColours_any (s : Int) (A : Option Addr) (m cap : Nat) (xss : List (List Int)) (q x y : Int) (w : World) (h : RowsAt w A m xss) (hm : m ≤ 4611686018427387904)
    (hrows : ∀ (r : Nat) (xs : List Int), xss[r]? = some xs → xs.length ≤ 4611686018427387904) :
    Calls Try.prog 33 #[.agg #[.int .i64 s, .slice A m cap], .int .i64 q, .int .i64 x, .int .i64 y] w (AutosTo (swapColours s xss q x y) w) := by
  have HR := Lib.hid hrows
  have HM := Lib.hid h.1
  obtain ⟨i1, hi1, hy0, hy1, hy2⟩ := info_parts info_ints
  obtain ⟨W2, hW2⟩ : ∃ W2, W2 = (w.alloc (.cells #[.int .i64 s, .slice A m cap] 33)).alloc (.cells #[.int .i64 0, .slice none 0 0] 33) := ⟨_, rfl⟩
  have b2 : Below w.heap.size w W2 := by rw [hW2]; go_grown
  have x0 : W2.cell? ⟨w.heap.size, 0, none⟩ = some (.int .i64 s) := by rw [hW2]; go_cell
  have x1 : W2.cell? ⟨w.heap.size, 1, none⟩ = some (.slice A m cap) := by rw [hW2]; go_cell
  have xr : W2.heap[w.heap.size + 1]? = some (.cells #[.int .i64 0, .slice none 0 0] 33 (0, 0)) := by
    have := heap_alloc_new (w.alloc (.cells #[.int .i64 s, .slice A m cap] 33)) (.cells #[.int .i64 0, .slice none 0 0] 33)
    rw [World.size_alloc, ← hW2] at this
    exact this
  have B2 := Lib.hid b2
  have H2 := Lib.hid (h.below b2)
  have XR := Lib.hid xr
  have HW2 := Lib.hid hW2
  clear hrows b2 xr hW2
  go_enter Try.func33, Try.ntmps33
  go_wp2_with fail
  rw [← HW2.out]
  refine (implValid_any s A m cap xss _ H2.out hm HR.out).mono ?_
  rcases hok : okA s xss with _ | _
  · have HF := Lib.hid (swapColours_1 (q := q) (x := x) (y := y) hok)
    rintro e w1 ⟨rfl, b1⟩
    have xr := (b1.block _ (block_lt XR.out)).trans XR.out
    obtain ⟨e0, e1, e2, e3⟩ := box2_cellsR xr
    have B1 := Lib.hid (below_then B2.out b1)
    obtain ⟨g2, g3⟩ := box2_setR xr (.int .i64 0) (.slice none 0 0)
    clear b1 xr x0 x1
    go_wp2_with fail
    refine bodyPost_ret (v := .tuple #[.agg #[.int .i64 0, .slice none 0 0], .int .i64 1]) (by simp [results, Try.results33, go_sem, g2, g3]) rfl ?_
    exact autosTo_mk HF.out (tab_nil _ _ _) ((B1.out.setCell (by simp; try omega) _).setCell (by simp; try omega) _)
  · obtain ⟨n, hsn, hg⟩ := good_of hok HM.out
    subst hsn
    have HG := Lib.hid hg
    have hn1 : 1 ≤ n := hg.n1
    have hn10 : n ≤ 10 := hg.n10
    have hm1 : 1 ≤ m := hg.m1
    have hm3 : m ≤ 3 := hg.m3
    clear hg
    rintro e w1 ⟨rfl, b1⟩
    have x0' : w1.cell? ⟨w.heap.size, 0, none⟩ = some (.int .i64 (n : Int)) := (b1.cell (cell_lt x0)).trans x0
    have x1' : w1.cell? ⟨w.heap.size, 1, none⟩ = some (.slice A m cap) := (b1.cell (cell_lt x1)).trans x1
    have xr := (b1.block _ (block_lt XR.out)).trans XR.out
    have H1 := Lib.hid (H2.out.below b1)
    have B1 := Lib.hid (below_then B2.out b1)
    have XR1 := Lib.hid xr
    obtain ⟨e0, e1, e2, e3⟩ := box2_cellsR xr
    obtain ⟨g2, g3⟩ := box2_setR xr (.int .i64 0) (.slice none 0 0)
    have HOK := Lib.hid hok
    clear b1 xr x0 x1 hok
    rcases htq : belowB (n : Int) q with _ | _
    · have HF := Lib.hid (swapColours_2 (q := q) (x := x) (y := y) HOK.out HM.out (by unfold swB; simp [htq]))
      go_wp2_with (go_at_call 77; refine (isBelow_any _ _ _).mono ?_; rintro e w' ⟨rfl, rfl⟩)
      refine bodyPost_ret (v := .tuple #[.agg #[.int .i64 0, .slice none 0 0], .int .i64 2]) (by simp [results, Try.results33, go_sem, g2, g3]) rfl ?_
      exact autosTo_mk HF.out (tab_nil _ _ _) ((B1.out.setCell (by simp; try omega) _).setCell (by simp; try omega) _)
    · skip
      rcases htx : belowB (m : Int) x with _ | _
      · have HF := Lib.hid (swapColours_2 (q := q) (x := x) (y := y) HOK.out HM.out (by unfold swB; simp [htq, htx]))
        go_wp2_with (go_at_call 77; refine (isBelow_any _ _ _).mono ?_; rintro e w' ⟨rfl, rfl⟩)
        refine bodyPost_ret (v := .tuple #[.agg #[.int .i64 0, .slice none 0 0], .int .i64 2]) (by simp [results, Try.results33, go_sem, g2, g3]) rfl ?_
        exact autosTo_mk HF.out (tab_nil _ _ _) ((B1.out.setCell (by simp; try omega) _).setCell (by simp; try omega) _)
      · skip
        rcases hty : belowB (m : Int) y with _ | _
        · have HF := Lib.hid (swapColours_2 (q := q) (x := x) (y := y) HOK.out HM.out (by unfold swB; simp [htq, htx, hty]))
          go_wp2_with (go_at_call 77; refine (isBelow_any _ _ _).mono ?_; rintro e w' ⟨rfl, rfl⟩)
          refine bodyPost_ret (v := .tuple #[.agg #[.int .i64 0, .slice none 0 0], .int .i64 2]) (by simp [results, Try.results33, go_sem, g2, g3]) rfl ?_
          exact autosTo_mk HF.out (tab_nil _ _ _) ((B1.out.setCell (by simp; try omega) _).setCell (by simp; try omega) _)
        · skip
          have HSW := Lib.hid (show swB (n : Int) m q x y = true by unfold swB; simp [htq, htx, hty])
          obtain ⟨hq0, hqn⟩ : 0 ≤ q ∧ q < (n : Int) := by simpa [belowB] using htq
          obtain ⟨hx0, hxm⟩ : 0 ≤ x ∧ x < (m : Int) := by simpa [belowB] using htx
          obtain ⟨hy0', hym⟩ : 0 ≤ y ∧ y < (m : Int) := by simpa [belowB] using hty
          obtain ⟨q, rfl⟩ : ∃ k : Nat, q = (k : Int) := ⟨q.toNat, by omega⟩
          obtain ⟨x, rfl⟩ : ∃ k : Nat, x = (k : Int) := ⟨x.toNat, by omega⟩
          obtain ⟨y, rfl⟩ : ∃ k : Nat, y = (k : Int) := ⟨y.toNat, by omega⟩
          have HF := Lib.hid (swapColours_0 HOK.out HM.out HSW.out)
          obtain ⟨OB, hOB⟩ : ∃ OB, OB = w1.heap.size := ⟨_, rfl⟩
          have hRB : w.heap.size + 1 < OB := by rw [hOB]; exact block_lt XR1.out
          obtain ⟨w3, hw3⟩ : ∃ w3, w3 = w1.alloc (.cells #[.int .i64 (n : Int), .slice none 0 0] 33) := ⟨_, rfl⟩
          have b3 : Below w1.heap.size w1 w3 := by rw [hw3]; exact (Below.refl _ _).alloc (Nat.le_refl _) _
          have xo : w3.heap[OB]? = some (.cells #[.int .i64 (n : Int), .slice none 0 0] 33 (0, 0)) := by rw [hw3, hOB]; exact heap_alloc_new _ _
          have HXO := Lib.hid xo
          have HXR := Lib.hid ((b3.block _ (block_lt XR1.out)).trans XR1.out)
          have HRB := Lib.hid hRB
          have C1 := Lib.hid x1'
          have HBW1 := Lib.hid b3
          have HOB1 := Lib.hid hOB
          clear g2 g3 e0 e1 e2 e3 xo hRB b3
          have hcA : ∀ o, (w1.alloc o).cell? ⟨w.heap.size, 1, none⟩ = some (.slice A m cap) := fun o => (((Below.refl _ _).alloc (Nat.le_refl _) o).cell (cell_lt x1')).trans x1'
          go_wp2_with (go_at_call 77; refine (isBelow_any _ _ _).mono ?_; rintro e w' ⟨rfl, rfl⟩)
          rw [← hw3, ← hOB]
          clear hw3 hOB x0' x1' htq htx hty hcA
          go_loopw [45] (fun i wr => ∃ (k : Nat) (v : Value) (vs : List Value), k ≤ m ∧ i = .int .i64 k ∧ wr.heap[w.heap.size + 1]? = some (.cells #[.int .i64 0, .slice none 0 0] 33 (0, 0)) ∧ wr.heap[OB]? = some (.cells #[.int .i64 (n : Int), v] 33 (0, 0)) ∧
              TabV (OB + 1) wr.heap.size wr v vs (xss.take k) ∧ Below w1.heap.size w1 wr) (fun i _ => m - (intOf i).toNat)
          case atStart => exact ⟨0, .slice none 0 0, [], Nat.zero_le _, rfl, HXR.out, HXO.out, by rw [List.take_zero]; exact tabV_nil _ _ _, HBW1.out⟩
          case round =>
            obtain ⟨k, v, vs, hk, rfl, hxr, hxo, htab, hbel⟩ := hrel
            obtain ⟨Y, hY⟩ : ∃ Y, Y = xss.take k := ⟨_, rfl⟩
            rw [← hY] at htab
            obtain ⟨A3, c3, rfl⟩ := own_form htab.out
            have HY := Lib.hid hY
            have HYL := Lib.hid (show Y.length = k by rw [hY, List.length_take, HM.out]; omega)
            have X1 := Lib.hid hxr
            have X2 := Lib.hid hxo
            have HT := Lib.hid htab
            have HB := Lib.hid hbel
            have y1 : wr.cell? ⟨w.heap.size, 1, none⟩ = some (.slice A m cap) := (hbel.cell (cell_lt C1.out)).trans C1.out
            have HY1 := Lib.hid y1
            clear hxr hxo htab hY
            by_cases hlt : k < m
            · have ik1 : (k : Int) < (m : Int) := by omega
              obtain ⟨xs, b4, off4, A7, c7, hr, hA, hcr, hnum⟩ := (H1.out.below hbel).at_ hlt
              subst hA
              have hxl : xs.length = n := (HG.out.rows k xs hr).1
              have HXS := Lib.hid hr
              have HXL := Lib.hid hxl
              have HNUM := Lib.hid hnum
              rw [hxl] at hcr
              obtain ⟨b5, off5, hA7, _⟩ := nums_base hnum (by omega)
              subst hA7
              obtain ⟨_, b1, _, f1⟩ := box2_cellsR X2.out
              have KO := Lib.hid (show ∀ W', Below wr.heap.size wr W' → W'.cell? ⟨OB, 1, none⟩ = some (.slice A3 Y.length c3) from fun W' hb => (hb.cell (cell_lt b1)).trans b1)
              have KF := Lib.hid (show ∀ W', Below wr.heap.size wr W' → W'.frozen? ⟨OB, 1, none⟩ = false from fun W' hb => (hb.frozen (cell_lt b1)).trans f1)
              have KP := Lib.hid (show ∀ W', Below wr.heap.size wr W' → W'.cell? ⟨w.heap.size, 1, none⟩ = some (.slice (some ⟨b4, off4, none⟩) m cap) from fun W' hb => (hb.cell (cell_lt y1)).trans y1)
              have KR := Lib.hid (show ∀ W', Below wr.heap.size wr W' → W'.cell? ⟨b4, off4 + k, none⟩ = some (.slice (some ⟨b5, off5, none⟩) n c7) from fun W' hb => (hb.cell (cell_lt hcr)).trans hcr)
              have HON := Lib.hid (fun q' (hq' : (Value.slice A3 Y.length c3).ownBlock = some q') => (HT.out.out.lt q' hq').1)
              have HRW := Lib.hid (block_lt X2.out)
              have hrl : Y.length ≤ 10 := by rw [HYL.out]; omega
              have h9 : Below wr.heap.size wr wr := Below.refl _ _
              clear hr hxl hnum hbel f1
              go_wp2_with fail
              go_region_law
                (first
                  | (refine step_append_lies _ rfl _ _ 22 rfl (OB + 1) 64 i1 (.slice none 0 0) 1 24 Try.underlying22 hi1 hy0 hy1 hy2 rfl (by decide) _ _ _ rfl (own_below HTB.out.out (by first | exact (Below.refl _ _).alloc (Nat.le_refl _) _ | exact ((Below.refl _ _).alloc (Nat.le_refl _) _).drew | exact (Below.refl _ _).drew.alloc (Nat.le_refl _) _)) ⟨_, 0, none⟩ 1 1 [.slice AB n cB] rfl rfl (cell_one_new _ _ _) (by simp [Value.oneCell']) (by decide) (by unfold maxLen; omega) (by omega) (by have := HLB.out; simp; omega) _ rfl ?_; intro g6 cap6 w6 hown6 hgrow6 hat6 hlt6; have hgr6 : (wB.alloc (.cells #[.slice AB n cB] 64)).grownBy w6 (Value.slice A3 Y.length c3).ownBlock := ⟨hgrow6.os, hgrow6.tape, hgrow6.output, hgrow6.size, hgrow6.block⟩; have c6 : w6.cell? ⟨OB, 1, none⟩ = some (.slice A3 Y.length c3) := (hgr6.cell_far ⟨OB, 1, none⟩ (by have := HLB.out; simp; omega) (fun e => by have := HON.out _ e.symm; simp at this; omega)).trans (qB _); have f6 : w6.frozen? ⟨OB, 1, none⟩ = false := (hgr6.frozen_far ⟨OB, 1, none⟩ (by have := HLB.out; simp; omega) (fun e => by have := HON.out _ e.symm; simp at this; omega)).trans (fB _); have HG6 := Lib.hid hgr6; have HO6 := Lib.hid hown6; have HAT6 := Lib.hid hat6; clear hown6 hgrow6 hat6 hlt6 hgr6)
                  | (go_simp; go_at_call 92; refine (clone_any b5 off5 n c7 xs _ (by have e := HXL.out; first | exact e ▸ (HNUM.out) | exact e ▸ (HNUM.out.below (by first | exact h9.drew | exact below_drewN' h9 _))) (by omega)).mono ?_; rintro e' wB ⟨uB, rfl, oB, bB⟩; obtain ⟨AB, cB, rfl⟩ := own_form oB; have hB : Below wr.heap.size wr wB := below_then (by first | exact h9 | exact h9.drew | exact below_drewN' h9 _) bB; have OW := Lib.hid (own_base oB (show wr.heap.size ≤ _ from by first | exact Nat.le_refl _ | (simp; done))); have qcB := KO.out _ hB; have qB : ∀ o, (wB.alloc o).cell? ⟨OB, 1, none⟩ = some (.slice A3 Y.length c3) := fun o => KO.out _ (hB.alloc hB.size o); have fB : ∀ o, (wB.alloc o).frozen? ⟨OB, 1, none⟩ = false := fun o => KF.out _ (hB.alloc hB.size o); have HTB := Lib.hid (HT.out.below hB); have HLB := Lib.hid (show OB + 1 ≤ wB.heap.size from Nat.le_trans HRW.out hB.size); clear oB bB)
                  | fail)
              all_goals
                have hrow : IntsIn wr.heap.size wB.heap.size wB (.slice AB n cB) xs := ⟨by rw [HXL.out]; exact OW.out, fun q hq => (OW.out.lt q hq).2⟩
                have ba5 : Below wB.heap.size wB (wB.alloc (.cells #[.slice AB n cB] 64)) := (Below.refl _ _).alloc (Nat.le_refl _) _
                have hat := HAT6.out
                have htab2 := TabV.snoc (HTB.out.below ba5) (hrow.below ba5) HO6.out HG6.out (hat.elim (fun e => .inl e.symm) (fun e => .inr (by rw [e]; rfl))) HRW.out (Nat.le_refl _) ba5.size
                rw [HY.out, ← take_snoc HXS.out] at htab2
                have hs6 := only_setCell w6 OB 1 (.slice (some ⟨g6, 0, none⟩) (Y.length + 1) cap6)
                have HS1 := Lib.hid (show TabV (OB + 1) (w6.setCell ⟨OB, 1, none⟩ (.slice (some ⟨g6, 0, none⟩) (Y.length + 1) cap6)).heap.size (w6.setCell ⟨OB, 1, none⟩ (.slice (some ⟨g6, 0, none⟩) (Y.length + 1) cap6)) (.slice (some ⟨g6, 0, none⟩) (Y.length + 1) cap6) (vs ++ [.slice AB n cB]) (xss.take (k + 1)) by rw [World.size_setCell]; exact (HY.out ▸ htab2).only hs6 (.inr (Nat.le_refl _)))
                have hrb := HRB.out
                have hp6 : ∀ z (c : Obj), wr.heap[z]? = some c → z < OB + 1 → w6.heap[z]? = some c := fun z c hc hz => by
                  have h1 := block_lt hc
                  have h5s := hB.size
                  exact (HG6.out.block z (Nat.lt_of_lt_of_le (Nat.lt_of_lt_of_le h1 h5s) ba5.size) (fun e => by have := HON.out z e.symm; omega)).trans ((ba5.block z (Nat.lt_of_lt_of_le h1 h5s)).trans ((hB.block z h1).trans hc))
                have HS2 := Lib.hid (show (w6.setCell ⟨OB, 1, none⟩ (.slice (some ⟨g6, 0, none⟩) (Y.length + 1) cap6)).heap[w.heap.size + 1]? = some (.cells #[.int .i64 0, .slice none 0 0] 33 (0, 0)) by
                  rw [heap_setCell_other w6 ⟨OB, 1, none⟩ _ _ (by simp; omega)]
                  exact hp6 _ _ X1.out (by omega))
                have HS3 := Lib.hid (show (w6.setCell ⟨OB, 1, none⟩ (.slice (some ⟨g6, 0, none⟩) (Y.length + 1) cap6)).heap[OB]? = some (.cells #[.int .i64 (n : Int), .slice (some ⟨g6, 0, none⟩) (Y.length + 1) cap6] 33 (0, 0)) by
                  rw [heap_setCell_same w6 OB 1 _ _ _ (hp6 _ _ X2.out (by omega))]; rfl)
                have hbb := below_then HB.out hB
                have hob1 := HOB1.out
                have HS4 := Lib.hid (show Below w1.heap.size w1 (w6.setCell ⟨OB, 1, none⟩ (.slice (some ⟨g6, 0, none⟩) (Y.length + 1) cap6)) from ((below_then hbb ba5).grown HG6.out (below_then hbb ba5).size (fun q' hq' => by have := HON.out q' hq'; omega)).setCell (by simp; omega) _)
                clear hrow ba5 hat htab2 hs6 hrb hp6 hbb c6 f6 qB fB qcB b1 hB h9 hob1 y1 hcr
                go_wp2_with fail
                go_roundw
                case rel => exact ⟨k + 1, _, _, by omega, by go_num, HS2.out, HS3.out, HS1.out, HS4.out⟩
                case measure => simp [intOf]; omega
            · have hkm : k = m := by omega
              have hYX : Y = xss := by rw [HY.out, hkm]; exact List.take_of_length_le (by rw [HM.out]; exact Nat.le_refl _)
              have HT2 := Lib.hid HT.out
              rw [hYX] at HT2
              rw [hYX, HM.out] at X2
              rw [HM.out] at HT2
              have hxm' : x < m := by omega
              have hym' : y < m := by omega
              have hqn' : q < n := by omega
              obtain ⟨_, b1, _, f1⟩ := box2_cellsR X2.out
              obtain ⟨rx, hrx, hrxl⟩ := HG.out.row hxm'
              obtain ⟨ry, hry, hryl⟩ := HG.out.row hym'
              obtain ⟨gx, cx, hvx, hgx1, hgx2, hfx, _⟩ := HT2.out.rowCell hrx hrxl (by omega)
              obtain ⟨gT, ux, hgT, hux, hcx⟩ := HT2.out.cell (r := x) (by rw [HM.out]; omega)
              subst hgT
              rw [hvx] at hux
              obtain rfl := Option.some.inj hux
              obtain ⟨b, off, b2, off2, c, hA, hcry, hcellsy⟩ := row_base HG.out (H1.out.below hbel) hym'
              subst hA
              have hcqy := hcellsy q hqn'
              have hf := hfx q
              have HVX := Lib.hid hvx
              have HRX := Lib.hid hrx
              have HRXL := Lib.hid hrxl
              have HGX1 := Lib.hid hgx1
              have HGX2 := Lib.hid hgx2
              clear hry hryl hux hvx hrx hrxl hfx hgx1 hgx2 hcellsy hkm hYX
              obtain ⟨ry, hry, hryl⟩ := HG.out.row hym'
              obtain ⟨gy, cy, hvy, hgy1, hgy2, hfy, _⟩ := HT2.out.rowCell hry hryl (by omega)
              obtain ⟨gT', uy, hgT', huy, hcy⟩ := HT2.out.cell (r := y) (by rw [HM.out]; omega)
              obtain rfl : gT = gT' := by simpa using hgT'
              rw [hvy] at huy
              obtain rfl := Option.some.inj huy
              obtain ⟨b', off', b3, off3, c', hA', hcrx, hcellsx⟩ := row_base HG.out (H1.out.below HB.out) hxm'
              obtain ⟨rfl, rfl⟩ : b = b' ∧ off = off' := by simpa using hA'
              have hcqx := hcellsx q hqn'
              have hff := hfy q
              have HVY := Lib.hid hvy
              have HRY := Lib.hid hry
              have HRYL := Lib.hid hryl
              have HGY1 := Lib.hid hgy1
              have HGY2 := Lib.hid hgy2
              clear hvy hry hryl huy hA' hgT' hcellsx hgy1 hgy2 hfy hbel hf hff f1
              go_wp2_with fail
              refine wp_region_float 28 11 _ _ (by kernel_rfl) (by kernel_rfl) rfl (.inl ⟨rfl, fun _ => rfl⟩) ?_
              simp only [List.take_succ_cons, List.take_zero, List.drop_succ_cons, List.drop_zero]
              repeat still_step
              try refine wpStill_nil ?_
              obtain ⟨W5, hW5⟩ : ∃ W5, W5 = wr.drew := ⟨_, rfl⟩
              have b5 : Below wr.heap.size wr W5 := by rw [hW5]; exact below_drewN' (Below.refl _ _) 1
              have HT5 := Lib.hid (HT2.out.below b5)
              have hsz5 : W5.heap.size = wr.heap.size := by rw [hW5]; rfl
              have B5 := Lib.hid b5
              clear hcy hcrx hcqx hcx hcry hcqy y1 b1 b5
              change wpList _ _ _ _ _ wr.drew
              rw [← hW5]
              clear hW5
              have t5 : TabV (OB + 1) wr.heap.size (W5.setCell ⟨gx, q, none⟩ (.int .i64 ((nx xss y q : Nat) : Int))) (.slice (some ⟨gT, 0, none⟩) m c3) vs (put2 xss x q ((nx xss y q : Nat) : Int)) := TabV.put HT5.out HVX.out HRX.out HRXL.out
              obtain ⟨ry2, hry2, hry2l⟩ : ∃ ry2, (put2 xss x q ((nx xss y q : Nat) : Int))[y]? = some ry2 ∧ ry2.length = n := by
                rw [put2_at HRX.out, List.getElem?_set]
                split
                · rename_i e
                  rw [if_pos (by rw [HM.out]; omega)]
                  exact ⟨_, rfl, by rw [List.length_set]; exact HRXL.out⟩
                · exact ⟨ry, HRY.out, HRYL.out⟩
              obtain ⟨gy', cy', hvy', _, _, hfy', hcy'⟩ := t5.rowCell hry2 hry2l (by omega)
              obtain ⟨rfl, rfl⟩ : gy = gy' ∧ cy = cy' := by have := HVY.out; rw [this] at hvy'; simpa using hvy'
              obtain ⟨u2, hu2⟩ : ∃ u2, (W5.setCell ⟨gx, q, none⟩ (.int .i64 ((nx xss y q : Nat) : Int))).cell? ⟨gy, q, none⟩ = some u2 := ⟨_, hcy' q hqn'⟩
              have hu3 := hfy' q
              have T6 := Lib.hid (TabV.put (q := q) (z := ((nx xss x q : Nat) : Int)) t5 HVY.out hry2 hry2l)
              obtain ⟨gz, cz, hvz, _, _, hfx5, hcx5⟩ := HT5.out.rowCell HRX.out HRXL.out (by omega)
              obtain ⟨rfl, rfl⟩ : gx = gz ∧ cx = cz := by have := HVX.out; rw [this] at hvz; simpa using hvz
              have hc5 := hcx5 q hqn'
              have hf5 := hfx5 q
              clear hvz hfx5 hcx5 hvy' hfy' hcy' hry2 hry2l t5
              obtain ⟨W6, hW6⟩ : ∃ W6, W6 = (W5.setCell ⟨gx, q, none⟩ (.int .i64 ((nx xss y q : Nat) : Int))).setCell ⟨gy, q, none⟩ (.int .i64 ((nx xss x q : Nat) : Int)) := ⟨_, rfl⟩
              have T7 := Lib.hid (show TabV (OB + 1) wr.heap.size W6 (.slice (some ⟨gT, 0, none⟩) m c3) vs (swapF xss q x y) by rw [hW6]; exact T6.out)
              have hob1 := HOB1.out
              have hgx := HGX1.out
              have hgy := HGY1.out
              have O6 := Lib.hid (show Only (OB + 1) wr.heap.size wr W6 by
                rw [hW6]
                have h1 : Only (OB + 1) wr.heap.size W5 (W5.setCell ⟨gx, q, none⟩ (.int .i64 ((nx xss y q : Nat) : Int))) := (only_setCell _ _ _ _).wide (by omega) HGX2.out
                have h2 : Only (OB + 1) wr.heap.size (W5.setCell ⟨gx, q, none⟩ (.int .i64 ((nx xss y q : Nat) : Int))) ((W5.setCell ⟨gx, q, none⟩ (.int .i64 ((nx xss y q : Nat) : Int))).setCell ⟨gy, q, none⟩ (.int .i64 ((nx xss x q : Nat) : Int))) := (only_setCell _ _ _ _).wide (by omega) HGY2.out
                exact (Only.of_below B5.out _ _).trans (h1.trans h2))
              have Z6 := Lib.hid (show W6.heap.size = wr.heap.size by rw [hW6]; exact ((World.size_setCell _ _ _).trans (World.size_setCell _ _ _)).trans hsz5)
              have B6 := Lib.hid (show Below w1.heap.size w1 W6 from Only.below HB.out O6.out (by omega) HB.out.size)
              have X26 := (O6.out.block _ (block_lt X2.out) (.inl (by omega))).trans X2.out
              have X16 := (O6.out.block _ (block_lt X1.out) (.inl (by have := HRB.out; omega))).trans X1.out
              obtain ⟨b0, b1, _, _⟩ := box2_cellsR X26
              obtain ⟨e0, e1, e2, e3⟩ := box2_cellsR X16
              obtain ⟨g2, g3⟩ := box2_setR X16 (.int .i64 (n : Int)) (.slice (some ⟨gT, 0, none⟩) m c3)
              subst hW6
              clear hob1 hgx hgy X26 X16 hsz5
              go_wp2_with fail
              refine ⟨rfl, ?_⟩
              go_wp2_with fail
              refine bodyPost_ret (v := .tuple #[.agg #[.int .i64 (n : Int), .slice (some ⟨gT, 0, none⟩) m c3], .int .i64 0]) (by simp [results, Try.results33, go_sem, g2, g3]) rfl ?_
              have hrb := HRB.out
              refine autosTo_mk HF.out ?_ (((below_then B1.out B6.out).setCell (by simp) _).setCell (by simp) _)
              rw [set2_sizeR, Z6.out]
              exact ((show TabIn _ _ _ _ _ from ⟨vs, T7.out⟩).only (set2_onlyR _ _ _ _) (.inr (by omega))).wide (by omega) (Nat.le_refl _)

end Go.Proofs.Ytkhhemlfahdbnab
