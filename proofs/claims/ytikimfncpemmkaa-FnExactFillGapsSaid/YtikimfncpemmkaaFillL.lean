/-
  FillGaps: what it answers, and the program's contract.
-/
import Derived.Test.YtikimfncpemmkaaFillI
namespace Go.Proofs.Ytikimfncpemmkaa
open Go.RowKit Go.Deep Go.ChangeShapes Go.WideShapes

theorem gapsL_mem_of {xss : List (List Int)} {k a b : Nat} (h1 : a < k) (h2 : b < (xss.getD a []).length) (h3 : (xss.getD a []).getD b 0 < 0) : (a, b) ∈ gapsL xss k := by
  rw [gapsL, List.mem_flatMap]
  refine ⟨a, List.mem_range.2 h1, ?_⟩
  rw [gapsUpTo, List.mem_map]
  exact ⟨b, List.mem_filter.2 ⟨List.mem_range.2 h2, by simpa using h3⟩, rfl⟩
theorem lens_good {n m : Nat} {xss : List (List Int)} (hg : GoodP n m xss) : xss.map List.length = List.replicate m n := by
  apply List.ext_getElem?
  intro r
  rw [List.getElem?_map]
  by_cases h : r < m
  · obtain ⟨row, h1, h2, _⟩ := hg.row r h
    rw [h1, List.getElem?_replicate, if_pos h, Option.map_some, h2]
  · rw [List.getElem?_eq_none (by rw [hg.len]; omega), List.getElem?_replicate, if_neg h]; rfl
theorem lens_rows (n m : Nat) (f : Nat → Nat → Int) : (rowsF n f m).map List.length = List.replicate m n := by
  apply List.ext_getElem?
  intro r
  rw [List.getElem?_map, List.getElem?_replicate]
  by_cases h : r < m <;> simp [rowsF, h]
theorem fill_closed {n m : Nat} {xss : List (List Int)} {vals : List Int} (hg : GoodP n m xss) (hv : (gapsL xss m).length = vals.length) : fillG (gapsL xss m) vals (rowsF n (closeF xss 0) m) = fillG (gapsL xss m) vals xss := by
  refine fillG_same _ _ _ _ hv (by rw [lens_rows, lens_good hg]) fun r q hn => ?_
  by_cases h : r < m
  · obtain ⟨row, h1, h2, h3⟩ := hg.row r h
    have e1 : at2 xss r q = row[q]? := by unfold at2; rw [h1]; rfl
    have e2 : at2 (rowsF n (closeF xss 0) m) r q = ((List.range n).map (closeF xss 0 r))[q]? := by unfold at2; simp [rowsF, h]
    rw [e1, e2]
    by_cases hq : q < n
    · have hd : xss.getD r [] = row := by rw [List.getD_eq_getElem?_getD, h1]; rfl
      have hrq : row[q]? = some row[q] := List.getElem?_eq_getElem (by omega)
      have hdq : row.getD q 0 = row[q] := by rw [List.getD_eq_getElem?_getD, hrq]; rfl
      have hge : ¬ row[q] < 0 := fun hlt => hn (gapsL_mem_of h (by rw [hd]; omega) (by rw [hd, hdq]; exact hlt))
      rw [hrq]
      simp only [List.getElem?_map, List.getElem?_range hq, Option.map_some]
      unfold closeF
      rw [hd, hdq, if_neg (by omega)]
    · rw [List.getElem?_eq_none (by simp; omega), List.getElem?_eq_none (by omega)]
  · unfold at2
    rw [List.getElem?_eq_none (by rw [rowsF_len]; omega), List.getElem?_eq_none (by rw [hg.len]; omega)]

def fillGaps (s : Int) (xss : List (List Int)) (vals : List Int) : Int × List (List Int) × Int :=
  if okP s xss = true then (if vals.length = (gapsL xss xss.length).length ∧ vals.all (belowB s) = true then (s, fillG (gapsL xss xss.length) vals xss, 0) else (0, [], 2)) else (0, [], 1)
theorem fillGaps_1 {s : Int} {xss : List (List Int)} {vals : List Int} (h : okP s xss = false) : fillGaps s xss vals = (0, [], 1) := by unfold fillGaps; rw [if_neg (by simp [h])]
theorem fillGaps_2 {s : Int} {xss : List (List Int)} {vals : List Int} (h : okP s xss = true) (h' : ¬ (vals.length = (gapsL xss xss.length).length ∧ vals.all (belowB s) = true)) : fillGaps s xss vals = (0, [], 2) := by unfold fillGaps; rw [if_pos h, if_neg h']
theorem fillGaps_0 {s : Int} {xss : List (List Int)} {vals : List Int} (h : okP s xss = true) (h1 : vals.length = (gapsL xss xss.length).length) (h2 : vals.all (belowB s) = true) : fillGaps s xss vals = (s, fillG (gapsL xss xss.length) vals xss, 0) := by unfold fillGaps; rw [if_pos h, if_pos ⟨h1, h2⟩]
theorem fillGaps_len (s : Int) (xss : List (List Int)) (vals : List Int) : (fillGaps s xss vals).2.1.length ≤ 3 := by
  unfold fillGaps
  split
  · rename_i h
    obtain ⟨n, _, hg⟩ := goodP_of h rfl
    split
    · show (fillG _ _ _).length ≤ 3
      have := congrArg List.length (fillG_lens (gapsL xss xss.length) vals xss)
      rw [List.length_map, List.length_map] at this
      have := hg.m3
      omega
    · exact Nat.zero_le _
  · exact Nat.zero_le _
theorem sumLens_map : ∀ (xss : List (List Int)), sumLens xss = (xss.map List.length).sum
  | [] => rfl
  | x :: xss => by have := sumLens_map xss; simp [sumLens] at this ⊢
theorem fillGaps_sum (s : Int) (xss : List (List Int)) (vals : List Int) : sumLens (fillGaps s xss vals).2.1 ≤ 30 := by
  unfold fillGaps
  split
  · rename_i h
    obtain ⟨n, _, hg⟩ := goodP_of h rfl
    split
    · show sumLens (fillG _ _ _) ≤ 30
      rw [sumLens_map, fillG_lens, lens_good hg, List.sum_replicate_nat]
      have h1 := hg.m3
      have h2 := hg.n10
      exact Nat.le_trans (Nat.mul_le_mul h1 h2) (by decide)
    · exact Nat.zero_le _
  · exact Nat.zero_le _

set_option maxRecDepth 100000 in
set_option maxHeartbeats 4000000 in
theorem implFillGaps_any (s : Int) (A : Option Addr) (m cap : Nat) (xss : List (List Int)) (A2 : Option Addr) (l cap2 : Nat) (vals : List Int) (w : World) (h : RowsAt w A m xss) (hm : m ≤ 4611686018427387904)
    (hrows : ∀ (r : Nat) (xs : List Int), xss[r]? = some xs → xs.length ≤ 4611686018427387904) (hv : NumsAt w A2 l vals) (hl : l ≤ 4611686018427387904) :
    Calls Try.prog 30 #[.agg #[.int .i64 s, .slice A m cap], .slice A2 l cap2] w (AutosTo (fillGaps s xss vals) w) := by
  have HR := Lib.hid hrows
  have HM := Lib.hid h.1
  obtain ⟨W2, hW2⟩ : ∃ W2, W2 = (w.alloc (.cells #[.int .i64 s, .slice A m cap] 27)).alloc (.cells #[.int .i64 0, .slice none 0 0] 39) := ⟨_, rfl⟩
  have b2 : Below w.heap.size w W2 := by rw [hW2]; go_grown
  have x0 : W2.cell? ⟨w.heap.size, 0, none⟩ = some (.int .i64 s) := by rw [hW2]; go_cell
  have x1 : W2.cell? ⟨w.heap.size, 1, none⟩ = some (.slice A m cap) := by rw [hW2]; go_cell
  have xr : W2.heap[w.heap.size + 1]? = some (.cells #[.int .i64 0, .slice none 0 0] 39 (0, 0)) := by
    have := heap_alloc_new (w.alloc (.cells #[.int .i64 s, .slice A m cap] 27)) (.cells #[.int .i64 0, .slice none 0 0] 39)
    rw [World.size_alloc, ← hW2] at this
    exact this
  have B2 := Lib.hid b2
  have H2 := Lib.hid (h.below b2)
  have V2 := Lib.hid (hv.below b2)
  have XR := Lib.hid xr
  have HW2 := Lib.hid hW2
  have HVL := Lib.hid hv.1
  clear hrows b2 xr hW2
  go_enter Try.func30, Try.ntmps30
  go_wp2_with fail
  rw [← HW2.out]
  refine (implValidPartial_any s A m cap xss _ H2.out hm HR.out).mono ?_
  rcases hok : okP s xss with _ | _
  · have HF := Lib.hid (fillGaps_1 (vals := vals) hok)
    rintro e w1 ⟨rfl, b1⟩
    have xr := (b1.block _ (block_lt XR.out)).trans XR.out
    obtain ⟨e0, e1, e2, e3⟩ := box2_cellsT xr
    have B1 := Lib.hid (below_then B2.out b1)
    obtain ⟨g2, g3⟩ := box2_setT xr (.int .i64 0) (.slice none 0 0)
    clear b1 xr x0 x1
    go_wp2_with fail
    refine bodyPost_ret (v := .tuple #[.agg #[.int .i64 0, .slice none 0 0], .int .i64 1]) (by simp [results, Try.results30, go_sem, g2, g3]) rfl ?_
    exact autosTo_mk HF.out (tab_nil _ _ _) ((B1.out.setCell (by simp; try omega) _).setCell (by simp; try omega) _)
  · obtain ⟨n, hsn, hg⟩ := goodP_of hok HM.out
    subst hsn
    have HG := Lib.hid hg
    have hm3 : m ≤ 3 := hg.m3
    have HGL := Lib.hid (gapsL_len hg m (Nat.le_refl _))
    clear hg
    rintro e w1 ⟨rfl, b1⟩
    have x0' : w1.cell? ⟨w.heap.size, 0, none⟩ = some (.int .i64 (n : Int)) := (b1.cell (cell_lt x0)).trans x0
    have x1' : w1.cell? ⟨w.heap.size, 1, none⟩ = some (.slice A m cap) := (b1.cell (cell_lt x1)).trans x1
    have XR1 := Lib.hid ((b1.block _ (block_lt XR.out)).trans XR.out)
    have H1 := Lib.hid (H2.out.below b1)
    have V1 := Lib.hid (V2.out.below b1)
    have B1 := Lib.hid (below_then B2.out b1)
    clear b1 x0 x1
    go_wp2_with fail
    refine (gapsOf_any (n : Int) A n m cap xss w1 HG.out H1.out).mono ?_
    rintro e w2 ⟨u, rfl, o2, b2⟩
    obtain ⟨GS, hGS⟩ : ∃ GS, GS = gapsL xss m := ⟨_, rfl⟩
    rw [← hGS] at o2
    obtain ⟨Au, cu, rfl⟩ := ownK_form o2
    have HGS := Lib.hid hGS
    have y0 : w2.cell? ⟨w.heap.size, 0, none⟩ = some (.int .i64 (n : Int)) := (b2.cell (cell_lt x0')).trans x0'
    have y1 : w2.cell? ⟨w.heap.size, 1, none⟩ = some (.slice A m cap) := (b2.cell (cell_lt x1')).trans x1'
    have XR2 := Lib.hid ((b2.block _ (block_lt XR1.out)).trans XR1.out)
    have H3 := Lib.hid (H1.out.below b2)
    have V3 := Lib.hid (V1.out.below b2)
    have B3 := Lib.hid (below_then B1.out b2)
    obtain ⟨e0, e1, e2, e3⟩ := box2_cellsT XR2.out
    obtain ⟨g2, g3⟩ := box2_setT XR2.out (.int .i64 0) (.slice none 0 0)
    clear b2 o2 hGS x0' x1'
    by_cases hlen : l = GS.length
    · have hne : ((l : Int) != (GS.length : Int)) = false := by simp [hlen]
      have HLEN := Lib.hid hlen
      clear hlen
      rcases hb : vals.all (belowB (n : Int)) with _ | _
      · have HF := Lib.hid (fillGaps_2 (vals := vals) hok (by rw [hb]; simp))
        go_wp2_with (go_at_call 73; refine (areBelow_any _ _ _ _ _ _ V3.out hl).mono ?_; rw [hb]; rintro e w' ⟨rfl, rfl⟩)
        refine bodyPost_ret (v := .tuple #[.agg #[.int .i64 0, .slice none 0 0], .int .i64 2]) (by simp [results, Try.results30, go_sem, g2, g3]) rfl ?_
        exact autosTo_mk HF.out (tab_nil _ _ _) ((B3.out.setCell (by simp; try omega) _).setCell (by simp; try omega) _)
      · have HF := Lib.hid (fillGaps_0 (vals := vals) hok (by rw [HVL.out, HLEN.out, HGS.out, HM.out]) hb)
        clear g2 g3
        go_wp2_with (go_at_call 73; refine (areBelow_any _ _ _ _ _ _ V3.out hl).mono ?_; rw [hb]; rintro e w' ⟨rfl, rfl⟩)
        refine (fillGaps_any A A2 n m cap l cap2 xss vals w2 HG.out H3.out V3.out (by rw [HLEN.out, HGS.out])).mono ?_
        rintro e w3 ⟨v, rfl, t3, b3⟩
        rw [fill_closed HG.out (by rw [HVL.out, HLEN.out, HGS.out])] at t3
        have XR3 := Lib.hid ((b3.block _ (block_lt XR2.out)).trans XR2.out)
        have B4 := Lib.hid (below_then B3.out b3)
        obtain ⟨Y, hY⟩ : ∃ Y, Y = fillG (gapsL xss m) vals xss := ⟨_, rfl⟩
        rw [← hY] at t3
        obtain ⟨Av, cv, rfl⟩ := t3.form
        have HY := Lib.hid hY
        have HT := Lib.hid t3
        have HLO := Lib.hid (show w.heap.size + 1 < w2.heap.size from block_lt XR2.out)
        clear e0 e1 e2 e3 y0 y1 t3 b3 hY
        obtain ⟨e0, e1, e2, e3⟩ := box2_cellsT XR3.out
        obtain ⟨g2, g3⟩ := box2_setT XR3.out (.int .i64 (n : Int)) (.slice Av Y.length cv)
        go_wp2_with fail
        refine bodyPost_ret (v := .tuple #[.agg #[.int .i64 (n : Int), .slice Av Y.length cv], .int .i64 0]) (by simp [results, Try.results30, go_sem, g2, g3]) rfl ?_
        refine autosTo_mk HF.out ?_ ((B4.out.setCell (by simp) _).setCell (by simp) _)
        rw [set2_sizeT, HM.out, ← HY.out]
        have hlo := HLO.out
        exact (HT.out.only (set2_onlyT _ _ _ _) (.inr (by omega))).wide (by omega) (Nat.le_refl _)
    · have hne : ((l : Int) != (GS.length : Int)) = true := by simp; omega
      have HF := Lib.hid (fillGaps_2 (vals := vals) hok (fun hc => hlen (by rw [← HVL.out, hc.1, HM.out, HGS.out])))
      clear hlen
      go_wp2_with fail
      refine bodyPost_ret (v := .tuple #[.agg #[.int .i64 0, .slice none 0 0], .int .i64 2]) (by simp [results, Try.results30, go_sem, g2, g3]) rfl ?_
      exact autosTo_mk HF.out (tab_nil _ _ _) ((B3.out.setCell (by simp; try omega) _).setCell (by simp; try omega) _)

end Go.Proofs.Ytikimfncpemmkaa
