/-
  The filling of the gaps: the program's fillGaps.
-/
import Derived.Test.YtikimfncpemmkaaFillG
import Derived.Test.YtikimfncpemmkaaTrap
import Derived.Test.YtikimfncpemmkaaGapLaw
import Derived.StillTailTactics
namespace Go.Proofs.Ytikimfncpemmkaa
open Go.RowKit Go.Deep Go.ChangeShapes Go.WideShapes

set_option maxRecDepth 100000 in
set_option maxHeartbeats 4000000 in
theorem fillGaps_any (A A2 : Option Addr) (n m cap l cap2 : Nat) (xss : List (List Int)) (vals : List Int) (w : World) (hg : GoodP n m xss) (hR : RowsAt w A m xss) (hV : NumsAt w A2 l vals) (hl : l = (gapsL xss m).length) :
    Calls Try.prog 74 #[.agg #[.int .i64 (n : Int), .slice A m cap], .slice A2 l cap2] w fun e w' => ∃ v, e = .returned (.agg #[.int .i64 (n : Int), v]) ∧ TabIn w.heap.size w'.heap.size w' v (fillG (gapsL xss m) vals (rowsF n (closeF xss 0) m)) ∧ Below w.heap.size w w' := by
  have hm3 : m ≤ 3 := hg.m3
  have hm1 : 1 ≤ m := hg.m1
  have hn10 : n ≤ 10 := hg.n10
  have HG := Lib.hid hg
  have HV := Lib.hid hV
  have HL := Lib.hid hl
  have HGL := Lib.hid (gapsL_len hg m (Nat.le_refl _))
  obtain ⟨W2, hW2⟩ : ∃ W2, W2 = (w.alloc (.cells #[.int .i64 (n : Int), .slice A m cap] 27)).alloc (.cells #[.int .i64 0, .slice none 0 0] 39) := ⟨_, rfl⟩
  have b2 : Below w.heap.size w W2 := by rw [hW2]; go_grown
  have x0 : W2.cell? ⟨w.heap.size, 0, none⟩ = some (.int .i64 (n : Int)) := by rw [hW2]; go_cell
  have x1 : W2.cell? ⟨w.heap.size, 1, none⟩ = some (.slice A m cap) := by rw [hW2]; go_cell
  have xr : W2.heap[w.heap.size + 1]? = some (.cells #[.int .i64 0, .slice none 0 0] 39 (0, 0)) := by
    have := heap_alloc_new (w.alloc (.cells #[.int .i64 (n : Int), .slice A m cap] 27)) (.cells #[.int .i64 0, .slice none 0 0] 39)
    rw [World.size_alloc, ← hW2] at this
    exact this
  have B2 := Lib.hid b2
  have H2 := Lib.hid (hR.below b2)
  have XR := Lib.hid xr
  have HW2 := Lib.hid hW2
  have HZ2 := Lib.hid (show W2.heap.size = w.heap.size + 2 by rw [hW2, World.size_alloc, World.size_alloc])
  clear b2 xr hW2 hV hR hg hl
  go_enter Try.func74, Try.ntmps74
  go_wp2_with fail
  rw [← HW2.out]
  refine (closeGaps_any A n m cap 0 xss _ HG.out H2.out).mono ?_
  rintro e w2 ⟨v, rfl, t1, b2⟩
  obtain ⟨vs0, t1⟩ := t1
  obtain ⟨A1, c1, rfl⟩ := own_form t1.out
  rw [rowsF_len] at t1
  obtain ⟨g, rfl⟩ : ∃ g, A1 = some ⟨g, 0, none⟩ := by
    have ho := t1.out
    rw [rowsF_len] at ho
    exact own_addr ho (by omega)
  rw [rowsF_len]
  have x0' : w2.cell? ⟨w.heap.size, 0, none⟩ = some (.int .i64 (n : Int)) := (b2.cell (cell_lt x0)).trans x0
  have x1' : w2.cell? ⟨w.heap.size, 1, none⟩ = some (.slice A m cap) := (b2.cell (cell_lt x1)).trans x1
  obtain ⟨LO, hLO⟩ : ∃ LO, LO = W2.heap.size := ⟨_, rfl⟩
  obtain ⟨C5, hC5⟩ : ∃ C5, C5 = w2.heap.size := ⟨_, rfl⟩
  obtain ⟨w3, hw3⟩ : ∃ w3, w3 = w2.alloc (.cells #[.int .i64 (n : Int), .slice (some ⟨g, 0, none⟩) m c1] 39) := ⟨_, rfl⟩
  have b3 : Below w2.heap.size w2 w3 := by rw [hw3]; exact (Below.refl _ _).alloc (Nat.le_refl _) _
  have HC5 := Lib.hid (show w3.heap[C5]? = some (.cells #[.int .i64 (n : Int), .slice (some ⟨g, 0, none⟩) m c1] 39 (0, 0)) by rw [hw3, hC5]; exact heap_alloc_new _ _)
  have HT3 := Lib.hid (show TabV LO C5 w3 (.slice (some ⟨g, 0, none⟩) m c1) vs0 (rowsF n (closeF xss 0) m) by rw [hLO, hC5]; exact t1.below b3)
  have HZ3 := Lib.hid (show w3.heap.size = C5 + 1 by rw [hw3, World.size_alloc, hC5])
  have HRR := Lib.hid ((b3.block _ (Nat.lt_of_lt_of_le (block_lt XR.out) b2.size)).trans ((b2.block _ (block_lt XR.out)).trans XR.out))
  have H3 := Lib.hid ((H2.out.below b2).below b3)
  have B3 := Lib.hid (below_then (below_then B2.out b2) b3)
  have HLO := Lib.hid (show LO = w.heap.size + 2 by rw [hLO]; exact HZ2.out)
  have HLC := Lib.hid (show LO ≤ C5 by rw [hLO, hC5]; exact b2.size)
  have q0 : ∀ o, (w2.alloc o).cell? ⟨w.heap.size, 0, none⟩ = some (.int .i64 (n : Int)) := fun o => (World.cell?_alloc_past _ _ _ (cell_lt x0')).trans x0'
  have q1 : ∀ o, (w2.alloc o).cell? ⟨w.heap.size, 1, none⟩ = some (.slice A m cap) := fun o => (World.cell?_alloc_past _ _ _ (cell_lt x1')).trans x1'
  have HW3 := Lib.hid hw3
  have HC5E := Lib.hid hC5
  clear x0 x1 x0' x1' t1 b2 b3 hLO hw3 hC5
  go_wp2_with fail
  rw [← HW3.out, ← HC5E.out]
  clear q0 q1
  refine (gapsOf_any (n : Int) A n m cap xss w3 HG.out H3.out).mono ?_
  rintro e w4 ⟨u, rfl, o4, b4⟩
  obtain ⟨GS, hGS⟩ : ∃ GS, GS = gapsL xss m := ⟨_, rfl⟩
  rw [← hGS] at o4
  obtain ⟨Au, cu, rfl⟩ := ownK_form o4
  have HGS := Lib.hid hGS
  have HC4 := Lib.hid ((b4.block _ (block_lt HC5.out)).trans HC5.out)
  have HT4 := Lib.hid (HT3.out.below b4)
  have HRR4 := Lib.hid ((b4.block _ (block_lt HRR.out)).trans HRR.out)
  have HO4 := Lib.hid o4
  have B4 := Lib.hid (below_then B3.out b4)
  have HZ4 := Lib.hid b4.size
  clear o4 b4 hGS
  go_wp2_with fail
  go_loopw [13] (fun i wr => ∃ k : Nat, k ≤ GS.length ∧ i = .int .i64 k ∧ wr.heap[w.heap.size + 1]? = some (.cells #[.int .i64 0, .slice none 0 0] 39 (0, 0)) ∧ wr.heap[C5]? = some (.cells #[.int .i64 (n : Int), .slice (some ⟨g, 0, none⟩) m c1] 39 (0, 0)) ∧
      TabV LO C5 wr (.slice (some ⟨g, 0, none⟩) m c1) vs0 (fillG (GS.take k) (vals.take k) (rowsF n (closeF xss 0) m)) ∧ wr.ownsRow w3.heap.size 82 2 (.slice Au GS.length cu) GS.length (gcells GS) ∧ Below w.heap.size w wr) (fun i _ => GS.length - (intOf i).toNat)
  case atStart => exact ⟨0, Nat.zero_le _, rfl, HRR4.out, HC4.out, HT4.out, HO4.out, B4.out⟩
  case round =>
    obtain ⟨k, hk, rfl, hrr, hc5, htab, hown, hbel⟩ := hrel
    obtain ⟨X, hX⟩ : ∃ X, X = fillG (GS.take k) (vals.take k) (rowsF n (closeF xss 0) m) := ⟨_, rfl⟩
    rw [← hX] at htab
    have HX := Lib.hid hX
    have HR5 := Lib.hid hrr
    have H5 := Lib.hid hc5
    have HT := Lib.hid htab
    have HO := Lib.hid hown
    have HB := Lib.hid hbel
    obtain ⟨y0, y1, y2, y3⟩ := box2_cellsT hc5
    clear hX hrr
    by_cases hlt : k < GS.length
    · obtain ⟨gg, rfl⟩ := ownK_addr hown (by omega)
      obtain ⟨⟨a1, a2⟩, hgk⟩ : ∃ p, GS[k]? = some p := ⟨_, List.getElem?_eq_getElem hlt⟩
      obtain ⟨val, hvk⟩ : ∃ x, vals[k]? = some x := ⟨_, List.getElem?_eq_getElem (by have := HV.out.1; have := HL.out; rw [← HGS.out] at this; omega)⟩
      obtain ⟨ha1, ha2⟩ : a1 < m ∧ a2 < n := by
        have h1 := gapsL_mem (show (a1, a2) ∈ gapsL xss m by rw [← HGS.out]; exact List.mem_of_getElem? hgk)
        exact ⟨h1.1, by rw [← (HG.out.at_ h1.1).1]; exact h1.2.1⟩
      have hXl : X.map List.length = (rowsF n (closeF xss 0) m).map List.length := by rw [HX.out, fillG_lens]
      obtain ⟨row, hrow, hrl⟩ : ∃ row, X[a1]? = some row ∧ row.length = n := by
        have h1 : (X.map List.length)[a1]? = some n := by rw [hXl]; simp [rowsF, ha1]
        rw [List.getElem?_map, Option.map_eq_some_iff] at h1
        exact h1
      have hXm : X.length = m := by have := congrArg List.length hXl; rw [List.length_map, List.length_map, rowsF_len] at this; exact this
      have e1 : wr.cell? ⟨gg, k * 2, none⟩ = some (.int .i64 (a1 : Int)) := (hown.cellAt (k * 2) (by omega)).trans (gcells_at GS k _ hgk).1
      have e2 : wr.cell? ⟨gg, k * 2 + 1, none⟩ = some (.int .i64 (a2 : Int)) := (hown.cellAt (k * 2 + 1) (by omega)).trans (gcells_at GS k _ hgk).2
      obtain ⟨g', u, hg', hu, hcu⟩ := htab.cell (r := a1) (by omega)
      have hgg : g' = g := by simpa using hg'.symm
      subst hgg
      have hri := htab.row a1 u row hu hrow
      obtain ⟨A3, c3, rfl⟩ := hri.form
      obtain ⟨gr, rfl⟩ := own_addr hri.1 (by omega)
      obtain ⟨z, hz⟩ : ∃ z, wr.cell? ⟨gr, a2, none⟩ = some z := ⟨_, (hri.1.cellAt a2 (by omega)).trans (List.getElem?_eq_getElem (by rw [List.length_map]; omega))⟩
      have hfz : wr.frozen? ⟨gr, a2, none⟩ = false := hri.1.frozenAt a2
      have hVw := HV.out.below hbel
      obtain ⟨val', bv, ov, hv', rfl, hcv⟩ := hVw.at_ (k := k) (by have := HL.out; rw [← HGS.out] at this; omega)
      rw [hvk] at hv'
      obtain rfl := Option.some.inj hv'
      have hg30 : GS.length ≤ 30 := by rw [HGS.out]; have := HGL.out; omega
      have i1 : (0 : Int) ≤ (k : Int) := by omega
      have i2 : (k : Int) < (GS.length : Int) := by omega
      have i3 : (0 : Int) ≤ (a1 : Int) := by omega
      have i4 : (a1 : Int) < (m : Int) := by omega
      have i5 : (0 : Int) ≤ (a2 : Int) := by omega
      have i6 : (a2 : Int) < (n : Int) := by omega
      have i7 : (k : Int) < (l : Int) := by have := HL.out; rw [← HGS.out] at this; omega
      rw [hrl] at hcu
      obtain ⟨w6, hw6⟩ : ∃ w6, w6 = wr.alloc (.cells #[.int .i64 (a1 : Int), .int .i64 (a2 : Int)] 82) := ⟨_, rfl⟩
      have b6 : Below wr.heap.size wr w6 := by rw [hw6]; exact (Below.refl _ _).alloc (Nat.le_refl _) _
      have f1 : w6.cell? ⟨wr.heap.size, 0, none⟩ = some (.int .i64 (a1 : Int)) := by rw [hw6]; go_cell
      have f2 : w6.cell? ⟨wr.heap.size, 1, none⟩ = some (.int .i64 (a2 : Int)) := by rw [hw6]; go_cell
      have f3 : w6.cell? ⟨C5, 1, none⟩ = some (.slice (some ⟨g', 0, none⟩) m c1) := (b6.cell (cell_lt y1)).trans y1
      have f4 : w6.cell? ⟨g', a1, none⟩ = some (.slice (some ⟨gr, 0, none⟩) n c3) := (b6.cell (cell_lt hcu)).trans hcu
      have f5 : w6.cell? ⟨bv, ov + k, none⟩ = some (.int .i64 val) := (b6.cell (cell_lt hcv)).trans hcv
      have f6 : w6.cell? ⟨gr, a2, none⟩ = some z := (b6.cell (cell_lt hz)).trans hz
      have f7 : w6.frozen? ⟨gr, a2, none⟩ = false := (b6.frozen (cell_lt hz)).trans hfz
      have HB6 := Lib.hid b6
      have HRI := Lib.hid hri
      have HU := Lib.hid hu
      have HROW := Lib.hid hrow
      have HRL := Lib.hid hrl
      have HXM := Lib.hid hXm
      have HGK := Lib.hid hgk
      have HVK := Lib.hid hvk
      have HW6 := Lib.hid hw6
      clear b6 hri hu hrow hrl hXm hgk hvk hw6 hVw hXl htab hc5 hg' hown hbel
      go_wp2_with fail
      rw [← HW6.out]
      clear e1 e2 y0 y1 y2 y3 hz hfz hcv hcu
      go_still_tail 13, (by kernel_rfl)
      obtain ⟨W5, hW5⟩ : ∃ W5, W5 = w6.drew := ⟨_, rfl⟩
      have b5 : Below w6.heap.size w6 W5 := by rw [hW5]; exact below_drewN' (Below.refl _ _) 1
      have hzd : W5.cell? ⟨gr, a2, none⟩ = some z := by rw [hW5]; exact f6
      have hfd : W5.frozen? ⟨gr, a2, none⟩ = false := by rw [hW5]; exact f7
      have HB5 := Lib.hid (below_then HB6.out b5)
      change wpList _ _ _ _ _ w6.drew
      rw [← hW5]
      clear hW5 b5 f1 f2 f3 f4 f5 f6 f7
      go_wp2_with fail
      go_roundw
      case rel =>
        have h5 := HB5.out
        have hrb := HRI.out.1.lt gr rfl
        have hrc := HRI.out.2 gr rfl
        have hlo := HLO.out
        have hst := (own_below HRI.out.1 h5).stored a2 (.int .i64 val)
        have hz := HZ3.out
        have hgo := ownK_below HO.out h5
        refine ⟨k + 1, by omega, by go_num, ?_, ?_, ?_, hgo.kept hst.2 (.inr (fun e => by
          have h1 := (HO.out.lt gg rfl).1
          have h2 : gg = gr := by simpa [Value.ownBlock] using e
          omega)), (below_then HB.out h5).setCell (by simp; omega) _⟩
        · rw [heap_setCell_other W5 ⟨gr, a2, none⟩ _ _ (by simp; omega)]
          exact (h5.block _ (block_lt HR5.out)).trans HR5.out
        · rw [heap_setCell_other W5 ⟨gr, a2, none⟩ _ _ (by simp; omega)]
          exact (h5.block _ (block_lt H5.out)).trans H5.out
        · rw [fillG_snoc GS vals _ k (a1, a2) val HGK.out HVK.out, ← HX.out]
          unfold stL
          rw [List.getD_eq_getElem?_getD, HROW.out, Option.getD_some]
          refine TabV.set (HT.out.below h5) HU.out HROW.out hst.2 ⟨?_, HRI.out.2⟩
          rw [List.length_set, List.map_set]
          exact hst.1
      case measure => simp [intOf]; omega
    · have hkl : k = GS.length := by omega
      have HKL := Lib.hid hkl
      obtain ⟨r0, r1, r2, r3⟩ := box2_cellsT HR5.out
      obtain ⟨g2, g3⟩ := box2_setT HR5.out (.int .i64 (n : Int)) (.slice (some ⟨g, 0, none⟩) m c1)
      clear hkl htab hown hbel
      go_wp2_with fail
      refine bodyPost_ret (v := .agg #[.int .i64 (n : Int), .slice (some ⟨g, 0, none⟩) m c1]) (by simp [results, Try.results74, go_sem, g2, g3]) rfl ?_
      refine ⟨_, rfl, ?_, (HB.out.setCell (by simp) _).setCell (by simp) _⟩
      rw [set2_sizeT]
      have ht := HT.out
      rw [HX.out, HKL.out, List.take_of_length_le (Nat.le_refl _), List.take_of_length_le (by rw [HV.out.1, HL.out, HGS.out]; exact Nat.le_refl _), HGS.out] at ht
      have hlo := HLO.out
      exact (TabIn.only ⟨vs0, ht⟩ (set2_onlyT _ _ _ _) (.inr (by omega))).wide (by omega) (Nat.le_of_lt (block_lt H5.out))

end Go.Proofs.Ytikimfncpemmkaa
