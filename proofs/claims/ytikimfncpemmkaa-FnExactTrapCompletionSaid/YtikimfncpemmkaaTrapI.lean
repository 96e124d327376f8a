/-
  The completion by a trap: what it answers, and the contract of the program's TrapCompletion.
-/
import Derived.Test.YtikimfncpemmkaaTrap
namespace Go.Proofs.Ytikimfncpemmkaa
open Go.RowKit Go.Deep Go.ChangeShapes Go.WideShapes

def trapRow (n : Nat) (xss : List (List Int)) (x : Nat) : List Int := (List.range n).map (closeF xss (n : Int) x) ++ [(n : Int)]
def mixT (n m : Nat) (xss : List (List Int)) (k : Nat) : List (List Int) := (List.range m).map fun x => if x < k then trapRow n xss x else (List.range n).map (closeF xss (n : Int) x)
theorem mixT_len (n m : Nat) (xss : List (List Int)) (k : Nat) : (mixT n m xss k).length = m := by simp [mixT]
theorem mixT_0 (n m : Nat) (xss : List (List Int)) : mixT n m xss 0 = rowsF n (closeF xss (n : Int)) m := by simp [mixT, rowsF]
theorem mixT_at {n m k : Nat} {xss : List (List Int)} (hk : k < m) : (mixT n m xss k)[k]? = some ((List.range n).map (closeF xss (n : Int) k)) := by
  unfold mixT; rw [List.getElem?_map, List.getElem?_range hk]; simp
theorem mixT_step {n m k : Nat} {xss : List (List Int)} (hk : k < m) : (mixT n m xss k).set k ((List.range n).map (closeF xss (n : Int) k) ++ [(n : Int)]) = mixT n m xss (k + 1) := by
  apply List.ext_getElem?
  intro r
  rw [List.getElem?_set, mixT_len]
  unfold mixT
  rw [List.getElem?_map, List.getElem?_map]
  by_cases h : k = r
  · subst h
    rw [List.getElem?_range hk]
    simp [hk, trapRow]
  · simp only [h, if_false]
    rcases Nat.lt_or_ge r m with a | a
    · rw [List.getElem?_range a]
      simp only [Option.map_some]
      by_cases h2 : r < k
      · simp [h2, show r < k + 1 by omega]
      · simp [h2, show ¬ r < k + 1 by omega]
    · rw [List.getElem?_eq_none (by simpa using a)]; rfl
theorem mixT_sum (n m : Nat) (xss : List (List Int)) : sumLens (mixT n m xss m) = m * (n + 1) := by
  have h : ∀ k, ((List.range k).map fun x => (if x < m then trapRow n xss x else (List.range n).map (closeF xss (n : Int) x)).length).sum ≤ k * (n + 1) ∧ (k ≤ m → ((List.range k).map fun x => (if x < m then trapRow n xss x else (List.range n).map (closeF xss (n : Int) x)).length).sum = k * (n + 1)) := by
    intro k
    induction k with
    | zero => simp
    | succ k ih =>
      rw [List.range_succ, List.map_append, List.sum_append]
      have h1 : (trapRow n xss k).length = n + 1 := by simp [trapRow]
      have h2 : ((List.range n).map (closeF xss (n : Int) k)).length = n := by simp
      have h3 := ih.1
      have h4 := ih.2
      rw [Nat.add_mul, Nat.one_mul]
      simp only [List.map_cons, List.map_nil, List.sum_cons, List.sum_nil, Nat.add_zero]
      constructor
      · split
        · rw [h1]; omega
        · rw [h2]; omega
      · intro hk
        rw [if_pos (by omega), h1, h4 (by omega)]
  have := (h m).2 (Nat.le_refl _)
  unfold sumLens mixT
  rw [List.map_map]
  exact this

/-- What TrapCompletion answers. -/
def trapCompletion (s : Int) (xss : List (List Int)) : Int × List (List Int) × Int :=
  if okP s xss = true then (if s = 10 then (0, [], 3) else (s + 1, mixT s.toNat xss.length xss xss.length, 0)) else (0, [], 1)
theorem trapCompletion_1 {s : Int} {xss : List (List Int)} (h : okP s xss = false) : trapCompletion s xss = (0, [], 1) := by unfold trapCompletion; rw [if_neg (by simp [h])]
theorem trapCompletion_3 {s : Int} {xss : List (List Int)} (h : okP s xss = true) (h' : s = 10) : trapCompletion s xss = (0, [], 3) := by unfold trapCompletion; rw [if_pos h, if_pos h']
theorem trapCompletion_0 {n m : Nat} {xss : List (List Int)} (h : okP (n : Int) xss = true) (hm : xss.length = m) (h' : ¬ (n : Int) = 10) : trapCompletion (n : Int) xss = ((n : Int) + 1, mixT n m xss m, 0) := by
  unfold trapCompletion; rw [if_pos h, if_neg h', hm, Int.toNat_natCast]
theorem trapCompletion_len (s : Int) (xss : List (List Int)) : (trapCompletion s xss).2.1.length ≤ 3 := by
  unfold trapCompletion
  split
  · rename_i hok
    obtain ⟨n, rfl, hg⟩ := goodP_of hok rfl
    split
    · exact Nat.zero_le _
    · rw [mixT_len]; exact hg.m3
  · exact Nat.zero_le _
theorem trapCompletion_sum (s : Int) (xss : List (List Int)) : sumLens (trapCompletion s xss).2.1 ≤ 33 := by
  unfold trapCompletion
  split
  · rename_i hok
    obtain ⟨n, rfl, hg⟩ := goodP_of hok rfl
    split
    · exact Nat.zero_le _
    · show sumLens (mixT ((n : Int)).toNat xss.length xss xss.length) ≤ 33
      rw [mixT_sum, Int.toNat_natCast]
      have h1 := hg.m3
      have h2 := hg.n10
      have h3 : xss.length * (n + 1) ≤ 3 * 11 := Nat.mul_le_mul h1 (by omega)
      omega
  · exact Nat.zero_le _

set_option maxRecDepth 100000 in
set_option maxHeartbeats 2000000 in
theorem implTrapCompletion_any (s : Int) (A : Option Addr) (m cap : Nat) (xss : List (List Int)) (w : World) (h : RowsAt w A m xss) (hm : m ≤ 4611686018427387904)
    (hrows : ∀ (r : Nat) (xs : List Int), xss[r]? = some xs → xs.length ≤ 4611686018427387904) :
    Calls Try.prog 42 #[.agg #[.int .i64 s, .slice A m cap]] w (AutosTo (trapCompletion s xss) w) := by
  have HR := Lib.hid hrows
  have HM := Lib.hid h.1
  obtain ⟨i0, hi, hz0, hz1, hz2⟩ := info_parts info_int64
  obtain ⟨W2, hW2⟩ : ∃ W2, W2 = (w.alloc (.cells #[.int .i64 s, .slice A m cap] 27)).alloc (.cells #[.int .i64 0, .slice none 0 0] 39) := ⟨_, rfl⟩
  have b2 : Below w.heap.size w W2 := by rw [hW2]; go_grown
  have x0 : W2.cell? ⟨w.heap.size, 0, none⟩ = some (.int .i64 s) := by rw [hW2]; go_cell
  have x1 : W2.cell? ⟨w.heap.size, 1, none⟩ = some (.slice A m cap) := by rw [hW2]; go_cell
  have xr : W2.heap[w.heap.size + 1]? = some (.cells #[.int .i64 0, .slice none 0 0] 39 (0, 0)) := by
    have := heap_alloc_new (w.alloc (.cells #[.int .i64 s, .slice A m cap] 27)) (.cells #[.int .i64 0, .slice none 0 0] 39)
    rw [World.size_alloc, ← hW2] at this
    exact this
  have B2 := Lib.hid b2
  have H2 := Lib.hid (h.below b2)
  have XR := Lib.hid xr
  have HW2 := Lib.hid hW2
  clear hrows b2 xr hW2
  go_enter Try.func42, Try.ntmps42
  go_wp2_with fail
  rw [← HW2.out]
  refine (implValidPartial_any s A m cap xss _ H2.out hm HR.out).mono ?_
  rcases hok : okP s xss with _ | _
  · have HF := Lib.hid (trapCompletion_1 hok)
    rintro e w1 ⟨rfl, b1⟩
    have xr := (b1.block _ (block_lt XR.out)).trans XR.out
    obtain ⟨e0, e1, e2, e3⟩ := box2_cellsT xr
    have B1 := Lib.hid (below_then B2.out b1)
    obtain ⟨g2, g3⟩ := box2_setT xr (.int .i64 0) (.slice none 0 0)
    clear b1 xr x0 x1
    go_wp2_with fail
    refine bodyPost_ret (v := .tuple #[.agg #[.int .i64 0, .slice none 0 0], .int .i64 1]) (by simp [results, Try.results42, go_sem, g2, g3]) rfl ?_
    exact autosTo_mk HF.out (tab_nil _ _ _) ((B1.out.setCell (by simp; try omega) _).setCell (by simp; try omega) _)
  · obtain ⟨n, hsn, hg⟩ := goodP_of hok HM.out
    subst hsn
    have HG := Lib.hid hg
    have hn10 : n ≤ 10 := hg.n10
    have hm1 : 1 ≤ m := hg.m1
    have hm3 : m ≤ 3 := hg.m3
    clear hg
    rintro e w1 ⟨rfl, b1⟩
    have x0' : w1.cell? ⟨w.heap.size, 0, none⟩ = some (.int .i64 (n : Int)) := (b1.cell (cell_lt x0)).trans x0
    have x1' : w1.cell? ⟨w.heap.size, 1, none⟩ = some (.slice A m cap) := (b1.cell (cell_lt x1)).trans x1
    have xr := (b1.block _ (block_lt XR.out)).trans XR.out
    have H1 := Lib.hid (H2.out.below b1)
    have B1 := Lib.hid (below_then B2.out b1)
    have XR1 := Lib.hid xr
    obtain ⟨e0, e1, e2, e3⟩ := box2_cellsT xr
    obtain ⟨g2, g3⟩ := box2_setT xr (.int .i64 0) (.slice none 0 0)
    clear b1 xr x0 x1
    by_cases h10 : (n : Int) = 10
    · have HF := Lib.hid (trapCompletion_3 hok h10)
      have hbq : ((n : Int) == 10) = true := by rw [beq_iff_eq]; exact h10
      clear h10 hok
      go_wp2_with fail
      refine bodyPost_ret (v := .tuple #[.agg #[.int .i64 0, .slice none 0 0], .int .i64 3]) (by simp [results, Try.results42, go_sem, g2, g3]) rfl ?_
      exact autosTo_mk HF.out (tab_nil _ _ _) ((B1.out.setCell (by simp; try omega) _).setCell (by simp; try omega) _)
    · have HF := Lib.hid (trapCompletion_0 hok HM.out h10)
      have hbq : ((n : Int) == 10) = false := by rw [beq_eq_false_iff_ne]; exact h10
      clear h10 hok g2 g3 e0 e1 e2 e3
      go_wp2_with fail
      refine (closeGaps_any A n m cap (n : Int) xss _ HG.out H1.out).mono ?_
      rintro e w2 ⟨v, rfl, t1, b2⟩
      rw [← mixT_0] at t1
      obtain ⟨vs0, t1⟩ := t1
      obtain ⟨A1, c1, rfl⟩ := own_form t1.out
      rw [mixT_len] at t1
      obtain ⟨g, rfl⟩ : ∃ g, A1 = some ⟨g, 0, none⟩ := by
        have ho := t1.out
        rw [mixT_len] at ho
        exact own_addr ho (by omega)
      rw [mixT_len]
      obtain ⟨LO, hLO⟩ : ∃ LO, LO = w1.heap.size := ⟨_, rfl⟩
      obtain ⟨C5, hC5⟩ : ∃ C5, C5 = w2.heap.size := ⟨_, rfl⟩
      have hgC : g < C5 := by rw [hC5]; exact t1.top g rfl
      have hgL : LO ≤ g := by rw [hLO]; exact (t1.out.lt g rfl).1
      have hRL : w.heap.size + 1 < LO := by rw [hLO]; exact block_lt XR1.out
      have HXR2 := (b2.block _ (block_lt XR1.out)).trans XR1.out
      have HB2 := below_then B1.out b2
      have hadd : IntKind.i64.wrap ((n : Int) + 1) = (n : Int) + 1 := IntWalk.i64_in _ (by omega)
      obtain ⟨w3, hw3⟩ : ∃ w3, w3 = w2.alloc (.cells #[.int .i64 ((n : Int) + 1), .slice (some ⟨g, 0, none⟩) m c1] 39) := ⟨_, rfl⟩
      have b3 : Below w2.heap.size w2 w3 := by rw [hw3]; exact (Below.refl _ _).alloc (Nat.le_refl _) _
      have h5 : w3.heap[C5]? = some (.cells #[.int .i64 ((n : Int) + 1), .slice (some ⟨g, 0, none⟩) m c1] 39 (0, 0)) := by rw [hw3, hC5]; exact heap_alloc_new _ _
      have HT4 : Hid (TabV LO w3.heap.size w3 (.slice (some ⟨g, 0, none⟩) m c1) vs0 (mixT n m xss 0)) := Lib.hid (by
        rw [hLO]
        exact (t1.below b3).wide (Nat.le_refl _) b3.size)
      have H54 := Lib.hid h5
      have HXR4 := Lib.hid (show w3.heap[w.heap.size + 1]? = some (.cells #[.int .i64 0, .slice none 0 0] 39 (0, 0)) from (b3.block _ (block_lt HXR2)).trans HXR2)
      have HB4 := Lib.hid (below_then HB2 b3)
      have HGC := Lib.hid hgC
      have HGL := Lib.hid hgL
      have HRL := Lib.hid hRL
      clear t1 b2 HXR2 HB2 hgC hgL hRL b3 h5 hLO x0' x1'
      go_wp2_with fail
      rw [← hw3, ← hC5]
      clear hw3 hC5
      go_loopw [27] (fun i wr => ∃ (k : Nat) (vs : List Value), k ≤ m ∧ i = .int .i64 k ∧ wr.heap[w.heap.size + 1]? = some (.cells #[.int .i64 0, .slice none 0 0] 39 (0, 0)) ∧ wr.heap[C5]? = some (.cells #[.int .i64 ((n : Int) + 1), .slice (some ⟨g, 0, none⟩) m c1] 39 (0, 0)) ∧
          TabV LO wr.heap.size wr (.slice (some ⟨g, 0, none⟩) m c1) vs (mixT n m xss k) ∧ Below w.heap.size w wr) (fun i _ => m - (intOf i).toNat)
      case atStart => exact ⟨0, vs0, Nat.zero_le _, rfl, HXR4.out, H54.out, HT4.out, HB4.out⟩
      case round =>
        obtain ⟨k, vs, hk, rfl, hxr, hc5, htab, hbel⟩ := hrel
        have HX := Lib.hid hxr
        have H5 := Lib.hid hc5
        have HT := Lib.hid htab
        have HB := Lib.hid hbel
        obtain ⟨y0, y1, y2, y3⟩ := box2_cellsT hc5
        clear hxr hbel
        by_cases hlt : k < m
        · obtain ⟨g', u, hg', hu, hcu⟩ := htab.cell (r := k) (by rw [mixT_len]; exact hlt)
          have hgg : g' = g := by simpa using hg'.symm
          subst hgg
          obtain ⟨ys, hys⟩ : ∃ ys, ys = (List.range n).map (closeF xss (n : Int) k) := ⟨_, rfl⟩
          have hy : (mixT n m xss k)[k]? = some ys := by rw [hys]; exact mixT_at hlt
          have hrow := htab.row k u ys hu hy
          obtain ⟨A3, c3, rfl⟩ := hrow.form
          have hyl : ys.length ≤ 10 := by rw [hys]; simp; exact hn10
          have hf1 : wr.frozen? ⟨g', k, none⟩ = false := by
            have ho := htab.out
            rw [mixT_len] at ho
            exact ho.frozenAt k
          have hne5 : (Value.slice A3 ys.length c3).ownBlock ≠ some C5 := own_typeT hrow.1 hc5 (by decide)
          have hneg : (Value.slice A3 ys.length c3).ownBlock ≠ some g' := fun e => htab.outer k _ g' hu e rfl
          have hl5 : C5 < wr.heap.size := block_lt hc5
          have hlg : g' < wr.heap.size := htab.top g' rfl
          have HU := Lib.hid hu
          have HY := Lib.hid hy
          have HYS := Lib.hid hys
          have HR2 := Lib.hid hrow
          have HN5 := Lib.hid hne5
          have HNG := Lib.hid hneg
          have HROW := Lib.hid (fun q (hq : (Value.slice A3 ys.length c3).ownBlock = some q) => (hrow.1.lt q hq).1)
          have HLW := Lib.hid (show LO ≤ wr.heap.size from Nat.le_trans HGL.out (Nat.le_of_lt hlg))
          have KC := Lib.hid (show ∀ W', Below wr.heap.size wr W' → W'.cell? ⟨C5, 1, none⟩ = some (.slice (some ⟨g', 0, none⟩) m c1) from fun W' hb => (hb.cell (cell_lt y1)).trans y1)
          have KG := Lib.hid (show ∀ W', Below wr.heap.size wr W' → W'.cell? ⟨g', k, none⟩ = some (.slice A3 ys.length c3) from fun W' hb => (hb.cell (cell_lt hcu)).trans hcu)
          have KF := Lib.hid (show ∀ W', Below wr.heap.size wr W' → W'.frozen? ⟨g', k, none⟩ = false from fun W' hb => (hb.frozen hlg).trans hf1)
          have qd1 : ∀ o, (wr.alloc o).cell? ⟨C5, 1, none⟩ = some (.slice (some ⟨g', 0, none⟩) m c1) := fun o => KC.out _ ((Below.refl _ _).alloc (Nat.le_refl _) o)
          have qd2 : ∀ o, (wr.alloc o).cell? ⟨g', k, none⟩ = some (.slice A3 ys.length c3) := fun o => KG.out _ ((Below.refl _ _).alloc (Nat.le_refl _) o)
          have HL5 := Lib.hid hl5
          have HLG := Lib.hid hlg
          have i1 : (0 : Int) ≤ (k : Int) := by omega
          have i2 : (k : Int) < (m : Int) := by omega
          have HKM := Lib.hid hlt
          clear hc5 htab hu hy hys hrow hne5 hneg hl5 hlg y0 y2 y3 hg'
          go_wp2_with fail
          go_region_law
            (first
              | (refine step_append_lies _ rfl _ _ 38 rfl LO 2 i0 (.int .i64 0) 1 8 Try.underlying38 hi hz0 hz1 hz2 rfl (by decide) _ _ _ rfl (own_below HR2.out.1 (by first | exact (Below.refl _ _).alloc (Nat.le_refl _) _ | exact ((Below.refl _ _).alloc (Nat.le_refl _) _).drew | exact (Below.refl _ _).drew.alloc (Nat.le_refl _) _)) ⟨_, 0, none⟩ 1 1 [.int .i64 (n : Int)] rfl rfl (cell_one_new _ _ _) (ones_i64 [(n : Int)]) (by decide) (by unfold maxLen; omega) (by omega) (by have := HLW.out; simp; omega) _ rfl ?_; intro g5 cap5 w5 hown5 hgrow5 hat5 hlt5; have HA5 : Hid (Below wr.heap.size wr _) := Lib.hid (show Below wr.heap.size wr (wr.alloc (.cells #[.int .i64 (n : Int)] 2)) from (Below.refl _ _).alloc (Nat.le_refl _) _); have hgr : (wr.alloc (.cells #[.int .i64 (n : Int)] 2)).grownBy w5 (Value.slice A3 ys.length c3).ownBlock := ⟨hgrow5.os, hgrow5.tape, hgrow5.output, hgrow5.size, hgrow5.block⟩; have c5a : w5.cell? ⟨C5, 1, none⟩ = some (.slice (some ⟨g', 0, none⟩) m c1) := (hgr.cell_far ⟨C5, 1, none⟩ (by have := HL5.out; simp; omega) (fun e => HN5.out e.symm)).trans (qd1 _); have c5b : w5.cell? ⟨g', k, none⟩ = some (.slice A3 ys.length c3) := (hgr.cell_far ⟨g', k, none⟩ (by have := HLG.out; simp; omega) (fun e => HNG.out e.symm)).trans (qd2 _); have f5 : w5.frozen? ⟨g', k, none⟩ = false := (hgr.frozen_far ⟨g', k, none⟩ (by have := HLG.out; simp; omega) (fun e => HNG.out e.symm)).trans (KF.out _ HA5.out); have HG5 := Lib.hid hgr; have HO5 := Lib.hid hown5; have HAT5 := Lib.hid hat5; clear hown5 hgrow5 hat5 hlt5 hgr)
              | fail)
          all_goals
            have h5 : w5.ownsRow LO 2 1 (.slice (some ⟨g5, 0, none⟩) (ys.length + 1) cap5) (ys ++ [(n : Int)]).length ((ys ++ [(n : Int)]).map (Value.int .i64)) := by
              rw [List.length_append, List.map_append]; exact HO5.out
            have hal : Below wr.heap.size wr (wr.alloc (.cells #[.int .i64 (n : Int)] 2)) := (Below.refl _ _).alloc (Nat.le_refl _) _
            have hat := HAT5.out
            have S1 := TabV.regrow (k := k) HT.out (mixT_len _ _ _ _) HKM.out HU.out hal HG5.out h5 rfl (by first | exact hat | simpa using hat)
            have hst : (mixT n m xss k).set k (ys ++ [(n : Int)]) = mixT n m xss (k + 1) := by rw [HYS.out]; exact mixT_step HKM.out
            rw [hst] at S1
            have HS1 := Lib.hid S1
            have hrl := HRL.out
            have hgl := HGL.out
            have hgc := HGC.out
            have HS2 := Lib.hid (show (w5.setCell ⟨g', k, none⟩ (.slice (some ⟨g5, 0, none⟩) (ys.length + 1) cap5)).heap[w.heap.size + 1]? = some (.cells #[.int .i64 0, .slice none 0 0] 39 (0, 0)) by
              rw [heap_setCell_other w5 ⟨g', k, none⟩ _ _ (by simp; omega)]
              exact (HG5.out.block _ (Nat.lt_of_lt_of_le (block_lt HX.out) hal.size) (fun e => by have := HROW.out _ e.symm; omega)).trans ((hal.block _ (block_lt HX.out)).trans HX.out))
            have HS3 := Lib.hid (show (w5.setCell ⟨g', k, none⟩ (.slice (some ⟨g5, 0, none⟩) (ys.length + 1) cap5)).heap[C5]? = some (.cells #[.int .i64 ((n : Int) + 1), .slice (some ⟨g', 0, none⟩) m c1] 39 (0, 0)) by
              rw [heap_setCell_other w5 ⟨g', k, none⟩ _ _ (by simp; omega)]
              exact (HG5.out.block _ (Nat.lt_of_lt_of_le (block_lt H5.out) hal.size) (fun e => HN5.out e.symm)).trans ((hal.block _ (block_lt H5.out)).trans H5.out))
            have HS4 := Lib.hid (show Below w.heap.size w (w5.setCell ⟨g', k, none⟩ (.slice (some ⟨g5, 0, none⟩) (ys.length + 1) cap5)) from ((below_then HB.out hal).grown HG5.out (below_then HB.out hal).size (fun q hq => by have := HROW.out q hq; omega)).setCell (by simp; omega) _)
            clear h5 hal hat S1 hst hrl hgl hgc c5a c5b f5 qd1 qd2 y1
            go_wp2_with fail
            go_roundw
            case rel => exact ⟨k + 1, _, by omega, by go_num, HS2.out, HS3.out, HS1.out, HS4.out⟩
            case measure => simp [intOf]; omega
        · have hkm : k = m := by omega
          have HKM := Lib.hid hkm
          obtain ⟨e0, e1, e2, e3⟩ := box2_cellsT HX.out
          obtain ⟨g2, g3⟩ := box2_setT HX.out (.int .i64 ((n : Int) + 1)) (.slice (some ⟨g, 0, none⟩) m c1)
          clear hc5 htab hkm
          go_wp2_with fail
          refine bodyPost_ret (v := .tuple #[.agg #[.int .i64 ((n : Int) + 1), .slice (some ⟨g, 0, none⟩) m c1], .int .i64 0]) (by simp [results, Try.results42, go_sem, g2, g3]) rfl ?_
          refine autosTo_mk HF.out ?_ ((HB.out.setCell (by simp) _).setCell (by simp) _)
          rw [set2_sizeT]
          have ht := HT.out
          rw [HKM.out] at ht
          have hrl := HRL.out
          exact (TabIn.only ⟨vs, ht⟩ (set2_onlyT _ _ _ _) (.inr (by omega))).wide (by omega) (Nat.le_refl _)


end Go.Proofs.Ytikimfncpemmkaa
