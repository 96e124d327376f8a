/-
  The completion by a trap: the contract of the model's TrapCompletion.
-/
import Derived.Test.YtikimfncpemmkaaTrapI
namespace Go.Proofs.Ytikimfncpemmkaa
open Go.RowKit Go.Deep Go.ChangeShapes Go.WideShapes

def trapL (n : Nat) (xss : List (List Int)) (k : Nat) : List (List Int) := (List.range k).map (trapRow n xss)
theorem trapL_len (n : Nat) (xss : List (List Int)) (k : Nat) : (trapL n xss k).length = k := by simp [trapL]
theorem trapL_succ (n : Nat) (xss : List (List Int)) (k : Nat) : trapL n xss (k + 1) = trapL n xss k ++ [trapRow n xss k] := by simp [trapL, List.range_succ]
theorem trapL_all (n m : Nat) (xss : List (List Int)) : mixT n m xss m = trapL n xss m := by
  unfold mixT trapL
  refine List.map_congr_left fun x hx => ?_
  rw [if_pos (List.mem_range.1 hx)]
theorem only_of_belowS {B : Nat} {w w' : World} (h : Below B w w') : Only B w.heap.size w w' := ⟨h.os, h.tape, h.output, h.size, fun k hk hb => h.block k (by omega)⟩

set_option maxRecDepth 100000 in
set_option maxHeartbeats 4000000 in
theorem specTrapCompletion_any (s : Int) (A : Option Addr) (m cap : Nat) (xss : List (List Int)) (w : World) (h : RowsAt w A m xss) (hm : m ≤ 4611686018427387904)
    (hrows : ∀ (r : Nat) (xs : List Int), xss[r]? = some xs → xs.length ≤ 4611686018427387904) :
    Calls Try.prog 41 #[.agg #[.int .i64 s, .slice A m cap]] w (AutosTo (trapCompletion s xss) w) := by
  have HR := Lib.hid hrows
  have HM := Lib.hid h.1
  obtain ⟨i0, hi, hz0, hz1, hz2⟩ := info_parts info_int64
  obtain ⟨i1, hi1, hy0, hy1, hy2⟩ := info_parts info_ints
  obtain ⟨W2, hW2⟩ : ∃ W2, W2 = (w.alloc (.cells #[.int .i64 s, .slice A m cap] 27)).alloc (.cells #[.int .i64 0, .slice none 0 0] 39) := ⟨_, rfl⟩
  have b2 : Below w.heap.size w W2 := by rw [hW2]; go_grown
  have x0 : W2.cell? ⟨w.heap.size, 0, none⟩ = some (.int .i64 s) := by rw [hW2]; go_cell
  have x1 : W2.cell? ⟨w.heap.size, 1, none⟩ = some (.slice A m cap) := by rw [hW2]; go_cell
  have xr : W2.heap[w.heap.size + 1]? = some (.cells #[.int .i64 0, .slice none 0 0] 39 (0, 0)) := by
    have := heap_alloc_new (w.alloc (.cells #[.int .i64 s, .slice A m cap] 27)) (.cells #[.int .i64 0, .slice none 0 0] 39)
    rw [World.size_alloc, ← hW2] at this
    exact this
  have B2 := Lib.hid b2
  have H2 := Lib.hid (h.below b2)
  have XR := Lib.hid xr
  have HW2 := Lib.hid hW2
  clear hrows b2 xr hW2
  go_enter Try.func41, Try.ntmps41
  go_wp2_with fail
  rw [← HW2.out]
  refine (l04Ok_any w.heap.size s A m cap xss _ x0 x1 H2.out hm HR.out).mono ?_
  rcases hok : okP s xss with _ | _
  · have HF := Lib.hid (trapCompletion_1 hok)
    rintro e w1 ⟨rfl, d, hw1⟩
    have b1 : Below W2.heap.size W2 w1 := by rw [hw1]; exact below_drewN' (Below.refl _ _) d
    have xr := (b1.block _ (block_lt XR.out)).trans XR.out
    obtain ⟨e0, e1, e2, e3⟩ := box2_cellsT xr
    have B1 := Lib.hid (below_then B2.out b1)
    obtain ⟨g2, g3⟩ := box2_setT xr (.int .i64 0) (.slice none 0 0)
    clear b1 xr x0 x1 hw1
    go_wp2_with fail
    refine bodyPost_ret (v := .tuple #[.agg #[.int .i64 0, .slice none 0 0], .int .i64 1]) (by simp [results, Try.results41, go_sem, g2, g3]) rfl ?_
    exact autosTo_mk HF.out (tab_nil _ _ _) ((B1.out.setCell (by simp; try omega) _).setCell (by simp; try omega) _)
  · obtain ⟨n, hsn, hg⟩ := goodP_of hok HM.out
    subst hsn
    have HG := Lib.hid hg
    have hn10 : n ≤ 10 := hg.n10
    have hm3 : m ≤ 3 := hg.m3
    clear hg
    rintro e w1 ⟨rfl, d, hw1⟩
    have b1 : Below W2.heap.size W2 w1 := by rw [hw1]; exact below_drewN' (Below.refl _ _) d
    have x0' : w1.cell? ⟨w.heap.size, 0, none⟩ = some (.int .i64 (n : Int)) := (b1.cell (cell_lt x0)).trans x0
    have x1' : w1.cell? ⟨w.heap.size, 1, none⟩ = some (.slice A m cap) := (b1.cell (cell_lt x1)).trans x1
    have xr := (b1.block _ (block_lt XR.out)).trans XR.out
    have H1 := Lib.hid (H2.out.below b1)
    have B1 := Lib.hid (below_then B2.out b1)
    have XR1 := Lib.hid xr
    obtain ⟨e0, e1, e2, e3⟩ := box2_cellsT xr
    obtain ⟨g2, g3⟩ := box2_setT xr (.int .i64 0) (.slice none 0 0)
    clear b1 xr x0 x1 hw1
    by_cases h10 : (n : Int) = 10
    · have HF := Lib.hid (trapCompletion_3 hok h10)
      have hbq : ((n : Int) == 10) = true := by rw [beq_iff_eq]; exact h10
      clear h10 hok
      go_wp2_with fail
      refine bodyPost_ret (v := .tuple #[.agg #[.int .i64 0, .slice none 0 0], .int .i64 3]) (by simp [results, Try.results41, go_sem, g2, g3]) rfl ?_
      exact autosTo_mk HF.out (tab_nil _ _ _) ((B1.out.setCell (by simp; try omega) _).setCell (by simp; try omega) _)
    · have HF := Lib.hid (trapCompletion_0 hok HM.out h10)
      have hbq : ((n : Int) == 10) = false := by rw [beq_eq_false_iff_ne]; exact h10
      have hadd : IntKind.i64.wrap ((n : Int) + 1) = (n : Int) + 1 := IntWalk.i64_in _ (by omega)
      obtain ⟨OB, hOB⟩ : ∃ OB, OB = w1.heap.size := ⟨_, rfl⟩
      have hRB : w.heap.size + 1 < OB := by rw [hOB]; exact block_lt XR1.out
      obtain ⟨w3, hw3⟩ : ∃ w3, w3 = w1.alloc (.cells #[.int .i64 ((n : Int) + 1), .slice none 0 0] 39) := ⟨_, rfl⟩
      have b3 : Below w1.heap.size w1 w3 := by rw [hw3]; exact (Below.refl _ _).alloc (Nat.le_refl _) _
      have xo : w3.heap[OB]? = some (.cells #[.int .i64 ((n : Int) + 1), .slice none 0 0] 39 (0, 0)) := by rw [hw3, hOB]; exact heap_alloc_new _ _
      have z3 : w3.heap.size = OB + 1 := by rw [hw3, World.size_alloc, hOB]
      have HXO := Lib.hid xo
      have HXR := Lib.hid ((b3.block _ (block_lt XR1.out)).trans XR1.out)
      have HB3 := Lib.hid (below_then B1.out b3)
      have HZ3 := Lib.hid z3
      have HRB := Lib.hid hRB
      have C0 := Lib.hid x0'
      have C1 := Lib.hid x1'
      have HBW1 := Lib.hid b3
      have HOB1 := Lib.hid hOB
      clear h10 hok g2 g3 e0 e1 e2 e3 xo z3 hRB b3
      go_wp2_with fail
      rw [← hw3, ← hOB]
      clear hw3 hOB x0' x1'
      go_loopw [5] (fun i wr => ∃ (k : Nat) (v : Value) (vs : List Value), k ≤ m ∧ i = .int .i64 k ∧ wr.heap[w.heap.size + 1]? = some (.cells #[.int .i64 0, .slice none 0 0] 39 (0, 0)) ∧ wr.heap[OB]? = some (.cells #[.int .i64 ((n : Int) + 1), v] 39 (0, 0)) ∧
          TabV (OB + 1) wr.heap.size wr v vs (trapL n xss k) ∧ Below w1.heap.size w1 wr) (fun i _ => m - (intOf i).toNat)
      case atStart =>
        refine ⟨0, .slice none 0 0, [], Nat.zero_le _, rfl, HXR.out, HXO.out, ⟨rfl, World.ownsRow_nil _ _ _ _, fun g hg => ?_, fun r u xs hu => ?_, fun r r' u u' g hu => ?_, fun r u g hu => ?_⟩, HBW1.out⟩
        · simp [Value.ownBlock] at hg
        · simp at hu
        · simp at hu
        · simp at hu
      case round =>
        obtain ⟨k, v, vs, hk, rfl, hxr, hxo, htab, hbel⟩ := hrel
        obtain ⟨A3, c3, rfl⟩ := own_form htab.out
        have HX := Lib.hid hxr
        have HXO := Lib.hid hxo
        have HT := Lib.hid htab
        have HB := Lib.hid hbel
        have y1 : wr.cell? ⟨w.heap.size, 1, none⟩ = some (.slice A m cap) := (hbel.cell (cell_lt C1.out)).trans C1.out
        by_cases hlt : k < m
        · clear hxr hxo htab hbel
          obtain ⟨G9, hG9⟩ : ∃ G9, G9 = wr.heap.size := ⟨_, rfl⟩
          have HG9 := Lib.hid hG9
          have hb1 : Below wr.heap.size wr (wr.alloc (.cells #[] 2)) := (Below.refl _ _).alloc (Nat.le_refl _) _
          have HN0 := Lib.hid (own_none' (w := wr) (base := G9) (g := G9) hG9 (Nat.le_of_eq hG9))
          have HT1 := Lib.hid (HT.out.below hb1)
          have HY0 := Lib.hid ((hb1.block _ (block_lt HX.out)).trans HX.out)
          have HY1 := Lib.hid ((hb1.block _ (block_lt HXO.out)).trans HXO.out)
          have HB1 := Lib.hid (HB.out.trans (hb1.mono HB.out.size))
          have HZ1 := Lib.hid (show wr.heap.size + 1 ≤ (wr.alloc (.cells #[] 2)).heap.size by simp)
          have HLO := Lib.hid (show OB + 1 ≤ G9 by rw [hG9]; exact block_lt HXO.out)
          have hk0 : (0 : Int) ≤ (k : Int) := by omega
          have hkm : (k : Int) < (m : Int) := by omega
          have HKM := Lib.hid hlt
          rw [← hG9] at HT1 HZ1
          clear hG9 hb1
          go_wp2_with fail
          rw [← HG9.out]
          clear y1
          go_loopw [6, 7] (fun rv j wi => ∃ (q : Nat) (C : List Int), q ≤ n ∧ j = .int .i64 q ∧ C = (List.range q).map (closeF xss (n : Int) k) ∧ wi.heap[w.heap.size + 1]? = some (.cells #[.int .i64 0, .slice none 0 0] 39 (0, 0)) ∧ wi.heap[OB]? = some (.cells #[.int .i64 ((n : Int) + 1), .slice A3 (trapL n xss k).length c3] 39 (0, 0)) ∧
              TabV (OB + 1) G9 wi (.slice A3 (trapL n xss k).length c3) vs (trapL n xss k) ∧ wi.ownsRow G9 2 1 rv C.length (C.map (Value.int .i64)) ∧ Below w1.heap.size w1 wi ∧ G9 + 1 ≤ wi.heap.size) (fun _ j _ => n - (intOf j).toNat)
          case atStart => exact ⟨0, [], Nat.zero_le _, rfl, rfl, HY0.out, HY1.out, HT1.out, HN0.out, HB1.out, HZ1.out⟩
          case round =>
            obtain ⟨q, C, hq, rfl, hC, hz0, hz1, htb, hown, hbl, hsz⟩ := hrel
            have hclen : C.length ≤ 10 := by rw [hC]; simp; omega
            obtain ⟨A5, c5, rfl⟩ := own_form hown
            have HC := Lib.hid hC
            have HZ0 := Lib.hid hz0
            have HZ1 := Lib.hid hz1
            have HTB := Lib.hid htb
            have HOW := Lib.hid hown
            have HBL := Lib.hid hbl
            have HSZ := Lib.hid hsz
            have y0 : World.cell? ‹World› ⟨w.heap.size, 0, none⟩ = some (.int .i64 (n : Int)) := (hbl.cell (cell_lt C0.out)).trans C0.out
            have y1 : World.cell? ‹World› ⟨w.heap.size, 1, none⟩ = some (.slice A m cap) := (hbl.cell (cell_lt C1.out)).trans C1.out
            obtain ⟨row, b4, off4, A7, c7, hr, hA, hcr, hnum⟩ := (H1.out.below hbl).at_ HKM.out
            subst hA
            have hgd : xss.getD k [] = row := by rw [List.getD_eq_getElem?_getD, hr]; rfl
            obtain ⟨hlen, hrow⟩ := HG.out.at_ HKM.out
            rw [hgd] at hlen hrow
            rw [hlen] at hcr hnum
            have HNUM := Lib.hid hnum
            have HROWV := Lib.hid hrow
            have HGD := Lib.hid hgd
            clear hC hz0 hz1 htb hown hbl hsz HT1 HY0 HY1 HB1 HN0 hr hgd hlen hrow hnum
            by_cases hqn : q < n
            · obtain ⟨y, b3, off3, hy, rfl, hcy⟩ := HNUM.out.at_ hqn
              have hyb := HROWV.out y (List.mem_of_getElem? hy)
              have hyd : (xss.getD k []).getD q 0 = y := by rw [HGD.out, List.getD_eq_getElem?_getD, hy]; rfl
              obtain ⟨V, hV⟩ : ∃ V, V = closeF xss (n : Int) k q := ⟨_, rfl⟩
              have HV := Lib.hid hV
              have hq0 : (0 : Int) ≤ (q : Int) := by omega
              have hqm : (q : Int) < (n : Int) := by omega
              have HGZ := Lib.hid (show G9 ≤ wr.heap.size by have := HSZ.out; omega)
              by_cases hneg : y < 0
              · have HVE := Lib.hid (show (n : Int) = V by rw [hV]; unfold closeF; rw [hyd, if_pos (by omega)])
                clear hy hyd hV hyb
                go_wp2_with (at_builtin; refine wpList_append_own _ rfl _ _ 38 rfl (G9) 2 i0 (.int .i64 0) 1 8 Try.underlying38 hi hz0 hz1 hz2 rfl (by decide) _ _ _ rfl (World.ownsRow.alloc (HOW.out) _) ⟨(wr).heap.size, 0, none⟩ 1 1 [.int .i64 (n : Int)] rfl rfl (cell_one_new _ _ _) (ones_i64 [(n : Int)]) (by unfold maxLen; omega) (by omega) (by rw [World.size_alloc]; exact Nat.le_succ_of_le (HGZ.out)) ?_)
                intro v' w5 hown' hgrow _
                have ba : Below wr.heap.size wr (wr.alloc (.cells #[.int .i64 (n : Int)] 2)) := (Below.refl _ _).alloc (Nat.le_refl _) _
                have HB5 := Lib.hid (show Below G9 wr w5 from Below.grown (ba.mono HGZ.out) hgrow (by have := HGZ.out; simp; omega) (fun g hg => (HOW.out.lt g hg).1))
                have HO5 := Lib.hid hown'
                rw [HVE.out] at HO5
                clear hown' hgrow ba
                have HL5 := Lib.hid (show G9 + 1 ≤ w5.heap.size from Nat.le_trans HSZ.out HB5.out.size)
                have hloo := HLO.out
                have hrb := HRB.out
                have HW5 := Lib.hid (show Below w1.heap.size w1 w5 from HBL.out.trans (HB5.out.mono (by have := HOB1.out; omega)))
                go_wp2_with fail
                go_roundw
                case rel => exact ⟨q + 1, C ++ [V], by omega, by go_num, by rw [List.range_succ, List.map_append, ← HC.out]; simp only [List.map_cons, List.map_nil]; rw [← HV.out], (HB5.out.block _ (by omega)).trans HZ0.out, (HB5.out.block _ (by omega)).trans HZ1.out, HTB.out.only (only_of_belowS HB5.out) (.inl (Nat.le_refl _)), by rw [List.length_append, List.map_append]; exact HO5.out, HW5.out, HL5.out⟩
                case measure => simp [intOf]; omega
              · have HVE := Lib.hid (show y = V by rw [hV]; unfold closeF; rw [hyd, if_neg (by omega)])
                clear hy hyd hV hyb
                go_wp2_with (at_builtin; refine wpList_append_own _ rfl _ _ 38 rfl (G9) 2 i0 (.int .i64 0) 1 8 Try.underlying38 hi hz0 hz1 hz2 rfl (by decide) _ _ _ rfl (World.ownsRow.alloc (HOW.out) _) ⟨(wr).heap.size, 0, none⟩ 1 1 [.int .i64 y] rfl rfl (cell_one_new _ _ _) (ones_i64 [y]) (by unfold maxLen; omega) (by omega) (by rw [World.size_alloc]; exact Nat.le_succ_of_le (HGZ.out)) ?_)
                intro v' w5 hown' hgrow _
                have ba : Below wr.heap.size wr (wr.alloc (.cells #[.int .i64 y] 2)) := (Below.refl _ _).alloc (Nat.le_refl _) _
                have HB5 := Lib.hid (show Below G9 wr w5 from Below.grown (ba.mono HGZ.out) hgrow (by have := HGZ.out; simp; omega) (fun g hg => (HOW.out.lt g hg).1))
                have HO5 := Lib.hid hown'
                rw [HVE.out] at HO5
                clear hown' hgrow ba
                have HL5 := Lib.hid (show G9 + 1 ≤ w5.heap.size from Nat.le_trans HSZ.out HB5.out.size)
                have hloo := HLO.out
                have hrb := HRB.out
                have HW5 := Lib.hid (show Below w1.heap.size w1 w5 from HBL.out.trans (HB5.out.mono (by have := HOB1.out; omega)))
                go_wp2_with fail
                go_roundw
                case rel => exact ⟨q + 1, C ++ [V], by omega, by go_num, by rw [List.range_succ, List.map_append, ← HC.out]; simp only [List.map_cons, List.map_nil]; rw [← HV.out], (HB5.out.block _ (by omega)).trans HZ0.out, (HB5.out.block _ (by omega)).trans HZ1.out, HTB.out.only (only_of_belowS HB5.out) (.inl (Nat.le_refl _)), by rw [List.length_append, List.map_append]; exact HO5.out, HW5.out, HL5.out⟩
                case measure => simp [intOf]; omega
            · have hqe : q = n := by omega
              have HCE := Lib.hid (show C ++ [(n : Int)] = trapRow n xss k by rw [HC.out, hqe]; rfl)
              obtain ⟨e0, e1, _, e3⟩ := box2_cellsT HZ1.out
              have htl : (trapL n xss k).length ≤ 3 := by rw [trapL_len]; have := HKM.out; omega
              have HGZ := Lib.hid (show G9 ≤ wr.heap.size by have := HSZ.out; omega)
              have KO := Lib.hid (show ∀ W', Below wr.heap.size wr W' → W'.cell? ⟨OB, 1, none⟩ = some (.slice A3 (trapL n xss k).length c3) from fun W' hb => (hb.cell (cell_lt e1)).trans e1)
              have KN := Lib.hid (show ∀ W', Below wr.heap.size wr W' → W'.cell? ⟨w.heap.size, 0, none⟩ = some (.int .i64 (n : Int)) from fun W' hb => (hb.cell (cell_lt y0)).trans y0)
              have qd1 : ∀ o, (wr.alloc o).cell? ⟨OB, 1, none⟩ = some (.slice A3 (trapL n xss k).length c3) := fun o => KO.out _ ((Below.refl _ _).alloc (Nat.le_refl _) o)
              have qd2 : ∀ o, (wr.alloc o).cell? ⟨w.heap.size, 0, none⟩ = some (.int .i64 (n : Int)) := fun o => KN.out _ ((Below.refl _ _).alloc (Nat.le_refl _) o)
              have HE1 := Lib.hid e1
              have HE3 := Lib.hid e3
              have HOWN := Lib.hid (fun q' (hq' : (Value.slice A5 C.length c5).ownBlock = some q') => (HOW.out.lt q' hq').1)
              have HON := Lib.hid (fun q' (hq' : (Value.slice A3 (trapL n xss k).length c3).ownBlock = some q') => (HTB.out.out.lt q' hq').1)
              clear e0
              go_wp2_with fail
              clear hqe hcr
              go_region_law
                (first
                  | (refine step_append_lies _ rfl _ _ 38 rfl G9 2 i0 (.int .i64 0) 1 8 Try.underlying38 hi hz0 hz1 hz2 rfl (by decide) _ _ _ rfl (own_below HOW.out (by first | exact (Below.refl _ _).alloc (Nat.le_refl _) _ | exact ((Below.refl _ _).alloc (Nat.le_refl _) _).drew | exact (Below.refl _ _).drew.alloc (Nat.le_refl _) _)) ⟨_, 0, none⟩ 1 1 [.int .i64 (n : Int)] rfl rfl (cell_one_new _ _ _) (ones_i64 [(n : Int)]) (by decide) (by unfold maxLen; omega) (by omega) (by have := HGZ.out; simp; omega) _ rfl ?_; intro g5 cap5 w5 hown5 hgrow5 hat5 hlt5; have hgr5 : (wr.alloc (.cells #[.int .i64 (n : Int)] 2)).grownBy w5 (Value.slice A5 C.length c5).ownBlock := ⟨hgrow5.os, hgrow5.tape, hgrow5.output, hgrow5.size, hgrow5.block⟩; have hB5 : Below G9 wr w5 := Below.grown ((Below.refl _ _).alloc HGZ.out _) hgr5 (by have := HGZ.out; simp; omega) (fun g hg => HOWN.out g hg); have hog : OB < G9 := HLO.out; have c5 : w5.cell? ⟨OB, 1, none⟩ = some (.slice A3 (trapL n xss k).length c3) := (hB5.cell hog).trans HE1.out; have f5 : w5.frozen? ⟨OB, 1, none⟩ = false := (hB5.frozen hog).trans HE3.out; have KO5 := Lib.hid (show ∀ W', Below w5.heap.size w5 W' → W'.cell? ⟨OB, 1, none⟩ = some (.slice A3 (trapL n xss k).length c3) from fun W' hb => (hb.cell (cell_lt c5)).trans c5); have qd5 : ∀ o, (w5.alloc o).cell? ⟨OB, 1, none⟩ = some (.slice A3 (trapL n xss k).length c3) := fun o => KO5.out _ ((Below.refl _ _).alloc (Nat.le_refl _) o); have HO5 := Lib.hid hown5; have HB5 := Lib.hid hB5; have HF5 := Lib.hid f5; have HC5 := Lib.hid (cell_lt c5); have HL5 := Lib.hid (Nat.le_trans HGZ.out hB5.size); have HT5 := Lib.hid (HTB.out.only (only_of_belowS hB5) (.inl (Nat.le_refl _))); clear hown5 hgrow5 hat5 hlt5 hgr5 hB5 hog)
                  | (refine step_append_lies _ rfl _ _ 22 rfl (OB + 1) 38 i1 (.slice none 0 0) 1 24 Try.underlying22 hi1 hy0 hy1 hy2 rfl (by decide) _ _ _ rfl (own_below HT5.out.out (by first | exact (Below.refl _ _).alloc (Nat.le_refl _) _ | exact ((Below.refl _ _).alloc (Nat.le_refl _) _).drew | exact (Below.refl _ _).drew.alloc (Nat.le_refl _) _)) ⟨_, 0, none⟩ 1 1 [.slice (some ⟨g5, 0, none⟩) (C.length + 1) cap5] rfl rfl (cell_one_new _ _ _) (by simp [Value.oneCell']) (by decide) (by unfold maxLen; omega) (by omega) (by have := HL5.out; have := HLO.out; simp; omega) _ rfl ?_; intro g6 cap6 w6 hown6 hgrow6 hat6 hlt6; have hgr6 : (w5.alloc (.cells #[.slice (some ⟨g5, 0, none⟩) (C.length + 1) cap5] 38)).grownBy w6 (Value.slice A3 (trapL n xss k).length c3).ownBlock := ⟨hgrow6.os, hgrow6.tape, hgrow6.output, hgrow6.size, hgrow6.block⟩; have c6 : w6.cell? ⟨OB, 1, none⟩ = some (.slice A3 (trapL n xss k).length c3) := (hgr6.cell_far ⟨OB, 1, none⟩ (by have := HC5.out; simp at this ⊢; omega) (fun e => by have := HON.out _ e.symm; simp at this; omega)).trans (qd5 _); have f6 : w6.frozen? ⟨OB, 1, none⟩ = false := (hgr6.frozen_far ⟨OB, 1, none⟩ (by have := HC5.out; simp at this ⊢; omega) (fun e => by have := HON.out _ e.symm; simp at this; omega)).trans ((((Below.refl w5.heap.size w5).alloc (Nat.le_refl _) _).frozen HC5.out).trans HF5.out); have HG6 := Lib.hid hgr6; have HO6 := Lib.hid hown6; have HAT6 := Lib.hid hat6; clear hown6 hgrow6 hat6 hlt6 hgr6)
                  | fail)
              all_goals
                have hrow : IntsIn G9 w5.heap.size w5 (.slice (some ⟨g5, 0, none⟩) (C.length + 1) cap5) (C ++ [(n : Int)]) := IntsIn.of (by rw [List.length_append, List.map_append]; exact HO5.out)
                have ba5 : Below w5.heap.size w5 (w5.alloc (.cells #[.slice (some ⟨g5, 0, none⟩) (C.length + 1) cap5] 38)) := (Below.refl _ _).alloc (Nat.le_refl _) _
                have hat := HAT6.out
                have htab2 := TabV.snoc (HT5.out.below ba5) (hrow.below ba5) HO6.out HG6.out (hat.elim (fun e => .inl e.symm) (fun e => .inr (by rw [e]; rfl))) HLO.out (Nat.le_refl _) ba5.size
                rw [HCE.out, ← trapL_succ] at htab2
                have hs6 := only_setCell w6 OB 1 (.slice (some ⟨g6, 0, none⟩) ((trapL n xss k).length + 1) cap6)
                have HS1 := Lib.hid (show TabV (OB + 1) (w6.setCell ⟨OB, 1, none⟩ (.slice (some ⟨g6, 0, none⟩) ((trapL n xss k).length + 1) cap6)).heap.size (w6.setCell ⟨OB, 1, none⟩ (.slice (some ⟨g6, 0, none⟩) ((trapL n xss k).length + 1) cap6)) _ _ _ by rw [World.size_setCell]; exact htab2.only hs6 (.inr (Nat.le_refl _)))
                have hog := HLO.out
                have hrb := HRB.out
                have hp6 : ∀ z, z < G9 → (∀ q', (Value.slice A3 (trapL n xss k).length c3).ownBlock = some q' → q' ≠ z) → z < wr.heap.size → w6.heap[z]? = wr.heap[z]? := fun z hz hn hzw => by
                  have h5s := HB5.out.size
                  exact (HG6.out.block z (Nat.lt_of_lt_of_le (Nat.lt_of_lt_of_le hzw h5s) ba5.size) (fun e => hn z e.symm rfl)).trans ((ba5.block z (Nat.lt_of_lt_of_le hzw h5s)).trans (HB5.out.block z hz))
                have HS2 := Lib.hid (show (w6.setCell ⟨OB, 1, none⟩ (.slice (some ⟨g6, 0, none⟩) ((trapL n xss k).length + 1) cap6)).heap[w.heap.size + 1]? = some (.cells #[.int .i64 0, .slice none 0 0] 39 (0, 0)) by
                  rw [heap_setCell_other w6 ⟨OB, 1, none⟩ _ _ (by simp; omega)]
                  exact (hp6 _ (by omega) (fun q' hq' => by have := HON.out q' hq'; omega) (block_lt HZ0.out)).trans HZ0.out)
                have hx6 : w6.heap[OB]? = some (.cells #[.int .i64 ((n : Int) + 1), .slice A3 (trapL n xss k).length c3] 39 (0, 0)) := (hp6 _ (by omega) (fun q' hq' => by have := HON.out q' hq'; omega) (block_lt HZ1.out)).trans HZ1.out
                have HS3 := Lib.hid (show (w6.setCell ⟨OB, 1, none⟩ (.slice (some ⟨g6, 0, none⟩) ((trapL n xss k).length + 1) cap6)).heap[OB]? = some (.cells #[.int .i64 ((n : Int) + 1), .slice (some ⟨g6, 0, none⟩) ((trapL n xss k).length + 1) cap6] 39 (0, 0)) by
                  rw [heap_setCell_same w6 OB 1 _ _ _ hx6]; rfl)
                have hb1 := HOB1.out
                have HS4 := Lib.hid (show Below w1.heap.size w1 (w6.setCell ⟨OB, 1, none⟩ (.slice (some ⟨g6, 0, none⟩) ((trapL n xss k).length + 1) cap6)) from (((HBL.out.trans (HB5.out.mono (by omega))).trans (ba5.mono (HBL.out.trans (HB5.out.mono (by omega))).size)).grown HG6.out ((HBL.out.trans (HB5.out.mono (by omega))).trans (ba5.mono (HBL.out.trans (HB5.out.mono (by omega))).size)).size (fun q' hq' => by have := HON.out q' hq'; omega)).setCell (by simp; omega) _)
                clear hrow ba5 hat htab2 hs6 hog hrb hp6 hx6 hb1 c5 c6 f5 f6 qd5 qd1 qd2 e1 e3 y0 y1
                go_wp2_with fail
                go_roundw
                case rel => exact ⟨k + 1, _, _, by omega, by go_num, HS2.out, HS3.out, HS1.out, HS4.out⟩
                case measure => simp [intOf]; omega
        · have hkm : k = m := by omega
          have HKM := Lib.hid hkm
          obtain ⟨e0, e1, e2, e3⟩ := box2_cellsT HX.out
          obtain ⟨g0, g1, _, _⟩ := box2_cellsT HXO.out
          obtain ⟨g2, g3⟩ := box2_setT HX.out (.int .i64 ((n : Int) + 1)) (.slice A3 (trapL n xss k).length c3)
          clear hxr hxo htab hkm
          go_wp2_with fail
          refine bodyPost_ret (v := .tuple #[.agg #[.int .i64 ((n : Int) + 1), .slice A3 (trapL n xss k).length c3], .int .i64 0]) (by simp [results, Try.results41, go_sem, g2, g3]) rfl ?_
          rw [trapL_all] at HF
          rw [← HKM.out] at HF
          have hw := below_then B1.out HB.out
          refine autosTo_mk HF.out ?_ ((hw.setCell (by simp) _).setCell (by simp) _)
          rw [set2_sizeT]
          have hrb := HRB.out
          exact (TabIn.only ⟨vs, HT.out⟩ (set2_onlyT _ _ _ _) (.inr (by omega))).wide (by omega) (Nat.le_refl _)

end Go.Proofs.Ytikimfncpemmkaa
