/-
  The program's records of outputs: the contracts of recordOf and failingLetter.
-/
import Derived.Test.YtdhmciendlihoaaDoorFailD
import Derived.Test.YtdhmciendlihoaaDoorTrans
import Derived.Test.YtdhmciendlihoaaDoorTab
namespace Go.Proofs.YtdhmciendlihoaaDoor
open Go.RowKit Go.Deep Go.ChangeShapes Go.WideShapes

set_option maxRecDepth 100000 in
set_option maxHeartbeats 2000000 in
theorem recordOf_any (A : Option Addr) (n m k c : Nat) (xss : List (List Int)) (B : Option Addr) (d : Nat) (yss : List (List Int)) (A' : Option Addr) (l cap' : Nat) (wss : List (List Int)) (w : World) (hg : GoodM n m k xss yss) (h : RowsAt w A m xss) (g : RowsAt w B m yss) (h' : RowsAt w A' l wss) (hs : isSuiteB (m : Int) wss = true) :
    Calls Tryd.prog 45 #[.agg #[.int .i64 (n : Int), .int .i64 (k : Int), .slice A m c, .slice B m d], .slice A' l cap'] w
      fun e w' => ∃ v, e = .returned (.agg #[.slice A' l cap', v]) ∧ TabIn w.heap.size w'.heap.size w' v (recF xss yss wss l) ∧ Below w.heap.size w w' := by
  obtain ⟨i1, hi1, hy0, hy1, hy2⟩ := info_parts info_ints
  have HL := Lib.hid h'.1
  have hl4 : l ≤ 400 := by have := isSuiteB_len hs; have := h'.1; omega
  have hn1 : 0 < n := by have := hg.good.n1; omega
  have HN1 := Lib.hid hn1
  have HG := Lib.hid hg
  have HSU := Lib.hid hs
  have HX := Lib.hid h
  have HY := Lib.hid g
  have HS := Lib.hid h'
  obtain ⟨W3, hW3⟩ : ∃ W3, W3 = ((w.alloc (.cells #[.int .i64 (n : Int), .int .i64 (k : Int), .slice A m c, .slice B m d] 28)).alloc (.cells #[.slice none 0 0, .slice none 0 0] 72)).alloc (.cells #[.slice A' l cap', .slice none 0 0] 72) := ⟨_, rfl⟩
  have b3 : Below w.heap.size w W3 := by rw [hW3]; go_grown
  have hsz : W3.heap.size = w.heap.size + 3 := by rw [hW3]; simp
  have p0 : W3.heap[w.heap.size]? = some (.cells #[.int .i64 (n : Int), .int .i64 (k : Int), .slice A m c, .slice B m d] 28 (0, 0)) := by
    rw [hW3, heap_alloc_old _ _ (by simp; omega), heap_alloc_old _ _ (by simp)]
    exact heap_alloc_new _ _
  have p1 : W3.heap[w.heap.size + 1]? = some (.cells #[.slice none 0 0, .slice none 0 0] 72 (0, 0)) := by
    rw [hW3, heap_alloc_old _ _ (by simp)]
    exact (by simpa using heap_alloc_new (w.alloc (.cells #[.int .i64 (n : Int), .int .i64 (k : Int), .slice A m c, .slice B m d] 28)) (.cells #[.slice none 0 0, .slice none 0 0] 72))
  have p2 : W3.heap[w.heap.size + 2]? = some (.cells #[.slice A' l cap', .slice none 0 0] 72 (0, 0)) := by
    rw [hW3]
    exact (by simpa using heap_alloc_new ((w.alloc (.cells #[.int .i64 (n : Int), .int .i64 (k : Int), .slice A m c, .slice B m d] 28)).alloc (.cells #[.slice none 0 0, .slice none 0 0] 72)) (.cells #[.slice A' l cap', .slice none 0 0] 72))
  have ht0 : TabV (w.heap.size + 3) W3.heap.size W3 (.slice none 0 0) [] (recF xss yss wss 0) := by
    refine ⟨rfl, World.ownsRow_nil _ _ _ _, fun g hg => ?_, fun r u xs hu => ?_, fun r r' u u' g hu => ?_, fun r u g hu => ?_⟩
    · simp [Value.ownBlock] at hg
    · simp at hu
    · simp at hu
    · simp at hu
  have HP0 := Lib.hid p0
  have HP1 := Lib.hid p1
  have HP2 := Lib.hid p2
  have HT0 := Lib.hid ht0
  have HB3 := Lib.hid b3
  have HW3 := Lib.hid hW3
  have HSZ := Lib.hid hsz
  clear hg h g h' hs hW3 b3 hsz p0 p1 p2 ht0 hn1
  go_enter Tryd.func45, Tryd.ntmps45
  go_wp2_with fail
  rw [← HW3.out]
  go_loopw [14] (fun i wr => ∃ (j : Nat) (v : Value) (vs : List Value), j ≤ l ∧ i = .int .i64 j ∧ wr.heap[w.heap.size]? = some (.cells #[.int .i64 (n : Int), .int .i64 (k : Int), .slice A m c, .slice B m d] 28 (0, 0)) ∧ wr.heap[w.heap.size + 1]? = some (.cells #[.slice none 0 0, .slice none 0 0] 72 (0, 0)) ∧
      wr.heap[w.heap.size + 2]? = some (.cells #[.slice A' l cap', v] 72 (0, 0)) ∧ TabV (w.heap.size + 3) wr.heap.size wr v vs (recF xss yss wss j) ∧ Below w.heap.size w wr) (fun i _ => l - (intOf i).toNat)
  case atStart => exact ⟨0, .slice none 0 0, [], Nat.zero_le _, rfl, HP0.out, HP1.out, HP2.out, HT0.out, HB3.out⟩
  case round =>
    obtain ⟨j, v, vs, hj, rfl, hx0, hx1, hx2, htab, hbel⟩ := hrel
    have hvf := own_form htab.out
    have HX0 := Lib.hid hx0
    have HX1 := Lib.hid hx1
    have HX2 := Lib.hid hx2
    have HT := Lib.hid htab
    have HB := Lib.hid hbel
    obtain ⟨A3, c3, rfl⟩ := hvf
    have hjl : (recF xss yss wss j).length ≤ 400 := by rw [recF_len _ _ _ (by rw [HL.out]; exact hj)]; omega
    by_cases hlt : j < l
    · obtain ⟨ws, b, off, A1, a1, hx, rfl, hc1, hnum1⟩ := (HS.out.below hbel).at_ hlt
      have HXX := Lib.hid hx
      have HNW := Lib.hid hnum1
      have hwd := isSuiteB_at HSU.out hx
      have HWL := Lib.hid (word_letters hwd)
      have hlw : ws.length ≤ 400 := by simp only [isWordB, Bool.and_eq_true, decide_eq_true_eq] at hwd; exact hwd.1
      have d0 : wr.cell? ⟨w.heap.size, 0, none⟩ = some (.int .i64 (n : Int)) := cell_of_row _ _ 0 _ _ _ hx0
      have d1 : wr.cell? ⟨w.heap.size, 1, none⟩ = some (.int .i64 (k : Int)) := cell_of_row _ _ 1 _ _ _ hx0
      have d2 : wr.cell? ⟨w.heap.size, 2, none⟩ = some (.slice A m c) := cell_of_row _ _ 2 _ _ _ hx0
      have d3 : wr.cell? ⟨w.heap.size, 3, none⟩ = some (.slice B m d) := cell_of_row _ _ 3 _ _ _ hx0
      have hj0 : (0 : Int) ≤ (j : Int) := by omega
      have hjl' : (j : Int) < (l : Int) := by omega
      clear hx hnum1 hwd hx0 hx1 hx2 htab hbel
      go_wp2_with fail
      refine (outputsOf_any A n m k c xss B d yss 0 A1 ws.length a1 ws wr HG.out (HX.out.below HB.out) (HY.out.below HB.out) HNW.out HWL.out HN1.out hlw).mono ?_
      rintro e w1 ⟨v1, rfl, o1, b1⟩
      obtain ⟨A5, c5, rfl⟩ := own_form o1
      have HO1 := Lib.hid o1
      have HB1 := Lib.hid b1
      have y2 := (b1.block _ (block_lt HX2.out)).trans HX2.out
      have HY2 := Lib.hid y2
      have HY0 := Lib.hid ((b1.block _ (block_lt HX0.out)).trans HX0.out)
      have HY1 := Lib.hid ((b1.block _ (block_lt HX1.out)).trans HX1.out)
      have e1 : w1.cell? ⟨w.heap.size + 2, 1, none⟩ = some (.slice A3 (recF xss yss wss j).length c3) := cell_of_row _ _ 1 _ _ _ y2
      have HT1 := Lib.hid (HT.out.below b1)
      have hlt2 := block_lt HX2.out
      have HLT2 := Lib.hid hlt2
      have HLE := Lib.hid (show w.heap.size + 3 ≤ w1.heap.size by have := b1.size; omega)
      clear o1 b1 y2 d0 d1 d2 d3 hlt2
      go_wp2_with (at_builtin; refine wpList_append_own_at _ rfl _ _ 22 rfl (w.heap.size + 3) 47 i1 (.slice none 0 0) 1 24 Tryd.underlying22 hi1 hy0 hy1 hy2 rfl (by decide) _ _ _ rfl (World.ownsRow.alloc (HT1.out.out) _) ⟨(w1).heap.size, 0, none⟩ 1 1 [.slice A5 (outS xss yss ws 0).length c5] rfl rfl (cell_one_new _ _ _) (by simp [Value.oneCell']) (by unfold maxLen; omega) (by omega) (by rw [World.size_alloc]; exact Nat.le_succ_of_le HLE.out) ?_)
      intro v' w2 hown' hgrow _ hat
      obtain ⟨A6, c6, rfl⟩ := own_form hown'
      have hrow : IntsIn wr.heap.size w1.heap.size w1 (.slice A5 (outS xss yss ws 0).length c5) (outS xss yss ws 0) := IntsIn.of HO1.out
      have ba : Below w1.heap.size w1 (w1.alloc (.cells #[.slice A5 (outS xss yss ws 0).length c5] 47)) := (Below.refl _ _).alloc (Nat.le_refl _) _
      have htab2 := TabV.snoc (HT1.out.below ba) (hrow.below ba) hown' hgrow (by rw [World.size_alloc]; exact hat) (by have := HLT2.out; omega) (Nat.le_refl _) ba.size
      rw [← recF_succ xss yss HXX.out] at htab2
      have HT2 := Lib.hid htab2
      have hvn : ∀ g, (Value.slice A3 (recF xss yss wss j).length c3).ownBlock = some g → w.heap.size + 3 ≤ g := fun g hg => (HT1.out.out.lt g hg).1
      have hu0 := (hgrow.block _ (Nat.lt_of_lt_of_le (block_lt HY0.out) ba.size) (fun e => by have := hvn _ e.symm; omega)).trans ((ba.block _ (block_lt HY0.out)).trans HY0.out)
      have hu1 := (hgrow.block _ (Nat.lt_of_lt_of_le (block_lt HY1.out) ba.size) (fun e => by have := hvn _ e.symm; omega)).trans ((ba.block _ (block_lt HY1.out)).trans HY1.out)
      have hu2 := (hgrow.block _ (Nat.lt_of_lt_of_le (block_lt HY2.out) ba.size) (fun e => by have := hvn _ e.symm; omega)).trans ((ba.block _ (block_lt HY2.out)).trans HY2.out)
      have HU0 := Lib.hid hu0
      have HU1 := Lib.hid hu1
      have HU2 := Lib.hid hu2
      have hc1 : w2.cell? ⟨w.heap.size + 2, 1, none⟩ = some (.slice A3 (recF xss yss wss j).length c3) := cell_of_row _ (w.heap.size + 2) 1 _ _ _ hu2
      have hf1 : w2.frozen? ⟨w.heap.size + 2, 1, none⟩ = false := frozen_of_row _ (w.heap.size + 2) 1 _ _ hu2
      have HB2 := Lib.hid (below_grown (below_then (below_then HB.out HB1.out) ba) hgrow (fun g hg => by have := hvn g hg; omega))
      have hl1 : (recF xss yss wss (j + 1)).length = (recF xss yss wss j).length + 1 := by rw [recF_succ xss yss HXX.out]; simp
      have HL1 := Lib.hid hl1
      clear hown' hgrow hat ba hvn hu0 hu1 hu2 e1 hrow htab2 hl1
      go_wp2_with fail
      go_roundw
      case rel =>
        have hon := only_setCell w2 (w.heap.size + 2) 1 (.slice A6 ((recF xss yss wss j).length + 1) c6)
        refine ⟨j + 1, .slice A6 ((recF xss yss wss j).length + 1) c6, vs ++ [.slice A5 (outS xss yss ws 0).length c5], by omega, by go_num, ?_, ?_, ?_, ?_, HB2.out.setCell (by simp; omega) _⟩
        rotate_left 3
        · rw [World.size_setCell]
          exact HT2.out.only hon (.inr (by omega))
        · rw [heap_setCell_other w2 ⟨w.heap.size + 2, 1, none⟩ _ _ (by simp)]; exact HU0.out
        · rw [heap_setCell_other w2 ⟨w.heap.size + 2, 1, none⟩ _ _ (by simp)]; exact HU1.out
        · rw [heap_setCell_same w2 (w.heap.size + 2) 1 _ _ _ HU2.out]; rfl
      case measure => simp [intOf]; omega
    · have hjm : j = l := by omega
      have e0 : wr.cell? ⟨w.heap.size + 2, 0, none⟩ = some (.slice A' l cap') := cell_of_row _ _ 0 _ _ _ hx2
      have e1 : wr.cell? ⟨w.heap.size + 2, 1, none⟩ = some (.slice A3 (recF xss yss wss j).length c3) := cell_of_row _ _ 1 _ _ _ hx2
      have e2 : wr.cell? ⟨w.heap.size + 1, 0, none⟩ = some (.slice none 0 0) := cell_of_row _ _ 0 _ _ _ hx1
      have e3 : wr.cell? ⟨w.heap.size + 1, 1, none⟩ = some (.slice none 0 0) := cell_of_row _ _ 1 _ _ _ hx1
      have e4 : wr.frozen? ⟨w.heap.size + 1, 0, none⟩ = false := frozen_of_row _ _ 0 _ _ hx1
      have e5 : wr.frozen? ⟨w.heap.size + 1, 1, none⟩ = false := frozen_of_row _ _ 1 _ _ hx1
      have HKM := Lib.hid hjm
      have hlt1 := block_lt hx1
      have HLT1 := Lib.hid hlt1
      clear hx0 hx1 hx2 htab hbel hjm hlt1
      have g0 : (wr.setCell ⟨w.heap.size + 1, 0, none⟩ (.slice A' l cap')).heap[w.heap.size + 1]? = some (.cells #[.slice A' l cap', .slice none 0 0] 72 (0, 0)) := by rw [heap_setCell_same wr (w.heap.size + 1) 0 _ _ _ HX1.out]; rfl
      have g1 : ((wr.setCell ⟨w.heap.size + 1, 0, none⟩ (.slice A' l cap')).setCell ⟨w.heap.size + 1, 1, none⟩ (.slice A3 (recF xss yss wss j).length c3)).heap[w.heap.size + 1]? = some (.cells #[.slice A' l cap', .slice A3 (recF xss yss wss j).length c3] 72 (0, 0)) := by rw [heap_setCell_same _ (w.heap.size + 1) 1 _ _ _ g0]; rfl
      have g2 : (wr.setCell ⟨w.heap.size + 1, 0, none⟩ (.slice A' l cap')).cell? ⟨w.heap.size + 1, 0, none⟩ = some (.slice A' l cap') := cell_of_row _ _ 0 _ _ _ g0
      have g3 : ((wr.setCell ⟨w.heap.size + 1, 0, none⟩ (.slice A' l cap')).setCell ⟨w.heap.size + 1, 1, none⟩ (.slice A3 (recF xss yss wss j).length c3)).cell? ⟨w.heap.size + 1, 1, none⟩ = some (.slice A3 (recF xss yss wss j).length c3) := cell_of_row _ _ 1 _ _ _ g1
      go_wp2_with fail
      refine bodyPost_ret (v := .agg #[.slice A' l cap', .slice A3 (recF xss yss wss j).length c3]) (by simp [results, Tryd.results45, go_sem, g2, g3]) rfl ?_
      have hon := (only_setCell wr (w.heap.size + 1) 0 (.slice A' l cap')).trans (only_setCell _ (w.heap.size + 1) 1 (.slice A3 (recF xss yss wss j).length c3))
      refine ⟨_, rfl, ?_, (HB.out.setCell (by simp) _).setCell (by simp) _⟩
      have hk := HKM.out
      subst hk
      rw [World.size_setCell, World.size_setCell]
      have htt : TabIn (w.heap.size + 3) wr.heap.size wr (.slice A3 (recF xss yss wss j).length c3) (recF xss yss wss j) := ⟨vs, HT.out⟩
      exact (htt.only hon (.inr (by omega))).wide (by omega) (Nat.le_refl _)

/-- What failingLetter answers. -/
def letterV : Option Nat → Value
  | some j => .tuple #[.int .i64 (j : Int), .bool true]
  | none => .tuple #[.int .i64 0, .bool false]

set_option maxRecDepth 100000 in
set_option maxHeartbeats 2000000 in
theorem failingLetter_any (xa ya : List (List Int)) (A : Option Addr) (n m k c : Nat) (xss : List (List Int)) (B : Option Addr) (d : Nat) (yss : List (List Int)) (A' V : Option Addr) (l cap' cv r : Nat) (wss : List (List Int)) (ws : List Int) (w : World) (hg : GoodM n m k xss yss) (h : RowsAt w A m xss) (g : RowsAt w B m yss) (h' : RowsAt w A' l wss) (hv : RowsAt w V l (recF xa ya wss l))
    (hr : r < l) (hx : wss[r]? = some ws) (hwd : isWordB (m : Int) ws = true) :
    Calls Tryd.prog 46 #[.agg #[.slice A' l cap', .slice V l cv], .agg #[.int .i64 (n : Int), .int .i64 (k : Int), .slice A m c, .slice B m d], .int .i64 (r : Int)] w
      fun e w' => e = .returned (letterV (failN xa ya xss yss ws)) ∧ Below w.heap.size w w' := by
  have HL := Lib.hid h'.1
  obtain ⟨ws', b, off, A1, a1, hx', rfl, hc1, hnum1⟩ := h'.at_ hr
  rw [hx] at hx'
  obtain rfl := Option.some.inj hx'
  obtain ⟨os, b2, off2, A2, a2, ho, rfl, hc2, hnum2⟩ := hv.at_ hr
  rw [recF_at xa ya hx HL.out] at ho
  obtain rfl := Option.some.inj ho
  have hlo : (outS xa ya ws 0).length = ws.length := outS_len _ _ _ _
  rw [hlo] at hc2 hnum2
  have HWL := Lib.hid (word_letters hwd)
  have hlw : ws.length ≤ 400 := by simp only [isWordB, Bool.and_eq_true, decide_eq_true_eq] at hwd; exact hwd.1
  have hn1 : 0 < n := by have := hg.good.n1; omega
  have HG := Lib.hid hg
  have HX := Lib.hid h
  have HY := Lib.hid g
  have HNW := Lib.hid hnum1
  have HNO := Lib.hid hnum2
  have HC1 := Lib.hid hc1
  have HC2 := Lib.hid hc2
  have hr0 : (0 : Int) ≤ (r : Int) := by omega
  have hrl : (r : Int) < (l : Int) := by omega
  obtain ⟨W2, hW2⟩ : ∃ W2, W2 = (w.alloc (.cells #[.slice (some ⟨b, off, none⟩) l cap', .slice (some ⟨b2, off2, none⟩) l cv] 72)).alloc (.cells #[.int .i64 (n : Int), .int .i64 (k : Int), .slice A m c, .slice B m d] 28) := ⟨_, rfl⟩
  have b0 : Below w.heap.size w W2 := by rw [hW2]; go_grown
  have p0 : ((w.alloc (.cells #[.slice (some ⟨b, off, none⟩) l cap', .slice (some ⟨b2, off2, none⟩) l cv] 72)).alloc (.cells #[.int .i64 (n : Int), .int .i64 (k : Int), .slice A m c, .slice B m d] 28)).cell? ⟨w.heap.size, 0, none⟩ = some (.slice (some ⟨b, off, none⟩) l cap') := by go_cell
  have p1 : W2.cell? ⟨w.heap.size, 1, none⟩ = some (.slice (some ⟨b2, off2, none⟩) l cv) := by rw [hW2]; go_cell
  have q0 : W2.cell? ⟨w.heap.size + 1, 0, none⟩ = some (.int .i64 (n : Int)) := by rw [hW2]; go_cell
  have q1 : W2.cell? ⟨w.heap.size + 1, 1, none⟩ = some (.int .i64 (k : Int)) := by rw [hW2]; go_cell
  have q2 : W2.cell? ⟨w.heap.size + 1, 2, none⟩ = some (.slice A m c) := by rw [hW2]; go_cell
  have q3 : W2.cell? ⟨w.heap.size + 1, 3, none⟩ = some (.slice B m d) := by rw [hW2]; go_cell
  have r1 : ((w.alloc (.cells #[.slice (some ⟨b, off, none⟩) l cap', .slice (some ⟨b2, off2, none⟩) l cv] 72)).alloc (.cells #[.int .i64 (n : Int), .int .i64 (k : Int), .slice A m c, .slice B m d] 28)).cell? ⟨b, off + r, none⟩ = some (.slice A1 ws.length a1) := by rw [← hW2]; exact (b0.cell (cell_lt hc1)).trans hc1
  have HB0 := Lib.hid b0
  have HW2 := Lib.hid hW2
  have HP1 := Lib.hid p1
  have HQ0 := Lib.hid q0
  have HQ1 := Lib.hid q1
  have HQ2 := Lib.hid q2
  have HQ3 := Lib.hid q3
  clear hg h g h' hv hx ho hlo hwd hnum1 hnum2 hc1 hc2 hW2 b0 p1 q0 q1 q2 q3
  go_enter Tryd.func46, Tryd.ntmps46
  go_wp2_with fail
  rw [← HW2.out]
  clear p0 r1
  go_loopw [8, 18] (fun sv i wr => ∃ j s : Nat, j ≤ ws.length ∧ i = .int .i64 j ∧ sv = .int .i64 (s : Int) ∧ s < n ∧ s = toS xss (ws.take j) 0 ∧ (outS xa ya ws 0).take j = (outS xss yss ws 0).take j ∧ Below W2.heap.size W2 wr) (fun _ i _ => ws.length - (intOf i).toNat)
  case atStart => exact ⟨0, 0, Nat.zero_le _, rfl, rfl, hn1, rfl, rfl, Below.refl _ _⟩
  case round =>
    obtain ⟨j, s, hj, rfl, rfl, hs, hss, hall, hbel⟩ := hrel
    have HSS := Lib.hid hss
    have HA := Lib.hid hall
    have HB := Lib.hid hbel
    clear hss hall hbel
    by_cases hlt : j < ws.length
    · have hbw := below_then HB0.out HB.out
      obtain ⟨x, b3, off3, hxj, rfl, hcx⟩ := (HNW.out.below hbw).at_ hlt
      have hxm := HWL.out x (List.mem_of_getElem? hxj)
      obtain ⟨xn, rfl⟩ : ∃ xn : Nat, x = (xn : Int) := ⟨x.toNat, by omega⟩
      have hxn : xn < m := by omega
      obtain ⟨y, b4, off4, hyj, rfl, hcy⟩ := HNO.out.at_ hlt
      have hzj := outS_at xss yss 0 hxj
      rw [← HSS.out, Int.toNat_natCast] at hzj
      have HXJ := Lib.hid hxj
      have HYJ := Lib.hid hyj
      have HZJ := Lib.hid hzj
      have d0 := (HB.out.cell (cell_lt HQ0.out)).trans HQ0.out
      have d1 := (HB.out.cell (cell_lt HQ1.out)).trans HQ1.out
      have d2 := (HB.out.cell (cell_lt HQ2.out)).trans HQ2.out
      have d3 := (HB.out.cell (cell_lt HQ3.out)).trans HQ3.out
      have hj0 : (0 : Int) ≤ (j : Int) := by omega
      have hjl : (j : Int) < (ws.length : Int) := by omega
      have HCY := Lib.hid hcy
      have HBW := Lib.hid hbw
      clear hxj hyj hzj hxm hcy hbw
      go_wp2_with fail
      refine (transitionAt_any A n m k c xss B d yss xn s wr HG.out (HX.out.below HBW.out) (HY.out.below HBW.out) hxn hs).mono ?_
      rintro e w1 ⟨rfl, b1⟩
      obtain ⟨w2, hw2⟩ : ∃ w2, w2 = w1.alloc (.cells #[.int .i64 ((nx xss xn s : Nat) : Int), .int .i64 ((nx yss xn s : Nat) : Int)] 100) := ⟨_, rfl⟩
      have b2 : Below w1.heap.size w1 w2 := by rw [hw2]; exact (Below.refl _ _).alloc (Nat.le_refl _) _
      have t0 : w2.cell? ⟨w1.heap.size, 0, none⟩ = some (.int .i64 ((nx xss xn s : Nat) : Int)) := by rw [hw2]; go_cell
      have t1 : w2.cell? ⟨w1.heap.size, 1, none⟩ = some (.int .i64 ((nx yss xn s : Nat) : Int)) := by rw [hw2]; go_cell
      have HB2 := Lib.hid (below_then HB.out (below_then b1 b2))
      have HBW2 := Lib.hid (below_then HB0.out HB2.out)
      have e1 := (HB2.out.cell (cell_lt HP1.out)).trans HP1.out
      have e2 := (HBW2.out.cell (cell_lt HC2.out)).trans HC2.out
      have e3 := (HBW2.out.cell (cell_lt HCY.out)).trans HCY.out
      have HW := Lib.hid hw2
      have hnn := HG.out.good.nextD hxn hs
      have HNX := Lib.hid hnn
      clear b1 b2 hw2 d0 d1 d2 d3 hcx hnn
      obtain ⟨Z, hZ⟩ : ∃ Z, Z = ((nx yss xn s : Nat) : Int) := ⟨_, rfl⟩
      rw [← hZ] at t1
      have HZ := Lib.hid hZ
      clear hZ
      by_cases hne : Z = y
      · have hne' : (Z != y) = false := by simp [hne]
        have HNE := Lib.hid hne
        clear hne
        go_wp2_with fail
        rw [← HW.out]
        go_quiet (fail)
        go_wp2_with fail
        go_roundw
        case rel => exact ⟨j + 1, nx xss xn s, by omega, by go_num, rfl, HNX.out, by rw [toS_snoc HXJ.out, ← HSS.out]; rfl, take_eq_snoc HA.out HYJ.out (by rw [HZJ.out, ← HZ.out, HNE.out]), below_drewN' HB2.out _⟩
        case measure => simp [intOf]; omega
      · have hne' : (Z != y) = true := by rw [bne_iff_ne]; exact hne
        have HNE := Lib.hid hne
        clear hne
        go_wp2_with fail
        rw [← HW.out]
        go_quiet (fail)
        go_wp2_with fail
        go_ret2
        have ef : failN xa ya xss yss ws = some j := diffN_at HA.out HYJ.out HZJ.out (by rw [← HZ.out]; exact fun e => HNE.out e.symm)
        rw [ef]
        exact ⟨rfl, below_drewN' HBW2.out _⟩
    · go_wp2_with fail
      go_ret2
      have hjl : j = ws.length := by omega
      have ef : failN xa ya xss yss ws = none := by
        have h1 := HA.out
        rw [hjl, List.take_of_length_le (by rw [outS_len]; exact Nat.le_refl _), List.take_of_length_le (by rw [outS_len]; exact Nat.le_refl _)] at h1
        unfold failN
        rw [h1]
        exact diffN_none _
      rw [ef]
      exact ⟨rfl, below_then HB0.out HB.out⟩

end Go.Proofs.YtdhmciendlihoaaDoor
