/-
  The automaton of a closed set, and that with the states in another order: the contracts of both RestrictTo and of both RenumberStates.
-/
import Derived.Test.YtfkmpabohebcfaaRestr
namespace Go.Proofs.Ytfkmpabohebcfaa
open Go.RowKit Go.Deep Go.ChangeShapes Go.WideShapes

set_option maxRecDepth 100000 in
set_option maxHeartbeats 6000000 in
theorem specRestrictTo_any (s : Int) (A : Option Addr) (m cap : Nat) (xss : List (List Int)) (AL : Option Addr) (nl cl : Nat) (L : List Int) (w : World) (h : RowsAt w A m xss) (hm : m ≤ 4611686018427387904)
    (hrows : ∀ (r : Nat) (xs : List Int), xss[r]? = some xs → xs.length ≤ 4611686018427387904) (hL : NumsAt w AL nl L) (hl : nl ≤ 4611686018427387904) :
    Calls Try.prog 34 #[.agg #[.int .i64 s, .slice A m cap], .slice AL nl cl] w (AutosTo (restrictTo s xss L) w) := by
  have HR := Lib.hid hrows
  have HM := Lib.hid h.1
  have HNLEN := Lib.hid hL.1
  obtain ⟨W2, hW2⟩ : ∃ W2, W2 = (w.alloc (.cells #[.int .i64 s, .slice A m cap] 29)).alloc (.cells #[.int .i64 0, .slice none 0 0] 29) := ⟨_, rfl⟩
  have b2 : Below w.heap.size w W2 := by rw [hW2]; go_grown
  have B2 := Lib.hid b2
  have x0 : W2.cell? ⟨w.heap.size, 0, none⟩ = some (.int .i64 s) := by rw [hW2]; go_cell
  have x1 : W2.cell? ⟨w.heap.size, 1, none⟩ = some (.slice A m cap) := by rw [hW2]; go_cell
  have xr : W2.heap[w.heap.size + 1]? = some (.cells #[.int .i64 0, .slice none 0 0] 29 (0, 0)) := by
    have := heap_alloc_new (w.alloc (.cells #[.int .i64 s, .slice A m cap] 29)) (.cells #[.int .i64 0, .slice none 0 0] 29)
    rw [World.size_alloc, ← hW2] at this
    exact this
  have H2 := Lib.hid (h.below b2)
  have N2 := Lib.hid (hL.below b2)
  have X0 := Lib.hid x0
  have X1 := Lib.hid x1
  have XR := Lib.hid xr
  have HW2 := Lib.hid hW2
  clear hrows b2 x0 x1 xr hW2
  obtain ⟨i0, hi, hz0, hz1, hz2⟩ := info_parts info_int64
  obtain ⟨i1, hi1, hy0, hy1, hy2⟩ := info_parts info_ints
  rcases hok : okA s xss with _ | _
  · have HF := Lib.hid (restrictTo_1 (set := L) hok)
    go_enter Try.func34, Try.ntmps34
    go_wp2_with fail
    rw [← HW2.out]
    refine (l01Ok_any w.heap.size s A m cap xss _ X0.out X1.out H2.out hm HR.out).mono ?_
    rw [hok]
    rintro e w1 ⟨rfl, d, rfl⟩
    have b1 : Below W2.heap.size W2 (W2.drewN d) := below_drewN' (Below.refl _ _) d
    obtain ⟨w1, hw1⟩ : ∃ w1, w1 = W2.drewN d := ⟨_, rfl⟩
    rw [← hw1] at b1 ⊢
    have d0 : w1.cell? ⟨w.heap.size, 0, none⟩ = some (.int .i64 s) := (b1.cell (cell_lt X0.out)).trans X0.out
    have d1 : w1.cell? ⟨w.heap.size, 1, none⟩ = some (.slice A m cap) := (b1.cell (cell_lt X1.out)).trans X1.out
    have xr := (b1.block _ (block_lt XR.out)).trans XR.out
    obtain ⟨e0, e1, e2, e3⟩ := box2_cells xr
    have H1 := Lib.hid (H2.out.below b1)
    have N1 := Lib.hid (N2.out.below b1)
    have B1 := Lib.hid (below_then B2.out b1)
    obtain ⟨g2, g3⟩ := box2_set xr (.int .i64 0) (.slice none 0 0)
    have XR1 := Lib.hid xr
    clear b1 xr hw1
    go_wp2_with fail
    refine bodyPost_ret (v := .tuple #[.agg #[.int .i64 0, .slice none 0 0], .int .i64 1]) (by simp [results, Try.results34, go_sem, g2, g3]) rfl ?_
    exact autosTo_mk HF.out (tab_nil _ _ _) ((B1.out.setCell (by simp; try omega) _).setCell (by simp; try omega) _)
  · obtain ⟨n, hsn, hg⟩ := good_of hok HM.out
    subst hsn
    have HG := Lib.hid hg
    have hn10 : n ≤ 10 := hg.n10
    have hn1 : (1 : Int) ≤ (n : Int) := by have := hg.n1; omega
    have hm3 : m ≤ 3 := hg.m3
    clear hg
    rcases hset : setB (n : Int) L with _ | _
    · have HF := Lib.hid (restrictTo_2 hok hset)
      go_enter Try.func34, Try.ntmps34
      go_wp2_with fail
      rw [← HW2.out]
      refine (l01Ok_any w.heap.size (n : Int) A m cap xss _ X0.out X1.out H2.out hm HR.out).mono ?_
      rw [hok]
      rintro e w1 ⟨rfl, d, rfl⟩
      have b1 : Below W2.heap.size W2 (W2.drewN d) := below_drewN' (Below.refl _ _) d
      obtain ⟨w1, hw1⟩ : ∃ w1, w1 = W2.drewN d := ⟨_, rfl⟩
      rw [← hw1] at b1 ⊢
      have d0 : w1.cell? ⟨w.heap.size, 0, none⟩ = some (.int .i64 (n : Int)) := (b1.cell (cell_lt X0.out)).trans X0.out
      have d1 : w1.cell? ⟨w.heap.size, 1, none⟩ = some (.slice A m cap) := (b1.cell (cell_lt X1.out)).trans X1.out
      have xr := (b1.block _ (block_lt XR.out)).trans XR.out
      obtain ⟨e0, e1, e2, e3⟩ := box2_cells xr
      have H1 := Lib.hid (H2.out.below b1)
      have N1 := Lib.hid (N2.out.below b1)
      have B1 := Lib.hid (below_then B2.out b1)
      obtain ⟨g2, g3⟩ := box2_set xr (.int .i64 0) (.slice none 0 0)
      have XR1 := Lib.hid xr
      clear b1 xr hw1
      clear e0 e1 e2 e3 g2 g3
      go_wp2_with fail
      refine (l01Set_any w.heap.size (n : Int) AL nl cl L _ d0 N1.out hn1 (by omega) hl).mono ?_
      rw [hset]
      rintro e w4 ⟨rfl, d4, rfl⟩
      have b4 : Below w1.heap.size w1 (w1.drewN d4) := below_drewN' (Below.refl _ _) d4
      obtain ⟨w2, hw2⟩ : ∃ w2, w2 = w1.drewN d4 := ⟨_, rfl⟩
      rw [← hw2] at b4 ⊢
      have d0 : w2.cell? ⟨w.heap.size, 0, none⟩ = some (.int .i64 (n : Int)) := (b4.cell (cell_lt d0)).trans d0
      have d1 : w2.cell? ⟨w.heap.size, 1, none⟩ = some (.slice A m cap) := (b4.cell (cell_lt d1)).trans d1
      have xr := (b4.block _ (block_lt XR1.out)).trans XR1.out
      obtain ⟨e0, e1, e2, e3⟩ := box2_cells xr
      have H1 := Lib.hid (H1.out.below b4)
      have N1 := Lib.hid (N1.out.below b4)
      have B1 := Lib.hid (below_then B1.out b4)
      obtain ⟨g2, g3⟩ := box2_set xr (.int .i64 0) (.slice none 0 0)
      have XR1 := Lib.hid xr
      clear b4 xr hw2
      go_wp2_with fail
      refine bodyPost_ret (v := .tuple #[.agg #[.int .i64 0, .slice none 0 0], .int .i64 2]) (by simp [results, Try.results34, go_sem, g2, g3]) rfl ?_
      exact autosTo_mk HF.out (tab_nil _ _ _) ((B1.out.setCell (by simp; try omega) _).setCell (by simp; try omega) _)
    · have hin := setB_mem hset
      have hlen := setB_len hset (by omega)
      have hnl10 : nl ≤ 10 := by have := HNLEN.out; omega
      have HIN := Lib.hid hin
      clear hin hlen
      by_cases h0 : nl = 0
      · have HF := Lib.hid (restrictTo_4 hok hset (HNLEN.out.trans h0))
        have hz : ((nl : Int) == 0) = true := by rw [beq_iff_eq]; omega
        clear h0
        go_enter Try.func34, Try.ntmps34
        go_wp2_with fail
        rw [← HW2.out]
        refine (l01Ok_any w.heap.size (n : Int) A m cap xss _ X0.out X1.out H2.out hm HR.out).mono ?_
        rw [hok]
        rintro e w1 ⟨rfl, d, rfl⟩
        have b1 : Below W2.heap.size W2 (W2.drewN d) := below_drewN' (Below.refl _ _) d
        obtain ⟨w1, hw1⟩ : ∃ w1, w1 = W2.drewN d := ⟨_, rfl⟩
        rw [← hw1] at b1 ⊢
        have d0 : w1.cell? ⟨w.heap.size, 0, none⟩ = some (.int .i64 (n : Int)) := (b1.cell (cell_lt X0.out)).trans X0.out
        have d1 : w1.cell? ⟨w.heap.size, 1, none⟩ = some (.slice A m cap) := (b1.cell (cell_lt X1.out)).trans X1.out
        have xr := (b1.block _ (block_lt XR.out)).trans XR.out
        obtain ⟨e0, e1, e2, e3⟩ := box2_cells xr
        have H1 := Lib.hid (H2.out.below b1)
        have N1 := Lib.hid (N2.out.below b1)
        have B1 := Lib.hid (below_then B2.out b1)
        obtain ⟨g2, g3⟩ := box2_set xr (.int .i64 0) (.slice none 0 0)
        have XR1 := Lib.hid xr
        clear b1 xr hw1
        clear e0 e1 e2 e3 g2 g3
        go_wp2_with fail
        refine (l01Set_any w.heap.size (n : Int) AL nl cl L _ d0 N1.out hn1 (by omega) hl).mono ?_
        rw [hset]
        rintro e w4 ⟨rfl, d4, rfl⟩
        have b4 : Below w1.heap.size w1 (w1.drewN d4) := below_drewN' (Below.refl _ _) d4
        obtain ⟨w2, hw2⟩ : ∃ w2, w2 = w1.drewN d4 := ⟨_, rfl⟩
        rw [← hw2] at b4 ⊢
        have d0 : w2.cell? ⟨w.heap.size, 0, none⟩ = some (.int .i64 (n : Int)) := (b4.cell (cell_lt d0)).trans d0
        have d1 : w2.cell? ⟨w.heap.size, 1, none⟩ = some (.slice A m cap) := (b4.cell (cell_lt d1)).trans d1
        have xr := (b4.block _ (block_lt XR1.out)).trans XR1.out
        obtain ⟨e0, e1, e2, e3⟩ := box2_cells xr
        have H1 := Lib.hid (H1.out.below b4)
        have N1 := Lib.hid (N1.out.below b4)
        have B1 := Lib.hid (below_then B1.out b4)
        obtain ⟨g2, g3⟩ := box2_set xr (.int .i64 0) (.slice none 0 0)
        have XR1 := Lib.hid xr
        clear b4 xr hw2
        go_wp2_with fail
        refine bodyPost_ret (v := .tuple #[.agg #[.int .i64 0, .slice none 0 0], .int .i64 4]) (by simp [results, Try.results34, go_sem, g2, g3]) rfl ?_
        exact autosTo_mk HF.out (tab_nil _ _ _) ((B1.out.setCell (by simp; try omega) _).setCell (by simp; try omega) _)
      · have hz : ((nl : Int) == 0) = false := by rw [beq_eq_false_iff_ne]; omega
        have H0 := Lib.hid (show ¬ L.length = 0 by rw [HNLEN.out]; exact h0)
        clear h0
        rcases hcl : closedB m xss L with _ | _
        · have HF := Lib.hid (restrictTo_5 hok hset H0.out HM.out hcl)
          go_enter Try.func34, Try.ntmps34
          go_wp2_with fail
          rw [← HW2.out]
          refine (l01Ok_any w.heap.size (n : Int) A m cap xss _ X0.out X1.out H2.out hm HR.out).mono ?_
          rw [hok]
          rintro e w1 ⟨rfl, d, rfl⟩
          have b1 : Below W2.heap.size W2 (W2.drewN d) := below_drewN' (Below.refl _ _) d
          obtain ⟨w1, hw1⟩ : ∃ w1, w1 = W2.drewN d := ⟨_, rfl⟩
          rw [← hw1] at b1 ⊢
          have d0 : w1.cell? ⟨w.heap.size, 0, none⟩ = some (.int .i64 (n : Int)) := (b1.cell (cell_lt X0.out)).trans X0.out
          have d1 : w1.cell? ⟨w.heap.size, 1, none⟩ = some (.slice A m cap) := (b1.cell (cell_lt X1.out)).trans X1.out
          have xr := (b1.block _ (block_lt XR.out)).trans XR.out
          obtain ⟨e0, e1, e2, e3⟩ := box2_cells xr
          have H1 := Lib.hid (H2.out.below b1)
          have N1 := Lib.hid (N2.out.below b1)
          have B1 := Lib.hid (below_then B2.out b1)
          obtain ⟨g2, g3⟩ := box2_set xr (.int .i64 0) (.slice none 0 0)
          have XR1 := Lib.hid xr
          clear b1 xr hw1
          clear e0 e1 e2 e3 g2 g3
          go_wp2_with fail
          refine (l01Set_any w.heap.size (n : Int) AL nl cl L _ d0 N1.out hn1 (by omega) hl).mono ?_
          rw [hset]
          rintro e w4 ⟨rfl, d4, rfl⟩
          have b4 : Below w1.heap.size w1 (w1.drewN d4) := below_drewN' (Below.refl _ _) d4
          obtain ⟨w2, hw2⟩ : ∃ w2, w2 = w1.drewN d4 := ⟨_, rfl⟩
          rw [← hw2] at b4 ⊢
          have d0 : w2.cell? ⟨w.heap.size, 0, none⟩ = some (.int .i64 (n : Int)) := (b4.cell (cell_lt d0)).trans d0
          have d1 : w2.cell? ⟨w.heap.size, 1, none⟩ = some (.slice A m cap) := (b4.cell (cell_lt d1)).trans d1
          have xr := (b4.block _ (block_lt XR1.out)).trans XR1.out
          obtain ⟨e0, e1, e2, e3⟩ := box2_cells xr
          have H1 := Lib.hid (H1.out.below b4)
          have N1 := Lib.hid (N1.out.below b4)
          have B1 := Lib.hid (below_then B1.out b4)
          obtain ⟨g2, g3⟩ := box2_set xr (.int .i64 0) (.slice none 0 0)
          have XR1 := Lib.hid xr
          clear b4 xr hw2
          clear e0 e1 e2 e3 g2 g3
          go_wp2_with fail
          refine (l01Closed_any w.heap.size A AL n m cap nl cl xss L _ HG.out d1 H1.out N1.out HIN.out hl).mono ?_
          rw [hcl]
          rintro e w3 ⟨rfl, b3⟩
          have xr := (b3.block _ (block_lt XR1.out)).trans XR1.out
          obtain ⟨e0, e1, e2, e3⟩ := box2_cells xr
          obtain ⟨g2, g3⟩ := box2_set xr (.int .i64 0) (.slice none 0 0)
          have B3 := Lib.hid (below_then B1.out b3)
          clear b3 xr d0 d1
          go_wp2_with fail
          refine bodyPost_ret (v := .tuple #[.agg #[.int .i64 0, .slice none 0 0], .int .i64 4]) (by simp [results, Try.results34, go_sem, g2, g3]) rfl ?_
          exact autosTo_mk HF.out (tab_nil _ _ _) ((B3.out.setCell (by simp; try omega) _).setCell (by simp; try omega) _)
        · have HF := Lib.hid (restrictTo_0 hok hset H0.out HM.out hcl HNLEN.out)
          go_enter Try.func34, Try.ntmps34
          go_wp2_with fail
          rw [← HW2.out]
          refine (l01Ok_any w.heap.size (n : Int) A m cap xss _ X0.out X1.out H2.out hm HR.out).mono ?_
          rw [hok]
          rintro e w1 ⟨rfl, d, rfl⟩
          have b1 : Below W2.heap.size W2 (W2.drewN d) := below_drewN' (Below.refl _ _) d
          obtain ⟨w1, hw1⟩ : ∃ w1, w1 = W2.drewN d := ⟨_, rfl⟩
          rw [← hw1] at b1 ⊢
          have d0 : w1.cell? ⟨w.heap.size, 0, none⟩ = some (.int .i64 (n : Int)) := (b1.cell (cell_lt X0.out)).trans X0.out
          have d1 : w1.cell? ⟨w.heap.size, 1, none⟩ = some (.slice A m cap) := (b1.cell (cell_lt X1.out)).trans X1.out
          have xr := (b1.block _ (block_lt XR.out)).trans XR.out
          obtain ⟨e0, e1, e2, e3⟩ := box2_cells xr
          have H1 := Lib.hid (H2.out.below b1)
          have N1 := Lib.hid (N2.out.below b1)
          have B1 := Lib.hid (below_then B2.out b1)
          obtain ⟨g2, g3⟩ := box2_set xr (.int .i64 0) (.slice none 0 0)
          have XR1 := Lib.hid xr
          clear b1 xr hw1
          clear e0 e1 e2 e3 g2 g3
          go_wp2_with fail
          refine (l01Set_any w.heap.size (n : Int) AL nl cl L _ d0 N1.out hn1 (by omega) hl).mono ?_
          rw [hset]
          rintro e w4 ⟨rfl, d4, rfl⟩
          have b4 : Below w1.heap.size w1 (w1.drewN d4) := below_drewN' (Below.refl _ _) d4
          obtain ⟨w2, hw2⟩ : ∃ w2, w2 = w1.drewN d4 := ⟨_, rfl⟩
          rw [← hw2] at b4 ⊢
          have d0 : w2.cell? ⟨w.heap.size, 0, none⟩ = some (.int .i64 (n : Int)) := (b4.cell (cell_lt d0)).trans d0
          have d1 : w2.cell? ⟨w.heap.size, 1, none⟩ = some (.slice A m cap) := (b4.cell (cell_lt d1)).trans d1
          have xr := (b4.block _ (block_lt XR1.out)).trans XR1.out
          obtain ⟨e0, e1, e2, e3⟩ := box2_cells xr
          have H1 := Lib.hid (H1.out.below b4)
          have N1 := Lib.hid (N1.out.below b4)
          have B1 := Lib.hid (below_then B1.out b4)
          obtain ⟨g2, g3⟩ := box2_set xr (.int .i64 0) (.slice none 0 0)
          have XR1 := Lib.hid xr
          clear b4 xr hw2
          clear e0 e1 e2 e3 g2 g3
          go_wp2_with fail
          refine (l01Closed_any w.heap.size A AL n m cap nl cl xss L _ HG.out d1 H1.out N1.out HIN.out hl).mono ?_
          rw [hcl]
          rintro e w3 ⟨rfl, b3⟩
          obtain ⟨G3, hG3⟩ : ∃ G3, G3 = w3.heap.size := ⟨_, rfl⟩
          have HG3 := Lib.hid hG3
          have bq : Below w3.heap.size w3 (w3.alloc (.cells #[.int .i64 (nl : Int), .slice none 0 0] 29)) := (Below.refl _ _).alloc (Nat.le_refl _) _
          have C1 := Lib.hid ((b3.cell (cell_lt d1)).trans d1)
          have HRR := Lib.hid (H1.out.below b3)
          have HNL := Lib.hid (N1.out.below b3)
          have hrb : w.heap.size + 1 < G3 := by have := block_lt XR1.out; have := b3.size; omega
          have XR3 := Lib.hid ((bq.block _ (block_lt ((b3.block _ (block_lt XR1.out)).trans XR1.out))).trans ((b3.block _ (block_lt XR1.out)).trans XR1.out))
          have X3 := Lib.hid (show (w3.alloc (.cells #[.int .i64 (nl : Int), .slice none 0 0] 29)).heap[G3]? = some (.cells #[.int .i64 (nl : Int), .slice none 0 0] 29 (0, 0)) by rw [hG3]; exact heap_alloc_new _ _)
          have HB3 := Lib.hid (below_then B1.out b3)
          have HB4 := Lib.hid bq
          have HLO3 := Lib.hid (show G3 + 1 ≤ (w3.alloc (.cells #[.int .i64 (nl : Int), .slice none 0 0] 29)).heap.size by rw [hG3]; simp)
          have HRB := Lib.hid hrb
          clear b3 bq d0 d1 hG3
          go_wp2_with fail
          rw [← HG3.out]
          go_loopw [7] (fun i wr => ∃ (k : Nat) (v : Value) (vs : List Value), k ≤ m ∧ i = .int .i64 k ∧ wr.heap[w.heap.size + 1]? = some (.cells #[.int .i64 0, .slice none 0 0] 29 (0, 0)) ∧ wr.heap[G3]? = some (.cells #[.int .i64 (nl : Int), v] 29 (0, 0)) ∧
              TabV (G3 + 1) wr.heap.size wr v vs (rowsF nl (selF xss L) k) ∧ Below w3.heap.size w3 wr ∧ G3 + 1 ≤ wr.heap.size) (fun i _ => m - (intOf i).toNat)
          case atStart => exact ⟨0, .slice none 0 0, [], Nat.zero_le _, rfl, XR3.out, X3.out, tabV_nil _ _ _ _ _, HB4.out, HLO3.out⟩
          case round =>
            obtain ⟨k, v, vs, hk, rfl, hx0, hx1, htab, hbel, hlo⟩ := hrel
            obtain ⟨A3, c3, rfl⟩ := own_form htab.out
            have HX0 := Lib.hid hx0
            have HX1 := Lib.hid hx1
            have HT := Lib.hid htab
            have HB := Lib.hid hbel
            have HLO := Lib.hid hlo
            have HWL := Lib.hid (show w3.heap.size ≤ G3 + 1 by have := HG3.out; omega)
            by_cases hlt : k < m
            · have y1 : wr.cell? ⟨w.heap.size, 1, none⟩ = some (.slice A m cap) := (hbel.cell (cell_lt C1.out)).trans C1.out
              clear hx0 hx1 htab hbel hlo
              obtain ⟨G9, hG9⟩ : ∃ G9, G9 = wr.heap.size := ⟨_, rfl⟩
              have HG9 := Lib.hid hG9
              have hb1 : Below wr.heap.size wr (wr.alloc (.cells #[] 2)) := (Below.refl _ _).alloc (Nat.le_refl _) _
              have HN0 := Lib.hid (own_none' (w := wr) (base := G9) (g := G9) hG9 (Nat.le_of_eq hG9))
              have HT1 := Lib.hid (HT.out.below hb1)
              have HY0 := Lib.hid ((hb1.block _ (block_lt HX0.out)).trans HX0.out)
              have HY1 := Lib.hid ((hb1.block _ (block_lt HX1.out)).trans HX1.out)
              have HB1 := Lib.hid (below_then HB.out hb1)
              have HZ1 := Lib.hid (show wr.heap.size + 1 ≤ (wr.alloc (.cells #[] 2)).heap.size by simp)
              have HLO := Lib.hid (show G3 + 1 ≤ G9 by rw [hG9]; exact HLO.out)
              have hol : (G3 : Nat) < G3 + 1 := by omega
              have hrb := HRB.out
              rw [← hG9] at HT1 HZ1
              clear hG9 hb1
              go_wp2_with fail
              rw [← HG9.out]
              clear y1
              go_loopw [8, 9] (fun rv j wi => ∃ (q : Nat) (C : List Int), q ≤ nl ∧ j = .int .i64 q ∧ C = (List.range q).map (selF xss L k) ∧ wi.heap[w.heap.size + 1]? = some (.cells #[.int .i64 0, .slice none 0 0] 29 (0, 0)) ∧ wi.heap[G3]? = some (.cells #[.int .i64 (nl : Int), .slice A3 (rowsF nl (selF xss L) k).length c3] 29 (0, 0)) ∧
                  TabV (G3 + 1) G9 wi (.slice A3 (rowsF nl (selF xss L) k).length c3) vs (rowsF nl (selF xss L) k) ∧ wi.ownsRow G9 2 1 rv C.length (C.map (Value.int .i64)) ∧ Below w3.heap.size w3 wi ∧ G9 + 1 ≤ wi.heap.size) (fun _ j _ => nl - (intOf j).toNat)
              case atStart => exact ⟨0, [], Nat.zero_le _, rfl, rfl, HY0.out, HY1.out, HT1.out, HN0.out, HB1.out, HZ1.out⟩
              case round =>
                obtain ⟨q, C, hq, rfl, hC, hz0, hz1, htb, hown, hbl, hsz⟩ := hrel
                have hclen : C.length ≤ 10 := by rw [hC]; simp; omega
                obtain ⟨A5, c5, rfl⟩ := own_form hown
                have HC := Lib.hid hC
                have HZ0 := Lib.hid hz0
                have HZ1 := Lib.hid hz1
                have HTB := Lib.hid htb
                have HOW := Lib.hid hown
                have HBL := Lib.hid hbl
                have HSZ := Lib.hid hsz
                have y1 : World.cell? ‹World› ⟨w.heap.size, 1, none⟩ = some (.slice A m cap) := (hbl.cell (cell_lt C1.out)).trans C1.out
                clear hC hz0 hz1 htb hown hbl hsz HT1 HY0 HY1 HB1 HN0
                by_cases hqn : q < nl
                · obtain ⟨y, b3, off3, hy, hAL, hcy⟩ := (HNL.out.below HBL.out).at_ hqn
                  have hyn := HIN.out y (List.mem_of_getElem? hy)
                  obtain ⟨t, rfl⟩ : ∃ t : Nat, y = (t : Int) := ⟨y.toNat, by omega⟩
                  have htn : t < n := by omega
                  obtain ⟨b, off1, b2, off2, cr, hA, hcr, hcells⟩ := row_base HG.out HRR.out hlt
                  have hct := hcells t htn
                  have he : selF xss L k q = placeOf L ((nx xss k t : Nat) : Int) 0 := by unfold selF; rw [List.getD_eq_getElem?_getD, hy]; rfl
                  have HE := Lib.hid he
                  have i1 : (0 : Int) ≤ (k : Int) := by omega
                  have i2 : (k : Int) < (m : Int) := by omega
                  have i3 : (0 : Int) ≤ (q : Int) := by omega
                  have i4 : (q : Int) < (nl : Int) := by omega
                  have i5 : (0 : Int) ≤ (t : Int) := by omega
                  have i6 : (t : Int) < (n : Int) := by omega
                  subst hA
                  obtain rfl := hAL
                  have hwg : w3.heap.size ≤ G9 := by have := HLO.out; have := HWL.out; omega
                  have HWG := Lib.hid hwg
                  have hq : ∀ W', Below G9 wr W' → Below w3.heap.size w3 W' := fun W' hb => HBL.out.trans (hb.mono hwg)
                  have HQ := Lib.hid hq
                  have r1 : ∀ W', Below G9 wr W' → W'.cell? ⟨w.heap.size, 1, none⟩ = some (.slice (some ⟨b, off1, none⟩) m cap) := fun W' hb => ((hq W' hb).cell (cell_lt C1.out)).trans C1.out
                  have r2 : ∀ W', Below G9 wr W' → W'.cell? ⟨b, off1 + k, none⟩ = some (.slice (some ⟨b2, off2, none⟩) n cr) := fun W' hb => ((hq W' hb).cell (cell_lt hcr)).trans hcr
                  have hcy0 : w3.cell? ⟨b3, off3 + q, none⟩ = some (.int .i64 (t : Int)) := by
                    obtain ⟨y', b', off', hy', hA', hcy'⟩ := HNL.out.at_ hqn
                    simp only [Option.some.injEq, Addr.mk.injEq, and_true] at hA'
                    obtain ⟨rfl, rfl⟩ := hA'
                    rw [hy] at hy'
                    obtain rfl := Option.some.inj hy'
                    exact hcy'
                  have r3 : ∀ W', Below G9 wr W' → W'.cell? ⟨b3, off3 + q, none⟩ = some (.int .i64 (t : Int)) := fun W' hb => ((hq W' hb).cell (cell_lt hcy0)).trans hcy0
                  have r4 : ∀ W', Below G9 wr W' → W'.cell? ⟨b2, off2 + t, none⟩ = some (.int .i64 ((nx xss k t : Nat) : Int)) := fun W' hb => ((hq W' hb).cell (cell_lt hct)).trans hct
                  have h9 : Below G9 wr wr := Below.refl _ _
                  obtain ⟨V, hV⟩ : ∃ V, V = placeOf L ((nx xss k t : Nat) : Int) 0 := ⟨_, rfl⟩
                  have HV := Lib.hid hV
                  have HGZ := Lib.hid (show G9 ≤ wr.heap.size by have := HSZ.out; omega)
                  have HROW := Lib.hid (fun g (hg : (Value.slice A5 C.length c5).ownBlock = some g) => (HOW.out.lt g hg).1)
                  clear hy hyn hcells hct hcy hcy0 hcr y1 he hV hq hwg
                  go_wp2_with fail
                  go_region_held3 (fun w' => Below G9 wr w') (first | assumption | exact below_drewN' (by assumption) _ | exact (Below.refl _ _).alloc HGZ.out _ | exact (below_drewN' (Below.refl _ _) _).alloc HGZ.out _ | exact HB5.out)
                    (first
                      | (go_at_call 77; refine (l01Place_any _ nl cl L _ _ (HNL.out.below (HQ.out _ (by first | assumption | exact below_drewN' (by assumption) _))) (by omega)).mono ?_; rw [← HV.out]; rintro e w' ⟨rfl, rfl⟩)
                      | (refine step_append_lies _ rfl _ _ 26 rfl G9 2 i0 (.int .i64 0) 1 8 Try.underlying26 hi hz0 hz1 hz2 rfl (by decide) _ _ _ rfl (World.ownsRow.alloc HOW.out _) ⟨_, 0, none⟩ 1 1 [.int .i64 V] rfl rfl (cell_one_new _ _ _) (ones_i64 [V]) (by decide) (by unfold maxLen; omega) (by omega) (by have := HGZ.out; simp; omega) _ rfl ?_; intro g5 cap5 w5 hown5 hgrow5 hat5 hlt5; have HO5 := Lib.hid hown5; have HG5 := Lib.hid hgrow5; have HB5 : Hid (Below G9 wr w5) := Lib.hid (Below.grown ((below_drewN' (Below.refl _ _) _).alloc HGZ.out _) hgrow5 (by have := HGZ.out; simp; omega) (fun g hg => HROW.out g hg)); clear hown5 hgrow5 hat5 hlt5))
                  have HLT5 := Lib.hid (show G9 + 1 ≤ w5.heap.size by have h1 := HB5.out.size; have h2 := HSZ.out; omega)
                  go_wp2_with fail
                  go_roundw
                  case rel =>
                    have hlo := HLO.out
                    have hon := only_of_below' HB5.out
                    refine ⟨q + 1, C ++ [V], by omega, by go_num, by rw [List.range_succ, List.map_append, ← HC.out]; simp only [List.map_cons, List.map_nil]; rw [HE.out, ← HV.out], (HB5.out.block _ (by omega)).trans HZ0.out, (HB5.out.block _ (by omega)).trans HZ1.out, HTB.out.only hon (.inl (Nat.le_refl _)), by rw [List.length_append, List.map_append]; exact HO5.out, HQ.out _ HB5.out, HLT5.out⟩
                  case measure => simp [intOf]; omega
                · have hqe : q = nl := by omega
                  have HQE := Lib.hid hqe
                  have hx1 := HZ1.out
                  have e1 : World.cell? ‹World› ⟨G3, 1, none⟩ = some (.slice A3 (rowsF nl (selF xss L) k).length c3) := cell_of_row _ (G3) 1 _ _ _ hx1
                  have hrl : (rowsF nl (selF xss L) k).length ≤ 3 := by rw [rowsF_len]; omega
                  have HLE := Lib.hid (show G3 + 1 ≤ wr.heap.size by have h1 := HSZ.out; have h2 := HLO.out; omega)
                  clear hx1 hqe y1
                  go_wp2_with (at_builtin; refine wpList_append_own_at _ rfl _ _ 22 rfl (G3 + 1) 26 i1 (.slice none 0 0) 1 24 Try.underlying22 hi1 hy0 hy1 hy2 rfl (by decide) _ _ _ rfl (World.ownsRow.alloc (HTB.out.out) _) ⟨(wr).heap.size, 0, none⟩ 1 1 [.slice A5 C.length c5] rfl rfl (cell_one_new _ _ _) (by simp [Value.oneCell']) (by unfold maxLen; omega) (by omega) (by rw [World.size_alloc]; exact Nat.le_succ_of_le HLE.out) ?_)
                  intro v' w2 hown' hgrow _ hat
                  obtain ⟨A6, c6, rfl⟩ := own_form hown'
                  have hrow : IntsIn G9 wr.heap.size wr (.slice A5 C.length c5) C := IntsIn.of HOW.out
                  have hC := HC.out
                  rw [HQE.out] at hC
                  have ba : Below wr.heap.size wr (wr.alloc (.cells #[.slice A5 C.length c5] 26)) := (Below.refl _ _).alloc (Nat.le_refl _) _
                  have htab2 := TabV.snoc (HTB.out.below ba) (hrow.below ba) hown' hgrow (by rw [World.size_alloc]; exact hat) HLO.out (Nat.le_refl _) ba.size
                  rw [hC, ← rowsF_succ] at htab2
                  rw [← hC] at htab2
                  have HT2 := Lib.hid htab2
                  have hvn : ∀ g, (Value.slice A3 (rowsF nl (selF xss L) k).length c3).ownBlock = some g → G3 + 1 ≤ g := fun g hg => (HTB.out.out.lt g hg).1
                  have hu0 : w2.heap[w.heap.size + 1]? = some (.cells #[.int .i64 0, .slice none 0 0] 29 (0, 0)) := (hgrow.block _ (Nat.lt_of_lt_of_le (block_lt HZ0.out) ba.size) (fun e => by have := hvn _ e.symm; omega)).trans ((ba.block _ (block_lt HZ0.out)).trans HZ0.out)
                  have hu1 : w2.heap[G3]? = some (.cells #[.int .i64 (nl : Int), .slice A3 (rowsF nl (selF xss L) k).length c3] 29 (0, 0)) := (hgrow.block _ (Nat.lt_of_lt_of_le (block_lt HZ1.out) ba.size) (fun e => by have := hvn _ e.symm; omega)).trans ((ba.block _ (block_lt HZ1.out)).trans HZ1.out)
                  have HU0 := Lib.hid hu0
                  have HU1 := Lib.hid hu1
                  have hc1 : w2.cell? ⟨G3, 1, none⟩ = some (.slice A3 (rowsF nl (selF xss L) k).length c3) := cell_of_row _ (G3) 1 _ _ _ hu1
                  have hf1 : w2.frozen? ⟨G3, 1, none⟩ = false := frozen_of_row _ (G3) 1 _ _ hu1
                  have HB2 := Lib.hid (below_grown (below_then HBL.out ba) hgrow (fun g hg => by have := hvn g hg; have := HWL.out; omega))
                  have HLE2 := Lib.hid (show G3 + 1 ≤ w2.heap.size by have h1 := HLE.out; have := hgrow.size; have := ba.size; omega)
                  have HL1 := Lib.hid (show (rowsF nl (selF xss L) (k + 1)).length = (rowsF nl (selF xss L) k).length + 1 by rw [rowsF_len, rowsF_len])
                  clear hown' hgrow hat ba hvn hu0 hu1 e1 hrow htab2 hC
                  go_wp2_with fail
                  go_roundw
                  case rel =>
                    have hon := only_setCell w2 (G3) 1 (.slice A6 ((rowsF nl (selF xss L) k).length + 1) c6)
                    have hwl := HWL.out
                    refine ⟨k + 1, .slice A6 ((rowsF nl (selF xss L) k).length + 1) c6, vs ++ [.slice A5 C.length c5], by omega, by go_num, ?_, ?_, ?_, HB2.out.setCell (by have := HG3.out; simp; omega) _, by rw [World.size_setCell]; exact HLE2.out⟩
                    · rw [heap_setCell_other w2 ⟨G3, 1, none⟩ _ _ (by first | (simp; done) | (simp; omega))]; exact HU0.out
                    · rw [heap_setCell_same w2 (G3) 1 _ _ _ HU1.out]; rfl
                    · rw [World.size_setCell]
                      exact HT2.out.only hon (.inr (by omega))
                  case measure => simp [intOf]; omega
            · have hkm : k = m := by omega
              have HKM := Lib.hid hkm
              have y1 : wr.cell? ⟨w.heap.size, 1, none⟩ = some (.slice A m cap) := (hbel.cell (cell_lt C1.out)).trans C1.out
              obtain ⟨e0, e1, _, _⟩ := box2_cells hx1
              obtain ⟨e2, e3, e4, e5⟩ := box2_cells hx0
              obtain ⟨g2, g3⟩ := box2_set hx0 (.int .i64 (nl : Int)) (.slice A3 (rowsF nl (selF xss L) k).length c3)
              clear hx0 hx1 htab hbel hkm hlo
              go_wp2_with fail
              refine bodyPost_ret (v := .tuple #[.agg #[.int .i64 (nl : Int), .slice A3 (rowsF nl (selF xss L) k).length c3], .int .i64 0]) (by simp [results, Try.results34, go_sem, g2, g3]) rfl ?_
              refine autosTo_mk (by rw [HF.out, ← HKM.out]) ?_ (((below_then HB3.out HB.out).setCell (by simp) _).setCell (by simp) _)
              rw [set2_size]
              exact (TabIn.only ⟨vs, HT.out⟩ (set2_only _ _ _ _) (.inr (by have := HRB.out; omega))).wide (by have := HRB.out; omega) (Nat.le_refl _)

end Go.Proofs.Ytfkmpabohebcfaa
