/-
  The automaton of a closed set, and that with the states in another order: the contracts of both RestrictTo and of both RenumberStates.
-/
import Derived.Test.YtfkmpabohebcfaaRen
namespace Go.Proofs.Ytfkmpabohebcfaa
open Go.RowKit Go.Deep Go.ChangeShapes Go.WideShapes

theorem setB_ge {s : Int} {xs : List Int} (h : setB s xs = true) : ∀ (k : Nat) (x : Int), xs[k]? = some x → (k : Int) ≤ x := by
  have hall : ∀ k, k < xs.length → setAt s xs k = true := fun k hk => by
    unfold setB at h
    rw [List.all_eq_true] at h
    exact h k (List.mem_range.2 hk)
  intro k
  induction k with
  | zero =>
    intro x hx
    have hl : 0 < xs.length := by
      rcases Nat.lt_or_ge 0 xs.length with a | a
      · exact a
      · rw [List.getElem?_eq_none a] at hx; cases hx
    have h0 := setB_mem h x (List.mem_of_getElem? hx)
    exact h0.1
  | succ k ih =>
    intro x hx
    have hl : k + 1 < xs.length := by
      rcases Nat.lt_or_ge (k + 1) xs.length with a | a
      · exact a
      · rw [List.getElem?_eq_none a] at hx; cases hx
    have hy : xs[k]? = some xs[k] := List.getElem?_eq_getElem (by omega)
    have hb : belowB s x = true := by
      have := setB_mem h x (List.mem_of_getElem? hx)
      exact belowB_t this
    have h1 := hall (k + 1) hl
    rw [setAt_next hx hy hb, decide_eq_true_eq] at h1
    have := ih _ hy
    omega
theorem setB_len {s : Int} {xs : List Int} (h : setB s xs = true) (hs : 0 ≤ s) : (xs.length : Int) ≤ s := by
  rcases Nat.eq_zero_or_pos xs.length with e | e
  · omega
  · have hx : xs[xs.length - 1]? = some xs[xs.length - 1] := List.getElem?_eq_getElem (by omega)
    have h1 := setB_ge h _ _ hx
    have h2 := (setB_mem h _ (List.mem_of_getElem? hx)).2
    omega

/-- What RestrictTo answers. -/
noncomputable def restrictTo (s : Int) (xss : List (List Int)) (set : List Int) : Int × List (List Int) × Int :=
  if okA s xss = true then (if setB s set = true then (if set.length = 0 then (0, [], 4) else if closedB xss.length xss set = true then ((set.length : Int), rowsF set.length (selF xss set) xss.length, 0) else (0, [], 4)) else (0, [], 2)) else (0, [], 1)
theorem restrictTo_1 {s : Int} {xss : List (List Int)} {set : List Int} (h : okA s xss = false) : restrictTo s xss set = (0, [], 1) := by unfold restrictTo; rw [if_neg (by simp [h])]
theorem restrictTo_2 {s : Int} {xss : List (List Int)} {set : List Int} (h : okA s xss = true) (h' : setB s set = false) : restrictTo s xss set = (0, [], 2) := by unfold restrictTo; rw [if_pos h, if_neg (by simp [h'])]
theorem restrictTo_4 {s : Int} {xss : List (List Int)} {set : List Int} (h : okA s xss = true) (h' : setB s set = true) (h0 : set.length = 0) : restrictTo s xss set = (0, [], 4) := by unfold restrictTo; rw [if_pos h, if_pos h', if_pos h0]
theorem restrictTo_5 {s : Int} {m : Nat} {xss : List (List Int)} {set : List Int} (h : okA s xss = true) (h' : setB s set = true) (h0 : ¬ set.length = 0) (hm : xss.length = m) (hc : closedB m xss set = false) : restrictTo s xss set = (0, [], 4) := by
  unfold restrictTo; rw [if_pos h, if_pos h', if_neg h0, hm, if_neg (by simp [hc])]
theorem restrictTo_0 {s : Int} {m nl : Nat} {xss : List (List Int)} {set : List Int} (h : okA s xss = true) (h' : setB s set = true) (h0 : ¬ set.length = 0) (hm : xss.length = m) (hc : closedB m xss set = true) (hl : set.length = nl) : restrictTo s xss set = ((nl : Int), rowsF nl (selF xss set) m, 0) := by
  unfold restrictTo; rw [if_pos h, if_pos h', if_neg h0, hm, if_pos hc, hl]
theorem restrictTo_len (s : Int) (xss : List (List Int)) (set : List Int) : (restrictTo s xss set).2.1.length ≤ 10 := by
  unfold restrictTo
  split
  · rename_i h
    obtain ⟨_, h2, _⟩ := okA_parts h
    split
    · split
      · simp
      · split
        · rw [rowsF_len]; omega
        · simp
    · simp
  · simp
theorem restrictTo_sum (s : Int) (xss : List (List Int)) (set : List Int) : sumLens (restrictTo s xss set).2.1 ≤ 100 := by
  unfold restrictTo
  split
  · rename_i h
    obtain ⟨h1, h2, _⟩ := okA_parts h
    split
    · rename_i h'
      split
      · simp [sumLens]
      · split
        · show sumLens (rowsF _ _ _) ≤ 100
          rw [rowsF_sum]
          have h3 := setB_len h' (by omega)
          have : xss.length * set.length ≤ 3 * 10 := Nat.mul_le_mul (by omega) (by omega)
          omega
        · simp [sumLens]
    · simp [sumLens]
  · simp [sumLens]

set_option maxRecDepth 100000 in
set_option maxHeartbeats 3000000 in
theorem implRestrictTo_any (s : Int) (A : Option Addr) (m cap : Nat) (xss : List (List Int)) (AL : Option Addr) (nl cl : Nat) (L : List Int) (w : World) (h : RowsAt w A m xss) (hm : m ≤ 4611686018427387904)
    (hrows : ∀ (r : Nat) (xs : List Int), xss[r]? = some xs → xs.length ≤ 4611686018427387904) (hL : NumsAt w AL nl L) (hl : nl ≤ 4611686018427387904) :
    Calls Try.prog 35 #[.agg #[.int .i64 s, .slice A m cap], .slice AL nl cl] w (AutosTo (restrictTo s xss L) w) := by
  have HR := Lib.hid hrows
  have HM := Lib.hid h.1
  have HNLEN := Lib.hid hL.1
  obtain ⟨W2, hW2⟩ : ∃ W2, W2 = (w.alloc (.cells #[.int .i64 s, .slice A m cap] 29)).alloc (.cells #[.int .i64 0, .slice none 0 0] 29) := ⟨_, rfl⟩
  have b2 : Below w.heap.size w W2 := by rw [hW2]; go_grown
  have B2 := Lib.hid b2
  have x0 : W2.cell? ⟨w.heap.size, 0, none⟩ = some (.int .i64 s) := by rw [hW2]; go_cell
  have x1 : W2.cell? ⟨w.heap.size, 1, none⟩ = some (.slice A m cap) := by rw [hW2]; go_cell
  have xr : W2.heap[w.heap.size + 1]? = some (.cells #[.int .i64 0, .slice none 0 0] 29 (0, 0)) := by
    have := heap_alloc_new (w.alloc (.cells #[.int .i64 s, .slice A m cap] 29)) (.cells #[.int .i64 0, .slice none 0 0] 29)
    rw [World.size_alloc, ← hW2] at this
    exact this
  have H2 := Lib.hid (h.below b2)
  have N2 := Lib.hid (hL.below b2)
  have X0 := Lib.hid x0
  have X1 := Lib.hid x1
  have XR := Lib.hid xr
  have HW2 := Lib.hid hW2
  clear hrows b2 x0 x1 xr hW2
  rcases hok : okA s xss with _ | _
  · have HF := Lib.hid (restrictTo_1 (set := L) hok)
    have x0 := X0.out
    have x1 := X1.out
    rw [HW2.out] at x0 x1
    go_enter Try.func35, Try.ntmps35
    go_wp2_with fail
    rw [← HW2.out]
    refine (implValid_any s A m cap xss _ H2.out hm HR.out).mono ?_
    rw [hok]
    rintro e w1 ⟨rfl, b1⟩
    have d0 : w1.cell? ⟨w.heap.size, 0, none⟩ = some (.int .i64 s) := (b1.cell (cell_lt X0.out)).trans X0.out
    have d1 : w1.cell? ⟨w.heap.size, 1, none⟩ = some (.slice A m cap) := (b1.cell (cell_lt X1.out)).trans X1.out
    have xr := (b1.block _ (block_lt XR.out)).trans XR.out
    obtain ⟨e0, e1, e2, e3⟩ := box2_cells xr
    have H1 := Lib.hid (H2.out.below b1)
    have N1 := Lib.hid (N2.out.below b1)
    have B1 := Lib.hid (below_then B2.out b1)
    obtain ⟨g2, g3⟩ := box2_set xr (.int .i64 0) (.slice none 0 0)
    have XR1 := Lib.hid xr
    clear b1 xr
    clear x0 x1
    go_wp2_with fail
    refine bodyPost_ret (v := .tuple #[.agg #[.int .i64 0, .slice none 0 0], .int .i64 1]) (by simp [results, Try.results35, go_sem, g2, g3]) rfl ?_
    exact autosTo_mk HF.out (tab_nil _ _ _) ((B1.out.setCell (by simp; try omega) _).setCell (by simp; try omega) _)
  · obtain ⟨n, hsn, hg⟩ := good_of hok HM.out
    subst hsn
    have HG := Lib.hid hg
    have hn10 : n ≤ 10 := hg.n10
    clear hg
    rcases hset : setB (n : Int) L with _ | _
    · have HF := Lib.hid (restrictTo_2 hok hset)
      have x0 := X0.out
      have x1 := X1.out
      rw [HW2.out] at x0 x1
      go_enter Try.func35, Try.ntmps35
      go_wp2_with fail
      rw [← HW2.out]
      refine (implValid_any (n : Int) A m cap xss _ H2.out hm HR.out).mono ?_
      rw [hok]
      rintro e w1 ⟨rfl, b1⟩
      have d0 : w1.cell? ⟨w.heap.size, 0, none⟩ = some (.int .i64 (n : Int)) := (b1.cell (cell_lt X0.out)).trans X0.out
      have d1 : w1.cell? ⟨w.heap.size, 1, none⟩ = some (.slice A m cap) := (b1.cell (cell_lt X1.out)).trans X1.out
      have xr := (b1.block _ (block_lt XR.out)).trans XR.out
      obtain ⟨e0, e1, e2, e3⟩ := box2_cells xr
      have H1 := Lib.hid (H2.out.below b1)
      have N1 := Lib.hid (N2.out.below b1)
      have B1 := Lib.hid (below_then B2.out b1)
      obtain ⟨g2, g3⟩ := box2_set xr (.int .i64 0) (.slice none 0 0)
      have XR1 := Lib.hid xr
      clear b1 xr
      clear x0 x1
      go_wp2_with fail
      refine (isSet_any (n : Int) AL nl cl L _ N1.out hl).mono ?_
      rw [hset]
      rintro e w' ⟨rfl, rfl⟩
      go_wp2_with fail
      refine bodyPost_ret (v := .tuple #[.agg #[.int .i64 0, .slice none 0 0], .int .i64 2]) (by simp [results, Try.results35, go_sem, g2, g3]) rfl ?_
      exact autosTo_mk HF.out (tab_nil _ _ _) ((B1.out.setCell (by simp; try omega) _).setCell (by simp; try omega) _)
    · have hin := setB_mem hset
      have hlen := setB_len hset (by omega)
      have hnl10 : nl ≤ 10 := by have := HNLEN.out; omega
      have HIN := Lib.hid hin
      clear hin hlen
      by_cases h0 : nl = 0
      · have HF := Lib.hid (restrictTo_4 hok hset (HNLEN.out.trans h0))
        have hz : ((nl : Int) == 0) = true := by rw [beq_iff_eq]; omega
        clear h0
        have x0 := X0.out
        have x1 := X1.out
        rw [HW2.out] at x0 x1
        go_enter Try.func35, Try.ntmps35
        go_wp2_with fail
        rw [← HW2.out]
        refine (implValid_any (n : Int) A m cap xss _ H2.out hm HR.out).mono ?_
        rw [hok]
        rintro e w1 ⟨rfl, b1⟩
        have d0 : w1.cell? ⟨w.heap.size, 0, none⟩ = some (.int .i64 (n : Int)) := (b1.cell (cell_lt X0.out)).trans X0.out
        have d1 : w1.cell? ⟨w.heap.size, 1, none⟩ = some (.slice A m cap) := (b1.cell (cell_lt X1.out)).trans X1.out
        have xr := (b1.block _ (block_lt XR.out)).trans XR.out
        obtain ⟨e0, e1, e2, e3⟩ := box2_cells xr
        have H1 := Lib.hid (H2.out.below b1)
        have N1 := Lib.hid (N2.out.below b1)
        have B1 := Lib.hid (below_then B2.out b1)
        obtain ⟨g2, g3⟩ := box2_set xr (.int .i64 0) (.slice none 0 0)
        have XR1 := Lib.hid xr
        clear b1 xr
        clear x0 x1
        go_wp2_with fail
        refine (isSet_any (n : Int) AL nl cl L _ N1.out hl).mono ?_
        rw [hset]
        rintro e w' ⟨rfl, rfl⟩
        go_wp2_with fail
        refine bodyPost_ret (v := .tuple #[.agg #[.int .i64 0, .slice none 0 0], .int .i64 4]) (by simp [results, Try.results35, go_sem, g2, g3]) rfl ?_
        exact autosTo_mk HF.out (tab_nil _ _ _) ((B1.out.setCell (by simp; try omega) _).setCell (by simp; try omega) _)
      · have hz : ((nl : Int) == 0) = false := by rw [beq_eq_false_iff_ne]; omega
        have H0 := Lib.hid (show ¬ L.length = 0 by rw [HNLEN.out]; exact h0)
        clear h0
        rcases hcl : closedB m xss L with _ | _
        · have HF := Lib.hid (restrictTo_5 hok hset H0.out HM.out hcl)
          have x0 := X0.out
          have x1 := X1.out
          rw [HW2.out] at x0 x1
          go_enter Try.func35, Try.ntmps35
          go_wp2_with fail
          rw [← HW2.out]
          refine (implValid_any (n : Int) A m cap xss _ H2.out hm HR.out).mono ?_
          rw [hok]
          rintro e w1 ⟨rfl, b1⟩
          have d0 : w1.cell? ⟨w.heap.size, 0, none⟩ = some (.int .i64 (n : Int)) := (b1.cell (cell_lt X0.out)).trans X0.out
          have d1 : w1.cell? ⟨w.heap.size, 1, none⟩ = some (.slice A m cap) := (b1.cell (cell_lt X1.out)).trans X1.out
          have xr := (b1.block _ (block_lt XR.out)).trans XR.out
          obtain ⟨e0, e1, e2, e3⟩ := box2_cells xr
          have H1 := Lib.hid (H2.out.below b1)
          have N1 := Lib.hid (N2.out.below b1)
          have B1 := Lib.hid (below_then B2.out b1)
          obtain ⟨g2, g3⟩ := box2_set xr (.int .i64 0) (.slice none 0 0)
          have XR1 := Lib.hid xr
          clear b1 xr
          clear x0 x1 e0 e1 e2 e3 g2 g3
          go_wp2_with fail
          refine (isSet_any (n : Int) AL nl cl L _ N1.out hl).mono ?_
          rw [hset]
          rintro e w' ⟨rfl, rfl⟩
          go_wp2_with fail
          refine (isClosed_any A AL n m cap nl cl xss L _ HG.out H1.out N1.out HIN.out hl).mono ?_
          rw [hcl]
          rintro e w3 ⟨rfl, b3⟩
          have xr := (b3.block _ (block_lt XR1.out)).trans XR1.out
          obtain ⟨e0, e1, e2, e3⟩ := box2_cells xr
          obtain ⟨g2, g3⟩ := box2_set xr (.int .i64 0) (.slice none 0 0)
          have B3 := Lib.hid (below_then B1.out b3)
          clear b3 xr d0 d1
          go_wp2_with fail
          refine bodyPost_ret (v := .tuple #[.agg #[.int .i64 0, .slice none 0 0], .int .i64 4]) (by simp [results, Try.results35, go_sem, g2, g3]) rfl ?_
          exact autosTo_mk HF.out (tab_nil _ _ _) ((B3.out.setCell (by simp; try omega) _).setCell (by simp; try omega) _)
        · have HF := Lib.hid (restrictTo_0 hok hset H0.out HM.out hcl HNLEN.out)
          have x0 := X0.out
          have x1 := X1.out
          rw [HW2.out] at x0 x1
          go_enter Try.func35, Try.ntmps35
          go_wp2_with fail
          rw [← HW2.out]
          refine (implValid_any (n : Int) A m cap xss _ H2.out hm HR.out).mono ?_
          rw [hok]
          rintro e w1 ⟨rfl, b1⟩
          have d0 : w1.cell? ⟨w.heap.size, 0, none⟩ = some (.int .i64 (n : Int)) := (b1.cell (cell_lt X0.out)).trans X0.out
          have d1 : w1.cell? ⟨w.heap.size, 1, none⟩ = some (.slice A m cap) := (b1.cell (cell_lt X1.out)).trans X1.out
          have xr := (b1.block _ (block_lt XR.out)).trans XR.out
          obtain ⟨e0, e1, e2, e3⟩ := box2_cells xr
          have H1 := Lib.hid (H2.out.below b1)
          have N1 := Lib.hid (N2.out.below b1)
          have B1 := Lib.hid (below_then B2.out b1)
          obtain ⟨g2, g3⟩ := box2_set xr (.int .i64 0) (.slice none 0 0)
          have XR1 := Lib.hid xr
          clear b1 xr
          clear x0 x1 e0 e1 e2 e3 g2 g3
          go_wp2_with fail
          refine (isSet_any (n : Int) AL nl cl L _ N1.out hl).mono ?_
          rw [hset]
          rintro e w' ⟨rfl, rfl⟩
          go_wp2_with fail
          refine (isClosed_any A AL n m cap nl cl xss L _ HG.out H1.out N1.out HIN.out hl).mono ?_
          rw [hcl]
          rintro e w3 ⟨rfl, b3⟩
          have d0 : w3.cell? ⟨w.heap.size, 0, none⟩ = some (.int .i64 (n : Int)) := (b3.cell (cell_lt d0)).trans d0
          have d1 : w3.cell? ⟨w.heap.size, 1, none⟩ = some (.slice A m cap) := (b3.cell (cell_lt d1)).trans d1
          have H3 := Lib.hid (H1.out.below b3)
          have N3 := Lib.hid (N1.out.below b3)
          have XR3 := Lib.hid ((b3.block _ (block_lt XR1.out)).trans XR1.out)
          have B3 := Lib.hid (below_then B1.out b3)
          clear b3
          go_wp2_with fail
          refine (selectStates_any A AL n m cap nl cl xss L _ HG.out H3.out N3.out HIN.out hnl10).mono ?_
          rintro e w4 ⟨v, rfl, t4, b4⟩
          obtain ⟨V4, c4, rfl⟩ := t4.form
          have xr := (b4.block _ (block_lt XR3.out)).trans XR3.out
          obtain ⟨e0, e1, e2, e3⟩ := box2_cells xr
          obtain ⟨g2, g3⟩ := box2_set xr (.int .i64 (nl : Int)) (.slice V4 (rowsF nl (selF xss L) m).length c4)
          have T4 := Lib.hid t4
          have B4 := Lib.hid (below_then B3.out b4)
          have hl3 := Lib.hid (block_lt XR3.out)
          have hl0 := Lib.hid B3.out.size
          clear t4 b4 xr d0 d1
          go_wp2_with fail
          refine bodyPost_ret (v := .tuple #[.agg #[.int .i64 (nl : Int), .slice V4 (rowsF nl (selF xss L) m).length c4], .int .i64 0]) (by simp [results, Try.results35, go_sem, g2, g3]) rfl ?_
          refine autosTo_mk HF.out ?_ ((B4.out.setCell (by simp) _).setCell (by simp) _)
          rw [set2_size]
          exact (T4.out.only (set2_only _ _ _ _) (.inr hl3.out)).wide hl0.out (Nat.le_refl _)

end Go.Proofs.Ytfkmpabohebcfaa
