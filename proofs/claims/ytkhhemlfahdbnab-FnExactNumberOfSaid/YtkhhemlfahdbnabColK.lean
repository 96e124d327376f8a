/-
  The colouring with a number: both ColouringAt.
-/
import Derived.Test.YtkhhemlfahdbnabColI
namespace Go.Proofs.Ytkhhemlfahdbnab
open Go.RowKit Go.Deep Go.ChangeShapes Go.WideShapes

theorem arrF_pos : ∀ (N : Nat) (xs : List Int), xs.length = N → 1 ≤ (arrF N xs).length
  | 0, _, _ => Nat.le_refl _
  | N + 1, xs, h => by
    have h0 : 1 ≤ (arrTo (arrF N) xs 1).length := by
      have hx : ∃ x, xs[0]? = some x := ⟨xs[0]'(by omega), List.getElem?_eq_getElem _⟩
      obtain ⟨x, hx⟩ := hx
      have := arrF_pos N (xs.take 0 ++ xs.drop (0 + 1)) (by simp; omega)
      rw [arrTo, arrOne_go (skipB_0 xs) hx, List.length_append, List.length_map]
      omega
    have hk : ∀ k, 1 ≤ (arrTo (arrF N) xs (k + 1)).length := by
      intro k
      induction k with
      | zero => exact h0
      | succ k ih => rw [arrTo, List.length_append]; omega
    exact hk N
theorem goodX_of {n m : Nat} {xss : List (List Int)} (h : GoodR n m xss) : GoodX n m (choF m xss) := by
  have hat : ∀ s, s < n → ∃ xs, xss[s]? = some xs ∧ xs.length = m ∧ (choF m xss).getD s [] = arrF m xs := by
    intro s hs
    obtain ⟨xs, hx, hl, _⟩ := h.row s hs
    exact ⟨xs, hx, hl, choF_getD hx⟩
  refine ⟨by rw [choF_length, h.len], h.n1, h.n7, h.m1, h.m3, fun s hs => ?_, fun s hs l hl => ?_⟩
  · obtain ⟨xs, hx, hl, he⟩ := hat s hs
    rw [he]
    exact ⟨arrF_pos m xs hl, arrF_len6 h.m3 xs⟩
  · obtain ⟨xs, hx, hxl, he⟩ := hat s hs
    rw [he] at hl
    exact arrF_rows m xs hxl l hl

/-- What ColouringAt answers. -/
def colouringAt (s : Int) (xss : List (List Int)) (x : Int) : Int × List (List Int) × Int :=
  if okR s xss = true then (if belowB ((cntC (choF (xss.getD 0 []).length xss) xss.length : Nat) : Int) x = true then (s, rowsF xss.length (colX (choF (xss.getD 0 []).length xss) xss.length x.toNat) (xss.getD 0 []).length, 0) else (0, [], 2)) else (0, [], 1)
theorem colouringAt_1 {s : Int} {xss : List (List Int)} {x : Int} (h : okR s xss = false) : colouringAt s xss x = (0, [], 1) := by unfold colouringAt; rw [if_neg (by simp [h])]
theorem colouringAt_2 {s : Int} {n m : Nat} {xss : List (List Int)} {x : Int} (h : okR s xss = true) (hn : xss.length = n) (hm : (xss.getD 0 []).length = m) (h' : belowB ((cntC (choF m xss) n : Nat) : Int) x = false) : colouringAt s xss x = (0, [], 2) := by unfold colouringAt; rw [if_pos h, hn, hm, if_neg (by simp [h'])]
theorem colouringAt_0 {s : Int} {n m N : Nat} {xss : List (List Int)} (h : okR s xss = true) (hn : xss.length = n) (hm : (xss.getD 0 []).length = m) (h' : belowB ((cntC (choF m xss) n : Nat) : Int) (N : Int) = true) : colouringAt s xss (N : Int) = (s, rowsF n (colX (choF m xss) n N) m, 0) := by unfold colouringAt; rw [if_pos h, hn, hm, if_pos h', Int.toNat_natCast]
theorem colouringAt_len (s : Int) (xss : List (List Int)) (x : Int) : (colouringAt s xss x).2.1.length ≤ 30 := by
  unfold colouringAt
  split
  · rename_i h
    split
    · obtain ⟨m, _, hm, hg⟩ := goodR_of h rfl
      show (rowsF _ _ _).length ≤ 30
      rw [rowsF_len, hm]
      have := hg.m3
      omega
    · simp
  · simp
theorem colouringAt_sum (s : Int) (xss : List (List Int)) (x : Int) : sumLens (colouringAt s xss x).2.1 ≤ 30 := by
  unfold colouringAt
  split
  · rename_i h
    split
    · obtain ⟨m, _, hm, hg⟩ := goodR_of h rfl
      show sumLens (rowsF _ _ _) ≤ 30
      rw [rowsF_sum, hm]
      have h1 := hg.m3
      have h2 := hg.n7
      calc m * xss.length ≤ 3 * 7 := Nat.mul_le_mul h1 h2
        _ ≤ 30 := by decide
    · simp [sumLens]
  · simp [sumLens]

set_option maxRecDepth 100000 in
set_option maxHeartbeats 4000000 in
theorem specColouringAt_any (s : Int) (A : Option Addr) (n cap : Nat) (xss : List (List Int)) (x : Int) (w : World) (h : RowsC w A n xss) (hn : n ≤ 4611686018427387904)
    (hrows : ∀ (r : Nat) (xs : List Int), xss[r]? = some xs → xs.length ≤ 4611686018427387904) :
    Calls Try.prog 18 #[.agg #[.int .i64 s, .slice A n cap], .int .i64 x] w (AutosTo (colouringAt s xss x) w) := by
  have HR := Lib.hid hrows
  have HL := Lib.hid h.1
  obtain ⟨W2, hW2⟩ : ∃ W2, W2 = (w.alloc (.cells #[.int .i64 s, .slice A n cap] 28)).alloc (.cells #[.int .i64 0, .slice none 0 0] 33) := ⟨_, rfl⟩
  have b2 : Below w.heap.size w W2 := by rw [hW2]; go_grown
  have B2 := Lib.hid b2
  have x0 : W2.cell? ⟨w.heap.size, 0, none⟩ = some (.int .i64 s) := by rw [hW2]; go_cell
  have x1 : W2.cell? ⟨w.heap.size, 1, none⟩ = some (.slice A n cap) := by rw [hW2]; go_cell
  have xr : W2.heap[w.heap.size + 1]? = some (.cells #[.int .i64 0, .slice none 0 0] 33 (0, 0)) := by
    have := heap_alloc_new (w.alloc (.cells #[.int .i64 s, .slice A n cap] 28)) (.cells #[.int .i64 0, .slice none 0 0] 33)
    rw [World.size_alloc, ← hW2] at this
    exact this
  have H2 := Lib.hid (h.below b2)
  have X0 := Lib.hid x0
  have X1 := Lib.hid x1
  have XR := Lib.hid xr
  have HW2 := Lib.hid hW2
  clear hrows b2 xr hW2 h
  rw [HW2.out] at x0 x1
  go_enter Try.func18, Try.ntmps18
  go_wp2_with fail
  rw [← HW2.out]
  refine (l05Ok_any w.heap.size s A n cap xss W2 X0.out X1.out H2.out.rows hn HR.out).mono ?_
  rintro e w3 ⟨rfl, k3, hk3⟩
  have b3 : Below W2.heap.size W2 w3 := by rw [hk3]; exact below_drewN' (Below.refl _ _) _
  clear hk3 x0 x1
  have B3 := Lib.hid (below_then B2.out b3)
  have x0 := (b3.cell (cell_lt X0.out)).trans X0.out
  have x1 := (b3.cell (cell_lt X1.out)).trans X1.out
  have X0 := Lib.hid x0
  have X1 := Lib.hid x1
  have XR := Lib.hid ((b3.block _ (block_lt XR.out)).trans XR.out)
  have H3 := Lib.hid (H2.out.below b3)
  clear b3
  rcases hok : okR s xss with _ | _
  · have HF := Lib.hid (colouringAt_1 (x := x) hok)
    obtain ⟨e0, e1, e2, e3⟩ := box2_cellsR XR.out
    obtain ⟨g2, g3⟩ := box2_setR XR.out (.int .i64 0) (.slice none 0 0)
    go_wp2_with fail
    refine bodyPost_ret (v := .tuple #[.agg #[.int .i64 0, .slice none 0 0], .int .i64 1]) (by simp [results, Try.results18, go_sem, g2, g3]) rfl ?_
    exact autosTo_mk HF.out (tab_nil _ _ _) ((B3.out.setCell (by simp; try omega) _).setCell (by simp; try omega) _)
  · obtain ⟨m, hs, hm, hg⟩ := goodR_of hok HL.out
    subst hs
    have HG := Lib.hid hg
    have HGX := Lib.hid (goodX_of hg)
    have hn1 := hg.n1
    have hn7 := hg.n7
    have hm3 := hg.m3
    obtain ⟨X, hX⟩ : ∃ X, X = choF m xss := ⟨_, rfl⟩
    have HX := Lib.hid hX
    have HXL := Lib.hid (show X.length = n by rw [hX, choF_length, HL.out])
    have HXS := Lib.hid (show ∀ x ∈ X, x.length ≤ 6 by rw [hX]; exact choF_le hm3 xss)
    obtain ⟨CT, hCT⟩ : ∃ CT, CT = cntC X n := ⟨_, rfl⟩
    have hct : CT ≤ 279936 := by rw [hCT]; exact cntC_small HXS.out hn7
    have HCT := Lib.hid hCT
    have HMM := Lib.hid hm
    clear hg hX hCT hm
    go_wp2_with fail
    refine (l05Choices_any w.heap.size n m cap A xss w3 HG.out X1.out H3.out).mono ?_
    rintro e w4 ⟨u, vs, rfl, t4, b4⟩
    rw [← HX.out] at t4
    obtain ⟨A4, c4, rfl⟩ := own_form t4.out
    rw [HXL.out] at t4 ⊢
    have T4 := Lib.hid t4
    have B4 := Lib.hid (below_then B3.out b4)
    have x0 := (b4.cell (cell_lt X0.out)).trans X0.out
    have x1 := (b4.cell (cell_lt X1.out)).trans X1.out
    have X0 := Lib.hid x0
    have X1 := Lib.hid x1
    have XR := Lib.hid ((b4.block _ (block_lt XR.out)).trans XR.out)
    have H4 := Lib.hid (H3.out.below b4)
    clear t4 b4 x0 x1
    go_wp2_with fail
    refine (l05Count_any _ n c4 A4 vs X w4 T4.out HXL.out hn7 HXS.out).mono ?_
    rw [← HCT.out]
    rintro e w' ⟨rfl, rfl⟩
    have hsub : IntKind.i64.wrap ((CT : Int) - 1) = (CT : Int) - 1 := IntWalk.i64_in _ (by omega)
    have hin : inB 0 ((CT : Int) - 1) x = belowB (CT : Int) x := (belowB_inB _ _).symm
    have HIN := Lib.hid hin
    clear hin
    go_wp2_with fail
    refine (l00In_any x 0 ((CT : Int) - 1) w4).mono ?_
    rw [HIN.out]
    rintro e w' ⟨rfl, rfl⟩
    clear hsub
    rcases hx : belowB (CT : Int) x with _ | _
    · have HF := Lib.hid (colouringAt_2 (x := x) hok HL.out HMM.out (by rw [← HX.out, ← HCT.out]; exact hx))
      obtain ⟨e0, e1, e2, e3⟩ := box2_cellsR XR.out
      obtain ⟨g2, g3⟩ := box2_setR XR.out (.int .i64 0) (.slice none 0 0)
      go_wp2_with fail
      refine bodyPost_ret (v := .tuple #[.agg #[.int .i64 0, .slice none 0 0], .int .i64 2]) (by simp [results, Try.results18, go_sem, g2, g3]) rfl ?_
      exact autosTo_mk HF.out (tab_nil _ _ _) ((B4.out.setCell (by simp; try omega) _).setCell (by simp; try omega) _)
    · obtain ⟨N, rfl⟩ : ∃ N : Nat, x = (N : Int) := ⟨x.toNat, by simp only [belowB, decide_eq_true_eq] at hx; omega⟩
      have hN : N ≤ 1000000 := by simp only [belowB, decide_eq_true_eq] at hx; omega
      have HF := Lib.hid (colouringAt_0 (N := N) hok HL.out HMM.out (by rw [← HX.out, ← HCT.out]; exact hx))
      have hgx := HGX.out
      rw [← HX.out] at hgx
      have HGX := Lib.hid hgx
      clear hgx
      go_wp2_with fail
      refine (l05At_any _ n m c4 N A4 vs X w4 HGX.out T4.out hN).mono ?_
      rintro e w6 ⟨v, rfl, t6, b6⟩
      obtain ⟨V6, c6, rfl⟩ := t6.form
      have xr := (b6.block _ (block_lt XR.out)).trans XR.out
      obtain ⟨e0, e1, e2, e3⟩ := box2_cellsR xr
      obtain ⟨g2, g3⟩ := box2_setR xr (.int .i64 (n : Int)) (.slice V6 (rowsF n (colX X n N) m).length c6)
      have T6 := Lib.hid t6
      have B6 := Lib.hid (below_then B4.out b6)
      have HLT := Lib.hid (block_lt XR.out)
      clear t6 b6 xr
      go_wp2_with fail
      refine bodyPost_ret (v := .tuple #[.agg #[.int .i64 (n : Int), .slice V6 (rowsF n (colX X n N) m).length c6], .int .i64 0]) (by simp [results, Try.results18, go_sem, g2, g3]) rfl ?_
      refine autosTo_mk (by rw [HF.out, ← HX.out]) ?_ ((B6.out.setCell (by simp; try omega) _).setCell (by simp; try omega) _)
      rw [set2_sizeR]
      exact (T6.out.only (set2_onlyR _ _ _ _) (.inr HLT.out)).wide B4.out.size (Nat.le_refl _)

set_option maxRecDepth 100000 in
set_option maxHeartbeats 4000000 in
theorem implColouringAt_any (s : Int) (A : Option Addr) (n cap : Nat) (xss : List (List Int)) (x : Int) (w : World) (h : RowsC w A n xss) (hn : n ≤ 4611686018427387904)
    (hrows : ∀ (r : Nat) (xs : List Int), xss[r]? = some xs → xs.length ≤ 4611686018427387904) :
    Calls Try.prog 19 #[.agg #[.int .i64 s, .slice A n cap], .int .i64 x] w (AutosTo (colouringAt s xss x) w) := by
  have HR := Lib.hid hrows
  have HL := Lib.hid h.1
  obtain ⟨W2, hW2⟩ : ∃ W2, W2 = (w.alloc (.cells #[.int .i64 s, .slice A n cap] 28)).alloc (.cells #[.int .i64 0, .slice none 0 0] 33) := ⟨_, rfl⟩
  have b2 : Below w.heap.size w W2 := by rw [hW2]; go_grown
  have B2 := Lib.hid b2
  have x0 : W2.cell? ⟨w.heap.size, 0, none⟩ = some (.int .i64 s) := by rw [hW2]; go_cell
  have x1 : W2.cell? ⟨w.heap.size, 1, none⟩ = some (.slice A n cap) := by rw [hW2]; go_cell
  have xr : W2.heap[w.heap.size + 1]? = some (.cells #[.int .i64 0, .slice none 0 0] 33 (0, 0)) := by
    have := heap_alloc_new (w.alloc (.cells #[.int .i64 s, .slice A n cap] 28)) (.cells #[.int .i64 0, .slice none 0 0] 33)
    rw [World.size_alloc, ← hW2] at this
    exact this
  have H2 := Lib.hid (h.below b2)
  have X0 := Lib.hid x0
  have X1 := Lib.hid x1
  have XR := Lib.hid xr
  have HW2 := Lib.hid hW2
  clear hrows b2 xr hW2 h
  rw [HW2.out] at x0 x1
  go_enter Try.func19, Try.ntmps19
  go_wp2_with fail
  rw [← HW2.out]
  refine (implValidRoads_any s A n cap xss W2 H2.out.rows hn HR.out).mono ?_
  rintro e w3 ⟨rfl, b3⟩
  clear x0 x1
  have B3 := Lib.hid (below_then B2.out b3)
  have x0 := (b3.cell (cell_lt X0.out)).trans X0.out
  have x1 := (b3.cell (cell_lt X1.out)).trans X1.out
  have X0 := Lib.hid x0
  have X1 := Lib.hid x1
  have XR := Lib.hid ((b3.block _ (block_lt XR.out)).trans XR.out)
  have H3 := Lib.hid (H2.out.below b3)
  clear b3
  rcases hok : okR s xss with _ | _
  · have HF := Lib.hid (colouringAt_1 (x := x) hok)
    obtain ⟨e0, e1, e2, e3⟩ := box2_cellsR XR.out
    obtain ⟨g2, g3⟩ := box2_setR XR.out (.int .i64 0) (.slice none 0 0)
    go_wp2_with fail
    refine bodyPost_ret (v := .tuple #[.agg #[.int .i64 0, .slice none 0 0], .int .i64 1]) (by simp [results, Try.results19, go_sem, g2, g3]) rfl ?_
    exact autosTo_mk HF.out (tab_nil _ _ _) ((B3.out.setCell (by simp; try omega) _).setCell (by simp; try omega) _)
  · obtain ⟨m, hs, hm, hg⟩ := goodR_of hok HL.out
    subst hs
    have HG := Lib.hid hg
    have HGX := Lib.hid (goodX_of hg)
    have hn1 := hg.n1
    have hn7 := hg.n7
    have hm3 := hg.m3
    obtain ⟨X, hX⟩ : ∃ X, X = choF m xss := ⟨_, rfl⟩
    have HX := Lib.hid hX
    have HXL := Lib.hid (show X.length = n by rw [hX, choF_length, HL.out])
    have HXS := Lib.hid (show ∀ x ∈ X, x.length ≤ 6 by rw [hX]; exact choF_le hm3 xss)
    obtain ⟨CT, hCT⟩ : ∃ CT, CT = cntC X n := ⟨_, rfl⟩
    have hct : CT ≤ 279936 := by rw [hCT]; exact cntC_small HXS.out hn7
    have HCT := Lib.hid hCT
    have HMM := Lib.hid hm
    clear hg hX hCT hm
    go_wp2_with fail
    refine (townsOf_any n m cap A xss w3 HG.out H3.out).mono ?_
    rintro e w4 ⟨G, rfl, t4, _, b4⟩
    rw [← HX.out] at t4
    have T4 := Lib.hid t4
    have B4 := Lib.hid (below_then B3.out b4)
    have x0 := (b4.cell (cell_lt X0.out)).trans X0.out
    have x1 := (b4.cell (cell_lt X1.out)).trans X1.out
    have X0 := Lib.hid x0
    have X1 := Lib.hid x1
    have XR := Lib.hid ((b4.block _ (block_lt XR.out)).trans XR.out)
    have H4 := Lib.hid (H3.out.below b4)
    clear t4 b4 x0 x1
    go_wp2_with fail
    refine (countColourings_any G n X w4 T4.out HXL.out hn1 hn7 HXS.out).mono ?_
    rw [← HCT.out]
    rintro e w5 ⟨rfl, k5, hk5⟩
    have b5 : Below w4.heap.size w4 w5 := by rw [hk5]; exact below_drewN' (Below.refl _ _) _
    have T4 := Lib.hid (T4.out.below b5)
    clear hk5
    have B5 := Lib.hid (below_then B4.out b5)
    have x0 := (b5.cell (cell_lt X0.out)).trans X0.out
    have x1 := (b5.cell (cell_lt X1.out)).trans X1.out
    have X0 := Lib.hid x0
    have X1 := Lib.hid x1
    have XR := Lib.hid ((b5.block _ (block_lt XR.out)).trans XR.out)
    have H5 := Lib.hid (H4.out.below b5)
    clear b5 x0 x1
    go_wp2_with fail
    refine (isBelow_any x (CT : Int) w5).mono ?_
    rintro e w' ⟨rfl, rfl⟩
    rcases hx : belowB (CT : Int) x with _ | _
    · have HF := Lib.hid (colouringAt_2 (x := x) hok HL.out HMM.out (by rw [← HX.out, ← HCT.out]; exact hx))
      obtain ⟨e0, e1, e2, e3⟩ := box2_cellsR XR.out
      obtain ⟨g2, g3⟩ := box2_setR XR.out (.int .i64 0) (.slice none 0 0)
      go_wp2_with fail
      refine bodyPost_ret (v := .tuple #[.agg #[.int .i64 0, .slice none 0 0], .int .i64 2]) (by simp [results, Try.results19, go_sem, g2, g3]) rfl ?_
      exact autosTo_mk HF.out (tab_nil _ _ _) ((B5.out.setCell (by simp; try omega) _).setCell (by simp; try omega) _)
    · obtain ⟨N, rfl⟩ : ∃ N : Nat, x = (N : Int) := ⟨x.toNat, by simp only [belowB, decide_eq_true_eq] at hx; omega⟩
      have hN : N ≤ 1000000 := by simp only [belowB, decide_eq_true_eq] at hx; omega
      have HF := Lib.hid (colouringAt_0 (N := N) hok HL.out HMM.out (by rw [← HX.out, ← HCT.out]; exact hx))
      have hgx := HGX.out
      rw [← HX.out] at hgx
      have HGX := Lib.hid hgx
      clear hgx
      go_wp2_with fail
      refine (colouringAt_any G n m N X w5 HGX.out T4.out hN).mono ?_
      rintro e w6 ⟨v, rfl, t6, b6⟩
      obtain ⟨V6, c6, rfl⟩ := t6.form
      have xr := (b6.block _ (block_lt XR.out)).trans XR.out
      obtain ⟨e0, e1, e2, e3⟩ := box2_cellsR xr
      obtain ⟨g2, g3⟩ := box2_setR xr (.int .i64 (n : Int)) (.slice V6 (rowsF n (colX X n N) m).length c6)
      have T6 := Lib.hid t6
      have B6 := Lib.hid (below_then B5.out b6)
      have HLT := Lib.hid (block_lt XR.out)
      clear t6 b6 xr
      go_wp2_with fail
      refine bodyPost_ret (v := .tuple #[.agg #[.int .i64 (n : Int), .slice V6 (rowsF n (colX X n N) m).length c6], .int .i64 0]) (by simp [results, Try.results19, go_sem, g2, g3]) rfl ?_
      refine autosTo_mk (by rw [HF.out, ← HX.out]) ?_ ((B6.out.setCell (by simp; try omega) _).setCell (by simp; try omega) _)
      rw [set2_sizeR]
      exact (T6.out.only (set2_onlyR _ _ _ _) (.inr HLT.out)).wide B5.out.size (Nat.le_refl _)

end Go.Proofs.Ytkhhemlfahdbnab
