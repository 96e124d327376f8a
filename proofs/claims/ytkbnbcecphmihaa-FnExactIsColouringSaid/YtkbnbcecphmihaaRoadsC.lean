/-
  The roads of an automaton: what RoadsOf answers, and the contracts of both RoadsOf.
-/
import Derived.Test.YtkbnbcecphmihaaRoadS
namespace Go.Proofs.Ytkbnbcecphmihaa
open Go.RowKit Go.Deep Go.ChangeShapes Go.WideShapes

theorem roadL_sum (xss : List (List Int)) (m k : Nat) : sumLens (roadL xss m k) = k * m := by
  induction k with
  | zero => simp [roadL, sumLens]
  | succ k ih =>
    unfold sumLens at ih ⊢
    rw [roadL_succ, List.map_append, List.sum_append, ih, Nat.add_mul, Nat.one_mul]
    simp [sortF_len, leadF_len]
/-- What RoadsOf answers. -/
def roadsOf (s : Int) (xss : List (List Int)) : Int × List (List Int) × Int :=
  if okA s xss = true then (if 7 < s then (0, [], 3) else (s, roadL xss xss.length s.toNat, 0)) else (0, [], 1)
theorem roadsOf_1 {s : Int} {xss : List (List Int)} (h : okA s xss = false) : roadsOf s xss = (0, [], 1) := by unfold roadsOf; rw [if_neg (by simp [h])]
theorem roadsOf_3 {s : Int} {xss : List (List Int)} (h : okA s xss = true) (h' : 7 < s) : roadsOf s xss = (0, [], 3) := by unfold roadsOf; rw [if_pos h, if_pos h']
theorem roadsOf_0 {n m : Nat} {xss : List (List Int)} (h : okA (n : Int) xss = true) (hm : xss.length = m) (h' : ¬ 7 < (n : Int)) : roadsOf (n : Int) xss = ((n : Int), roadL xss m n, 0) := by
  unfold roadsOf; rw [if_pos h, if_neg h', hm, Int.toNat_natCast]
theorem roadsOf_len (s : Int) (xss : List (List Int)) : (roadsOf s xss).2.1.length ≤ 10 := by
  unfold roadsOf
  split
  · rename_i hok
    obtain ⟨n, rfl, hg⟩ := good_of hok rfl
    split
    · exact Nat.zero_le _
    · rw [roadL_len]; exact hg.n10
  · exact Nat.zero_le _
theorem roadsOf_sum (s : Int) (xss : List (List Int)) : sumLens (roadsOf s xss).2.1 ≤ 30 := by
  unfold roadsOf
  split
  · rename_i hok
    obtain ⟨n, rfl, hg⟩ := good_of hok rfl
    split
    · exact Nat.zero_le _
    · show sumLens (roadL xss xss.length ((n : Int)).toNat) ≤ 30
      rw [roadL_sum, Int.toNat_natCast]
      have h1 := hg.m3
      have h2 := hg.n10
      exact Nat.mul_le_mul h2 h1
  · exact Nat.zero_le _
theorem tab_only2 {lo hi : Nat} {w : World} {v : Value} {xss : List (List Int)} {B : Nat} {y0 y1 : Value} (h : TabIn lo hi w v xss) (hd : B < lo) : TabIn lo hi ((w.setCell ⟨B, 0, none⟩ y0).setCell ⟨B, 1, none⟩ y1) v xss := h.only (set2_onlyR _ _ _ _) (.inr hd)

set_option maxRecDepth 100000 in
set_option maxHeartbeats 2000000 in
theorem implRoadsOf_any (s : Int) (A : Option Addr) (m cap : Nat) (xss : List (List Int)) (w : World) (h : RowsAt w A m xss) (hm : m ≤ 4611686018427387904)
    (hrows : ∀ (r : Nat) (xs : List Int), xss[r]? = some xs → xs.length ≤ 4611686018427387904) :
    Calls Try.prog 25 #[.agg #[.int .i64 s, .slice A m cap]] w (AutosTo (roadsOf s xss) w) := by
  have HR := Lib.hid hrows
  have HM := Lib.hid h.1
  obtain ⟨W2, hW2⟩ : ∃ W2, W2 = (w.alloc (.cells #[.int .i64 s, .slice A m cap] 37)).alloc (.cells #[.int .i64 0, .slice none 0 0] 27) := ⟨_, rfl⟩
  have b2 : Below w.heap.size w W2 := by rw [hW2]; go_grown
  have x0 : W2.cell? ⟨w.heap.size, 0, none⟩ = some (.int .i64 s) := by rw [hW2]; go_cell
  have x1 : W2.cell? ⟨w.heap.size, 1, none⟩ = some (.slice A m cap) := by rw [hW2]; go_cell
  have xr : W2.heap[w.heap.size + 1]? = some (.cells #[.int .i64 0, .slice none 0 0] 27 (0, 0)) := by
    have := heap_alloc_new (w.alloc (.cells #[.int .i64 s, .slice A m cap] 37)) (.cells #[.int .i64 0, .slice none 0 0] 27)
    rw [World.size_alloc, ← hW2] at this
    exact this
  have B2 := Lib.hid b2
  have H2 := Lib.hid (h.below b2)
  have XR := Lib.hid xr
  have HW2 := Lib.hid hW2
  clear hrows b2 xr hW2
  go_enter Try.func25, Try.ntmps25
  go_wp2_with fail
  rw [← HW2.out]
  refine (implValid_any s A m cap xss _ H2.out hm HR.out).mono ?_
  rcases hok : okA s xss with _ | _
  · have HF := Lib.hid (roadsOf_1 hok)
    rintro e w1 ⟨rfl, b1⟩
    have xr := (b1.block _ (block_lt XR.out)).trans XR.out
    obtain ⟨e0, e1, e2, e3⟩ := box2_cellsR xr
    have B1 := Lib.hid (below_then B2.out b1)
    obtain ⟨g2, g3⟩ := box2_setR xr (.int .i64 0) (.slice none 0 0)
    clear b1 xr x0 x1
    go_wp2_with fail
    refine bodyPost_ret (v := .tuple #[.agg #[.int .i64 0, .slice none 0 0], .int .i64 1]) (by simp [results, Try.results25, go_sem, g2, g3]) rfl ?_
    exact autosTo_mk HF.out (tab_nil _ _ _) ((B1.out.setCell (by simp; try omega) _).setCell (by simp; try omega) _)
  · obtain ⟨n, hsn, hg⟩ := good_of hok HM.out
    subst hsn
    have HG := Lib.hid hg
    have hn10 : n ≤ 10 := hg.n10
    clear hg
    rintro e w1 ⟨rfl, b1⟩
    have x0' : w1.cell? ⟨w.heap.size, 0, none⟩ = some (.int .i64 (n : Int)) := (b1.cell (cell_lt x0)).trans x0
    have x1' : w1.cell? ⟨w.heap.size, 1, none⟩ = some (.slice A m cap) := (b1.cell (cell_lt x1)).trans x1
    have xr := (b1.block _ (block_lt XR.out)).trans XR.out
    have H1 := Lib.hid (H2.out.below b1)
    have B1 := Lib.hid (below_then B2.out b1)
    have XR1 := Lib.hid xr
    obtain ⟨e0, e1, e2, e3⟩ := box2_cellsR xr
    obtain ⟨g2, g3⟩ := box2_setR xr (.int .i64 0) (.slice none 0 0)
    clear b1 xr x0 x1
    by_cases h10 : 7 < (n : Int)
    · have HF := Lib.hid (roadsOf_3 hok h10)
      clear hok
      go_wp2_with fail
      refine bodyPost_ret (v := .tuple #[.agg #[.int .i64 0, .slice none 0 0], .int .i64 3]) (by simp [results, Try.results25, go_sem, g2, g3]) rfl ?_
      exact autosTo_mk HF.out (tab_nil _ _ _) ((B1.out.setCell (by simp; try omega) _).setCell (by simp; try omega) _)
    · have HF := Lib.hid (roadsOf_0 hok HM.out h10)
      clear hok g2 g3 e0 e1 e2 e3
      go_wp2_with fail
      refine (roadsOf_any n m cap A xss _ HG.out H1.out).mono ?_
      rintro e w2 ⟨v, rfl, t2, b2⟩
      have xr := (b2.block _ (block_lt XR1.out)).trans XR1.out
      obtain ⟨e0, e1, e2, e3⟩ := box2_cellsR xr
      have HT := Lib.hid t2
      have HB := Lib.hid (below_then B1.out b2)
      have HLT := Lib.hid (show w.heap.size + 1 < w1.heap.size from block_lt XR1.out)
      obtain ⟨A3, c3, rfl⟩ := t2.form
      obtain ⟨g2, g3⟩ := box2_setR xr (.int .i64 (n : Int)) (.slice A3 (roadL xss m n).length c3)
      clear t2 b2 xr x0' x1'
      go_wp2_with fail
      refine bodyPost_ret (v := .tuple #[.agg #[.int .i64 (n : Int), .slice A3 (roadL xss m n).length c3], .int .i64 0]) (by simp [results, Try.results25, go_sem, g2, g3]) rfl ?_
      have hlt := HLT.out
      refine autosTo_mk HF.out ?_ ((HB.out.setCell (by simp; try omega) _).setCell (by simp; try omega) _)
      rw [set2_sizeR]
      exact (tab_only2 HT.out HLT.out).wide (by omega) (Nat.le_refl _)

set_option maxRecDepth 100000 in
set_option maxHeartbeats 2000000 in
theorem specRoadsOf_any (s : Int) (A : Option Addr) (m cap : Nat) (xss : List (List Int)) (w : World) (h : RowsAt w A m xss) (hm : m ≤ 4611686018427387904)
    (hrows : ∀ (r : Nat) (xs : List Int), xss[r]? = some xs → xs.length ≤ 4611686018427387904) :
    Calls Try.prog 23 #[.agg #[.int .i64 s, .slice A m cap]] w (AutosTo (roadsOf s xss) w) := by
  have HR := Lib.hid hrows
  have HM := Lib.hid h.1
  obtain ⟨W2, hW2⟩ : ∃ W2, W2 = (w.alloc (.cells #[.int .i64 s, .slice A m cap] 37)).alloc (.cells #[.int .i64 0, .slice none 0 0] 27) := ⟨_, rfl⟩
  have b2 : Below w.heap.size w W2 := by rw [hW2]; go_grown
  have x0 : W2.cell? ⟨w.heap.size, 0, none⟩ = some (.int .i64 s) := by rw [hW2]; go_cell
  have x1 : W2.cell? ⟨w.heap.size, 1, none⟩ = some (.slice A m cap) := by rw [hW2]; go_cell
  have xr : W2.heap[w.heap.size + 1]? = some (.cells #[.int .i64 0, .slice none 0 0] 27 (0, 0)) := by
    have := heap_alloc_new (w.alloc (.cells #[.int .i64 s, .slice A m cap] 37)) (.cells #[.int .i64 0, .slice none 0 0] 27)
    rw [World.size_alloc, ← hW2] at this
    exact this
  have B2 := Lib.hid b2
  have H2 := Lib.hid (h.below b2)
  have XR := Lib.hid xr
  have HW2 := Lib.hid hW2
  clear hrows b2 xr hW2
  go_enter Try.func23, Try.ntmps23
  go_wp2_with fail
  rw [← HW2.out]
  refine (l01Ok_any w.heap.size s A m cap xss _ x0 x1 H2.out hm HR.out).mono ?_
  rcases hok : okA s xss with _ | _
  · have HF := Lib.hid (roadsOf_1 hok)
    rintro e w1 ⟨rfl, d, hw1⟩
    have b1 : Below W2.heap.size W2 w1 := by rw [hw1]; exact below_drewN' (Below.refl _ _) d
    clear hw1
    have xr := (b1.block _ (block_lt XR.out)).trans XR.out
    obtain ⟨e0, e1, e2, e3⟩ := box2_cellsR xr
    have B1 := Lib.hid (below_then B2.out b1)
    obtain ⟨g2, g3⟩ := box2_setR xr (.int .i64 0) (.slice none 0 0)
    clear b1 xr x0 x1
    go_wp2_with fail
    refine bodyPost_ret (v := .tuple #[.agg #[.int .i64 0, .slice none 0 0], .int .i64 1]) (by simp [results, Try.results23, go_sem, g2, g3]) rfl ?_
    exact autosTo_mk HF.out (tab_nil _ _ _) ((B1.out.setCell (by simp; try omega) _).setCell (by simp; try omega) _)
  · obtain ⟨n, hsn, hg⟩ := good_of hok HM.out
    subst hsn
    have HG := Lib.hid hg
    have hn10 : n ≤ 10 := hg.n10
    clear hg
    rintro e w1 ⟨rfl, d, hw1⟩
    have b1 : Below W2.heap.size W2 w1 := by rw [hw1]; exact below_drewN' (Below.refl _ _) d
    clear hw1
    have x0' : w1.cell? ⟨w.heap.size, 0, none⟩ = some (.int .i64 (n : Int)) := (b1.cell (cell_lt x0)).trans x0
    have x1' : w1.cell? ⟨w.heap.size, 1, none⟩ = some (.slice A m cap) := (b1.cell (cell_lt x1)).trans x1
    have xr := (b1.block _ (block_lt XR.out)).trans XR.out
    have H1 := Lib.hid (H2.out.below b1)
    have B1 := Lib.hid (below_then B2.out b1)
    have XR1 := Lib.hid xr
    obtain ⟨e0, e1, e2, e3⟩ := box2_cellsR xr
    obtain ⟨g2, g3⟩ := box2_setR xr (.int .i64 0) (.slice none 0 0)
    clear b1 xr x0 x1
    by_cases h10 : 7 < (n : Int)
    · have HF := Lib.hid (roadsOf_3 hok h10)
      clear hok
      go_wp2_with fail
      refine bodyPost_ret (v := .tuple #[.agg #[.int .i64 0, .slice none 0 0], .int .i64 3]) (by simp [results, Try.results23, go_sem, g2, g3]) rfl ?_
      exact autosTo_mk HF.out (tab_nil _ _ _) ((B1.out.setCell (by simp; try omega) _).setCell (by simp; try omega) _)
    · have HF := Lib.hid (roadsOf_0 hok HM.out h10)
      clear hok g2 g3 e0 e1 e2 e3
      go_wp2_with fail
      refine (l05Of_any w.heap.size n m cap A xss _ HG.out x0' x1' H1.out).mono ?_
      rintro e w2 ⟨v, rfl, t2, b2⟩
      have xr := (b2.block _ (block_lt XR1.out)).trans XR1.out
      obtain ⟨e0, e1, e2, e3⟩ := box2_cellsR xr
      have HT := Lib.hid t2
      have HB := Lib.hid (below_then B1.out b2)
      have HLT := Lib.hid (show w.heap.size + 1 < w1.heap.size from block_lt XR1.out)
      obtain ⟨A3, c3, rfl⟩ := t2.form
      obtain ⟨g2, g3⟩ := box2_setR xr (.int .i64 (n : Int)) (.slice A3 (roadL xss m n).length c3)
      clear t2 b2 xr x0' x1'
      go_wp2_with fail
      refine bodyPost_ret (v := .tuple #[.agg #[.int .i64 (n : Int), .slice A3 (roadL xss m n).length c3], .int .i64 0]) (by simp [results, Try.results23, go_sem, g2, g3]) rfl ?_
      have hlt := HLT.out
      refine autosTo_mk HF.out ?_ ((HB.out.setCell (by simp; try omega) _).setCell (by simp; try omega) _)
      rw [set2_sizeR]
      exact (tab_only2 HT.out HLT.out).wide (by omega) (Nat.le_refl _)

end Go.Proofs.Ytkbnbcecphmihaa
