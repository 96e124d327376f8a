/-
  Letters exchanged at a state: what SwapColours answers, and the contracts of both SwapColours.
-/
import Derived.Test.YtkhhemlfahdbnabRoadO
import Derived.Test.YtkhhemlfahdbnabClone
import Derived.Deep.DeepCutAuto
import Derived.Deep.RegionLaw
import Derived.BigRegion
namespace Go.Proofs.Ytkhhemlfahdbnab
open Go.RowKit Go.Deep Go.ChangeShapes Go.WideShapes

theorem only_of_belowW {B : Nat} {w w' : World} (h : Below B w w') : Only B w.heap.size w w' := ⟨h.os, h.tape, h.output, h.size, fun k hk hb => h.block k (by omega)⟩
/-- One place of a table put anew. -/
def put2 (xss : List (List Int)) (x q : Nat) (v : Int) : List (List Int) := xss.set x ((xss.getD x []).set q v)
theorem put2_len (xss : List (List Int)) (x q : Nat) (v : Int) : (put2 xss x q v).length = xss.length := by simp [put2]
theorem put2_at {xss : List (List Int)} {x q : Nat} {v : Int} {xs : List Int} (h : xss[x]? = some xs) : put2 xss x q v = xss.set x (xs.set q v) := by
  unfold put2; rw [List.getD_eq_getElem?_getD, h]; rfl
theorem sumLens_set {xss : List (List Int)} {x : Nat} {xs ys : List Int} (h : xss[x]? = some xs) (hl : ys.length = xs.length) : sumLens (xss.set x ys) = sumLens xss := by
  have e : (xss.set x ys).map List.length = xss.map List.length := by
    rw [List.map_set, hl]
    apply List.ext_getElem?
    intro r
    rw [List.getElem?_set]
    split
    · rename_i e; subst e
      rw [List.getElem?_map, h]
      have : x < xss.length := by
        rcases Nat.lt_or_ge x xss.length with a | a
        · exact a
        · rw [List.getElem?_eq_none a] at h; cases h
      simp [this]
    · rfl
  unfold sumLens
  rw [e]
theorem put2_sum (xss : List (List Int)) (x q : Nat) (v : Int) : sumLens (put2 xss x q v) = sumLens xss := by
  rcases hx : xss[x]? with _ | xs
  · unfold put2
    rw [List.set_eq_of_length_le]
    rcases Nat.lt_or_ge x xss.length with a | a
    · rw [List.getElem?_eq_getElem a] at hx; cases hx
    · exact a
  · rw [put2_at hx]
    exact sumLens_set hx (by simp)
def swapF (xss : List (List Int)) (q x y : Nat) : List (List Int) := put2 (put2 xss x q ((nx xss y q : Nat) : Int)) y q ((nx xss x q : Nat) : Int)
def swB (s : Int) (m : Nat) (q x y : Int) : Bool := belowB s q && (belowB (m : Int) x && belowB (m : Int) y)
/-- What SwapColours answers. -/
def swapColours (s : Int) (xss : List (List Int)) (q x y : Int) : Int × List (List Int) × Int :=
  if okA s xss = true then (if swB s xss.length q x y = true then (s, swapF xss q.toNat x.toNat y.toNat, 0) else (0, [], 2)) else (0, [], 1)
theorem swapColours_1 {s q x y : Int} {xss : List (List Int)} (h : okA s xss = false) : swapColours s xss q x y = (0, [], 1) := by unfold swapColours; rw [if_neg (by simp [h])]
theorem swapColours_2 {s q x y : Int} {m : Nat} {xss : List (List Int)} (h : okA s xss = true) (hm : xss.length = m) (h' : swB s m q x y = false) : swapColours s xss q x y = (0, [], 2) := by unfold swapColours; rw [if_pos h, if_neg (by rw [hm, h']; simp)]
theorem swapColours_0 {s : Int} {q x y m : Nat} {xss : List (List Int)} (h : okA s xss = true) (hm : xss.length = m) (h' : swB s m q x y = true) : swapColours s xss q x y = (s, swapF xss q x y, 0) := by
  unfold swapColours; rw [if_pos h, if_pos (by rw [hm]; exact h')]; simp
theorem sum_good {n m : Nat} {xss : List (List Int)} (hg : Good n m xss) : sumLens xss ≤ 30 := by
  have h : ∀ (l : List (List Int)), (∀ xs ∈ l, xs.length = n) → sumLens l = l.length * n := by
    intro l
    induction l with
    | nil => intro _; simp [sumLens]
    | cons a l ih =>
      intro hl
      have h1 := hl a (List.mem_cons_self ..)
      have h2 := ih (fun xs hx => hl xs (List.mem_cons_of_mem _ hx))
      unfold sumLens at h2 ⊢
      rw [List.map_cons, List.sum_cons, h2, h1, List.length_cons, Nat.add_mul, Nat.one_mul]; omega
  rw [h xss (fun xs hx => by obtain ⟨r, hr⟩ := List.getElem?_of_mem hx; exact (hg.rows r xs hr).1), hg.letters]
  have h1 := hg.m3
  have h2 := hg.n10
  exact Nat.mul_le_mul h1 h2
theorem swapColours_len (s : Int) (xss : List (List Int)) (q x y : Int) : (swapColours s xss q x y).2.1.length ≤ 3 := by
  unfold swapColours
  split
  · rename_i hok
    obtain ⟨n, rfl, hg⟩ := good_of hok rfl
    split
    · show (swapF xss q.toNat x.toNat y.toNat).length ≤ 3
      unfold swapF
      rw [put2_len, put2_len]; exact hg.m3
    · exact Nat.zero_le _
  · exact Nat.zero_le _
theorem swapColours_sum (s : Int) (xss : List (List Int)) (q x y : Int) : sumLens (swapColours s xss q x y).2.1 ≤ 30 := by
  unfold swapColours
  split
  · rename_i hok
    obtain ⟨n, rfl, hg⟩ := good_of hok rfl
    split
    · show sumLens (swapF xss q.toNat x.toNat y.toNat) ≤ 30
      unfold swapF
      rw [put2_sum, put2_sum]; exact sum_good hg
    · exact Nat.zero_le _
  · exact Nat.zero_le _

/-- A cell of a row of an own table, and what storing it does. -/
theorem TabV.rowCell {lo hi : Nat} {w : World} {v : Value} {vs : List Value} {xss : List (List Int)} {x n : Nat} {xs : List Int} (h : TabV lo hi w v vs xss) (hx : xss[x]? = some xs) (hn : xs.length = n) (h0 : 0 < n) :
    ∃ g c, vs[x]? = some (.slice (some ⟨g, 0, none⟩) n c) ∧ lo ≤ g ∧ g < hi ∧ (∀ q, w.frozen? ⟨g, q, none⟩ = false) ∧ (∀ q, q < n → w.cell? ⟨g, q, none⟩ = some (.int .i64 (xs.getD q 0))) := by
  have hlx : x < xss.length := by
    rcases Nat.lt_or_ge x xss.length with a | a
    · exact a
    · rw [List.getElem?_eq_none a] at hx; cases hx
  obtain ⟨u, hu⟩ : ∃ u, vs[x]? = some u := ⟨vs[x]'(by rw [h.len]; exact hlx), List.getElem?_eq_getElem _⟩
  have hr := h.row x u xs hu hx
  obtain ⟨A, c, rfl⟩ := hr.form
  rw [hn] at hr hu
  have ho : w.ownsRow lo 2 1 (.slice A n c) n (xs.map (Value.int .i64)) := by have := hr.1; rw [hn] at this; exact this
  obtain ⟨g, rfl, hg1, _⟩ := own_blockN ho h0
  exact ⟨g, c, hu, hg1, hr.2 g rfl, fun q => ho.frozenAt q, fun q hq => own_num ho hn hq⟩
theorem TabV.put {lo hi : Nat} {w : World} {v : Value} {vs : List Value} {xss : List (List Int)} {x n g c q : Nat} {xs : List Int} {z : Int} (h : TabV lo hi w v vs xss) (hu : vs[x]? = some (.slice (some ⟨g, 0, none⟩) n c)) (hx : xss[x]? = some xs) (hn : xs.length = n) :
    TabV lo hi (w.setCell ⟨g, q, none⟩ (.int .i64 z)) v vs (put2 xss x q z) := by
  have hr := h.row x _ xs hu hx
  have ho : w.ownsRow lo 2 1 (.slice (some ⟨g, 0, none⟩) n c) n (xs.map (Value.int .i64)) := by have := hr.1; rw [hn] at this; exact this
  have hst := ho.stored q (.int .i64 z)
  rw [put2_at hx]
  refine TabV.set h hu hx hst.2 ⟨?_, hr.2⟩
  have := hst.1
  rw [← List.map_set] at this
  rw [List.length_set, hn]
  exact this

set_option maxRecDepth 100000 in
set_option maxHeartbeats 8000000 in
theorem specSwapColours_any (s : Int) (A : Option Addr) (m cap : Nat) (xss : List (List Int)) (q x y : Int) (w : World) (h : RowsAt w A m xss) (hm : m ≤ 4611686018427387904)
    (hrows : ∀ (r : Nat) (xs : List Int), xss[r]? = some xs → xs.length ≤ 4611686018427387904) :
    Calls Try.prog 32 #[.agg #[.int .i64 s, .slice A m cap], .int .i64 q, .int .i64 x, .int .i64 y] w (AutosTo (swapColours s xss q x y) w) := by
  have HR := Lib.hid hrows
  have HM := Lib.hid h.1
  obtain ⟨i1, hi1, hy0, hy1, hy2⟩ := info_parts info_ints
  obtain ⟨W2, hW2⟩ : ∃ W2, W2 = (w.alloc (.cells #[.int .i64 s, .slice A m cap] 33)).alloc (.cells #[.int .i64 0, .slice none 0 0] 33) := ⟨_, rfl⟩
  have b2 : Below w.heap.size w W2 := by rw [hW2]; go_grown
  have x0 : W2.cell? ⟨w.heap.size, 0, none⟩ = some (.int .i64 s) := by rw [hW2]; go_cell
  have x1 : W2.cell? ⟨w.heap.size, 1, none⟩ = some (.slice A m cap) := by rw [hW2]; go_cell
  have xr : W2.heap[w.heap.size + 1]? = some (.cells #[.int .i64 0, .slice none 0 0] 33 (0, 0)) := by
    have := heap_alloc_new (w.alloc (.cells #[.int .i64 s, .slice A m cap] 33)) (.cells #[.int .i64 0, .slice none 0 0] 33)
    rw [World.size_alloc, ← hW2] at this
    exact this
  have B2 := Lib.hid b2
  have H2 := Lib.hid (h.below b2)
  have XR := Lib.hid xr
  have HW2 := Lib.hid hW2
  clear hrows b2 xr hW2
  go_enter Try.func32, Try.ntmps32
  go_wp2_with fail
  rw [← HW2.out]
  refine (l01Ok_any w.heap.size s A m cap xss _ x0 x1 H2.out hm HR.out).mono ?_
  rcases hok : okA s xss with _ | _
  · have HF := Lib.hid (swapColours_1 (q := q) (x := x) (y := y) hok)
    rintro e w1 ⟨rfl, d, hw1⟩
    have b1 : Below W2.heap.size W2 w1 := by rw [hw1]; exact below_drewN' (Below.refl _ _) d
    clear hw1
    have xr := (b1.block _ (block_lt XR.out)).trans XR.out
    obtain ⟨e0, e1, e2, e3⟩ := box2_cellsR xr
    have B1 := Lib.hid (below_then B2.out b1)
    obtain ⟨g2, g3⟩ := box2_setR xr (.int .i64 0) (.slice none 0 0)
    clear b1 xr x0 x1
    go_wp2_with fail
    refine bodyPost_ret (v := .tuple #[.agg #[.int .i64 0, .slice none 0 0], .int .i64 1]) (by simp [results, Try.results32, go_sem, g2, g3]) rfl ?_
    exact autosTo_mk HF.out (tab_nil _ _ _) ((B1.out.setCell (by simp; try omega) _).setCell (by simp; try omega) _)
  · obtain ⟨n, hsn, hg⟩ := good_of hok HM.out
    subst hsn
    have HG := Lib.hid hg
    have hn1 : 1 ≤ n := hg.n1
    have hn10 : n ≤ 10 := hg.n10
    have hm1 : 1 ≤ m := hg.m1
    have hm3 : m ≤ 3 := hg.m3
    clear hg
    rintro e w1 ⟨rfl, d, hw1⟩
    have b1 : Below W2.heap.size W2 w1 := by rw [hw1]; exact below_drewN' (Below.refl _ _) d
    clear hw1
    have x0' : w1.cell? ⟨w.heap.size, 0, none⟩ = some (.int .i64 (n : Int)) := (b1.cell (cell_lt x0)).trans x0
    have x1' : w1.cell? ⟨w.heap.size, 1, none⟩ = some (.slice A m cap) := (b1.cell (cell_lt x1)).trans x1
    have xr := (b1.block _ (block_lt XR.out)).trans XR.out
    have H1 := Lib.hid (H2.out.below b1)
    have B1 := Lib.hid (below_then B2.out b1)
    have XR1 := Lib.hid xr
    obtain ⟨e0, e1, e2, e3⟩ := box2_cellsR xr
    obtain ⟨g2, g3⟩ := box2_setR xr (.int .i64 0) (.slice none 0 0)
    have HOK := Lib.hid hok
    clear b1 xr x0 x1 hok
    have hsub : IntKind.i64.wrap ((n : Int) - 1) = (n : Int) - 1 := IntWalk.i64_in _ (by omega)
    have hsub2 : IntKind.i64.wrap ((m : Int) - 1) = (m : Int) - 1 := IntWalk.i64_in _ (by omega)
    rcases htq : belowB (n : Int) q with _ | _
    · have HF := Lib.hid (swapColours_2 (q := q) (x := x) (y := y) HOK.out HM.out (by unfold swB; simp [htq]))
      rw [belowB_inB] at htq
      go_wp2_with (go_at_call 75; refine (l00In_any _ _ _ _).mono ?_; rintro e w' ⟨rfl, rfl⟩)
      refine bodyPost_ret (v := .tuple #[.agg #[.int .i64 0, .slice none 0 0], .int .i64 2]) (by simp [results, Try.results32, go_sem, g2, g3]) rfl ?_
      exact autosTo_mk HF.out (tab_nil _ _ _) ((B1.out.setCell (by simp; try omega) _).setCell (by simp; try omega) _)
    · skip
      rcases htx : belowB (m : Int) x with _ | _
      · have HF := Lib.hid (swapColours_2 (q := q) (x := x) (y := y) HOK.out HM.out (by unfold swB; simp [htq, htx]))
        rw [belowB_inB] at htq
        rw [belowB_inB] at htx
        go_wp2_with (go_at_call 75; refine (l00In_any _ _ _ _).mono ?_; rintro e w' ⟨rfl, rfl⟩)
        refine bodyPost_ret (v := .tuple #[.agg #[.int .i64 0, .slice none 0 0], .int .i64 2]) (by simp [results, Try.results32, go_sem, g2, g3]) rfl ?_
        exact autosTo_mk HF.out (tab_nil _ _ _) ((B1.out.setCell (by simp; try omega) _).setCell (by simp; try omega) _)
      · skip
        rcases hty : belowB (m : Int) y with _ | _
        · have HF := Lib.hid (swapColours_2 (q := q) (x := x) (y := y) HOK.out HM.out (by unfold swB; simp [htq, htx, hty]))
          rw [belowB_inB] at htq
          rw [belowB_inB] at htx
          rw [belowB_inB] at hty
          go_wp2_with (go_at_call 75; refine (l00In_any _ _ _ _).mono ?_; rintro e w' ⟨rfl, rfl⟩)
          refine bodyPost_ret (v := .tuple #[.agg #[.int .i64 0, .slice none 0 0], .int .i64 2]) (by simp [results, Try.results32, go_sem, g2, g3]) rfl ?_
          exact autosTo_mk HF.out (tab_nil _ _ _) ((B1.out.setCell (by simp; try omega) _).setCell (by simp; try omega) _)
        · skip
          have HSW := Lib.hid (show swB (n : Int) m q x y = true by unfold swB; simp [htq, htx, hty])
          obtain ⟨hq0, hqn⟩ : 0 ≤ q ∧ q < (n : Int) := by simpa [belowB] using htq
          obtain ⟨hx0, hxm⟩ : 0 ≤ x ∧ x < (m : Int) := by simpa [belowB] using htx
          obtain ⟨hy0', hym⟩ : 0 ≤ y ∧ y < (m : Int) := by simpa [belowB] using hty
          obtain ⟨q, rfl⟩ : ∃ k : Nat, q = (k : Int) := ⟨q.toNat, by omega⟩
          obtain ⟨x, rfl⟩ : ∃ k : Nat, x = (k : Int) := ⟨x.toNat, by omega⟩
          obtain ⟨y, rfl⟩ : ∃ k : Nat, y = (k : Int) := ⟨y.toNat, by omega⟩
          have HF := Lib.hid (swapColours_0 HOK.out HM.out HSW.out)
          rw [belowB_inB] at htq
          rw [belowB_inB] at htx
          rw [belowB_inB] at hty
          obtain ⟨OB, hOB⟩ : ∃ OB, OB = w1.heap.size := ⟨_, rfl⟩
          have hRB : w.heap.size + 1 < OB := by rw [hOB]; exact block_lt XR1.out
          obtain ⟨w3, hw3⟩ : ∃ w3, w3 = w1.alloc (.cells #[.int .i64 (n : Int), .slice none 0 0] 33) := ⟨_, rfl⟩
          have b3 : Below w1.heap.size w1 w3 := by rw [hw3]; exact (Below.refl _ _).alloc (Nat.le_refl _) _
          have xo : w3.heap[OB]? = some (.cells #[.int .i64 (n : Int), .slice none 0 0] 33 (0, 0)) := by rw [hw3, hOB]; exact heap_alloc_new _ _
          have HXO := Lib.hid xo
          have HXR := Lib.hid ((b3.block _ (block_lt XR1.out)).trans XR1.out)
          have HRB := Lib.hid hRB
          have C1 := Lib.hid x1'
          have HBW1 := Lib.hid b3
          have HOB1 := Lib.hid hOB
          clear g2 g3 e0 e1 e2 e3 xo hRB b3
          have hcA : ∀ o, (w1.alloc o).cell? ⟨w.heap.size, 1, none⟩ = some (.slice A m cap) := fun o => (((Below.refl _ _).alloc (Nat.le_refl _) o).cell (cell_lt x1')).trans x1'
          go_wp2_with (go_at_call 75; refine (l00In_any _ _ _ _).mono ?_; rintro e w' ⟨rfl, rfl⟩)
          rw [← hw3, ← hOB]
          clear hw3 hOB x0' x1' htq htx hty hcA
          go_loopw [12] (fun i wr => ∃ (k : Nat) (v : Value) (vs : List Value), k ≤ m ∧ i = .int .i64 k ∧ wr.heap[w.heap.size + 1]? = some (.cells #[.int .i64 0, .slice none 0 0] 33 (0, 0)) ∧ wr.heap[OB]? = some (.cells #[.int .i64 (n : Int), v] 33 (0, 0)) ∧
              TabV (OB + 1) wr.heap.size wr v vs (xss.take k) ∧ Below w1.heap.size w1 wr) (fun i _ => m - (intOf i).toNat)
          case atStart => exact ⟨0, .slice none 0 0, [], Nat.zero_le _, rfl, HXR.out, HXO.out, by rw [List.take_zero]; exact tabV_nil _ _ _, HBW1.out⟩
          case round =>
            obtain ⟨k, v, vs, hk, rfl, hxr, hxo, htab, hbel⟩ := hrel
            obtain ⟨Y, hY⟩ : ∃ Y, Y = xss.take k := ⟨_, rfl⟩
            rw [← hY] at htab
            obtain ⟨A3, c3, rfl⟩ := own_form htab.out
            have HY := Lib.hid hY
            have HYL := Lib.hid (show Y.length = k by rw [hY, List.length_take, HM.out]; omega)
            have X1 := Lib.hid hxr
            have X2 := Lib.hid hxo
            have HT := Lib.hid htab
            have HB := Lib.hid hbel
            have y1 : wr.cell? ⟨w.heap.size, 1, none⟩ = some (.slice A m cap) := (hbel.cell (cell_lt C1.out)).trans C1.out
            have HY1 := Lib.hid y1
            clear hxr hxo htab hY
            by_cases hlt : k < m
            · have ik1 : (k : Int) < (m : Int) := by omega
              obtain ⟨xs, b4, off4, A7, c7, hr, hA, hcr, hnum⟩ := (H1.out.below hbel).at_ hlt
              subst hA
              have hxl : xs.length = n := (HG.out.rows k xs hr).1
              have HXS := Lib.hid hr
              have HXL := Lib.hid hxl
              have HNUM := Lib.hid hnum
              rw [hxl] at hcr
              obtain ⟨b5, off5, hA7, _⟩ := nums_base hnum (by omega)
              subst hA7
              obtain ⟨_, b1, _, f1⟩ := box2_cellsR X2.out
              have KO := Lib.hid (show ∀ W', Below wr.heap.size wr W' → W'.cell? ⟨OB, 1, none⟩ = some (.slice A3 Y.length c3) from fun W' hb => (hb.cell (cell_lt b1)).trans b1)
              have KF := Lib.hid (show ∀ W', Below wr.heap.size wr W' → W'.frozen? ⟨OB, 1, none⟩ = false from fun W' hb => (hb.frozen (cell_lt b1)).trans f1)
              have KP := Lib.hid (show ∀ W', Below wr.heap.size wr W' → W'.cell? ⟨w.heap.size, 1, none⟩ = some (.slice (some ⟨b4, off4, none⟩) m cap) from fun W' hb => (hb.cell (cell_lt y1)).trans y1)
              have KR := Lib.hid (show ∀ W', Below wr.heap.size wr W' → W'.cell? ⟨b4, off4 + k, none⟩ = some (.slice (some ⟨b5, off5, none⟩) n c7) from fun W' hb => (hb.cell (cell_lt hcr)).trans hcr)
              have HON := Lib.hid (fun q' (hq' : (Value.slice A3 Y.length c3).ownBlock = some q') => (HT.out.out.lt q' hq').1)
              have HRW := Lib.hid (block_lt X2.out)
              have hrl : Y.length ≤ 10 := by rw [HYL.out]; omega
              have h9 : Below wr.heap.size wr wr := Below.refl _ _
              clear hr hxl hnum hbel f1
              go_wp2_with fail
              go_region_law
                (first
                  | (refine step_append_lies _ rfl _ _ 22 rfl (OB + 1) 64 i1 (.slice none 0 0) 1 24 Try.underlying22 hi1 hy0 hy1 hy2 rfl (by decide) _ _ _ rfl (own_below HTB.out.out (by first | exact (Below.refl _ _).alloc (Nat.le_refl _) _ | exact ((Below.refl _ _).alloc (Nat.le_refl _) _).drew | exact (Below.refl _ _).drew.alloc (Nat.le_refl _) _)) ⟨_, 0, none⟩ 1 1 [.slice AB n cB] rfl rfl (cell_one_new _ _ _) (by simp [Value.oneCell']) (by decide) (by unfold maxLen; omega) (by omega) (by have := HLB.out; simp; omega) _ rfl ?_; intro g6 cap6 w6 hown6 hgrow6 hat6 hlt6; have hgr6 : (wB.alloc (.cells #[.slice AB n cB] 64)).grownBy w6 (Value.slice A3 Y.length c3).ownBlock := ⟨hgrow6.os, hgrow6.tape, hgrow6.output, hgrow6.size, hgrow6.block⟩; have c6 : w6.cell? ⟨OB, 1, none⟩ = some (.slice A3 Y.length c3) := (hgr6.cell_far ⟨OB, 1, none⟩ (by have := HLB.out; simp; omega) (fun e => by have := HON.out _ e.symm; simp at this; omega)).trans (qB _); have f6 : w6.frozen? ⟨OB, 1, none⟩ = false := (hgr6.frozen_far ⟨OB, 1, none⟩ (by have := HLB.out; simp; omega) (fun e => by have := HON.out _ e.symm; simp at this; omega)).trans (fB _); have HG6 := Lib.hid hgr6; have HO6 := Lib.hid hown6; have HAT6 := Lib.hid hat6; clear hown6 hgrow6 hat6 hlt6 hgr6)
                  | (go_simp; go_at_call 90; refine (l00Own_any (some ⟨b5, off5, none⟩) n c7 xs _ (by have e := HXL.out; first | exact e ▸ (HNUM.out) | exact e ▸ (HNUM.out.below (by first | exact h9.drew | exact below_drewN' h9 _))) (by omega) (by omega)).mono ?_; rintro e' wB ⟨uB, rfl, oB, bB⟩; rw [HXL.out] at oB; obtain ⟨AB, cB, rfl⟩ := own_form oB; have hB : Below wr.heap.size wr wB := below_then (by first | exact h9 | exact h9.drew | exact below_drewN' h9 _) bB; have OW := Lib.hid (own_base oB (show wr.heap.size ≤ _ from by first | exact Nat.le_refl _ | (simp; done))); have qcB := KO.out _ hB; have qB : ∀ o, (wB.alloc o).cell? ⟨OB, 1, none⟩ = some (.slice A3 Y.length c3) := fun o => KO.out _ (hB.alloc hB.size o); have fB : ∀ o, (wB.alloc o).frozen? ⟨OB, 1, none⟩ = false := fun o => KF.out _ (hB.alloc hB.size o); have HTB := Lib.hid (HT.out.below hB); have HLB := Lib.hid (show OB + 1 ≤ wB.heap.size from Nat.le_trans HRW.out hB.size); clear oB bB)
                  | fail)
              all_goals
                have hrow : IntsIn wr.heap.size wB.heap.size wB (.slice AB n cB) xs := ⟨by rw [HXL.out]; exact OW.out, fun q hq => (OW.out.lt q hq).2⟩
                have ba5 : Below wB.heap.size wB (wB.alloc (.cells #[.slice AB n cB] 64)) := (Below.refl _ _).alloc (Nat.le_refl _) _
                have hat := HAT6.out
                have htab2 := TabV.snoc (HTB.out.below ba5) (hrow.below ba5) HO6.out HG6.out (hat.elim (fun e => .inl e.symm) (fun e => .inr (by rw [e]; rfl))) HRW.out (Nat.le_refl _) ba5.size
                rw [HY.out, ← take_snoc HXS.out] at htab2
                have hs6 := only_setCell w6 OB 1 (.slice (some ⟨g6, 0, none⟩) (Y.length + 1) cap6)
                have HS1 := Lib.hid (show TabV (OB + 1) (w6.setCell ⟨OB, 1, none⟩ (.slice (some ⟨g6, 0, none⟩) (Y.length + 1) cap6)).heap.size (w6.setCell ⟨OB, 1, none⟩ (.slice (some ⟨g6, 0, none⟩) (Y.length + 1) cap6)) (.slice (some ⟨g6, 0, none⟩) (Y.length + 1) cap6) (vs ++ [.slice AB n cB]) (xss.take (k + 1)) by rw [World.size_setCell]; exact (HY.out ▸ htab2).only hs6 (.inr (Nat.le_refl _)))
                have hrb := HRB.out
                have hp6 : ∀ z (c : Obj), wr.heap[z]? = some c → z < OB + 1 → w6.heap[z]? = some c := fun z c hc hz => by
                  have h1 := block_lt hc
                  have h5s := hB.size
                  exact (HG6.out.block z (Nat.lt_of_lt_of_le (Nat.lt_of_lt_of_le h1 h5s) ba5.size) (fun e => by have := HON.out z e.symm; omega)).trans ((ba5.block z (Nat.lt_of_lt_of_le h1 h5s)).trans ((hB.block z h1).trans hc))
                have HS2 := Lib.hid (show (w6.setCell ⟨OB, 1, none⟩ (.slice (some ⟨g6, 0, none⟩) (Y.length + 1) cap6)).heap[w.heap.size + 1]? = some (.cells #[.int .i64 0, .slice none 0 0] 33 (0, 0)) by
                  rw [heap_setCell_other w6 ⟨OB, 1, none⟩ _ _ (by simp; omega)]
                  exact hp6 _ _ X1.out (by omega))
                have HS3 := Lib.hid (show (w6.setCell ⟨OB, 1, none⟩ (.slice (some ⟨g6, 0, none⟩) (Y.length + 1) cap6)).heap[OB]? = some (.cells #[.int .i64 (n : Int), .slice (some ⟨g6, 0, none⟩) (Y.length + 1) cap6] 33 (0, 0)) by
                  rw [heap_setCell_same w6 OB 1 _ _ _ (hp6 _ _ X2.out (by omega))]; rfl)
                have hbb := below_then HB.out hB
                have hob1 := HOB1.out
                have HS4 := Lib.hid (show Below w1.heap.size w1 (w6.setCell ⟨OB, 1, none⟩ (.slice (some ⟨g6, 0, none⟩) (Y.length + 1) cap6)) from ((below_then hbb ba5).grown HG6.out (below_then hbb ba5).size (fun q' hq' => by have := HON.out q' hq'; omega)).setCell (by simp; omega) _)
                clear hrow ba5 hat htab2 hs6 hrb hp6 hbb c6 f6 qB fB qcB b1 hB h9 hob1 y1 hcr
                go_wp2_with fail
                go_roundw
                case rel => exact ⟨k + 1, _, _, by omega, by go_num, HS2.out, HS3.out, HS1.out, HS4.out⟩
                case measure => simp [intOf]; omega
            · have hkm : k = m := by omega
              have hYX : Y = xss := by rw [HY.out, hkm]; exact List.take_of_length_le (by rw [HM.out]; exact Nat.le_refl _)
              have HT2 := Lib.hid HT.out
              rw [hYX] at HT2
              rw [hYX, HM.out] at X2
              rw [HM.out] at HT2
              have hxm' : x < m := by omega
              have hym' : y < m := by omega
              have hqn' : q < n := by omega
              obtain ⟨_, b1, _, f1⟩ := box2_cellsR X2.out
              obtain ⟨rx, hrx, hrxl⟩ := HG.out.row hxm'
              obtain ⟨ry, hry, hryl⟩ := HG.out.row hym'
              obtain ⟨gx, cx, hvx, hgx1, hgx2, hfx, _⟩ := HT2.out.rowCell hrx hrxl (by omega)
              obtain ⟨gT, ux, hgT, hux, hcx⟩ := HT2.out.cell (r := x) (by rw [HM.out]; omega)
              subst hgT
              rw [hvx] at hux
              obtain rfl := Option.some.inj hux
              obtain ⟨b, off, b2, off2, c, hA, hcry, hcellsy⟩ := row_base HG.out (H1.out.below hbel) hym'
              subst hA
              have hcqy := hcellsy q hqn'
              have hf := hfx q
              have HVX := Lib.hid hvx
              have HRX := Lib.hid hrx
              have HRXL := Lib.hid hrxl
              have HGX1 := Lib.hid hgx1
              have HGX2 := Lib.hid hgx2
              clear hry hryl hux hvx hrx hrxl hfx hgx1 hgx2 hcellsy hkm hYX
              go_wp2_with fail
              go_region
          
              obtain ⟨W5, hW5⟩ : ∃ W5, W5 = (wr.setCell ⟨gx, q, none⟩ (.int .i64 ((nx xss y q : Nat) : Int))).drew := ⟨_, rfl⟩
              rw [← hW5]
              have t5 : TabV (OB + 1) wr.heap.size W5 (.slice (some ⟨gT, 0, none⟩) m c3) vs (put2 xss x q ((nx xss y q : Nat) : Int)) := by
                rw [hW5]
                exact (TabV.put HT2.out HVX.out HRX.out HRXL.out).below (Below.refl _ _).drew
              have o5 : Only gx (gx + 1) wr W5 := by rw [hW5]; exact (only_setCell _ _ _ _).trans (Only.of_below (Below.refl _ _).drew _ _)
              have z5 : W5.heap.size = wr.heap.size := by rw [hW5]; exact World.size_setCell _ _ _
              clear hW5
              have hob1 := HOB1.out
              have hgx := HGX1.out
              have b5 : Below w1.heap.size w1 W5 := Only.below HB.out o5 (by omega) HB.out.size
              have X25 := (o5.block _ (block_lt X2.out) (.inl (by omega))).trans X2.out
              have X15 := (o5.block _ (block_lt X1.out) (.inl (by have := HRB.out; omega))).trans X1.out
              have y15 : W5.cell? ⟨w.heap.size, 1, none⟩ = some (.slice (some ⟨b, off, none⟩) m cap) := (b5.cell (cell_lt C1.out)).trans C1.out
              obtain ⟨ry, hry, hryl⟩ := HG.out.row hym'
              obtain ⟨ry2, hry2, hry2l⟩ : ∃ ry2, (put2 xss x q ((nx xss y q : Nat) : Int))[y]? = some ry2 ∧ ry2.length = n := by
                rw [put2_at HRX.out, List.getElem?_set]
                split
                · rename_i e
                  rw [if_pos (by rw [HM.out]; omega)]
                  exact ⟨_, rfl, by rw [List.length_set]; exact HRXL.out⟩
                · exact ⟨ry, hry, hryl⟩
              obtain ⟨gy, cy, hvy, hgy1, hgy2, hfy, _⟩ := t5.rowCell hry2 hry2l (by omega)
              obtain ⟨gT', uy, hgT', huy, hcy⟩ := t5.cell (r := y) (by rw [put2_len, HM.out]; omega)
              obtain rfl : gT = gT' := by simpa using hgT'
              rw [hvy] at huy
              obtain rfl := Option.some.inj huy
              obtain ⟨b', off', b3, off3, c', hA', hcrx, hcellsx⟩ := row_base HG.out (H1.out.below b5) hxm'
              obtain ⟨rfl, rfl⟩ : b = b' ∧ off = off' := by simpa using hA'
              have hcqx := hcellsx q hqn'
              have hff := hfy q
              obtain ⟨_, b15, _, f15⟩ := box2_cellsR X25
              have T5 := Lib.hid t5
              have O5 := Lib.hid o5
              have Z5 := Lib.hid z5
              have B5 := Lib.hid b5
              have HX25 := Lib.hid X25
              have HX15 := Lib.hid X15
              have HVY := Lib.hid hvy
              have HRY2 := Lib.hid hry2
              have HRY2L := Lib.hid hry2l
              have HGY1 := Lib.hid hgy1
              clear t5 o5 z5 b5 X25 X15 hvy hry2 hry2l huy hA' hgT' hcellsx hgy1 hgy2 hfy hry hryl hob1 hgx b1 f1 hcx hcry hcqy hf y1 hbel
              go_wp2_with fail
              go_region
              obtain ⟨W6, hW6⟩ : ∃ W6, W6 = (W5.setCell ⟨gy, q, none⟩ (.int .i64 ((nx xss x q : Nat) : Int))).drew := ⟨_, rfl⟩
              rw [← hW6]
              have t6 : TabV (OB + 1) wr.heap.size W6 (.slice (some ⟨gT, 0, none⟩) m c3) vs (swapF xss q x y) := by
                rw [hW6]
                exact (TabV.put T5.out HVY.out HRY2.out HRY2L.out).below (Below.refl _ _).drew
              have o6 : Only gy (gy + 1) W5 W6 := by rw [hW6]; exact (only_setCell _ _ _ _).trans (Only.of_below (Below.refl _ _).drew _ _)
              have z6 : W6.heap.size = wr.heap.size := by rw [hW6]; exact (World.size_setCell _ _ _).trans Z5.out
              clear hW6
              have hob1 := HOB1.out
              have hgy := HGY1.out
              have B6 := Lib.hid (show Below w1.heap.size w1 W6 from Only.below B5.out o6 (by omega) B5.out.size)
              have X26 := (o6.block _ (block_lt HX25.out) (.inl (by omega))).trans HX25.out
              have X16 := (o6.block _ (block_lt HX15.out) (.inl (by have := HRB.out; omega))).trans HX15.out
              obtain ⟨b0, b1, _, _⟩ := box2_cellsR X26
              obtain ⟨e0, e1, e2, e3⟩ := box2_cellsR X16
              obtain ⟨g2, g3⟩ := box2_setR X16 (.int .i64 (n : Int)) (.slice (some ⟨gT, 0, none⟩) m c3)
              have T6 := Lib.hid t6
              have Z6 := Lib.hid z6
              clear t6 o6 z6 hob1 hgy X26 X16 hcy hcrx hcqx hff b15 f15 y15
              go_wp2_with fail
              refine bodyPost_ret (v := .tuple #[.agg #[.int .i64 (n : Int), .slice (some ⟨gT, 0, none⟩) m c3], .int .i64 0]) (by simp [results, Try.results32, go_sem, g2, g3]) rfl ?_
              have hrb := HRB.out
              refine autosTo_mk HF.out ?_ (((below_then B1.out B6.out).setCell (by simp) _).setCell (by simp) _)
              rw [set2_sizeR, Z6.out]
              exact ((show TabIn _ _ _ _ _ from ⟨vs, T6.out⟩).only (set2_onlyR _ _ _ _) (.inr (by omega))).wide (by omega) (Nat.le_refl _)

end Go.Proofs.Ytkhhemlfahdbnab
