/-
  A machine without its outputs: the contracts of l06OwnRows (lists of a valid automaton) and of both ForgetOutputs.
-/
import Derived.Test.YtkhhemlfahdbnaaMachV
import Derived.Test.YtkhhemlfahdbnaaSel
import Derived.Test.YtkhhemlfahdbnaaClone
import Derived.Test.YtkhhemlfahdbnaaOwn
import Derived.Deep.RegionLaw
namespace Go.Proofs.Ytkhhemlfahdbnaa
open Go.RowKit Go.Deep Go.ChangeShapes Go.WideShapes

def allF (k : Nat) : List Int := (List.range k).map fun q => ((q : Nat) : Int)
theorem allF_len (k : Nat) : (allF k).length = k := by simp [allF]
theorem allF_at {k q : Nat} (h : q < k) : (allF k)[q]? = some (q : Int) := by simp [allF, h]
theorem allF_id {k : Nat} (h : k ≤ 10) : idA.take k = allF k := by
  apply List.ext_getElem?
  intro q
  rw [List.getElem?_take]
  by_cases hq : q < k
  · rw [if_pos hq, idA_at (by omega), allF_at hq]
  · rw [if_neg hq, List.getElem?_eq_none (by rw [allF_len]; omega)]
theorem allF_in {k : Nat} : ∀ y ∈ allF k, 0 ≤ y ∧ y < (k : Int) := by
  intro y hy
  simp only [allF, List.mem_map, List.mem_range] at hy
  obtain ⟨q, hq, rfl⟩ := hy
  omega
theorem allF_place {k q : Nat} (h : q < k) : placeOf (allF k) (q : Int) 0 = (q : Int) := by
  have := placeOf_hit (v := (q : Int)) (k0 := 0) (allF_at h) (fun j hj e => by
    rw [allF_at (by omega)] at e
    simp at e
    omega)
  simpa using this
theorem rows_all {n m : Nat} {xss : List (List Int)} (hg : Good n m xss) : rowsF n (selF xss (allF n)) m = xss := by
  apply List.ext_getElem?
  intro x
  unfold rowsF
  rw [List.getElem?_map]
  rcases Nat.lt_or_ge x m with hx | hx
  · obtain ⟨row, hrow, hl⟩ := hg.row hx
    rw [List.getElem?_range hx, hrow, Option.map_some]
    congr 1
    apply List.ext_getElem?
    intro q
    rw [List.getElem?_map]
    rcases Nat.lt_or_ge q n with hq | hq
    · obtain ⟨h1, h2⟩ := hg.next hrow hq
      rw [List.getElem?_range hq, h1, Option.map_some]
      congr 1
      unfold selF
      rw [List.getD_eq_getElem?_getD, allF_at hq]
      exact allF_place h2
    · rw [List.getElem?_eq_none (by simpa using hq), List.getElem?_eq_none (by omega)]
      rfl
  · rw [List.getElem?_eq_none (by simpa using hx), List.getElem?_eq_none (by rw [hg.letters]; exact hx)]
    rfl

theorem only_drewN {lo hi : Nat} {a w : World} (h : Only lo hi a w) (n : Nat) : Only lo hi a (w.drewN n) := h.trans (Only.of_below (below_drewN' (Below.refl _ _) n) _ _)

/-- What ForgetOutputs answers. -/
def forgetOutputs (s q : Int) (xss yss : List (List Int)) : Int × List (List Int) × Int := if okM s q xss yss = true then (s, xss, 0) else (0, [], 1)
theorem forgetOutputs_1 {s q : Int} {xss yss : List (List Int)} (h : okM s q xss yss = false) : forgetOutputs s q xss yss = (0, [], 1) := by unfold forgetOutputs; rw [if_neg (by simp [h])]
theorem forgetOutputs_0 {s q : Int} {xss yss : List (List Int)} (h : okM s q xss yss = true) : forgetOutputs s q xss yss = (s, xss, 0) := by unfold forgetOutputs; rw [if_pos h]
theorem good_sum {n m : Nat} {xss : List (List Int)} (hg : Good n m xss) : sumLens xss ≤ 30 := by
  rw [← rows_all hg, rowsF_sum]
  have := hg.n10
  have := hg.m3
  calc m * n ≤ 3 * 10 := Nat.mul_le_mul (by omega) (by omega)
    _ = 30 := rfl
theorem forgetOutputs_len (s q : Int) (xss yss : List (List Int)) : (forgetOutputs s q xss yss).2.1.length ≤ 30 := by
  unfold forgetOutputs
  split
  · rename_i h
    have := (okA_parts (okM_auto h)).2.1
    show xss.length ≤ 30
    omega
  · simp
theorem forgetOutputs_sum (s q : Int) (xss yss : List (List Int)) : sumLens (forgetOutputs s q xss yss).2.1 ≤ 30 := by
  unfold forgetOutputs
  split
  · rename_i h
    obtain ⟨n, k, _, _, hg⟩ := goodM_of h rfl
    exact good_sum hg.good
  · simp [sumLens]

set_option maxRecDepth 100000 in
set_option maxHeartbeats 2000000 in
theorem l06OwnRows_any (A : Option Addr) (n m cap : Nat) (xss : List (List Int)) (w : World) (hg : Good n m xss) (h : RowsAt w A m xss) :
    Calls Try.prog 55 #[.slice A m cap] w fun e w' => ∃ u, e = .returned u ∧ TabIn w.heap.size w'.heap.size w' u xss ∧ Below w.heap.size w w' := by
  obtain ⟨i1, hi1, hy0, hy1, hy2⟩ := info_parts info_ints
  have HG := Lib.hid hg
  have HH := Lib.hid h
  have m3 := hg.m3
  have HL := Lib.hid hg.letters
  clear hg h
  go_enter Try.func55, Try.ntmps55
  go_wp2_with fail
  go_loopw [3, 4] (fun ov iv wr => ∃ (k : Nat) (vs : List Value), k ≤ m ∧ iv = .int .i64 k ∧ TabV w.heap.size wr.heap.size wr ov vs (xss.take k) ∧ Below w.heap.size w wr) (fun _ iv _ => m - (intOf iv).toNat)
  case atStart =>
    refine ⟨0, [], Nat.zero_le _, rfl, ⟨rfl, World.ownsRow_lit (e := 32) w #[] 0 (Nat.le_refl _) (Nat.zero_le _) rfl, fun g hg => ?_, fun r u xs hu => ?_, fun r r' u u' g hu => ?_, fun r u g hu => ?_⟩, (Below.refl _ _).alloc (Nat.le_refl _) _⟩
    · simp [Value.ownBlock] at hg; subst hg; simp
    · simp at hu
    · simp at hu
    · simp at hu
  case round =>
    obtain ⟨k, vs, hk, rfl, htab, hbel⟩ := hrel
    obtain ⟨Y, hY⟩ : ∃ Y, Y = xss.take k := ⟨_, rfl⟩
    rw [← hY] at htab
    obtain ⟨A3, C3, rfl⟩ := own_form htab.out
    have HT := Lib.hid htab
    have HB := Lib.hid hbel
    have HKL := Lib.hid (show Y.length = k by rw [hY, List.length_take, HL.out]; omega)
    have HY := Lib.hid hY
    have h1 := HH.out.below hbel
    clear htab hbel hY
    by_cases hlt : k < m
    · obtain ⟨xs, b, off, A1, c2, hx, rfl, hc, hnum⟩ := h1.at_ hlt
      have HX := Lib.hid hx
      have HN := Lib.hid hnum
      have hxn : 0 < xs.length ∧ xs.length ≤ 1048576 := by
        obtain ⟨row, h1, h2⟩ := HG.out.row hlt
        rw [hx] at h1
        obtain rfl := Option.some.inj h1
        have := HG.out.n1
        have := HG.out.n10
        omega
      have HXN := Lib.hid hxn
      have hk0 : (0 : Int) ≤ (k : Int) := by omega
      have hkn : (k : Int) < (m : Int) := by omega
      clear hx hnum h1 hxn
      go_wp2_with fail
      refine (l00Own_any A1 xs.length c2 xs wr HN.out HXN.out.1 HXN.out.2).mono ?_
      rintro e w1 ⟨u, rfl, o1, b1⟩
      obtain ⟨A6, C6, rfl⟩ := own_form o1
      have HB1 := Lib.hid (below_then HB.out b1)
      have HT1 := Lib.hid (HT.out.below b1)
      have HI1 := Lib.hid (IntsIn.of o1)
      have HZ1 := Lib.hid b1.size
      have hrl : Y.length ≤ 3 := by rw [HKL.out]; omega
      clear hc b1 o1
      have HLE := Lib.hid (show w.heap.size ≤ w1.heap.size from HB1.out.size)
      go_wp2_with (at_builtin; refine wpList_append_own_at _ rfl _ _ 22 rfl (w.heap.size) 32 i1 (.slice none 0 0) 1 24 Try.underlying22 hi1 hy0 hy1 hy2 rfl (by decide) _ _ _ rfl (World.ownsRow.alloc (HT1.out.out) _) ⟨(w1).heap.size, 0, none⟩ 1 1 [.slice A6 xs.length C6] rfl rfl (cell_one_new _ _ _) (by simp [Value.oneCell']) (by unfold maxLen; omega) (by omega) (by rw [World.size_alloc]; exact Nat.le_succ_of_le HLE.out) ?_)
      intro v' w2 hown' hgrow _ hat
      have ba : Below w1.heap.size w1 (w1.alloc (.cells #[.slice A6 xs.length C6] 32)) := (Below.refl _ _).alloc (Nat.le_refl _) _
      have htab2 := TabV.snoc (HT1.out.below ba) (HI1.out.below ba) hown' hgrow (by rw [World.size_alloc]; exact hat) HB.out.size (Nat.le_refl _) (by have := ba.size; omega)
      rw [HY.out, ← take_snoc HX.out] at htab2
      have HT2 := Lib.hid htab2
      have HB2 := Lib.hid (below_grown (below_then HB1.out ba) hgrow (fun g hg => (HT1.out.out.lt g hg).1))
      clear hown' hgrow hat ba htab2 hrl
      go_wp2_with fail
      go_roundw
      case rel => exact ⟨k + 1, _, by omega, by go_num, HT2.out, HB2.out⟩
      case measure => simp [intOf]; omega
    · have hkm : k = m := by omega
      have HKM := Lib.hid hkm
      clear h1 hkm
      go_wp2_with fail
      go_ret
      have h1 := HT.out
      have h2 : Y = xss := by rw [HY.out, HKM.out]; exact List.take_of_length_le (by rw [HL.out]; exact Nat.le_refl _)
      refine ⟨_, rfl, ⟨vs, ?_⟩, HB.out⟩
      rw [← h2]
      exact h1

set_option maxRecDepth 100000 in
set_option maxHeartbeats 4000000 in
theorem specForgetOutputs_any (s q : Int) (A : Option Addr) (n c : Nat) (xss : List (List Int)) (B : Option Addr) (m d : Nat) (yss : List (List Int)) (w : World) (h : RowsAt w A n xss) (hn : n ≤ 4611686018427387904)
    (hrows : ∀ (r : Nat) (xs : List Int), xss[r]? = some xs → xs.length ≤ 4611686018427387904) (g : RowsAt w B m yss) (hm : m ≤ 4611686018427387904) (houts : ∀ (r : Nat) (xs : List Int), yss[r]? = some xs → xs.length ≤ 4611686018427387904) :
    Calls Try.prog 24 #[.agg #[.int .i64 s, .int .i64 q, .slice A n c, .slice B m d]] w (AutosTo (forgetOutputs s q xss yss) w) := by
  have HR := Lib.hid hrows
  have HO := Lib.hid houts
  have HM := Lib.hid h.1
  obtain ⟨W2, hW2⟩ : ∃ W2, W2 = (w.alloc (.cells #[.int .i64 s, .int .i64 q, .slice A n c, .slice B m d] 27)).alloc (.cells #[.int .i64 0, .slice none 0 0] 41) := ⟨_, rfl⟩
  have b2 : Below w.heap.size w W2 := by rw [hW2]; go_grown
  have B2 := Lib.hid b2
  have HB2 := Lib.hid (show MBox W2 w.heap.size s q A n c B m d by rw [hW2]; exact (Box.new w _ _).below ((Below.refl _ _).alloc (Nat.le_refl _) _))
  have xr : W2.heap[w.heap.size + 1]? = some (.cells #[.int .i64 0, .slice none 0 0] 41 (0, 0)) := by
    have := heap_alloc_new (w.alloc (.cells #[.int .i64 s, .int .i64 q, .slice A n c, .slice B m d] 27)) (.cells #[.int .i64 0, .slice none 0 0] 41)
    rw [World.size_alloc, ← hW2] at this
    exact this
  have HX2 := Lib.hid (h.below b2)
  have HY2 := Lib.hid (g.below b2)
  have XR := Lib.hid xr
  have HW2 := Lib.hid hW2
  clear hrows houts b2 xr hW2 h g
  rcases hok : okM s q xss yss with _ | _
  · have HF := Lib.hid (forgetOutputs_1 hok)
    have c0 := HB2.out 0 _ rfl
    have c1 := HB2.out 1 _ rfl
    have c2 := HB2.out 2 _ rfl
    have c3 := HB2.out 3 _ rfl
    go_enter Try.func24, Try.ntmps24
    rw [HW2.out] at c0 c1 c2 c3
    go_wp2_with fail
    rw [← HW2.out]
    refine (l06Ok_any w.heap.size s q A n c xss B m d yss _ HB2.out HX2.out hn HR.out HY2.out hm HO.out).mono ?_
    rw [hok]
    rintro e w1 ⟨rfl, b1⟩
    have xr := (b1.block _ (block_lt XR.out)).trans XR.out
    obtain ⟨e0, e1, e2, e3⟩ := box2_cells xr
    obtain ⟨g2, g3⟩ := box2_set xr (.int .i64 0) (.slice none 0 0)
    have B1 := Lib.hid (below_then B2.out b1)
    clear b1 xr c0 c1 c2 c3
    go_wp2_with fail
    refine bodyPost_ret (v := .tuple #[.agg #[.int .i64 0, .slice none 0 0], .int .i64 1]) (by simp [results, Try.results24, go_sem, g2, g3]) rfl ?_
    exact autosTo_mk HF.out (tab_nil _ _ _) ((B1.out.setCell (by simp; try omega) _).setCell (by simp; try omega) _)
  · have HF := Lib.hid (forgetOutputs_0 hok)
    obtain ⟨n', k, hs, hk, hg⟩ := goodM_of hok HM.out
    subst hs hk
    have HG := Lib.hid hg.good
    have hn10 : n' ≤ 10 := hg.good.n10
    clear hg
    have c0 := HB2.out 0 _ rfl
    have c1 := HB2.out 1 _ rfl
    have c2 := HB2.out 2 _ rfl
    have c3 := HB2.out 3 _ rfl
    go_enter Try.func24, Try.ntmps24
    rw [HW2.out] at c0 c1 c2 c3
    go_wp2_with fail
    rw [← HW2.out]
    refine (l06Ok_any w.heap.size (n' : Int) (k : Int) A n c xss B m d yss _ HB2.out HX2.out hn HR.out HY2.out hm HO.out).mono ?_
    rw [hok]
    rintro e w1 ⟨rfl, b1⟩
    have HB1 := Lib.hid (Box.below HB2.out b1)
    have HX1 := Lib.hid (HX2.out.below b1)
    have XR1 := Lib.hid ((b1.block _ (block_lt XR.out)).trans XR.out)
    have B1 := Lib.hid (below_then B2.out b1)
    have hl0 := Lib.hid B1.out.size
    clear b1 c0 c1 c2 c3
    have m0 := HB1.out 0 _ rfl
    have m1 := HB1.out 1 _ rfl
    have m2 := HB1.out 2 _ rfl
    have m3 := HB1.out 3 _ rfl
    have r0 : ∀ W', Below w1.heap.size w1 W' → W'.cell? ⟨w.heap.size, 0, none⟩ = some (.int .i64 (n' : Int)) := fun W' hb => (hb.cell (cell_lt m0)).trans m0
    have r1 : ∀ W', Below w1.heap.size w1 W' → W'.cell? ⟨w.heap.size, 1, none⟩ = some (.int .i64 (k : Int)) := fun W' hb => (hb.cell (cell_lt m1)).trans m1
    have r2 : ∀ W', Below w1.heap.size w1 W' → W'.cell? ⟨w.heap.size, 2, none⟩ = some (.slice A n c) := fun W' hb => (hb.cell (cell_lt m2)).trans m2
    have r3 : ∀ W', Below w1.heap.size w1 W' → W'.cell? ⟨w.heap.size, 3, none⟩ = some (.slice B m d) := fun W' hb => (hb.cell (cell_lt m3)).trans m3
    have h9 : Below w1.heap.size w1 w1 := Below.refl _ _
    clear m0 m1 m2 m3
    go_wp2_with fail
    go_region_law (first
      | (go_simp; go_at_call 55; refine (l06OwnRows_any A n' n c xss _ HG.out (HX1.out.below (by first | assumption | exact h9.drew))).mono ?_; rintro e w5 ⟨v, rfl, t5, b5⟩; obtain ⟨V5, C5, rfl⟩ := t5.form; have h5 : Below w1.heap.size w1 w5 := below_then (by first | assumption | exact h9.drew) b5; have xr := (h5.block _ (block_lt XR1.out)).trans XR1.out; obtain ⟨e0, e1, e2, e3⟩ := box2_cells xr; obtain ⟨g2, g3⟩ := box2_set xr (.int .i64 (n' : Int)) (.slice V5 xss.length C5); have T5 := Lib.hid (show TabIn w1.heap.size w5.heap.size w5 _ _ from t5); clear t5 b5 xr)
      | fail)
    all_goals
      go_wp2_with fail
      refine bodyPost_ret (v := .tuple #[.agg #[.int .i64 (n' : Int), .slice V5 xss.length C5], .int .i64 0]) (by simp [results, Try.results24, go_sem, g2, g3]) rfl ?_
      refine autosTo_mk HF.out ?_ ((below_then B1.out h5).setCell (by simp; try omega) _ |>.setCell (by simp; try omega) _)
      rw [set2_size]
      exact (T5.out.only (set2_only _ _ _ _) (.inr (block_lt XR1.out))).wide hl0.out (Nat.le_refl _)


set_option maxRecDepth 100000 in
set_option maxHeartbeats 4000000 in
theorem implForgetOutputs_any (s q : Int) (A : Option Addr) (n c : Nat) (xss : List (List Int)) (B : Option Addr) (m d : Nat) (yss : List (List Int)) (w : World) (h : RowsAt w A n xss) (hn : n ≤ 4611686018427387904)
    (hrows : ∀ (r : Nat) (xs : List Int), xss[r]? = some xs → xs.length ≤ 4611686018427387904) (g : RowsAt w B m yss) (hm : m ≤ 4611686018427387904) (houts : ∀ (r : Nat) (xs : List Int), yss[r]? = some xs → xs.length ≤ 4611686018427387904) :
    Calls Try.prog 25 #[.agg #[.int .i64 s, .int .i64 q, .slice A n c, .slice B m d]] w (AutosTo (forgetOutputs s q xss yss) w) := by
  have HR := Lib.hid hrows
  have HO := Lib.hid houts
  have HM := Lib.hid h.1
  obtain ⟨W2, hW2⟩ : ∃ W2, W2 = (w.alloc (.cells #[.int .i64 s, .int .i64 q, .slice A n c, .slice B m d] 27)).alloc (.cells #[.int .i64 0, .slice none 0 0] 41) := ⟨_, rfl⟩
  have b2 : Below w.heap.size w W2 := by rw [hW2]; go_grown
  have B2 := Lib.hid b2
  have HB2 := Lib.hid (show MBox W2 w.heap.size s q A n c B m d by rw [hW2]; exact (Box.new w _ _).below ((Below.refl _ _).alloc (Nat.le_refl _) _))
  have xr : W2.heap[w.heap.size + 1]? = some (.cells #[.int .i64 0, .slice none 0 0] 41 (0, 0)) := by
    have := heap_alloc_new (w.alloc (.cells #[.int .i64 s, .int .i64 q, .slice A n c, .slice B m d] 27)) (.cells #[.int .i64 0, .slice none 0 0] 41)
    rw [World.size_alloc, ← hW2] at this
    exact this
  have HX2 := Lib.hid (h.below b2)
  have HY2 := Lib.hid (g.below b2)
  have XR := Lib.hid xr
  have HW2 := Lib.hid hW2
  clear hrows houts b2 xr hW2 h g
  rcases hok : okM s q xss yss with _ | _
  · have HF := Lib.hid (forgetOutputs_1 hok)
    have c0 := HB2.out 0 _ rfl
    have c1 := HB2.out 1 _ rfl
    have c2 := HB2.out 2 _ rfl
    have c3 := HB2.out 3 _ rfl
    go_enter Try.func25, Try.ntmps25
    rw [HW2.out] at c0 c1 c2 c3
    go_wp2_with fail
    rw [← HW2.out]
    refine (implValidMachine_any s q A n c xss B m d yss _ HX2.out hn HR.out HY2.out hm HO.out).mono ?_
    rw [hok]
    rintro e w1 ⟨rfl, b1⟩
    have xr := (b1.block _ (block_lt XR.out)).trans XR.out
    obtain ⟨e0, e1, e2, e3⟩ := box2_cells xr
    obtain ⟨g2, g3⟩ := box2_set xr (.int .i64 0) (.slice none 0 0)
    have B1 := Lib.hid (below_then B2.out b1)
    clear b1 xr c0 c1 c2 c3
    go_wp2_with fail
    refine bodyPost_ret (v := .tuple #[.agg #[.int .i64 0, .slice none 0 0], .int .i64 1]) (by simp [results, Try.results25, go_sem, g2, g3]) rfl ?_
    exact autosTo_mk HF.out (tab_nil _ _ _) ((B1.out.setCell (by simp; try omega) _).setCell (by simp; try omega) _)
  · have HF := Lib.hid (forgetOutputs_0 hok)
    obtain ⟨n', k, hs, hk, hg⟩ := goodM_of hok HM.out
    subst hs hk
    have HG := Lib.hid hg.good
    have hn10 : n' ≤ 10 := hg.good.n10
    clear hg
    have c0 := HB2.out 0 _ rfl
    have c1 := HB2.out 1 _ rfl
    have c2 := HB2.out 2 _ rfl
    have c3 := HB2.out 3 _ rfl
    go_enter Try.func25, Try.ntmps25
    rw [HW2.out] at c0 c1 c2 c3
    go_wp2_with fail
    rw [← HW2.out]
    refine (implValidMachine_any (n' : Int) (k : Int) A n c xss B m d yss _ HX2.out hn HR.out HY2.out hm HO.out).mono ?_
    rw [hok]
    rintro e w1 ⟨rfl, b1⟩
    have HB1 := Lib.hid (Box.below HB2.out b1)
    have HX1 := Lib.hid (HX2.out.below b1)
    have XR1 := Lib.hid ((b1.block _ (block_lt XR.out)).trans XR.out)
    have B1 := Lib.hid (below_then B2.out b1)
    have hl0 := Lib.hid B1.out.size
    clear b1 c0 c1 c2 c3
    have m0 := HB1.out 0 _ rfl
    have m1 := HB1.out 1 _ rfl
    have m2 := HB1.out 2 _ rfl
    have m3 := HB1.out 3 _ rfl
    have r0 : ∀ W', Only (w.heap.size + 1) (w.heap.size + 2) w1 W' → W'.cell? ⟨w.heap.size, 0, none⟩ = some (.int .i64 (n' : Int)) := fun W' hb => (hb.cell (cell_lt m0) (.inl (by simp))).trans m0
    have r1 : ∀ W', Only (w.heap.size + 1) (w.heap.size + 2) w1 W' → W'.cell? ⟨w.heap.size, 1, none⟩ = some (.int .i64 (k : Int)) := fun W' hb => (hb.cell (cell_lt m1) (.inl (by simp))).trans m1
    have r2 : ∀ W', Only (w.heap.size + 1) (w.heap.size + 2) w1 W' → W'.cell? ⟨w.heap.size, 2, none⟩ = some (.slice A n c) := fun W' hb => (hb.cell (cell_lt m2) (.inl (by simp))).trans m2
    have r3 : ∀ W', Only (w.heap.size + 1) (w.heap.size + 2) w1 W' → W'.cell? ⟨w.heap.size, 3, none⟩ = some (.slice B m d) := fun W' hb => (hb.cell (cell_lt m3) (.inl (by simp))).trans m3
    have h9 : Below w1.heap.size w1 w1 := Below.refl _ _
    have o9 : Only (w.heap.size + 1) (w.heap.size + 2) w1 w1 := Only.refl _ _ _
    clear m0 m1 m2 m3
    go_wp2_with fail
    have hal : (allF n').length = n' := allF_len n'
    have HAL := Lib.hid hal
    clear hal
    go_region_held3 (fun w' => Only (w.heap.size + 1) (w.heap.size + 2) w1 w') (first | assumption | exact only_drewN (by assumption) _)
      (first
        | (go_at_call 40; refine (automatonOf_any (n' : Int) (k : Int) A n c B m d _).mono ?_; rintro e wa ⟨rfl, ba⟩; have ca : Below w1.heap.size w1 wa := below_then (by first | assumption | exact below_drewN' (by assumption) _ | exact h9.drew) ba; have oa : Only (w.heap.size + 1) (w.heap.size + 2) w1 wa := Only.of_below ca _ _; clear ba)
        | (go_at_call 57; refine (identity_any _).mono ?_; rintro e wi ⟨rfl, bi⟩; have ci : Below w1.heap.size w1 wi := below_then (by first | assumption | exact below_drewN' (by assumption) _ | exact h9.drew) bi; have oi : Only (w.heap.size + 1) (w.heap.size + 2) w1 wi := Only.of_below ci _ _; clear bi)
        | (go_at_call 58; refine (list_any n' idA _ rfl hn10).mono ?_; rw [allF_id hn10]; rintro e wl ⟨v, rfl, ol, bl⟩; have KL := Lib.hid bl; obtain ⟨VL, CL, rfl⟩ := own_form ol; have NL := Lib.hid (NumsAt.own ol HAL.out rfl); have cl : Below w1.heap.size w1 wl := below_then (by first | assumption | exact below_drewN' (by assumption) _ | exact h9.drew) bl; clear ol bl; have oL : Only (w.heap.size + 1) (w.heap.size + 2) w1 wl := Only.of_below cl _ _)
        | (go_at_call 56; refine (selectStates_any A VL n' n c n' CL xss (allF n') _ HG.out (HX1.out.below (by first | assumption | exact below_drewN' (by assumption) _ | exact h9.drew)) (by first | exact NL.out | exact NL.out.drewN _ | exact NL.out.below (below_then (below_drewN' (Below.refl _ _) _) (by assumption))) allF_in hn10).mono ?_; rw [rows_all HG.out]; rintro e w5 ⟨v, rfl, t5, b5⟩; obtain ⟨V5, C5, rfl⟩ := t5.form; have h5 : Below w1.heap.size w1 w5 := below_then (by first | assumption | exact below_drewN' (by assumption) _ | exact h9.drew) b5; have xr := (h5.block _ (block_lt XR1.out)).trans XR1.out; obtain ⟨e0, e1, e2, e3⟩ := box2_cells xr; obtain ⟨g2, g3⟩ := box2_set xr (.int .i64 (n' : Int)) (.slice V5 xss.length C5); have o5 : Only (w.heap.size + 1) (w.heap.size + 2) w1 w5 := Only.of_below h5 _ _; have oS := o5.trans (only_setCell w5 (w.heap.size + 1) 0 (.int .i64 (n' : Int))); have oT := oS.trans (only_setCell _ (w.heap.size + 1) 1 (.slice V5 xss.length C5)); have T5 := Lib.hid (t5.wide (lo' := w1.heap.size) (by first | exact Below.size cl | exact Below.size ca | exact Below.size ci) (Nat.le_refl _)); clear t5 b5 xr)
        | fail)
    all_goals
      go_wp2_with fail
      refine bodyPost_ret (v := .tuple #[.agg #[.int .i64 (n' : Int), .slice V5 xss.length C5], .int .i64 0]) (by simp [results, Try.results25, go_sem, g2, g3]) rfl ?_
      refine autosTo_mk HF.out ?_ ((below_then B1.out h5).setCell (by simp; try omega) _ |>.setCell (by simp; try omega) _)
      rw [set2_size]
      exact (T5.out.only (set2_only _ _ _ _) (.inr (block_lt XR1.out))).wide hl0.out (Nat.le_refl _)




end Go.Proofs.Ytkhhemlfahdbnaa
