/-
  The sets of the states with each lamp: the contracts of both LampClasses.
-/
import Derived.Test.YtkfajimhooidcaaBel
import Derived.Test.YtkfajimhooidcaaDel
import Derived.Test.YtkfajimhooidcaaAll
import Derived.Test.YtkfajimhooidcaaTab
namespace Go.Proofs.Ytkfajimhooidcaa
open Go.RowKit Go.Deep Go.ChangeShapes Go.WideShapes

/-- The sets of the states with the lamps below k, those that are not empty. -/
def clsL (n : Nat) (ls : List Int) (k : Nat) : List (List Int) := ((List.range k).map fun v => withL ls ((v : Nat) : Int) (allL n)).filter fun l => decide (0 < l.length)
theorem clsL_succ (n : Nat) (ls : List Int) (k : Nat) : clsL n ls (k + 1) = if 0 < (withL ls (k : Int) (allL n)).length then clsL n ls k ++ [withL ls (k : Int) (allL n)] else clsL n ls k := by
  unfold clsL
  rw [List.range_succ, List.map_append, List.filter_append, List.map_cons, List.map_nil]
  split
  · rename_i h; rw [List.filter_cons_of_pos (by simpa using h)]; rfl
  · rename_i h; rw [List.filter_cons_of_neg (by simpa using h)]; simp
theorem clsL_len (n : Nat) (ls : List Int) (k : Nat) : (clsL n ls k).length ≤ k := by
  unfold clsL
  exact Nat.le_trans (List.length_filter_le _ _) (by simp)
theorem clsL_row (n : Nat) (ls : List Int) (k : Nat) : ∀ l ∈ clsL n ls k, l.length ≤ n := by
  intro l hl
  unfold clsL at hl
  obtain ⟨v, _, rfl⟩ := List.mem_map.1 (List.mem_filter.1 hl).1
  exact Nat.le_trans (withL_len _ _ _) (by rw [allL_len]; exact Nat.le_refl _)
theorem allL_mem (n : Nat) : ∀ x ∈ allL n, 0 ≤ x ∧ x < (n : Int) := by
  intro x hx
  unfold allL at hx
  obtain ⟨q, hq, rfl⟩ := List.mem_map.1 hx
  have := List.mem_range.1 hq
  omega
theorem tabV_made (w : World) (lo : Nat) (h : lo ≤ w.heap.size) : TabV lo (w.heap.size + 1) (w.alloc (.cells #[] 25)) (.slice (some ⟨w.heap.size, 0, none⟩) 0 0) [] [] := by
  refine ⟨rfl, World.ownsRow_lit (e := 25) w #[] 0 h (Nat.zero_le _) rfl, fun g hg => ?_, fun r u xs hu => ?_, fun r r' u u' g hu => ?_, fun r u g hu => ?_⟩
  · simp [Value.ownBlock] at hg; omega
  · simp at hu
  · simp at hu
  · simp at hu
theorem sumLens_leC {k : Nat} : ∀ {xss : List (List Int)}, (∀ x ∈ xss, x.length ≤ k) → sumLens xss ≤ k * xss.length
  | [], _ => by simp [sumLens]
  | x :: xs, h => by
    have h1 := h x List.mem_cons_self
    have h2 := sumLens_leC (xss := xs) (fun y hy => h y (List.mem_cons_of_mem _ hy))
    simp only [sumLens, List.map_cons, List.sum_cons, List.length_cons] at h2 ⊢
    rw [Nat.mul_succ]
    omega

/-- What LampClasses answers. -/
def lampClasses (s : Int) (xss : List (List Int)) (ls : List Int) : List (List Int) × Int := if okL s xss ls = true then (clsL s.toNat ls 4, 0) else ([], 1)
theorem lampClasses_1 {s : Int} {xss : List (List Int)} {ls : List Int} (h : okL s xss ls = false) : lampClasses s xss ls = ([], 1) := by unfold lampClasses; rw [if_neg (by simp [h])]
theorem lampClasses_0 {n : Nat} {xss : List (List Int)} {ls : List Int} (h : okL (n : Int) xss ls = true) : lampClasses (n : Int) xss ls = (clsL n ls 4, 0) := by unfold lampClasses; rw [if_pos h, Int.toNat_natCast]
theorem lampClasses_len (s : Int) (xss : List (List Int)) (ls : List Int) : (lampClasses s xss ls).1.length ≤ 10 := by
  unfold lampClasses
  split
  · exact Nat.le_trans (clsL_len _ _ _) (by decide)
  · simp
theorem lampClasses_sum (s : Int) (xss : List (List Int)) (ls : List Int) : sumLens (lampClasses s xss ls).1 ≤ 40 := by
  unfold lampClasses
  split
  · rename_i h
    obtain ⟨n, rfl, hg⟩ := goodL_of h rfl
    rw [Int.toNat_natCast]
    have h1 := sumLens_leC (clsL_row n ls 4)
    have h2 := clsL_len n ls 4
    have h3 := hg.good.n10
    have h4 := Nat.mul_le_mul h3 h2
    show sumLens (clsL n ls 4) ≤ 40
    omega
  · simp [sumLens]
/-- A function that answers a list of lists and a code. -/
def TabsTo2 (r : List (List Int) × Int) (w : World) (e : Ending) (w' : World) : Prop := ∃ v, e = .returned (.tuple #[v, .int .i64 r.2]) ∧ TabIn w.heap.size w'.heap.size w' v r.1 ∧ Below w.heap.size w w'
theorem tabsTo2_mk {r : List (List Int) × Int} {w w' : World} {xss : List (List Int)} {v : Value} {c : Int} (h : r = (xss, c)) (ht : TabIn w.heap.size w'.heap.size w' v xss) (hb : Below w.heap.size w w') : TabsTo2 r w (.returned (.tuple #[v, .int .i64 c])) w' := by
  subst h; exact ⟨v, rfl, ht, hb⟩

set_option maxRecDepth 100000 in
set_option maxHeartbeats 4000000 in
theorem specLampClasses_any (s : Int) (A : Option Addr) (n c : Nat) (xss : List (List Int)) (B : Option Addr) (m d : Nat) (ls : List Int) (w : World) (h : RowsAt w A n xss) (hn : n ≤ 4611686018427387904)
    (hrows : ∀ (r : Nat) (xs : List Int), xss[r]? = some xs → xs.length ≤ 4611686018427387904) (g : NumsAt w B m ls) (hm : m ≤ 4611686018427387904) :
    Calls Try.prog 14 #[.agg #[.int .i64 s, .slice A n c, .slice B m d]] w (TabsTo2 (lampClasses s xss ls) w) := by
  obtain ⟨i1, hi1, hy0, hy1, hy2⟩ := info_parts info_ints
  have HR := Lib.hid hrows
  have HL := Lib.hid h.1
  clear hrows
  obtain ⟨w1, hw1⟩ : ∃ w1, w1 = w.alloc (.cells #[.int .i64 s, .slice A n c, .slice B m d] 32) := ⟨_, rfl⟩
  have b1 : Below w.heap.size w w1 := by rw [hw1]; exact (Below.refl _ _).alloc (Nat.le_refl _) _
  have HB1 := Lib.hid (show LBox w1 w.heap.size s A n c B m d by rw [hw1]; exact Box.new _ _ _)
  have HX1 := Lib.hid (h.below b1)
  have HY1 := Lib.hid (g.below b1)
  have W1 := Lib.hid b1
  have HW := Lib.hid hw1
  clear h g b1 hw1
  go_enter Try.func14, Try.ntmps14
  go_wp2_with fail
  rw [← HW.out]
  refine (l08Ok_any w.heap.size s A n c xss B m d ls w1 HB1.out HX1.out hn HR.out HY1.out hm).mono ?_
  rintro e w2 ⟨rfl, k2, hk2⟩
  have b2 : Below w1.heap.size w1 w2 := by rw [hk2]; exact below_drewN' (Below.refl _ _) _
  have HB2 := Lib.hid (show LBox w2 w.heap.size s A n c B m d from Box.below HB1.out b2)
  have HY2 := Lib.hid (HY1.out.below b2)
  have W2 := Lib.hid (below_then W1.out b2)
  clear b2 hk2 HB1 HX1 HY1 W1 HW
  rcases hok : okL s xss ls with _ | _
  · go_wp2_with fail
    go_ret2
    exact tabsTo2_mk (lampClasses_1 hok) ⟨[], by rw [World.size_alloc]; exact tabV_made w2 _ W2.out.size⟩ (W2.out.alloc W2.out.size _)
  · obtain ⟨N, hsN, hg⟩ := goodL_of hok HL.out
    subst hsN
    have HF := Lib.hid (lampClasses_0 hok)
    have hN10 : N ≤ 10 := hg.good.n10
    have hmN : m = N := by rw [← HY2.out.1]; exact hg.len
    subst hmN
    clear hg hok
    go_wp2_with fail
    go_loopw [4, 5] (fun ov iv wr => ∃ (k : Nat) (vs : List Value) (Y : List (List Int)), k ≤ 4 ∧ iv = .int .i64 k ∧ Y = clsL m ls k ∧ TabV w2.heap.size wr.heap.size wr ov vs Y ∧ Below w2.heap.size w2 wr) (fun _ iv _ => 4 - (intOf iv).toNat)
    case atStart => exact ⟨0, [], [], Nat.zero_le _, rfl, rfl, by rw [World.size_alloc]; exact tabV_made w2 _ (Nat.le_refl _), (Below.refl _ _).alloc (Nat.le_refl _) _⟩
    case round =>
      obtain ⟨k, vs, Y, hk, rfl, hY, htab, hbel⟩ := hrel
      obtain ⟨A3, C3, rfl⟩ := own_form htab.out
      have HT := Lib.hid htab
      have HB := Lib.hid hbel
      have HYY := Lib.hid hY
      have hYl : Y.length ≤ 4 := by rw [hY]; exact Nat.le_trans (clsL_len _ _ _) hk
      have HBX := Lib.hid (show LBox wr w.heap.size (m : Int) A n c B m d from Box.below HB2.out hbel)
      have HYR := Lib.hid (HY2.out.below hbel)
      have p0 := HBX.out 0 _ rfl
      have HWR := Lib.hid (below_then W2.out hbel)
      have hk0 : (0 : Int) ≤ (k : Int) := by omega
      clear htab hbel hY
      by_cases hlt : k < 4
      · have hk4 : (k : Int) < 4 := by omega
        go_wp2_with fail
        refine (l01All_any m wr hN10).mono ?_
        rintro e w3 ⟨u, rfl, o3, b3⟩
        obtain ⟨A4, C4, rfl⟩ := own_form o3
        have N3 := Lib.hid (NumsAt.own o3 rfl rfl)
        have HB3 := Lib.hid (show LBox w3 w.heap.size (m : Int) A n c B m d from Box.below HBX.out b3)
        have HY3 := Lib.hid (HYR.out.below b3)
        have W3 := Lib.hid b3
        have hal : (allL m).length ≤ 10 := by rw [allL_len]; exact hN10
        clear o3 b3 p0
        go_wp2_with fail
        refine (l08With_any w.heap.size (m : Int) A n c B m d ls A4 (allL m).length C4 (allL m) (k : Int) w3 HB3.out HY3.out N3.out hal (allL_mem m)).mono ?_
        rintro e w4 ⟨u, rfl, o4, b4⟩
        have hwl : (withL ls (k : Int) (allL m)).length ≤ 10 := Nat.le_trans (withL_len _ _ _) hal
        obtain ⟨Z, hZ⟩ : ∃ Z, Z = withL ls (k : Int) (allL m) := ⟨_, rfl⟩
        rw [← hZ] at o4 hwl
        obtain ⟨A5, C5, rfl⟩ := own_form o4
        have b34 := below_then W3.out b4
        have HT4 := Lib.hid (HT.out.below b34)
        have HI4 := Lib.hid (IntsIn.of o4)
        have HW4 := Lib.hid (below_then HB.out b34)
        have HLE := Lib.hid (show w2.heap.size ≤ w4.heap.size from Nat.le_trans HB.out.size b34.size)
        have HSZ := Lib.hid b34.size
        have HS3 := Lib.hid (show wr.heap.size ≤ w3.heap.size from W3.out.size)
        have HSTEP := Lib.hid (clsL_succ m ls k)
        have HZZ := Lib.hid hZ
        clear o4 b4 b34 hZ
        by_cases hz : 0 < Z.length
        · have hz' : decide ((0 : Int) < (Z.length : Int)) = true := by simp; omega
          have hzi : (0 : Int) < (Z.length : Int) := by omega
          have HN := Lib.hid (show clsL m ls (k + 1) = Y ++ [Z] by rw [HSTEP.out, ← HZZ.out, if_pos hz, HYY.out])
          clear hz
          go_wp2_with (at_builtin; refine wpList_append_own_at _ rfl _ _ 22 rfl (w2.heap.size) 25 i1 (.slice none 0 0) 1 24 Try.underlying22 hi1 hy0 hy1 hy2 rfl (by decide) _ _ _ rfl (World.ownsRow.alloc (HT4.out.out) _) ⟨(w4).heap.size, 0, none⟩ 1 1 [.slice A5 Z.length C5] rfl rfl (cell_one_new _ _ _) (by simp [Value.oneCell']) (by unfold maxLen; omega) (by omega) (by rw [World.size_alloc]; exact Nat.le_succ_of_le HLE.out) ?_)
          intro v' w5 hown' hgrow _ hat
          have ba : Below w4.heap.size w4 (w4.alloc (.cells #[.slice A5 Z.length C5] 25)) := (Below.refl _ _).alloc (Nat.le_refl _) _
          have htab2 := TabV.snoc (HT4.out.below ba) (HI4.out.below ba) hown' hgrow (by rw [World.size_alloc]; exact hat) (by have := HB.out.size; have := HS3.out; omega) HS3.out (by have := ba.size; omega)
          rw [← HN.out] at htab2
          have HT5 := Lib.hid htab2
          have HB5 := Lib.hid (show Below w2.heap.size w2 w5 from ((HW4.out.trans (ba.mono HW4.out.size)).grown hgrow (by have := HW4.out.size; rw [World.size_alloc]; omega) (fun g hg => (HT4.out.out.lt g hg).1)))
          clear hown' hgrow hat ba htab2
          go_wp2_with fail
          go_roundw
          case rel => exact ⟨k + 1, _, _, by omega, by go_num, rfl, HT5.out, HB5.out⟩
          case measure => simp [intOf]; omega
        · have hzi : ¬ (0 : Int) < (Z.length : Int) := by omega
          have HN := Lib.hid (show clsL m ls (k + 1) = Y by rw [HSTEP.out, ← HZZ.out, if_neg hz, HYY.out])
          clear hz
          go_wp2_with fail
          go_roundw
          case rel => exact ⟨k + 1, vs, Y, by omega, by go_num, HN.out.symm, HT4.out.wide (Nat.le_refl _) (by have := HSZ.out; omega), HW4.out⟩
          case measure => simp [intOf]; omega
      · have hke : k = 4 := by omega
        have HKE := Lib.hid hke
        clear hke p0
        go_wp2_with fail
        go_ret2
        exact tabsTo2_mk (by rw [HF.out, HYY.out, HKE.out]) ⟨vs, HT.out.wide W2.out.size (Nat.le_refl _)⟩ HWR.out

end Go.Proofs.Ytkfajimhooidcaa
