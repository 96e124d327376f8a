/-
  First words from two states: the contracts of both MergingWord.
-/
import Derived.Test.YtikhfdpmmkjnlaaFullC
import Derived.Test.YtikhfdpmmkjnlaaSetOf
namespace Go.Proofs.Ytikhfdpmmkjnlaa
open Go.RowKit Go.Deep Go.ChangeShapes Go.WideShapes
open Hunt Srch From Moved

/-- What MergingWord answers. -/
noncomputable def mergingWord (s : Int) (xss : List (List Int)) (x y : Int) : List Int × Int :=
  if okA s xss = true then (if belowB s x = true ∧ belowB s y = true then freeW s.toNat xss.length xss (pairB x.toNat y.toNat) else ([], 2)) else ([], 1)
theorem mergingWord_1 {s : Int} {xss : List (List Int)} {x y : Int} (h : okA s xss = false) : mergingWord s xss x y = ([], 1) := by unfold mergingWord; rw [if_neg (by simp [h])]
theorem mergingWord_2 {s : Int} {xss : List (List Int)} {x y : Int} (h : okA s xss = true) (h' : ¬ (belowB s x = true ∧ belowB s y = true)) : mergingWord s xss x y = ([], 2) := by unfold mergingWord; rw [if_pos h, if_neg h']
theorem mergingWord_0 {n m p q : Nat} {xss : List (List Int)} (h : okA (n : Int) xss = true) (hm : xss.length = m) (hx : belowB (n : Int) (p : Int) = true) (hy : belowB (n : Int) (q : Int) = true) : mergingWord (n : Int) xss (p : Int) (q : Int) = freeW n m xss (pairB p q) := by
  unfold mergingWord; rw [if_pos h, if_pos ⟨hx, hy⟩, hm, Int.toNat_natCast, Int.toNat_natCast, Int.toNat_natCast]
theorem below_nat {n : Nat} {x : Int} (h : belowB (n : Int) x = true) : ∃ p : Nat, x = (p : Int) ∧ p < n := by
  simp only [belowB, decide_eq_true_eq] at h
  exact ⟨x.toNat, by omega, by omega⟩
theorem mergingWord_len (s : Int) (xss : List (List Int)) (x y : Int) : (mergingWord s xss x y).1.length ≤ 1024 := by
  rcases hok : okA s xss with _ | _
  · rw [mergingWord_1 hok]; simp
  · obtain ⟨n, hsn, hg⟩ := good_of hok rfl
    subst hsn
    by_cases h : belowB (n : Int) x = true ∧ belowB (n : Int) y = true
    · obtain ⟨p, rfl, hp⟩ := below_nat h.1
      obtain ⟨q, rfl, hq⟩ := below_nat h.2
      rw [mergingWord_0 hok rfl h.1 h.2]
      exact freeW_len hg ((pair_in hp hq).lt hg.n10)
    · rw [mergingWord_2 hok h]; simp
theorem pair_bits {p q : Nat} (hp : p < 10) (hq : q < 10) : bits .or .i64 (wrap64 (2 ^ p)) (wrap64 (2 ^ q)) = ((pairB p q : Nat) : Int) := by
  have h1 : 2 ^ p ≤ 2 ^ 9 := Nat.pow_le_pow_right (by decide) (by omega)
  have h2 : 2 ^ q ≤ 2 ^ 9 := Nat.pow_le_pow_right (by decide) (by omega)
  have e1 : ((2 : Int) ^ p) = ((2 ^ p : Nat) : Int) := by push_cast; rfl
  have e2 : ((2 : Int) ^ q) = ((2 ^ q : Nat) : Int) := by push_cast; rfl
  rw [e1, e2, wrap_512 (Nat.le_trans h1 (by decide)), wrap_512 (Nat.le_trans h2 (by decide)), i64_or_nat _ _ (by omega) (by omega)]
  unfold pairB
  rw [Nat.one_shiftLeft, Nat.one_shiftLeft]
theorem pair_cut {n m p q : Nat} {xss : List (List Int)} (hg : Good n m xss) (hp : p < n) (hq : q < n) : cutW n m xss (pairB p q) = freeW n m xss (pairB p q) := by unfold cutW freeW; rw [pair_same hg hp hq]

set_option maxRecDepth 100000 in
set_option maxHeartbeats 2000000 in
theorem specMergingWord_any (s : Int) (A : Option Addr) (m cap : Nat) (xss : List (List Int)) (x y : Int) (w : World) (h : RowsAt w A m xss) (hm : m ≤ 4611686018427387904)
    (hrows : ∀ (r : Nat) (xs : List Int), xss[r]? = some xs → xs.length ≤ 4611686018427387904) :
    Calls Try.prog 43 #[.agg #[.int .i64 s, .slice A m cap], .int .i64 x, .int .i64 y] w fun e w' => ∃ v, e = .returned (.tuple #[v, .int .i64 (mergingWord s xss x y).2]) ∧ w'.ownsRow w.heap.size 2 1 v (mergingWord s xss x y).1.length ((mergingWord s xss x y).1.map (Value.int .i64)) ∧ Below w.heap.size w w' := by
  have HR := Lib.hid hrows
  have HM := Lib.hid h.1
  have b0 : Below w.heap.size w (w.alloc (.cells #[.int .i64 s, .slice A m cap] 27)) := (Below.refl _ _).alloc (Nat.le_refl _) _
  have H0 := Lib.hid (h.below b0)
  have B0 := Lib.hid b0
  clear hrows b0
  rcases hok : okA s xss with _ | _
  · have HF := Lib.hid (mergingWord_1 (x := x) (y := y) hok)
    go_enter Try.func43, Try.ntmps43
    go_wp2_with fail
    refine (l01Ok_any w.heap.size s A m cap xss _ (by go_cell) (by go_cell) H0.out hm HR.out).mono ?_
    rw [hok]
    rintro e w' ⟨rfl, d, rfl⟩
    go_wp2_with fail
    go_ret2
    rw [HF.out]
    exact ⟨_, rfl, own_none' (w := (w.alloc (.cells #[.int .i64 s, .slice A m cap] 27)).drewN d) (World.size_alloc _ _).symm (below_drewN' B0.out d).size, (below_drewN' B0.out _).alloc (below_drewN' B0.out _).size _⟩
  · obtain ⟨n, hsn, hg⟩ := good_of hok HM.out
    subst hsn
    have HG := Lib.hid hg
    have hn10 : n ≤ 10 := hg.n10
    have hn1 : 1 ≤ n := hg.n1
    clear hg
    rcases hx : belowB (n : Int) x with _ | _
    all_goals rcases hy : belowB (n : Int) y with _ | _
    all_goals
      go_enter Try.func43, Try.ntmps43
      go_wp2_with fail
      refine (l01Ok_any w.heap.size (n : Int) A m cap xss _ (by go_cell) (by go_cell) H0.out hm HR.out).mono ?_
      rw [hok]
      rintro e w' ⟨rfl, d, rfl⟩
      go_wp2_with fail
      obtain ⟨w1, hw1⟩ : ∃ w1, w1 = (w.alloc (.cells #[.int .i64 (n : Int), .slice A m cap] 27)).drewN d := ⟨_, rfl⟩
      have c0 : w1.cell? ⟨w.heap.size, 0, none⟩ = some (.int .i64 (n : Int)) := by rw [hw1]; exact cell_of_row _ _ 0 _ _ _ (heap_alloc_new _ _)
      have c1 : w1.cell? ⟨w.heap.size, 1, none⟩ = some (.slice A m cap) := by rw [hw1]; exact cell_of_row _ _ 1 _ _ _ (heap_alloc_new _ _)
      have H1 := Lib.hid (show RowsAt w1 A m xss by rw [hw1]; exact H0.out.below (below_drewN' (Below.refl _ _) d))
      have B1 := Lib.hid (show Below w.heap.size w w1 by rw [hw1]; exact below_drewN' B0.out d)
      rw [← hw1]
      clear hw1
      refine (l00In_any x 0 ((n : Int) - 1) w1).mono ?_
      rw [← belowB_inB, hx]
      rintro e w' ⟨rfl, rfl⟩
      go_wp2_with fail
    iterate 2
      · have HF := Lib.hid (mergingWord_2 (x := x) (y := y) hok (by simp [hx]))
        go_ret2
        rw [HF.out]
        exact ⟨_, rfl, own_none w1 _ B1.out.size, B1.out.alloc B1.out.size _⟩
    · have HF := Lib.hid (mergingWord_2 (x := x) (y := y) hok (by simp [hy]))
      refine (l00In_any y 0 ((n : Int) - 1) w1).mono ?_
      rw [← belowB_inB, hy]
      rintro e w' ⟨rfl, rfl⟩
      go_wp2_with fail
      go_ret2
      rw [HF.out]
      exact ⟨_, rfl, own_none w1 _ B1.out.size, B1.out.alloc B1.out.size _⟩
    · refine (l00In_any y 0 ((n : Int) - 1) w1).mono ?_
      rw [← belowB_inB, hy]
      rintro e w' ⟨rfl, rfl⟩
      obtain ⟨p, rfl, hp⟩ := below_nat hx
      obtain ⟨q, rfl, hq⟩ := below_nat hy
      have HF := Lib.hid (mergingWord_0 hok HM.out hx hy)
      have HPB := Lib.hid (pair_bits (show p < 10 by omega) (show q < 10 by omega))
      have i1 : (0 : Int) ≤ (p : Int) := by omega
      have i2 : (0 : Int) ≤ (q : Int) := by omega
      have i3 : (p : Int) < 10 := by omega
      have i4 : (q : Int) < 10 := by omega
      clear hx hy
      go_wp2_with fail
      rw [HPB.out]
      refine (l02Shrink_any w.heap.size n m cap (pairB p q) A xss w1 HG.out H1.out c0 c1 (pair_in hp hq)).mono ?_
      rintro e w3 ⟨u, rfl, ow, b3⟩
      have HO := Lib.hid ow
      have B3 := Lib.hid (below_then B1.out b3)
      have hs2 : w.heap.size ≤ w1.heap.size := B1.out.size
      clear ow b3 c0 c1
      go_wp2_with fail
      refine (l02Told_any u _ (firstF mergedB (fnd n m xss 1024 (pairB p q))) w.heap.size w3 rfl B3.out.size (own_base HO.out hs2)).mono ?_
      rintro e w4 ⟨u', rfl, ow, b4⟩
      have HO4 := Lib.hid ow
      have B4 := Lib.hid (below_then B3.out b4)
      clear ow b4
      go_wp2_with fail
      go_ret2
      rw [HF.out]
      exact ⟨u', rfl, HO4.out, B4.out⟩

set_option maxRecDepth 100000 in
set_option maxHeartbeats 2000000 in
theorem implMergingWord_any (s : Int) (A : Option Addr) (m cap : Nat) (xss : List (List Int)) (x y : Int) (w : World) (h : RowsAt w A m xss) (hm : m ≤ 4611686018427387904)
    (hrows : ∀ (r : Nat) (xs : List Int), xss[r]? = some xs → xs.length ≤ 4611686018427387904) :
    Calls Try.prog 44 #[.agg #[.int .i64 s, .slice A m cap], .int .i64 x, .int .i64 y] w fun e w' => ∃ v, e = .returned (.tuple #[v, .int .i64 (mergingWord s xss x y).2]) ∧ w'.ownsRow w.heap.size 2 1 v (mergingWord s xss x y).1.length ((mergingWord s xss x y).1.map (Value.int .i64)) ∧ Below w.heap.size w w' := by
  have HR := Lib.hid hrows
  have HM := Lib.hid h.1
  have b0 : Below w.heap.size w (w.alloc (.cells #[.int .i64 s, .slice A m cap] 27)) := (Below.refl _ _).alloc (Nat.le_refl _) _
  have H0 := Lib.hid (h.below b0)
  have B0 := Lib.hid b0
  clear hrows b0
  rcases hok : okA s xss with _ | _
  · have HF := Lib.hid (mergingWord_1 (x := x) (y := y) hok)
    go_enter Try.func44, Try.ntmps44
    go_wp2_with fail
    refine (implValid_any s A m cap xss _ H0.out hm HR.out).mono ?_
    rw [hok]
    rintro e w1 ⟨rfl, b1⟩
    have B1 := Lib.hid (below_then B0.out b1)
    clear b1
    go_wp2_with fail
    go_ret2
    rw [HF.out]
    exact ⟨_, rfl, World.ownsRow_nil _ _ _ _, B1.out⟩
  · obtain ⟨n, hsn, hg⟩ := good_of hok HM.out
    subst hsn
    have HG := Lib.hid hg
    have hn10 : n ≤ 10 := hg.n10
    have hn1 : 1 ≤ n := hg.n1
    clear hg
    rcases hx : belowB (n : Int) x with _ | _
    all_goals rcases hy : belowB (n : Int) y with _ | _
    all_goals
      go_enter Try.func44, Try.ntmps44
      go_wp2_with fail
      refine (implValid_any (n : Int) A m cap xss _ H0.out hm HR.out).mono ?_
      rw [hok]
      rintro e w1 ⟨rfl, b1⟩
      have d0 : w1.cell? ⟨w.heap.size, 0, none⟩ = some (.int .i64 (n : Int)) := (b1.cell (by simp)).trans (by go_cell)
      have d1 : w1.cell? ⟨w.heap.size, 1, none⟩ = some (.slice A m cap) := (b1.cell (by simp)).trans (by go_cell)
      have H1 := Lib.hid (H0.out.below b1)
      have B1 := Lib.hid (below_then B0.out b1)
      clear b1
      go_wp2_with fail
      refine (isBelow_any x (n : Int) w1).mono ?_
      rw [hx]
      rintro e w' ⟨rfl, rfl⟩
      go_wp2_with fail
    iterate 2
      · have HF := Lib.hid (mergingWord_2 (x := x) (y := y) hok (by simp [hx]))
        go_ret2
        rw [HF.out]
        exact ⟨_, rfl, World.ownsRow_nil _ _ _ _, B1.out⟩
    · have HF := Lib.hid (mergingWord_2 (x := x) (y := y) hok (by simp [hy]))
      refine (isBelow_any y (n : Int) w1).mono ?_
      rw [hy]
      rintro e w' ⟨rfl, rfl⟩
      go_wp2_with fail
      go_ret2
      rw [HF.out]
      exact ⟨_, rfl, World.ownsRow_nil _ _ _ _, B1.out⟩
    · refine (isBelow_any y (n : Int) w1).mono ?_
      rw [hy]
      rintro e w' ⟨rfl, rfl⟩
      obtain ⟨p, rfl, hp⟩ := below_nat hx
      obtain ⟨q, rfl, hq⟩ := below_nat hy
      have HF := Lib.hid (mergingWord_0 hok HM.out hx hy)
      have HCF := Lib.hid (pair_cut HG.out hp hq)
      obtain ⟨b, hb⟩ : ∃ b, b = pairB p q := ⟨_, rfl⟩
      have hb10 : b < 1024 := by rw [hb]; exact (pair_in hp hq).lt hn10
      have HBB := Lib.hid (show setN [(p : Int), (q : Int)] = b by rw [setN_pair, hb])
      rw [← hb] at HF HCF
      have HPQ := Lib.hid (show ∀ z ∈ [(p : Int), (q : Int)], 0 ≤ z ∧ z < 10 from by simp; omega)
      have r0 : ∀ W', Below w1.heap.size w1 W' → W'.cell? ⟨w.heap.size, 0, none⟩ = some (.int .i64 (n : Int)) := fun W' hb => (hb.cell (cell_lt d0)).trans d0
      have r1 : ∀ W', Below w1.heap.size w1 W' → W'.cell? ⟨w.heap.size, 1, none⟩ = some (.slice A m cap) := fun W' hb => (hb.cell (cell_lt d1)).trans d1
      have h9 : Below w1.heap.size w1 w1 := Below.refl _ _
      clear hx hy hb
      go_wp2_with fail
      go_region_held3 (fun w' => Below w1.heap.size w1 w') (first | assumption | exact below_drewN' (by assumption) _ | exact (h9.alloc (Nat.le_refl _) _).drew | exact h9.drew.alloc (Nat.le_refl _) _)
        (first
          | (go_at_call 80; refine (setOf_any (some ⟨w1.heap.size, 0, none⟩) 2 2 [(p : Int), (q : Int)] _ (by first | exact (nums_two w1 _ _ _).drew | exact nums_two w1.drew _ _ _) HPQ.out (by omega)).mono ?_; rw [HBB.out]; rintro e w3 ⟨rfl, hw3⟩; have h3 : Below w1.heap.size w1 w3 := (by rw [← hw3]; first | exact (h9.alloc (Nat.le_refl _) _).drew | exact h9.drew.alloc (Nat.le_refl _) _); clear hw3)
          | (go_at_call 77; refine (mergingWord_any A n m cap b xss _ HG.out (H1.out.below (by first | assumption | exact below_drewN' (by assumption) _)) hb10).mono ?_; rintro e w4 ⟨u, rfl, ow, b4⟩; have HO := Lib.hid (own_base ow (show w.heap.size ≤ _ from (below_then B1.out (by first | assumption | exact below_drewN' (by assumption) _)).size)); have h4 : Below w1.heap.size w1 w4 := below_then (by first | assumption | exact below_drewN' (by assumption) _) b4; clear b4 ow)
          | fail)
      all_goals
        go_wp2_with fail
        go_ret2
        rw [HF.out, ← HCF.out]
        exact ⟨u, rfl, HO.out, below_then B1.out h4⟩

end Go.Proofs.Ytikhfdpmmkjnlaa
