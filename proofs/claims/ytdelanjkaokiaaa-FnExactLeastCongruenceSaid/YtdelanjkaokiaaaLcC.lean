/-
  The least congruence: what LeastCongruence answers; both contracts.
-/
import Derived.Test.YtdelanjkaokiaaaLcS
import Derived.Test.YtdelanjkaokiaaaAll
import Derived.Test.YtdelanjkaokiaaaClone
namespace Go.Proofs.Ytdelanjkaokiaaa
open Go.RowKit Go.Deep Go.ChangeShapes Go.WideShapes

/-- Labels with the classes of s and t, and of all states to which letters lead from them, put together. -/
def joinF (m : Nat) (xss : List (List Int)) : Nat → List Int → Nat → Nat → List Int
  | 0, L, _, _ => L
  | N + 1, L, s, t => if lab L s = lab L t then L else (List.range m).foldl (fun L x => joinF m xss N L (nx xss x s) (nx xss x t)) (mergeL L (lab L t) (lab L s))
theorem joinF_join {n m : Nat} {xss : List (List Int)} (hg : Good n m xss) : ∀ (N : Nat) (L : List Int) (s t : Nat), cntL n L ≤ N → Labs n L → s < n → t < n → Join n m xss s t L (joinF m xss N L s t)
  | 0, L, s, t, hc, hl, hs, ht => by
    by_cases h : lab L s = lab L t
    · exact Join.refl hl h
    · exfalso
      have := (Mid.start (m := m) (xss := xss) hl hs ht h).less
      omega
  | N + 1, L, s, t, hc, hl, hs, ht => by
    unfold joinF
    by_cases h : lab L s = lab L t
    · rw [if_pos h]; exact Join.refl hl h
    · rw [if_neg h]
      have key : ∀ k, k ≤ m → Mid n m xss s t L k ((List.range k).foldl (fun L x => joinF m xss N L (nx xss x s) (nx xss x t)) (mergeL L (lab L t) (lab L s))) := by
        intro k
        induction k with
        | zero => intro _; exact Mid.start hl hs ht h
        | succ k ih =>
          intro hk
          have h1 := ih (by omega)
          rw [List.range_succ, List.foldl_append]
          have hin : ∀ u, u < n → nx xss k u < n := fun u hu => hg.to [(k : Int)] u (fun z hz => by rw [List.mem_singleton.1 hz]; omega) hu
          exact Mid.step hg (by omega) hs ht h1 (joinF_join hg N _ _ _ (by have := h1.less; omega) h1.labs (hin s hs) (hin t ht))
      exact Mid.stop hg hs ht (key m (Nat.le_refl _))
def leastF (n m : Nat) (xss : List (List Int)) (s t : Nat) : List Int := joinF m xss n (allL n) s t
theorem leastF_is {n m s t : Nat} {xss : List (List Int)} (hg : Good n m xss) (hs : s < n) (ht : t < n) : LeastL n m xss s t (leastF n m xss s t) :=
  Join.least (joinF_join hg n _ s t (cntL_le _ _) (allL_labs n) hs ht)

/-- What LeastCongruence answers. -/
def leastCongruence (s : Int) (xss : List (List Int)) (x y : Int) : List Int × Int :=
  if okA s xss = true then (if (belowB s x && belowB s y) = true then (tidL (leastF s.toNat xss.length xss x.toNat y.toNat), 0) else ([], 2)) else ([], 1)
theorem leastCongruence_1 {s : Int} {xss : List (List Int)} {x y : Int} (h : okA s xss = false) : leastCongruence s xss x y = ([], 1) := by unfold leastCongruence; rw [if_neg (by simp [h])]
theorem leastCongruence_2 {s : Int} {xss : List (List Int)} {x y : Int} (h : okA s xss = true) (h' : belowB s x = false) : leastCongruence s xss x y = ([], 2) := by unfold leastCongruence; rw [if_pos h, if_neg (by simp [h'])]
theorem leastCongruence_3 {s : Int} {xss : List (List Int)} {x y : Int} (h : okA s xss = true) (h' : belowB s y = false) : leastCongruence s xss x y = ([], 2) := by unfold leastCongruence; rw [if_pos h, if_neg (by simp [h'])]
theorem leastCongruence_0 {n m x y : Nat} {xss : List (List Int)} {L : List Int} (h : okA (n : Int) xss = true) (hg : Good n m xss) (hx : x < n) (hy : y < n) (hL : LeastL n m xss x y L) : leastCongruence (n : Int) xss (x : Int) (y : Int) = (tidL L, 0) := by
  unfold leastCongruence
  rw [if_pos h, belowB_t (by omega), belowB_t (by omega), if_pos (by rfl), Int.toNat_natCast, Int.toNat_natCast, Int.toNat_natCast, hg.letters, (leastF_is hg hx hy).tid hL]
theorem leastCongruence_len (s : Int) (xss : List (List Int)) (x y : Int) : (leastCongruence s xss x y).1.length ≤ 10 := by
  unfold leastCongruence
  by_cases h1 : okA s xss = true
  · rw [if_pos h1]
    by_cases h2 : (belowB s x && belowB s y) = true
    · rw [if_pos h2]
      obtain ⟨n, rfl, hg⟩ := good_of h1 rfl
      simp only [Bool.and_eq_true, belowB, decide_eq_true_eq] at h2
      show (tidL _).length ≤ 10
      rw [tidL_len, Int.toNat_natCast, (leastF_is hg (s := x.toNat) (t := y.toNat) (by omega) (by omega)).labs.len]
      exact hg.n10
    · rw [if_neg h2]; exact Nat.zero_le _
  · rw [if_neg h1]; exact Nat.zero_le _

set_option maxRecDepth 100000 in
set_option maxHeartbeats 2000000 in
theorem specLeastCongruence_any (s : Int) (A : Option Addr) (m cap : Nat) (xss : List (List Int)) (x y : Int) (w : World) (h : RowsAt w A m xss) (hm : m ≤ 4611686018427387904)
    (hrows : ∀ (r : Nat) (xs : List Int), xss[r]? = some xs → xs.length ≤ 4611686018427387904) :
    Calls Try.prog 33 #[.agg #[.int .i64 s, .slice A m cap], .int .i64 x, .int .i64 y] w (ListsTo (leastCongruence s xss x y) w) := by
  have HR := Lib.hid hrows
  have HM := Lib.hid h.1
  obtain ⟨R, hR⟩ : ∃ R, R = leastCongruence s xss x y := ⟨_, rfl⟩
  rw [← hR]
  have HRR := Lib.hid hR
  obtain ⟨w1, hw1⟩ : ∃ w1, w1 = w.alloc (.cells #[.int .i64 s, .slice A m cap] 31) := ⟨_, rfl⟩
  have b1 : Below w.heap.size w w1 := by rw [hw1]; exact (Below.refl _ _).alloc (Nat.le_refl _) _
  have X1 := Lib.hid (show Box w1 w.heap.size [.int .i64 s, .slice A m cap] by rw [hw1]; exact Box.new _ _ _)
  have HX1 := Lib.hid (h.below b1)
  have W1 := Lib.hid b1
  have HW := Lib.hid hw1
  clear h hrows hR b1 hw1
  go_enter Try.func33, Try.ntmps33
  go_wp2_with fail
  rw [← HW.out]
  refine (l01Ok_any w.heap.size s A m cap xss w1 (X1.out 0 _ rfl) (X1.out 1 _ rfl) HX1.out hm HR.out).mono ?_
  rintro e w2 ⟨rfl, k2, hk2⟩
  have b2 : Below w1.heap.size w1 w2 := by rw [hk2]; exact below_drewN' (Below.refl _ _) _
  have X2 := Lib.hid (Box.below X1.out b2)
  have HX2 := Lib.hid (HX1.out.below b2)
  have W2 := Lib.hid (below_then W1.out b2)
  clear b2 hk2
  rcases hok : okA s xss with _ | _
  · have HF := Lib.hid (HRR.out.trans (leastCongruence_1 hok))
    go_wp2_with fail
    go_ret2
    exact listsTo_mk (xs := []) HF.out (own_none' rfl W2.out.size) (W2.out.alloc W2.out.size _)
  · obtain ⟨n, hsn, hg⟩ := good_of hok HM.out
    subst hsn
    have HG := Lib.hid hg
    have HOK := Lib.hid hok
    have hn10 : n ≤ 10 := hg.n10
    have hn1 : 1 ≤ n := hg.n1
    have hsub : IntKind.i64.wrap ((n : Int) - 1) = (n : Int) - 1 := IntWalk.i64_in _ (by omega)
    have q0 := X2.out 0 _ rfl
    clear hg hok
    rcases hx : inB 0 ((n : Int) - 1) x with _ | _
    · have HF := Lib.hid (HRR.out.trans (leastCongruence_2 (y := y) HOK.out (by rw [belowB_inB]; exact hx)))
      go_wp2_with fail
      refine (l00In_any _ _ _ _).mono ?_
      rw [hx]
      rintro e w' ⟨rfl, rfl⟩
      go_wp2_with fail
      go_ret2
      exact listsTo_mk (xs := []) HF.out (own_none' rfl W2.out.size) (W2.out.alloc W2.out.size _)
    · rcases hy : inB 0 ((n : Int) - 1) y with _ | _
      · have HF := Lib.hid (HRR.out.trans (leastCongruence_3 (x := x) HOK.out (by rw [belowB_inB]; exact hy)))
        go_wp2_with fail
        refine (l00In_any _ _ _ _).mono ?_
        rw [hx]
        rintro e w' ⟨rfl, rfl⟩
        go_wp2_with fail
        refine (l00In_any _ _ _ _).mono ?_
        rw [hy]
        rintro e w' ⟨rfl, rfl⟩
        go_wp2_with fail
        go_ret2
        exact listsTo_mk (xs := []) HF.out (own_none' rfl W2.out.size) (W2.out.alloc W2.out.size _)
      · have hx' : 0 ≤ x ∧ x ≤ (n : Int) - 1 := by simpa [inB] using hx
        have hy' : 0 ≤ y ∧ y ≤ (n : Int) - 1 := by simpa [inB] using hy
        obtain ⟨x, rfl⟩ : ∃ z : Nat, x = (z : Int) := ⟨x.toNat, by omega⟩
        obtain ⟨y, rfl⟩ : ∃ z : Nat, y = (z : Int) := ⟨y.toNat, by omega⟩
        have HXN := Lib.hid (show x < n by omega)
        have HYN := Lib.hid (show y < n by omega)
        go_wp2_with fail
        refine (l00In_any _ _ _ _).mono ?_
        rw [hx]
        rintro e w' ⟨rfl, rfl⟩
        go_wp2_with fail
        refine (l00In_any _ _ _ _).mono ?_
        rw [hy]
        rintro e w' ⟨rfl, rfl⟩
        clear hx hy hx' hy' hsub
        go_wp2_with fail
        refine (l01All_any n w2 hn10).mono ?_
        rintro e w3 ⟨v, rfl, o3, b3⟩
        rw [allL_len] at o3
        obtain ⟨A9, c9, rfl⟩ := own_form o3
        obtain ⟨G, rfl⟩ := own_addr o3 (by omega)
        have O3 := Lib.hid o3
        have B3 := Lib.hid b3
        clear o3 b3 q0
        go_wp2_with fail
        refine (l01Merge_any w2.heap.size G c9 n (allL n) (x : Int) (y : Int) w3 O3.out (allL_len n) hn10).mono ?_
        rintro e w4 ⟨rfl, o4, on4⟩
        have O4 := Lib.hid o4
        have B4 := Lib.hid (Only.below B3.out on4 (O3.out.lt G rfl).1 B3.out.size)
        clear o4 on4
        go_wp2_with fail
        refine (l01Least_any w2 w.heap.size A n m cap xss G c9 x y _ w4 HG.out X2.out HX2.out HXN.out HYN.out (Gro.start HXN.out HYN.out) B4.out O4.out).mono ?_
        rintro e w5 ⟨v, L, rfl, hL, o5, b5⟩
        have HF := Lib.hid (HRR.out.trans (leastCongruence_0 HOK.out HG.out HXN.out HYN.out hL))
        have hlen : (tidL L).length = n := by rw [tidL_len, hL.labs.len]
        have O5 := Lib.hid (show w5.ownsRow w.heap.size 2 1 v (tidL L).length ((tidL L).map (Value.int .i64)) by rw [hlen]; exact own_base o5 W2.out.size)
        have B5 := Lib.hid (below_then W2.out b5)
        clear hL hlen o5 b5
        go_wp2_with fail
        go_ret2
        exact listsTo_mk HF.out O5.out B5.out

theorem idA_take : ∀ n, n < 11 → idA.take n = allL n := by decide

set_option maxRecDepth 100000 in
set_option maxHeartbeats 2000000 in
theorem implLeastCongruence_any (s : Int) (A : Option Addr) (m cap : Nat) (xss : List (List Int)) (x y : Int) (w : World) (h : RowsAt w A m xss) (hm : m ≤ 4611686018427387904)
    (hrows : ∀ (r : Nat) (xs : List Int), xss[r]? = some xs → xs.length ≤ 4611686018427387904) :
    Calls Try.prog 34 #[.agg #[.int .i64 s, .slice A m cap], .int .i64 x, .int .i64 y] w (ListsTo (leastCongruence s xss x y) w) := by
  have HR := Lib.hid hrows
  have HM := Lib.hid h.1
  obtain ⟨R, hR⟩ : ∃ R, R = leastCongruence s xss x y := ⟨_, rfl⟩
  rw [← hR]
  have HRR := Lib.hid hR
  obtain ⟨w1, hw1⟩ : ∃ w1, w1 = w.alloc (.cells #[.int .i64 s, .slice A m cap] 31) := ⟨_, rfl⟩
  have b1 : Below w.heap.size w w1 := by rw [hw1]; exact (Below.refl _ _).alloc (Nat.le_refl _) _
  have X1 := Lib.hid (show Box w1 w.heap.size [.int .i64 s, .slice A m cap] by rw [hw1]; exact Box.new _ _ _)
  have HX1 := Lib.hid (h.below b1)
  have W1 := Lib.hid b1
  have HW := Lib.hid hw1
  clear h hrows hR b1 hw1
  go_enter Try.func34, Try.ntmps34
  go_upto_region 1 with fail
  rw [← HW.out]
  have q0 := X1.out 0 _ rfl
  have q1 := X1.out 1 _ rfl
  go_wp2_with fail
  refine (implValid_any s A m cap xss w1 HX1.out hm HR.out).mono ?_
  rintro e w2 ⟨rfl, b2⟩
  have X2 := Lib.hid (Box.below X1.out b2)
  have HX2 := Lib.hid (HX1.out.below b2)
  have W2 := Lib.hid (below_then W1.out b2)
  clear b2 q0 q1
  rcases hok : okA s xss with _ | _
  · have HF := Lib.hid (HRR.out.trans (leastCongruence_1 hok))
    go_wp2_with fail
    go_ret2
    exact listsTo_mk (xs := []) HF.out (World.ownsRow_nil _ _ _ _) W2.out
  · obtain ⟨n, hsn, hg⟩ := good_of hok HM.out
    subst hsn
    have HG := Lib.hid hg
    have HOK := Lib.hid hok
    have hn10 : n ≤ 10 := hg.n10
    have hn1 : 1 ≤ n := hg.n1
    have q0 := X2.out 0 _ rfl
    have q1 := X2.out 1 _ rfl
    clear hg hok
    rcases hx : belowB (n : Int) x with _ | _
    · have HF := Lib.hid (HRR.out.trans (leastCongruence_2 (y := y) HOK.out hx))
      go_wp2_with fail
      refine (isBelow_any _ _ _).mono ?_
      rw [hx]
      rintro e w' ⟨rfl, rfl⟩
      go_wp2_with fail
      go_ret2
      exact listsTo_mk (xs := []) HF.out (World.ownsRow_nil _ _ _ _) W2.out
    · rcases hy : belowB (n : Int) y with _ | _
      · have HF := Lib.hid (HRR.out.trans (leastCongruence_3 (x := x) HOK.out hy))
        go_wp2_with fail
        refine (isBelow_any _ _ _).mono ?_
        rw [hx]
        rintro e w' ⟨rfl, rfl⟩
        go_wp2_with fail
        refine (isBelow_any _ _ _).mono ?_
        rw [hy]
        rintro e w' ⟨rfl, rfl⟩
        go_wp2_with fail
        go_ret2
        exact listsTo_mk (xs := []) HF.out (World.ownsRow_nil _ _ _ _) W2.out
      · have hx' : 0 ≤ x ∧ x < (n : Int) := by simpa [belowB] using hx
        have hy' : 0 ≤ y ∧ y < (n : Int) := by simpa [belowB] using hy
        obtain ⟨x, rfl⟩ : ∃ z : Nat, x = (z : Int) := ⟨x.toNat, by omega⟩
        obtain ⟨y, rfl⟩ : ∃ z : Nat, y = (z : Int) := ⟨y.toNat, by omega⟩
        have HXN := Lib.hid (show x < n by omega)
        have HYN := Lib.hid (show y < n by omega)
        have R0 := Lib.hid (show ∀ W', Below w2.heap.size w2 W' → W'.cell? ⟨w.heap.size, 0, none⟩ = some (.int .i64 (n : Int)) from fun W' hb => (hb.cell (cell_lt q0)).trans q0)
        go_wp2_with fail
        refine (isBelow_any _ _ _).mono ?_
        rw [hx]
        rintro e w' ⟨rfl, rfl⟩
        go_wp2_with fail
        refine (isBelow_any _ _ _).mono ?_
        rw [hy]
        rintro e w' ⟨rfl, rfl⟩
        clear hx hy hx' hy'
        go_wp2_with fail
        go_region_law
          (first
            | (go_simp; go_at_call 77; refine (identity_any _).mono ?_; rintro e wi ⟨rfl, bi⟩; have CI : Hid (Below w2.heap.size w2 wi) := Lib.hid (below_then (below_drewN' (Below.refl _ _) 1) bi); have qi := R0.out wi CI.out; clear bi)
            | (go_simp; go_at_call 78; refine (list_any n idA _ rfl hn10).mono ?_; rw [idA_take n (by omega)]; rintro e w3 ⟨v, rfl, o3, b3⟩; have O3 := Lib.hid (own_base o3 CI.out.size); have B3 : Hid (Below w2.heap.size w2 w3) := Lib.hid (below_then CI.out b3); clear o3 b3)
            | fail)
        all_goals
          obtain ⟨A9, c9, rfl⟩ := own_form O3.out
          obtain ⟨G, rfl⟩ := own_addr O3.out (by omega)
          have X3 := Lib.hid (Box.below X2.out B3.out)
          have q0' := X3.out 0 _ rfl
          have q1' := X3.out 1 _ rfl
          go_simp
          go_wp2_with fail
          refine (joinStates_any w2 A n m cap xss G c9 HG.out HX2.out n (allL n) x y w3 (cntL_le _ _) (allL_labs n) HXN.out HYN.out B3.out O3.out).mono ?_
          rintro e w4 ⟨rfl, L, hj, o4, on4⟩
          have hL := Join.least hj
          have HF := Lib.hid (HRR.out.trans (leastCongruence_0 HOK.out HG.out HXN.out HYN.out hL))
          have hlen : (tidL L).length = n := by rw [tidL_len, hL.labs.len]
          have HLEN := Lib.hid hlen
          have HLL := Lib.hid hL.labs.len
          have B4 := Lib.hid (Only.below B3.out on4 (O3.out.lt G rfl).1 B3.out.size)
          have N4 := Lib.hid (NumsAt.own o4 hL.labs.len rfl)
          clear hj hL hlen o4 on4 q0' q1'
          go_wp2_with fail
          refine (divisionOf_any (some ⟨G, 0, none⟩) n c9 L w4 N4.out (by omega)).mono ?_
          rintro e w5 ⟨v, rfl, o5, b5⟩
          have B5 := Lib.hid (below_then W2.out (below_then B4.out b5))
          have O5 := Lib.hid (show w5.ownsRow w.heap.size 2 1 v (tidL L).length ((tidL L).map (Value.int .i64)) by rw [HLEN.out]; exact own_base o5 (Nat.le_trans W2.out.size B4.out.size))
          clear o5 b5
          go_wp2_with fail
          go_ret2
          exact listsTo_mk HF.out O5.out B5.out

end Go.Proofs.Ytdelanjkaokiaaa
