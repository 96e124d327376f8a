/-
  Where careful words lead: the contracts of l02Bits and of both CarefulImage.
-/
import Derived.Test.YtikimfncpemmkaaCareC
import Derived.Test.YtikimfncpemmkaaMarks
namespace Go.Proofs.Ytikimfncpemmkaa
open Go.RowKit Go.Deep Go.ChangeShapes Go.WideShapes
open Hunt Moved

theorem setN_in {n : Nat} : ∀ (k : Nat) (xs : List Int), xs.length = k → (∀ x ∈ xs, 0 ≤ x ∧ x < (n : Int)) → setN xs < 2 ^ n
  | 0, xs, hl, _ => by rw [List.eq_nil_of_length_eq_zero hl]; exact Nat.pow_pos (by decide)
  | k + 1, xs, hl, hx => by
    obtain ⟨ys, y, rfl⟩ : ∃ ys y, xs = ys ++ [y] := by
      rcases List.eq_nil_or_concat xs with h | ⟨ys, y, h⟩
      · subst h; simp at hl
      · exact ⟨ys, y, by simpa using h⟩
    rw [setN_snoc]
    have h1 := setN_in k ys (by rw [List.length_append] at hl; simp at hl; exact hl) (fun x h => hx x (by simp [h]))
    have h2 := hx y (by simp)
    exact Nat.or_lt_two_pow h1 (Nat.pow_lt_pow_right (by decide) (by omega))

set_option maxRecDepth 100000 in
set_option maxHeartbeats 1000000 in
theorem l02Bits_any (A : Option Addr) (l cap : Nat) (xs : List Int) (w : World) (h : NumsAt w A l xs) (hx : ∀ x ∈ xs, 0 ≤ x ∧ x < 10) (hl : l ≤ 4611686018427387904) :
    Calls Try.prog 80 #[.slice A l cap] w fun e w' => e = .returned (.int .i64 (setN xs : Int)) ∧ w = w' := by
  have HX := Lib.hid hx
  have HL := Lib.hid h.1
  clear hx
  go_enter Try.func80, Try.ntmps80
  go_wp2_with fail
  go_loop [3, 4] (fun u i => ∃ (k c : Nat), k ≤ l ∧ i = .int .i64 k ∧ u = .int .i64 (c : Int) ∧ c = setN (xs.take k)) (fun _ i => l - (intOf i).toNat)
  case atStart => exact ⟨0, 0, Nat.zero_le _, rfl, rfl, rfl⟩
  case round =>
    obtain ⟨k, c, hk, rfl, rfl, hc⟩ := hrel
    have HC := Lib.hid hc
    have hcl : c < 1024 := by rw [hc]; exact setN_lt _ _ rfl (fun x hx => HX.out x (List.mem_of_mem_take hx))
    clear hc
    by_cases hlt : k < l
    · obtain ⟨y, b3, off3, hy, rfl, hcy⟩ := h.at_ hlt
      have hy1 := HX.out y (List.mem_of_getElem? hy)
      obtain ⟨t, rfl⟩ : ∃ t : Nat, y = (t : Int) := ⟨y.toNat, by omega⟩
      have i1 : (0 : Int) ≤ (k : Int) := by omega
      have i2 : (k : Int) < (l : Int) := by omega
      have i3 : (0 : Int) ≤ (t : Int) := by omega
      have i4 : (t : Int) < 10 := by omega
      have HOR := Lib.hid (i64_or_t hcl (show t < 10 by omega))
      have HST := Lib.hid (show setN (xs.take (k + 1)) = c ||| 2 ^ t by rw [take_snoc hy, setN_snoc, ← HC.out, Int.toNat_natCast])
      clear hy hy1
      go_wp2_with fail
      go_round
      case rel => exact ⟨k + 1, setN (xs.take (k + 1)), by omega, by go_num, by rw [HOR.out, HST.out], rfl⟩
      case measure => simp [intOf]; omega
    · have hkn : k = l := by omega
      have HK := Lib.hid hkn
      clear hkn
      go_wp2_with fail
      go_ret
      exact ⟨ret_int (by rw [HC.out, HK.out, List.take_of_length_le (by rw [HL.out]; exact Nat.le_refl _)]), rfl⟩

/-- What CarefulImage answers. -/
def carefulImage (s : Int) (xss : List (List Int)) (set ws : List Int) : List Int × Int :=
  if okP s xss = true then (if setB s set = true then (if isWordB (xss.length : Int) ws = true then (if (carW xss ws (setN set)).2 = true then (listK (carW xss ws (setN set)).1 10, 0) else ([], 4)) else ([], 2)) else ([], 2)) else ([], 1)
theorem carefulImage_len (s : Int) (xss : List (List Int)) (set ws : List Int) : (carefulImage s xss set ws).1.length ≤ 10 := by
  unfold carefulImage
  split
  · split
    · split
      · split
        · unfold listK
          rw [List.length_map]
          exact Nat.le_trans (List.length_filter_le _ _) (by rw [List.length_range]; exact Nat.le_refl _)
        · exact Nat.zero_le _
      · exact Nat.zero_le _
    · exact Nat.zero_le _
  · exact Nat.zero_le _
theorem carefulImage_1 {s : Int} {xss : List (List Int)} {set ws : List Int} (h : okP s xss = false) : carefulImage s xss set ws = ([], 1) := by unfold carefulImage; rw [if_neg (by simp [h])]
theorem carefulImage_2 {s : Int} {xss : List (List Int)} {set ws : List Int} (h : okP s xss = true) (h' : setB s set = false) : carefulImage s xss set ws = ([], 2) := by unfold carefulImage; rw [if_pos h, if_neg (by simp [h'])]
theorem carefulImage_3 {s : Int} {m : Nat} {xss : List (List Int)} {set ws : List Int} (h : okP s xss = true) (hm : xss.length = m) (h' : setB s set = true) (h2 : isWordB (m : Int) ws = false) : carefulImage s xss set ws = ([], 2) := by unfold carefulImage; rw [if_pos h, if_pos h', hm, if_neg (by simp [h2])]
theorem carefulImage_4 {s : Int} {m : Nat} {xss : List (List Int)} {set ws : List Int} {R1 : Nat} (h : okP s xss = true) (hm : xss.length = m) (h' : setB s set = true) (h2 : isWordB (m : Int) ws = true) (hR : carW xss ws (setN set) = (R1, false)) : carefulImage s xss set ws = ([], 4) := by
  unfold carefulImage; rw [if_pos h, if_pos h', hm, if_pos h2, hR, if_neg (by simp)]
theorem carefulImage_0 {s : Int} {m : Nat} {xss : List (List Int)} {set ws : List Int} {R1 : Nat} (h : okP s xss = true) (hm : xss.length = m) (h' : setB s set = true) (h2 : isWordB (m : Int) ws = true) (hR : carW xss ws (setN set) = (R1, true)) : carefulImage s xss set ws = (listK R1 10, 0) := by
  unfold carefulImage; rw [if_pos h, if_pos h', hm, if_pos h2, hR, if_pos rfl]

set_option maxRecDepth 100000 in
set_option maxHeartbeats 4000000 in
theorem specCarefulImage_any (s : Int) (A : Option Addr) (m cap : Nat) (xss : List (List Int)) (A2 : Option Addr) (l2 cap2 : Nat) (set : List Int) (A' : Option Addr) (l cap' : Nat) (ws : List Int) (w : World) (h : RowsAt w A m xss) (hm : m ≤ 4611686018427387904)
    (hrows : ∀ (r : Nat) (xs : List Int), xss[r]? = some xs → xs.length ≤ 4611686018427387904) (hs : NumsAt w A2 l2 set) (hl2 : l2 ≤ 4611686018427387904) (h' : NumsAt w A' l ws) (hl : l ≤ 4611686018427387904) :
    Calls Try.prog 36 #[.agg #[.int .i64 s, .slice A m cap], .slice A2 l2 cap2, .slice A' l cap'] w (ListsTo (carefulImage s xss set ws) w) := by
  have HR := Lib.hid hrows
  have HM := Lib.hid h.1
  have b0 : Below w.heap.size w (w.alloc (.cells #[.int .i64 s, .slice A m cap] 27)) := (Below.refl _ _).alloc (Nat.le_refl _) _
  have H0 := Lib.hid (h.below b0)
  have N0 := Lib.hid (h'.below b0)
  have S0 := Lib.hid (hs.below b0)
  have B0 := Lib.hid b0
  clear hrows b0
  rcases hok : okP s xss with _ | _
  · have HF := Lib.hid (carefulImage_1 (set := set) (ws := ws) hok)
    go_enter Try.func36, Try.ntmps36
    go_wp2_with fail
    refine (l04Ok_any w.heap.size s A m cap xss _ (by go_cell) (by go_cell) H0.out hm HR.out).mono ?_
    rw [hok]
    rintro e w' ⟨rfl, d, rfl⟩
    go_wp2_with fail
    go_ret2
    exact listsTo_mk HF.out (own_none' (by simp) (by simp)) ((below_drewN' B0.out _).alloc (by simp) _)
  · obtain ⟨n, hsn, hg⟩ := goodP_of hok HM.out
    subst hsn
    have HG := Lib.hid hg
    have hm1 : 1 ≤ m := hg.m1
    have hm3 : m ≤ 3 := hg.m3
    have hn10 : n ≤ 10 := hg.n10
    have hn1 : (1 : Int) ≤ (n : Int) := by have := hg.n1; omega
    have hn10' : (n : Int) ≤ 10 := by have := hg.n10; omega
    clear hg
    go_enter Try.func36, Try.ntmps36
    go_wp2_with fail
    refine (l04Ok_any w.heap.size (n : Int) A m cap xss _ (by go_cell) (by go_cell) H0.out hm HR.out).mono ?_
    rw [hok]
    rintro e w1 ⟨rfl, d, hw1⟩
    have b1 : Below (w.alloc (.cells #[.int .i64 (n : Int), .slice A m cap] 27)).heap.size (w.alloc (.cells #[.int .i64 (n : Int), .slice A m cap] 27)) w1 := by rw [hw1]; exact below_drewN' (Below.refl _ _) d
    have x0 : w1.cell? ⟨w.heap.size, 0, none⟩ = some (.int .i64 (n : Int)) := (b1.cell (by simp)).trans (by go_cell)
    have x1 : w1.cell? ⟨w.heap.size, 1, none⟩ = some (.slice A m cap) := (b1.cell (by simp)).trans (by go_cell)
    have H1 := Lib.hid (H0.out.below b1)
    have N1 := Lib.hid (N0.out.below b1)
    have S1 := Lib.hid (S0.out.below b1)
    have B1 := Lib.hid (below_then B0.out b1)
    clear b1 hw1
    go_wp2_with fail
    refine (l04Shape_any (n : Int) m _ (by omega)).mono ?_
    rintro e w2 ⟨X, rfl, b2⟩
    have y0 : w2.cell? ⟨w.heap.size, 0, none⟩ = some (.int .i64 (n : Int)) := (b2.cell (cell_lt x0)).trans x0
    have y1 : w2.cell? ⟨w.heap.size, 1, none⟩ = some (.slice A m cap) := (b2.cell (cell_lt x1)).trans x1
    have H2 := Lib.hid (H1.out.below b2)
    have N2 := Lib.hid (N1.out.below b2)
    have S2 := Lib.hid (S1.out.below b2)
    have B2 := Lib.hid (below_then B1.out b2)
    clear b2 x0 x1
    go_wp2_with fail
    obtain ⟨w3, hw3⟩ : ∃ w3, w3 = w2.alloc (.cells #[.int .i64 (n : Int), .slice X m m] 39) := ⟨_, rfl⟩
    rw [← hw3]
    have b3 : Below w2.heap.size w2 w3 := by rw [hw3]; exact (Below.refl _ _).alloc (Nat.le_refl _) _
    have z0 : w3.cell? ⟨w2.heap.size, 0, none⟩ = some (.int .i64 (n : Int)) := by rw [hw3]; go_cell
    have z1 : w3.cell? ⟨w2.heap.size, 1, none⟩ = some (.slice X m m) := by rw [hw3]; go_cell
    have x0 : w3.cell? ⟨w.heap.size, 0, none⟩ = some (.int .i64 (n : Int)) := (b3.cell (cell_lt y0)).trans y0
    have x1 : w3.cell? ⟨w.heap.size, 1, none⟩ = some (.slice A m cap) := (b3.cell (cell_lt y1)).trans y1
    have H3 := Lib.hid (H2.out.below b3)
    have N3 := Lib.hid (N2.out.below b3)
    have S3 := Lib.hid (S2.out.below b3)
    have B3 := Lib.hid (below_then B2.out b3)
    clear b3 hw3 y0 y1
    refine (l01Set_any w2.heap.size (n : Int) A2 l2 cap2 set _ z0 S3.out hn1 hn10' hl2).mono ?_
    rcases hse : setB (n : Int) set with _ | _
    · have HF := Lib.hid (carefulImage_2 (ws := ws) hok hse)
      rintro e w4 ⟨rfl, d4, rfl⟩
      go_wp2_with fail
      go_ret2
      exact listsTo_mk HF.out (own_none' (by simp) (by have := B3.out.size; simp; omega)) ((below_drewN' B3.out _).alloc (by have := B3.out.size; simp; omega) _)
    · rintro e w4 ⟨rfl, d4, hw4⟩
      have b4 : Below w3.heap.size w3 w4 := by rw [hw4]; exact below_drewN' (Below.refl _ _) d4
      have y0 : w4.cell? ⟨w.heap.size, 0, none⟩ = some (.int .i64 (n : Int)) := (b4.cell (cell_lt x0)).trans x0
      have y1 : w4.cell? ⟨w.heap.size, 1, none⟩ = some (.slice A m cap) := (b4.cell (cell_lt x1)).trans x1
      have z2 : w4.cell? ⟨w2.heap.size, 1, none⟩ = some (.slice X m m) := (b4.cell (cell_lt z1)).trans z1
      have H4 := Lib.hid (H3.out.below b4)
      have N4 := Lib.hid (N3.out.below b4)
      have S4 := Lib.hid (S3.out.below b4)
      have B4 := Lib.hid (below_then B3.out b4)
      clear b4 hw4 x0 x1 z0 z1
      go_wp2_with fail
      refine (l01Word_any w2.heap.size X A' m m l cap' ws _ z2 N4.out hm1 hm3 hl).mono ?_
      rcases hwd : isWordB (m : Int) ws with _ | _
      · have HF := Lib.hid (carefulImage_3 hok HM.out hse hwd)
        rintro e w5 ⟨rfl, d5, rfl⟩
        go_wp2_with fail
        go_ret2
        exact listsTo_mk HF.out (own_none' (by simp) (by have := B4.out.size; simp; omega)) ((below_drewN' B4.out _).alloc (by have := B4.out.size; simp; omega) _)
      · have HWL := Lib.hid (letters_of hwd)
        have HSM := Lib.hid (setB_mem hse)
        have HSM10 := Lib.hid (show ∀ x ∈ set, 0 ≤ x ∧ x < 10 from fun x hx => by have := HSM.out x hx; omega)
        rintro e w5 ⟨rfl, d5, hw5⟩
        have b5 : Below w4.heap.size w4 w5 := by rw [hw5]; exact below_drewN' (Below.refl _ _) d5
        have x0 : w5.cell? ⟨w.heap.size, 0, none⟩ = some (.int .i64 (n : Int)) := (b5.cell (cell_lt y0)).trans y0
        have x1 : w5.cell? ⟨w.heap.size, 1, none⟩ = some (.slice A m cap) := (b5.cell (cell_lt y1)).trans y1
        have H5 := Lib.hid (H4.out.below b5)
        have N5 := Lib.hid (N4.out.below b5)
        have S5 := Lib.hid (S4.out.below b5)
        have B5 := Lib.hid (below_then B4.out b5)
        obtain ⟨b, hb⟩ : ∃ b, b = setN set := ⟨_, rfl⟩
        have HBB := Lib.hid hb
        have HBN := Lib.hid (show b < 2 ^ n by rw [hb]; exact setN_in _ set rfl HSM.out)
        obtain ⟨R, hR⟩ : ∃ R, R = carW xss ws b := ⟨_, rfl⟩
        have HRR := Lib.hid hR
        have HR10 := Lib.hid (show R.1 < 1024 by rw [hR]; exact Nat.lt_of_lt_of_le (carW_in HG.out ws b HWL.out HBN.out) (pow_le hn10))
        have HF4 := Lib.hid (fun R1 (hh : carW xss ws (setN set) = (R1, false)) => carefulImage_4 hok HM.out hse hwd hh)
        have HF0 := Lib.hid (fun R1 (hh : carW xss ws (setN set) = (R1, true)) => carefulImage_0 hok HM.out hse hwd hh)
        clear b5 hw5 y0 y1 z2 hb hR
        go_wp2_with fail
        refine (l02Bits_any A2 l2 cap2 set _ S5.out HSM10.out hl2).mono ?_
        rw [← HBB.out]
        rintro e w6 ⟨rfl, rfl⟩
        go_wp2_with fail
        refine (l04Moved_any w.heap.size A A' n m cap l cap' b xss ws _ HG.out x0 x1 H5.out N5.out HWL.out hl HBN.out).mono ?_
        rw [← HRR.out]
        obtain ⟨R1, R2⟩ := R
        rintro e w6 ⟨rfl, rfl⟩
        rcases R2 with _ | _
        · have HE := Lib.hid (HF4.out R1 (by rw [← HBB.out, ← HRR.out]))
          go_wp2_with fail
          go_ret2
          exact listsTo_mk HE.out (own_none' (by simp) (by have := B5.out.size; simp; omega)) ((B5.out).alloc (by have := B5.out.size; simp; omega) _)
        · have HE := Lib.hid (HF0.out R1 (by rw [← HBB.out, ← HRR.out]))
          go_wp2_with fail
          refine (l02Set_any R1 _ HR10.out).mono ?_
          rintro e w7 ⟨u, rfl, o7, b7⟩
          have O7 := Lib.hid o7
          have B7 := Lib.hid b7
          clear o7 b7
          go_wp2_with fail
          go_ret2
          exact listsTo_mk HE.out (own_base O7.out B5.out.size) (below_then B5.out B7.out)

set_option maxRecDepth 100000 in
set_option maxHeartbeats 4000000 in
theorem implCarefulImage_any (s : Int) (A : Option Addr) (m cap : Nat) (xss : List (List Int)) (A2 : Option Addr) (l2 cap2 : Nat) (set : List Int) (A' : Option Addr) (l cap' : Nat) (ws : List Int) (w : World) (h : RowsAt w A m xss) (hm : m ≤ 4611686018427387904)
    (hrows : ∀ (r : Nat) (xs : List Int), xss[r]? = some xs → xs.length ≤ 4611686018427387904) (hs : NumsAt w A2 l2 set) (hl2 : l2 ≤ 4611686018427387904) (h' : NumsAt w A' l ws) (hl : l ≤ 4611686018427387904) :
    Calls Try.prog 37 #[.agg #[.int .i64 s, .slice A m cap], .slice A2 l2 cap2, .slice A' l cap'] w (ListsTo (carefulImage s xss set ws) w) := by
  have HR := Lib.hid hrows
  have HM := Lib.hid h.1
  have b0 : Below w.heap.size w (w.alloc (.cells #[.int .i64 s, .slice A m cap] 27)) := (Below.refl _ _).alloc (Nat.le_refl _) _
  have H0 := Lib.hid (h.below b0)
  have N0 := Lib.hid (h'.below b0)
  have S0 := Lib.hid (hs.below b0)
  have B0 := Lib.hid b0
  clear hrows b0
  rcases hok : okP s xss with _ | _
  · have HF := Lib.hid (carefulImage_1 (set := set) (ws := ws) hok)
    go_enter Try.func37, Try.ntmps37
    go_wp2_with fail
    refine (implValidPartial_any s A m cap xss _ H0.out hm HR.out).mono ?_
    rw [hok]
    rintro e w1 ⟨rfl, b1⟩
    have B1 := Lib.hid (below_then B0.out b1)
    clear b1
    go_wp2_with fail
    go_ret2
    exact listsTo_mk HF.out (World.ownsRow_nil _ _ _ _) B1.out
  · obtain ⟨n, hsn, hg⟩ := goodP_of hok HM.out
    subst hsn
    have HG := Lib.hid hg
    have hn10 : n ≤ 10 := hg.n10
    clear hg
    go_enter Try.func37, Try.ntmps37
    go_wp2_with fail
    refine (implValidPartial_any (n : Int) A m cap xss _ H0.out hm HR.out).mono ?_
    rw [hok]
    rintro e w1 ⟨rfl, b1⟩
    have d0 : w1.cell? ⟨w.heap.size, 0, none⟩ = some (.int .i64 (n : Int)) := (b1.cell (by simp)).trans (by go_cell)
    have d1 : w1.cell? ⟨w.heap.size, 1, none⟩ = some (.slice A m cap) := (b1.cell (by simp)).trans (by go_cell)
    have H1 := Lib.hid (H0.out.below b1)
    have N1 := Lib.hid (N0.out.below b1)
    have S1 := Lib.hid (S0.out.below b1)
    have B1 := Lib.hid (below_then B0.out b1)
    clear b1
    go_wp2_with fail
    refine (isSet_any (n : Int) A2 l2 cap2 set _ S1.out hl2).mono ?_
    rcases hse : setB (n : Int) set with _ | _
    · have HF := Lib.hid (carefulImage_2 (ws := ws) hok hse)
      rintro e w2 ⟨rfl, rfl⟩
      go_wp2_with fail
      go_ret2
      exact listsTo_mk HF.out (World.ownsRow_nil _ _ _ _) B1.out
    · rintro e w2 ⟨rfl, rfl⟩
      go_wp2_with fail
      refine (isLetterList_any (n : Int) A A' m cap l cap' ws _ N1.out hm hl).mono ?_
      rcases hwd : isWordB (m : Int) ws with _ | _
      · have HF := Lib.hid (carefulImage_3 hok HM.out hse hwd)
        rintro e w2 ⟨rfl, b2⟩
        have B2 := Lib.hid (below_then B1.out b2)
        clear b2
        go_wp2_with fail
        go_ret2
        exact listsTo_mk HF.out (World.ownsRow_nil _ _ _ _) B2.out
      · have HWL := Lib.hid (letters_of hwd)
        have HSM := Lib.hid (setB_mem hse)
        have HSM10 := Lib.hid (show ∀ x ∈ set, 0 ≤ x ∧ x < 10 from fun x hx => by have := HSM.out x hx; omega)
        rintro e w2 ⟨rfl, b2⟩
        have d0 : w2.cell? ⟨w.heap.size, 0, none⟩ = some (.int .i64 (n : Int)) := (b2.cell (cell_lt d0)).trans d0
        have d1 : w2.cell? ⟨w.heap.size, 1, none⟩ = some (.slice A m cap) := (b2.cell (cell_lt d1)).trans d1
        have r0 : ∀ W', Below w2.heap.size w2 W' → W'.cell? ⟨w.heap.size, 0, none⟩ = some (.int .i64 (n : Int)) := fun W' hb => (hb.cell (cell_lt d0)).trans d0
        have r1 : ∀ W', Below w2.heap.size w2 W' → W'.cell? ⟨w.heap.size, 1, none⟩ = some (.slice A m cap) := fun W' hb => (hb.cell (cell_lt d1)).trans d1
        have H2 := Lib.hid (H1.out.below b2)
        have N2 := Lib.hid (N1.out.below b2)
        have S2 := Lib.hid (S1.out.below b2)
        have B2 := Lib.hid (below_then B1.out b2)
        have h9 : Below w2.heap.size w2 w2 := Below.refl _ _
        obtain ⟨b, hb⟩ : ∃ b, b = setN set := ⟨_, rfl⟩
        have HBB := Lib.hid hb
        have HBN := Lib.hid (show b < 2 ^ n by rw [hb]; exact setN_in _ set rfl HSM.out)
        obtain ⟨R, hR⟩ : ∃ R, R = carW xss ws b := ⟨_, rfl⟩
        have HRR := Lib.hid hR
        have HR10 := Lib.hid (show R.1 < 1024 by rw [hR]; exact Nat.lt_of_lt_of_le (carW_in HG.out ws b HWL.out HBN.out) (pow_le hn10))
        have HF4 := Lib.hid (fun R1 (hh : carW xss ws (setN set) = (R1, false)) => carefulImage_4 hok HM.out hse hwd hh)
        have HF0 := Lib.hid (fun R1 (hh : carW xss ws (setN set) = (R1, true)) => carefulImage_0 hok HM.out hse hwd hh)
        obtain ⟨R1, R2⟩ := R
        clear b2 hb hR hwd hse hok
        go_wp2_with fail
        go_region_held3 (fun w' => Below w2.heap.size w2 w') (first | assumption | exact below_drewN' (by assumption) _)
          (first
            | (go_at_call 84; refine (setOf_any A2 l2 cap2 set _ (S2.out.below (by first | assumption | exact below_drewN' (by assumption) _)) HSM10.out hl2).mono ?_; rw [← HBB.out]; rintro e w3 ⟨rfl, h3e⟩; have h3 : Below w2.heap.size w2 w3 := (by rw [← h3e]; first | assumption | exact below_drewN' (by assumption) _); clear h3e)
            | (go_at_call 85; refine (carefullyAfterWord_any A A' n m cap l cap' b xss ws _ HG.out (H2.out.below (by first | assumption | exact below_drewN' (by assumption) _)) (N2.out.below (by first | assumption | exact below_drewN' (by assumption) _)) HWL.out hl HBN.out).mono ?_; rw [← HRR.out]; rintro e w4 ⟨rfl, b4⟩; have h4 : Below w2.heap.size w2 w4 := below_then (by first | assumption | exact below_drewN' (by assumption) _) b4; clear b4))
        rcases R2 with _ | _
        · have HE := Lib.hid (HF4.out R1 (by rw [← HBB.out, ← HRR.out]))
          go_wp2_with fail
          go_ret2
          exact listsTo_mk HE.out (World.ownsRow_nil _ _ _ _) (below_then B2.out (by assumption))
        · have HE := Lib.hid (HF0.out R1 (by rw [← HBB.out, ← HRR.out]))
          go_wp2_with fail
          refine (setList_any R1 _ HR10.out).mono ?_
          rintro e w7 ⟨u, rfl, o7, b7⟩
          have O7 := Lib.hid o7
          have B7 := Lib.hid b7
          clear o7 b7
          go_wp2_with fail
          go_ret2
          exact listsTo_mk HE.out (own_base O7.out (below_then B2.out (by assumption)).size) (below_then (below_then B2.out (by assumption)) B7.out)

end Go.Proofs.Ytikimfncpemmkaa
