/-
  Depths of sets, the model's: the contracts of l02Bits, l00Max, l08Worst.
-/
import Derived.Test.YtdelanjkaokiaaaBel
import Derived.Test.YtdelanjkaokiaaaMoved
namespace Go.Proofs.Ytdelanjkaokiaaa
open Go.RowKit Go.Deep Go.ChangeShapes Go.WideShapes

theorem i64_or_tD {c t : Nat} (hc : c < 1024) (ht : t < 10) : bits .or .i64 (c : Int) (wrap64 (2 ^ t)) = ((c ||| 2 ^ t : Nat) : Int) := by
  have ht9 : 2 ^ t ≤ 2 ^ 9 := Nat.pow_le_pow_right (by decide) (by omega)
  have e3 : ((2 : Int) ^ t) = ((2 ^ t : Nat) : Int) := by push_cast; rfl
  rw [e3, Moved.wrap_512 (Nat.le_trans ht9 (by decide)), Moved.i64_or_nat c _ (by omega) (by omega)]

set_option maxRecDepth 100000 in
set_option maxHeartbeats 1000000 in
theorem l02BitsD_any (A : Option Addr) (l cap : Nat) (xs : List Int) (w : World) (h : NumsAt w A l xs) (hx : ∀ x ∈ xs, 0 ≤ x ∧ x < 10) (hl : l ≤ 4611686018427387904) :
    Calls Try.prog 51 #[.slice A l cap] w fun e w' => e = .returned (.int .i64 (setN xs : Int)) ∧ w = w' := by
  have HX := Lib.hid hx
  have HL := Lib.hid h.1
  clear hx
  go_enter Try.func51, Try.ntmps51
  go_wp2_with fail
  go_loop [3, 4] (fun u i => ∃ (k c : Nat), k ≤ l ∧ i = .int .i64 k ∧ u = .int .i64 (c : Int) ∧ c = setN (xs.take k)) (fun _ i => l - (intOf i).toNat)
  case atStart => exact ⟨0, 0, Nat.zero_le _, rfl, rfl, rfl⟩
  case round =>
    obtain ⟨k, c, hk, rfl, rfl, hc⟩ := hrel
    have HC := Lib.hid hc
    have hcl : c < 1024 := by rw [hc]; exact setN_lt _ _ rfl (fun x hx => HX.out x (List.mem_of_mem_take hx))
    clear hc
    by_cases hlt : k < l
    · obtain ⟨y, b3, off3, hy, rfl, hcy⟩ := h.at_ hlt
      have hy1 := HX.out y (List.mem_of_getElem? hy)
      obtain ⟨t, rfl⟩ : ∃ t : Nat, y = (t : Int) := ⟨y.toNat, by omega⟩
      have i1 : (0 : Int) ≤ (k : Int) := by omega
      have i2 : (k : Int) < (l : Int) := by omega
      have i3 : (0 : Int) ≤ (t : Int) := by omega
      have i4 : (t : Int) < 10 := by omega
      have HOR := Lib.hid (i64_or_tD hcl (show t < 10 by omega))
      have HST := Lib.hid (show setN (xs.take (k + 1)) = c ||| 2 ^ t by rw [take_snoc hy, setN_snoc, ← HC.out, Int.toNat_natCast])
      clear hy hy1
      go_wp2_with fail
      go_round
      case rel => exact ⟨k + 1, setN (xs.take (k + 1)), by omega, by go_num, by rw [HOR.out, HST.out], rfl⟩
      case measure => simp [intOf]; omega
    · have hkn : k = l := by omega
      have HK := Lib.hid hkn
      clear hkn
      go_wp2_with fail
      go_ret
      exact ⟨ret_int (by rw [HC.out, HK.out, List.take_of_length_le (by rw [HL.out]; exact Nat.le_refl _)]), rfl⟩

theorem l00MaxD_any (a b : Int) (w : World) : Calls Try.prog 123 #[.int .i64 a, .int .i64 b] w fun e w' => e = .returned (.int .i64 (if b < a then a else b)) ∧ w = w' := by
  by_cases h : b < a
  · have HH := Lib.hid h
    go_enter Try.func123, Try.ntmps123
    go_wp2_with fail
    go_ret
    exact ⟨ret_int (by first | rfl | (have := HH.out; split <;> omega)), rfl⟩
  · have HH := Lib.hid h
    go_enter Try.func123, Try.ntmps123
    go_wp2_with fail
    go_ret
    exact ⟨ret_int (by first | rfl | (have := HH.out; split <;> omega)), rfl⟩

theorem listK_mem {b : Nat} {x : Int} {k : Nat} : x ∈ listK b k ↔ ∃ q : Nat, x = (q : Int) ∧ q < k ∧ b.testBit q = true := by
  unfold listK
  rw [List.mem_map]
  constructor
  · rintro ⟨q, hq, rfl⟩
    have h := List.mem_filter.1 hq
    exact ⟨q, rfl, List.mem_range.1 h.1, h.2⟩
  · rintro ⟨q, rfl, h1, h2⟩
    exact ⟨q, List.mem_filter.2 ⟨List.mem_range.2 h1, h2⟩, rfl⟩
theorem setN_listK {b : Nat} (hb : b < 1024) : setN (listK b 10) = b := by
  refine Nat.eq_of_testBit_eq fun q => ?_
  rw [Bool.eq_iff_iff, setN_bit _ _ rfl (fun x hx => by obtain ⟨q, rfl, _⟩ := listK_mem.1 hx; omega), listK_mem]
  constructor
  · rintro ⟨q', h1, _, h3⟩
    obtain rfl : q = q' := by omega
    exact h3
  · intro h
    refine ⟨q, rfl, ?_, h⟩
    rcases Nat.lt_or_ge q 10 with h1 | h1
    · exact h1
    · have h2 := Nat.pow_le_pow_right (show 0 < 2 by decide) h1
      rw [Nat.testBit_lt_two_pow (by omega)] at h
      cases h
theorem listK_states {n b : Nat} (hb : b < 2 ^ n) : ∀ x ∈ listK b 10, 0 ≤ x ∧ x < (n : Int) := by
  intro x hx
  obtain ⟨q, rfl, _, h⟩ := listK_mem.1 hx
  rcases Nat.lt_or_ge q n with h1 | h1
  · omega
  · have h2 := Nat.pow_le_pow_right (show 0 < 2 by decide) h1
    rw [Nat.testBit_lt_two_pow (by omega)] at h
    cases h
theorem belB_lt {n m : Nat} {xss : List (List Int)} {ls : List Int} (hg : GoodL n m xss ls) (b x v : Nat) (hx : x < m) : belB n xss ls b x v < 2 ^ n := by
  unfold belB
  refine lampB_le ?_ ls v n
  obtain ⟨row, hr, hl⟩ := hg.good.row hx
  have hgr := (hg.good.rows x row hr).2
  rw [List.getD_eq_getElem?_getD, hr]
  show aftB b row n < 2 ^ n
  rcases Nat.lt_or_ge (aftB b row n) (2 ^ n) with h | h
  · exact h
  · exfalso
    obtain ⟨q, hq1, hq2⟩ := Nat.exists_ge_and_testBit_of_ge_two_pow h
    rw [aftB_bit] at hq2
    obtain ⟨j, hj, he⟩ := List.any_eq_true.1 hq2
    rw [Bool.and_eq_true, decide_eq_true_eq] at he
    have hjn := List.mem_range.1 hj
    have hjl : j < row.length := by omega
    have := hgr row[j] (List.getElem_mem hjl)
    rw [List.getD_eq_getElem?_getD, List.getElem?_eq_getElem hjl] at he
    have h3 : (row[j]).toNat = q := he.2
    omega

/-- The greatest of the depths f of the sets be 0 .. be (k - 1), at least 0. -/
def worstN (f : Nat → Int) (be : Nat → Nat) : Nat → Int
  | 0 => 0
  | k + 1 => if f (be k) < worstN f be k then worstN f be k else f (be k)
/-- The greatest of them all, -1 if one is not known. -/
def worstS (f : Nat → Int) (be : Nat → Nat) : Int := if (List.range 4).all (fun v => decide (0 ≤ f (be v))) = true then worstN f be 4 else -1
theorem worstS_no {f : Nat → Int} {be : Nat → Nat} {v : Nat} (hv : v < 4) (h : f (be v) < 0) : worstS f be = -1 := by
  unfold worstS
  rw [if_neg]
  intro k
  have := List.all_eq_true.1 k v (List.mem_range.2 hv)
  simp at this
  omega
theorem worstS_all {f : Nat → Int} {be : Nat → Nat} (h : ∀ v, v < 4 → 0 ≤ f (be v)) : worstS f be = worstN f be 4 := by
  unfold worstS
  rw [if_pos]
  exact List.all_eq_true.2 (fun v hv => by simpa using h v (List.mem_range.1 hv))

set_option maxRecDepth 100000 in
set_option maxHeartbeats 4000000 in
theorem l08Worst_any (p : Nat) (A : Option Addr) (n mm c : Nat) (xss : List (List Int)) (B : Option Addr) (m d : Nat) (ls : List Int) (A2 : Option Addr) (l cap : Nat) (D : List Int) (f : Nat → Int) (b x : Nat) (w : World) (hg : GoodL n mm xss ls) (hb : LBox w p (n : Int) A mm c B m d) (h : RowsAt w A mm xss) (g : NumsAt w B m ls)
    (hD : NumsAt w A2 l D) (hl : l = 2 ^ n) (hf : ∀ b, b < 2 ^ n → D[b]? = some (f b)) (hbn : b < 2 ^ n) (hx : x < mm) :
    Calls Try.prog 90 #[.pointer (some ⟨p, 0, none⟩), .slice A2 l cap, .int .i64 (b : Int), .int .i64 (x : Int)] w fun e w' => e = .returned (.int .i64 (worstS f (belB n xss ls b x))) ∧ Below w.heap.size w w' := by
  have HG := Lib.hid hg
  have HLB := Lib.hid hb
  have HF := Lib.hid hf
  have HX := Lib.hid hx
  have hp2 : 2 ^ n ≤ 1024 := pow_le hg.good.n10
  have hb10 : b < 1024 := by omega
  have HBN := Lib.hid hbn
  have HLL := Lib.hid hl
  have hxi : 0 ≤ (x : Int) ∧ (x : Int) < (mm : Int) := by omega
  have HXI := Lib.hid hxi
  obtain ⟨BE, hBE⟩ : ∃ BE, BE = belB n xss ls b x := ⟨_, rfl⟩
  have HBE := Lib.hid hBE
  have HSET := Lib.hid (listK_states hbn)
  have hlk : (listK b 10).length ≤ 10 := setL_len _ _
  clear hg hb hf hxi hBE hl
  go_enter Try.func90, Try.ntmps90
  go_wp2_with fail
  go_loopw [9, 10] (fun ov iv wr => ∃ k : Nat, k ≤ 4 ∧ iv = .int .i64 k ∧ ov = .int .i64 (worstN f BE k) ∧ (∀ v, v < k → 0 ≤ f (BE v)) ∧ Below w.heap.size w wr) (fun _ iv _ => 4 - (intOf iv).toNat)
  case atStart => exact ⟨0, Nat.zero_le _, rfl, rfl, fun v hv => absurd hv (Nat.not_lt_zero _), Below.refl _ _⟩
  case round =>
    obtain ⟨k, hk, rfl, rfl, hall, hbel⟩ := hrel
    have HA := Lib.hid hall
    have HB := Lib.hid hbel
    have hk0 : (0 : Int) ≤ (k : Int) := by omega
    clear hall hbel
    by_cases hlt : k < 4
    · have hk4 : (k : Int) < 4 := by omega
      obtain ⟨WN, hWN⟩ : ∃ WN, WN = worstN f BE k := ⟨_, rfl⟩
      have HWN := Lib.hid hWN
      rw [← hWN]
      clear hWN
      go_wp2_with fail
      refine (l02Set_any b wr hb10).mono ?_
      rintro e w1 ⟨u, rfl, o1, b1⟩
      obtain ⟨A3, c3, rfl⟩ := own_form o1
      have N1 := Lib.hid (NumsAt.own o1 rfl rfl)
      have B1 := Lib.hid (below_then HB.out b1)
      clear o1 b1
      go_wp2_with fail
      refine (l08Believed_any p A n mm c xss B m d ls A3 (listK b 10).length c3 (listK b 10) (x : Int) (k : Int) w1 HG.out (Box.below HLB.out B1.out) (h.below B1.out) (g.below B1.out) N1.out hlk HSET.out HXI.out).mono ?_
      rw [belB_listM HG.out HSET.out HX.out, setN_listK hb10, ← HBE.out]
      rintro e w2 ⟨u, rfl, o2, b2⟩
      obtain ⟨A4, c4, rfl⟩ := own_form o2
      have N2 := Lib.hid (NumsAt.own o2 rfl rfl)
      have B2 := Lib.hid (below_then B1.out b2)
      obtain ⟨C, hC⟩ : ∃ C, C = BE k := ⟨_, rfl⟩
      have hCn : C < 2 ^ n := by rw [hC, HBE.out]; exact belB_lt HG.out b x k HX.out
      have hC10 : C < 1024 := by omega
      rw [← hC] at N2 ⊢
      have HC := Lib.hid hC
      have hlk2 : (listK C 10).length ≤ 4611686018427387904 := Nat.le_trans (setL_len _ _) (by decide)
      have HM := Lib.hid (fun y (hy : y ∈ listK C 10) => show 0 ≤ y ∧ y < 10 by obtain ⟨q, rfl, h1, _⟩ := listK_mem.1 hy; omega)
      clear o2 b2 hC
      go_wp2_with fail
      refine (l02BitsD_any A4 (listK C 10).length c4 (listK C 10) w2 N2.out HM.out hlk2).mono ?_
      rw [setN_listK hC10]
      rintro e w3 ⟨rfl, rfl⟩
      obtain ⟨y, b3, off3, hy, hA2, hcy⟩ := (hD.below B2.out).at_ (show C < l by rw [HLL.out]; exact hCn)
      have hyf : y = f C := by have := HF.out C hCn; rw [hy] at this; exact Option.some.inj this
      subst hA2
      have HYF := Lib.hid hyf
      have hC0 : (0 : Int) ≤ (C : Int) := by omega
      have hCl : (C : Int) < (l : Int) := by rw [HLL.out]; omega
      clear hy hyf
      by_cases hneg : y < 0
      · go_wp2_with fail
        go_ret
        exact ⟨ret_int (by rw [← HBE.out]; exact (worstS_no hlt (by rw [← HC.out, ← HYF.out]; exact hneg)).symm), B2.out⟩
      · go_wp2_with fail
        refine (l00MaxD_any WN y w2).mono ?_
        rintro e w4 ⟨rfl, rfl⟩
        have HST := Lib.hid (show (if y < WN then WN else y) = worstN f BE (k + 1) by rw [worstN, ← HC.out, ← HYF.out, ← HWN.out])
        have HNG := Lib.hid hneg
        rw [HST.out]
        clear hneg
        go_wp2_with fail
        go_roundw
        case rel =>
          refine ⟨k + 1, by omega, by go_num, rfl, fun v hv => ?_, B2.out⟩
          by_cases hvk : v < k
          · exact HA.out v hvk
          · obtain rfl : v = k := by omega
            rw [← HC.out, ← HYF.out]
            have := HNG.out
            omega
        case measure => simp [intOf]; omega
    · have hke : k = 4 := by omega
      have HKE := Lib.hid hke
      clear hke
      go_wp2_with fail
      go_ret
      refine ⟨ret_int ?_, HB.out⟩
      rw [← HBE.out, worstS_all (fun v hv => HA.out v (by rw [HKE.out]; exact hv)), HKE.out]

end Go.Proofs.Ytdelanjkaokiaaa
