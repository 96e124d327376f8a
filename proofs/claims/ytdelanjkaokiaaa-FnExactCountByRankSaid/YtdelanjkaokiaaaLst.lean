/-
  Sets as bits and as lists: the contracts of l02Set, contains and list, for seats without searches (as in XLeast and XList).
-/
import Derived.Test.YtdelanjkaokiaaaSetOf
import Derived.Test.YtdelanjkaokiaaaPut
namespace Go.Proofs.Ytdelanjkaokiaaa
open Go.RowKit Go.Deep Go.ChangeShapes Go.WideShapes
open Hunt Moved

/-- The states below k of a set. -/
def listK (b k : Nat) : List Int := ((List.range k).filter (bitF b)).map fun q => ((q : Nat) : Int)
theorem listK_succ (b k : Nat) : listK b (k + 1) = if b.testBit k = true then listK b k ++ [(k : Int)] else listK b k := by
  unfold listK
  rw [List.range_succ, List.filter_append]
  by_cases h : b.testBit k = true
  · rw [if_pos h]; simp [bitF, h]
  · rw [if_neg h]; simp [bitF, h]
theorem listK_stop {b s : Nat} (h : b < 2 ^ s) : ∀ k, s ≤ k → listK b k = listK b s
  | 0, hk => by obtain rfl : s = 0 := by omega
                rfl
  | k + 1, hk => by
    rcases Nat.eq_or_lt_of_le hk with e | a
    · rw [e]
    · rw [listK_succ, if_neg (by rw [Nat.testBit_lt_two_pow (Nat.lt_of_lt_of_le h (Nat.pow_le_pow_right (by decide) (by omega)))]; simp), listK_stop h k (by omega)]
theorem listK_len {b : Nat} (hb : b < 1024) : (listK b 10).length = Lib.onesCount b := (count_ok hb).symm

set_option maxRecDepth 100000 in
set_option maxHeartbeats 2000000 in
theorem l02Set_any (b : Nat) (w : World) (hb : b < 1024) :
    Calls Try.prog 71 #[.int .i64 (b : Int)] w fun e w' => ∃ u, e = .returned u ∧ w'.ownsRow w.heap.size 2 1 u (listK b 10).length ((listK b 10).map (Value.int .i64)) ∧ Below w.heap.size w w' := by
  obtain ⟨i0, hi, hz0, hz1, hz2⟩ := info_parts info_int64
  obtain ⟨LL, hLL⟩ : ∃ LL, LL = listK b 10 := ⟨_, rfl⟩
  rw [← hLL]
  have HLL := Lib.hid hLL
  clear hLL
  have i1 : (0 : Int) ≤ (b : Int) := by omega
  go_enter Try.func71, Try.ntmps71
  go_wp2_with fail
  go_loopw [3, 4] (fun ov iv wr => ∃ s : Nat, s ≤ 10 ∧ iv = .int .i64 s ∧ wr.ownsRow w.heap.size 2 1 ov (listK b s).length ((listK b s).map (Value.int .i64)) ∧ Below w.heap.size w wr) (fun _ iv _ => 10 - (intOf iv).toNat)
  case atStart => exact ⟨0, Nat.zero_le _, rfl, own_none w _ (Nat.le_refl _), (Below.refl _ _).alloc (Nat.le_refl _) _⟩
  case round =>
    obtain ⟨s, hs, rfl, hown, hbel⟩ := hrel
    obtain ⟨A3, C3, rfl⟩ := own_form hown
    have HO := Lib.hid hown
    have HB := Lib.hid hbel
    clear hown hbel
    have i2 : (0 : Int) ≤ (s : Int) := by omega
    have i3 : (s : Int) ≤ 10 := by omega
    have e1 : (b : Int) / 2 ^ s = ((b / 2 ^ s : Nat) : Int) := by push_cast; rfl
    have hdl : b / 2 ^ s ≤ b := Nat.div_le_self _ _
    have hll : (listK b s).length ≤ 10 := by
      unfold listK
      rw [List.length_map]
      exact Nat.le_trans (List.length_filter_le _ _) (by rw [List.length_range]; exact hs)
    obtain ⟨d, hd⟩ : ∃ d, d = b / 2 ^ s := ⟨_, rfl⟩
    rw [← hd] at e1 hdl
    have HD := Lib.hid hd
    obtain ⟨D, hDD⟩ : ∃ D : Int, D = (b : Int) / 2 ^ s := ⟨_, rfl⟩
    by_cases h0 : d = 0
    · have hbs : b < 2 ^ s := by
        have h1 : b / 2 ^ s = 0 := by rw [← hd]; exact h0
        exact (Nat.div_eq_zero_iff.1 h1).resolve_left (by have := Nat.pow_pos (n := s) (show 0 < 2 by decide); omega)
      have HE := Lib.hid (show LL = listK b s by rw [HLL.out]; exact listK_stop hbs 10 hs)
      have hz : ¬ (0 : Int) < (b : Int) / 2 ^ s := by rw [e1]; omega
      clear hbs hd hDD e1
      go_wp2_with fail
      go_ret
      rw [HE.out]
      exact ⟨_, rfl, HO.out, HB.out⟩
    · have hs10 : s < 10 := by
        rcases Nat.lt_or_ge s 10 with a | a
        · exact a
        · exact absurd (show d = 0 by rw [hd]; exact Nat.div_eq_of_lt (by have h9 : 2 ^ 10 ≤ 2 ^ s := Nat.pow_le_pow_right (by decide) a; omega)) h0
      have hz : (0 : Int) < (b : Int) / 2 ^ s := by rw [e1]; omega
      have hand : bits .and .i64 ((b : Int) / 2 ^ s) 1 = ((d % 2 : Nat) : Int) := by
        rw [e1]
        have e2 := i64_and_nat d 1 (by omega) (by decide)
        rw [show ((1 : Nat) : Int) = 1 from rfl, Nat.and_one_is_mod] at e2
        exact e2
      have htb : b.testBit s = decide (d % 2 = 1) := by rw [hd, Nat.testBit_eq_decide_div_mod_eq]
      rcases Nat.mod_two_eq_zero_or_one d with hz2 | hz2
      · rw [hz2] at hand
        have HST := Lib.hid (show listK b (s + 1) = listK b s by rw [listK_succ, if_neg (by rw [htb, hz2]; simp)])
        clear hd hDD e1 hz2 htb
        go_wp2_with fail
        go_roundw
        case rel => exact ⟨s + 1, by omega, by go_num, by rw [HST.out]; exact HO.out, HB.out⟩
        case measure => simp [intOf]; omega
      · rw [hz2] at hand
        have HST := Lib.hid (show listK b (s + 1) = listK b s ++ [(s : Int)] by rw [listK_succ, if_pos (by rw [htb, hz2]; simp)])
        clear hd hDD e1 hz2 htb
        go_wp2_with (at_builtin; refine wpList_append_own _ rfl _ _ 25 rfl (w.heap.size) 2 i0 (.int .i64 0) 1 8 Try.underlying25 hi hz0 hz1 hz2 rfl (by decide) _ _ _ rfl (World.ownsRow.alloc (HO.out) _) ⟨(wr).heap.size, 0, none⟩ 1 1 [.int .i64 (s : Int)] rfl rfl (cell_one_new _ _ _) (ones_i64 [(s : Int)]) (by unfold maxLen; omega) (by omega) (by rw [World.size_alloc]; exact Nat.le_succ_of_le (HB.out.size)) ?_)
        intro v' w2 hown' hgrow _
        have ba : Below wr.heap.size wr (wr.alloc (.cells #[.int .i64 (s : Int)] 2)) := (Below.refl _ _).alloc (Nat.le_refl _) _
        have HB2 := Lib.hid (below_grown (below_then HB.out ba) hgrow (fun g hg => (HO.out.lt g hg).1))
        have HO2 := Lib.hid hown'
        clear hown' hgrow ba
        go_wp2_with fail
        go_roundw
        case rel => exact ⟨s + 1, by omega, by go_num, by rw [HST.out, List.length_append, List.map_append]; exact HO2.out, HB2.out⟩
        case measure => simp [intOf]; omega

theorem listK_setL (b k : Nat) : listK b k = setL (bitF b) k := rfl

theorem and_one (b s : Nat) : (b &&& 1 <<< s == 1 <<< s) = b.testBit s := by
  rcases h : b.testBit s with _ | _
  · rw [beq_eq_false_iff_ne]
    intro e
    have h1 : (b &&& 1 <<< s).testBit s = (1 <<< s).testBit s := by rw [e]
    rw [Nat.testBit_and, h, testBit_one_shift] at h1
    simp at h1
  · rw [beq_iff_eq]
    refine Nat.eq_of_testBit_eq fun i => ?_
    rw [Nat.testBit_and, testBit_one_shift]
    by_cases e : s = i
    · subst e; simp [h]
    · simp [e]

set_option maxRecDepth 100000 in
set_option maxHeartbeats 1000000 in
theorem contains_any (b c : Nat) (W : World) (hb : b < 1024) (hc : c < 1024) :
    Calls Try.prog 112 #[.int .u16 (b : Int), .int .u16 (c : Int)] W fun e w' => e = .returned (.bool (b &&& c == c)) ∧ W = w' := by
  have h1 := u16_and_nat b c (by omega) (by omega)
  have hle : b &&& c ≤ c := Nat.and_le_right
  obtain ⟨d, hd⟩ : ∃ d, d = b &&& c := ⟨_, rfl⟩
  rw [← hd] at h1 hle ⊢
  have HE := Lib.hid (show ((d : Int) == (c : Int)) = (d == c) by
    by_cases h : d = c
    · subst h; simp
    · rw [show (d == c) = false by simpa using h]; simp; omega)
  clear hd
  go_enter Try.func112, Try.ntmps112
  go_wp2_with fail
  go_ret
  exact ⟨ret_bool HE.out, rfl⟩

set_option maxRecDepth 100000 in
set_option maxHeartbeats 2000000 in
theorem setList_any (b : Nat) (w : World) (hb : b < 1024) :
    Calls Try.prog 83 #[.int .u16 (b : Int)] w fun e w' => ∃ u, e = .returned u ∧ w'.ownsRow w.heap.size 2 1 u (listK b 10).length ((listK b 10).map (Value.int .i64)) ∧ Below w.heap.size w w' := by
  obtain ⟨i0, hi, hz0, hz1, hz2⟩ := info_parts info_int64
  obtain ⟨LL, hLL⟩ : ∃ LL, LL = listK b 10 := ⟨_, rfl⟩
  rw [← hLL]
  have HLL := Lib.hid hLL
  clear hLL
  go_enter Try.func83, Try.ntmps83
  go_wp2_with fail
  go_loopw [3, 5] (fun ov iv wr => ∃ s : Nat, s ≤ 10 ∧ iv = .int .i64 s ∧ wr.ownsRow w.heap.size 2 1 ov (listK b s).length ((listK b s).map (Value.int .i64)) ∧ Below w.heap.size w wr) (fun _ iv _ => 10 - (intOf iv).toNat)
  case atStart => exact ⟨0, Nat.zero_le _, rfl, World.ownsRow_nil _ _ _ _, Below.refl _ _⟩
  case round =>
    obtain ⟨s, hs, rfl, hown, hbel⟩ := hrel
    obtain ⟨A3, C3, rfl⟩ := own_form hown
    have HO := Lib.hid hown
    have HB := Lib.hid hbel
    clear hown hbel
    have hll : (listK b s).length ≤ 10 := by
      unfold listK
      rw [List.length_map]
      exact Nat.le_trans (List.length_filter_le _ _) (by rw [List.length_range]; exact hs)
    by_cases hlt : s < 10
    · have HQ := Lib.hid (show ∀ z ∈ [(s : Int)], 0 ≤ z ∧ z < 10 from by simp; omega)
      have i3 : (s : Int) < 10 := by omega
      go_wp2_with fail
      refine (setOf_any (some ⟨wr.heap.size, 0, none⟩) 1 1 [(s : Int)] _ (nums_one wr _ _) HQ.out (by omega)).mono ?_
      rw [setN_one]
      rintro e w' ⟨rfl, hw'⟩
      have b1 : Below wr.heap.size wr w' := by rw [← hw']; exact (Below.refl _ _).alloc (Nat.le_refl _) _
      have HB1 := Lib.hid (below_then HB.out b1)
      have HO1 := Lib.hid (own_below HO.out b1)
      have hc10 : 1 <<< s < 1024 := by rw [Nat.one_shiftLeft]; have h9 : 2 ^ s ≤ 2 ^ 9 := Nat.pow_le_pow_right (by decide) (by omega); omega
      have HAND := Lib.hid (and_one b s)
      obtain ⟨c, hc⟩ : ∃ c, c = 1 <<< s := ⟨_, rfl⟩
      rw [← hc] at HAND hc10 ⊢
      clear hw' b1 hc
      go_wp2_with fail
      refine (contains_any b c w' hb hc10).mono ?_
      rw [HAND.out]
      rintro e w2 ⟨rfl, rfl⟩
      rcases htb : b.testBit s with _ | _
      · have HST := Lib.hid (show listK b (s + 1) = listK b s by rw [listK_succ, if_neg (by rw [htb]; simp)])
        clear htb
        go_wp2_with fail
        go_roundw
        case rel => exact ⟨s + 1, by omega, by go_num, by rw [HST.out]; exact HO1.out, HB1.out⟩
        case measure => simp [intOf]; omega
      · have HST := Lib.hid (show listK b (s + 1) = listK b s ++ [(s : Int)] by rw [listK_succ, if_pos htb])
        clear htb
        go_wp2_with (at_builtin; refine wpList_append_own _ rfl _ _ 25 rfl (w.heap.size) 2 i0 (.int .i64 0) 1 8 Try.underlying25 hi hz0 hz1 hz2 rfl (by decide) _ _ _ rfl (World.ownsRow.alloc (HO1.out) _) ⟨(w').heap.size, 0, none⟩ 1 1 [.int .i64 (s : Int)] rfl rfl (cell_one_new _ _ _) (ones_i64 [(s : Int)]) (by unfold maxLen; omega) (by omega) (by rw [World.size_alloc]; exact Nat.le_succ_of_le (HB1.out.size)) ?_)
        intro v' w2 hown' hgrow _
        have ba : Below w'.heap.size w' (w'.alloc (.cells #[.int .i64 (s : Int)] 2)) := (Below.refl _ _).alloc (Nat.le_refl _) _
        have HB2 := Lib.hid (below_grown (below_then HB1.out ba) hgrow (fun g hg => (HO1.out.lt g hg).1))
        have HO2 := Lib.hid hown'
        clear hown' hgrow ba
        go_wp2_with fail
        go_roundw
        case rel => exact ⟨s + 1, by omega, by go_num, by rw [HST.out, List.length_append, List.map_append]; exact HO2.out, HB2.out⟩
        case measure => simp [intOf]; omega
    · have hse : s = 10 := by omega
      have HSE := Lib.hid hse
      clear hse
      go_wp2_with fail
      go_ret
      rw [HLL.out, ← HSE.out]
      exact ⟨_, rfl, HO.out, HB.out⟩

end Go.Proofs.Ytdelanjkaokiaaa
