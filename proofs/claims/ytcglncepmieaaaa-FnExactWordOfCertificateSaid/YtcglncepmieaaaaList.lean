/-
  The program's lists of sets: the contracts of contains and of list.
-/
import Derived.Test.YtcglncepmieaaaaLeast
import Derived.Test.YtcglncepmieaaaaSetOf
import Derived.Test.YtcglncepmieaaaaPut
namespace Go.Proofs.Ytcglncepmieaaaa
open Go.RowKit Go.Deep Go.ChangeShapes Go.WideShapes
open Hunt Srch From Moved

theorem listK_setL (b k : Nat) : listK b k = setL (bitF b) k := rfl
theorem and_one (b s : Nat) : (b &&& 1 <<< s == 1 <<< s) = b.testBit s := by
  rcases h : b.testBit s with _ | _
  · rw [beq_eq_false_iff_ne]
    intro e
    have h1 : (b &&& 1 <<< s).testBit s = (1 <<< s).testBit s := by rw [e]
    rw [Nat.testBit_and, h, testBit_one_shift] at h1
    simp at h1
  · rw [beq_iff_eq]
    refine Nat.eq_of_testBit_eq fun i => ?_
    rw [Nat.testBit_and, testBit_one_shift]
    by_cases e : s = i
    · subst e; simp [h]
    · simp [e]

set_option maxRecDepth 100000 in
set_option maxHeartbeats 1000000 in
theorem contains_any (b c : Nat) (W : World) (hb : b < 1024) (hc : c < 1024) :
    Calls Try.prog 100 #[.int .u16 (b : Int), .int .u16 (c : Int)] W fun e w' => e = .returned (.bool (b &&& c == c)) ∧ W = w' := by
  have h1 := u16_and_nat b c (by omega) (by omega)
  have hle : b &&& c ≤ c := Nat.and_le_right
  obtain ⟨d, hd⟩ : ∃ d, d = b &&& c := ⟨_, rfl⟩
  rw [← hd] at h1 hle ⊢
  have HE := Lib.hid (show ((d : Int) == (c : Int)) = (d == c) by
    by_cases h : d = c
    · subst h; simp
    · rw [show (d == c) = false by simpa using h]; simp; omega)
  clear hd
  go_enter Try.func100, Try.ntmps100
  go_wp2_with fail
  go_ret
  exact ⟨ret_bool HE.out, rfl⟩

set_option maxRecDepth 100000 in
set_option maxHeartbeats 2000000 in
theorem setList_any (b : Nat) (w : World) (hb : b < 1024) :
    Calls Try.prog 56 #[.int .u16 (b : Int)] w fun e w' => ∃ u, e = .returned u ∧ w'.ownsRow w.heap.size 2 1 u (listK b 10).length ((listK b 10).map (Value.int .i64)) ∧ Below w.heap.size w w' := by
  obtain ⟨i0, hi, hz0, hz1, hz2⟩ := info_parts info_int64
  obtain ⟨LL, hLL⟩ : ∃ LL, LL = listK b 10 := ⟨_, rfl⟩
  rw [← hLL]
  have HLL := Lib.hid hLL
  clear hLL
  go_enter Try.func56, Try.ntmps56
  go_wp2_with fail
  go_loopw [3, 5] (fun ov iv wr => ∃ s : Nat, s ≤ 10 ∧ iv = .int .i64 s ∧ wr.ownsRow w.heap.size 2 1 ov (listK b s).length ((listK b s).map (Value.int .i64)) ∧ Below w.heap.size w wr) (fun _ iv _ => 10 - (intOf iv).toNat)
  case atStart => exact ⟨0, Nat.zero_le _, rfl, World.ownsRow_nil _ _ _ _, Below.refl _ _⟩
  case round =>
    obtain ⟨s, hs, rfl, hown, hbel⟩ := hrel
    obtain ⟨A3, C3, rfl⟩ := own_form hown
    have HO := Lib.hid hown
    have HB := Lib.hid hbel
    clear hown hbel
    have hll : (listK b s).length ≤ 10 := by
      unfold listK
      rw [List.length_map]
      exact Nat.le_trans (List.length_filter_le _ _) (by rw [List.length_range]; exact hs)
    by_cases hlt : s < 10
    · have HQ := Lib.hid (show ∀ z ∈ [(s : Int)], 0 ≤ z ∧ z < 10 from by simp; omega)
      have i3 : (s : Int) < 10 := by omega
      go_wp2_with fail
      refine (setOf_any (some ⟨wr.heap.size, 0, none⟩) 1 1 [(s : Int)] _ (nums_one wr _ _) HQ.out (by omega)).mono ?_
      rw [setN_one]
      rintro e w' ⟨rfl, hw'⟩
      have b1 : Below wr.heap.size wr w' := by rw [← hw']; exact (Below.refl _ _).alloc (Nat.le_refl _) _
      have HB1 := Lib.hid (below_then HB.out b1)
      have HO1 := Lib.hid (own_below HO.out b1)
      have hc10 : 1 <<< s < 1024 := by rw [Nat.one_shiftLeft]; have h9 : 2 ^ s ≤ 2 ^ 9 := Nat.pow_le_pow_right (by decide) (by omega); omega
      have HAND := Lib.hid (and_one b s)
      obtain ⟨c, hc⟩ : ∃ c, c = 1 <<< s := ⟨_, rfl⟩
      rw [← hc] at HAND hc10 ⊢
      clear hw' b1 hc
      go_wp2_with fail
      refine (contains_any b c w' hb hc10).mono ?_
      rw [HAND.out]
      rintro e w2 ⟨rfl, rfl⟩
      rcases htb : b.testBit s with _ | _
      · have HST := Lib.hid (show listK b (s + 1) = listK b s by rw [listK_succ, if_neg (by rw [htb]; simp)])
        clear htb
        go_wp2_with fail
        go_roundw
        case rel => exact ⟨s + 1, by omega, by go_num, by rw [HST.out]; exact HO1.out, HB1.out⟩
        case measure => simp [intOf]; omega
      · have HST := Lib.hid (show listK b (s + 1) = listK b s ++ [(s : Int)] by rw [listK_succ, if_pos htb])
        clear htb
        go_wp2_with (at_builtin; refine wpList_append_own _ rfl _ _ 35 rfl (w.heap.size) 2 i0 (.int .i64 0) 1 8 Try.underlying35 hi hz0 hz1 hz2 rfl (by decide) _ _ _ rfl (World.ownsRow.alloc (HO1.out) _) ⟨(w').heap.size, 0, none⟩ 1 1 [.int .i64 (s : Int)] rfl rfl (cell_one_new _ _ _) (ones_i64 [(s : Int)]) (by unfold maxLen; omega) (by omega) (by rw [World.size_alloc]; exact Nat.le_succ_of_le (HB1.out.size)) ?_)
        intro v' w2 hown' hgrow _
        have ba : Below w'.heap.size w' (w'.alloc (.cells #[.int .i64 (s : Int)] 2)) := (Below.refl _ _).alloc (Nat.le_refl _) _
        have HB2 := Lib.hid (below_grown (below_then HB1.out ba) hgrow (fun g hg => (HO1.out.lt g hg).1))
        have HO2 := Lib.hid hown'
        clear hown' hgrow ba
        go_wp2_with fail
        go_roundw
        case rel => exact ⟨s + 1, by omega, by go_num, by rw [HST.out, List.length_append, List.map_append]; exact HO2.out, HB2.out⟩
        case measure => simp [intOf]; omega
    · have hse : s = 10 := by omega
      have HSE := Lib.hid hse
      clear hse
      go_wp2_with fail
      go_ret
      rw [HLL.out, ← HSE.out]
      exact ⟨_, rfl, HO.out, HB.out⟩

end Go.Proofs.Ytcglncepmieaaaa
