/-
  The least number of states that a search comes to: the contracts of l02Set, l03Least, rankOfSet.
-/
import Derived.Test.YtcglncepmieaaaaImgs
import Derived.Test.YtcglncepmieaaaaWord
namespace Go.Proofs.Ytcglncepmieaaaa
open Go.RowKit Go.Deep Go.ChangeShapes Go.WideShapes
open Hunt Srch From Moved

/-- The states below k of a set. -/
def listK (b k : Nat) : List Int := ((List.range k).filter (bitF b)).map fun q => ((q : Nat) : Int)
theorem listK_succ (b k : Nat) : listK b (k + 1) = if b.testBit k = true then listK b k ++ [(k : Int)] else listK b k := by
  unfold listK
  rw [List.range_succ, List.filter_append]
  by_cases h : b.testBit k = true
  · rw [if_pos h]; simp [bitF, h]
  · rw [if_neg h]; simp [bitF, h]
theorem listK_stop {b s : Nat} (h : b < 2 ^ s) : ∀ k, s ≤ k → listK b k = listK b s
  | 0, hk => by obtain rfl : s = 0 := by omega
                rfl
  | k + 1, hk => by
    rcases Nat.eq_or_lt_of_le hk with e | a
    · rw [e]
    · rw [listK_succ, if_neg (by rw [Nat.testBit_lt_two_pow (Nat.lt_of_lt_of_le h (Nat.pow_le_pow_right (by decide) (by omega)))]; simp), listK_stop h k (by omega)]
theorem listK_len {b : Nat} (hb : b < 1024) : (listK b 10).length = Lib.onesCount b := (count_ok hb).symm

set_option maxRecDepth 100000 in
set_option maxHeartbeats 2000000 in
theorem l02Set_any (b : Nat) (w : World) (hb : b < 1024) :
    Calls Try.prog 140 #[.int .i64 (b : Int)] w fun e w' => ∃ u, e = .returned u ∧ w'.ownsRow w.heap.size 2 1 u (listK b 10).length ((listK b 10).map (Value.int .i64)) ∧ Below w.heap.size w w' := by
  obtain ⟨i0, hi, hz0, hz1, hz2⟩ := info_parts info_int64
  obtain ⟨LL, hLL⟩ : ∃ LL, LL = listK b 10 := ⟨_, rfl⟩
  rw [← hLL]
  have HLL := Lib.hid hLL
  clear hLL
  have i1 : (0 : Int) ≤ (b : Int) := by omega
  go_enter Try.func140, Try.ntmps140
  go_wp2_with fail
  go_loopw [3, 4] (fun ov iv wr => ∃ s : Nat, s ≤ 10 ∧ iv = .int .i64 s ∧ wr.ownsRow w.heap.size 2 1 ov (listK b s).length ((listK b s).map (Value.int .i64)) ∧ Below w.heap.size w wr) (fun _ iv _ => 10 - (intOf iv).toNat)
  case atStart => exact ⟨0, Nat.zero_le _, rfl, own_none w _ (Nat.le_refl _), (Below.refl _ _).alloc (Nat.le_refl _) _⟩
  case round =>
    obtain ⟨s, hs, rfl, hown, hbel⟩ := hrel
    obtain ⟨A3, C3, rfl⟩ := own_form hown
    have HO := Lib.hid hown
    have HB := Lib.hid hbel
    clear hown hbel
    have i2 : (0 : Int) ≤ (s : Int) := by omega
    have i3 : (s : Int) ≤ 10 := by omega
    have e1 : (b : Int) / 2 ^ s = ((b / 2 ^ s : Nat) : Int) := by push_cast; rfl
    have hdl : b / 2 ^ s ≤ b := Nat.div_le_self _ _
    have hll : (listK b s).length ≤ 10 := by
      unfold listK
      rw [List.length_map]
      exact Nat.le_trans (List.length_filter_le _ _) (by rw [List.length_range]; exact hs)
    obtain ⟨d, hd⟩ : ∃ d, d = b / 2 ^ s := ⟨_, rfl⟩
    rw [← hd] at e1 hdl
    have HD := Lib.hid hd
    obtain ⟨D, hDD⟩ : ∃ D : Int, D = (b : Int) / 2 ^ s := ⟨_, rfl⟩
    by_cases h0 : d = 0
    · have hbs : b < 2 ^ s := by
        have h1 : b / 2 ^ s = 0 := by rw [← hd]; exact h0
        exact (Nat.div_eq_zero_iff.1 h1).resolve_left (by have := Nat.pow_pos (n := s) (show 0 < 2 by decide); omega)
      have HE := Lib.hid (show LL = listK b s by rw [HLL.out]; exact listK_stop hbs 10 hs)
      have hz : ¬ (0 : Int) < (b : Int) / 2 ^ s := by rw [e1]; omega
      clear hbs hd hDD e1
      go_wp2_with fail
      go_ret
      rw [HE.out]
      exact ⟨_, rfl, HO.out, HB.out⟩
    · have hs10 : s < 10 := by
        rcases Nat.lt_or_ge s 10 with a | a
        · exact a
        · exact absurd (show d = 0 by rw [hd]; exact Nat.div_eq_of_lt (by have h9 : 2 ^ 10 ≤ 2 ^ s := Nat.pow_le_pow_right (by decide) a; omega)) h0
      have hz : (0 : Int) < (b : Int) / 2 ^ s := by rw [e1]; omega
      have hand : bits .and .i64 ((b : Int) / 2 ^ s) 1 = ((d % 2 : Nat) : Int) := by
        rw [e1]
        have e2 := i64_and_nat d 1 (by omega) (by decide)
        rw [show ((1 : Nat) : Int) = 1 from rfl, Nat.and_one_is_mod] at e2
        exact e2
      have htb : b.testBit s = decide (d % 2 = 1) := by rw [hd, Nat.testBit_eq_decide_div_mod_eq]
      rcases Nat.mod_two_eq_zero_or_one d with hz2 | hz2
      · rw [hz2] at hand
        have HST := Lib.hid (show listK b (s + 1) = listK b s by rw [listK_succ, if_neg (by rw [htb, hz2]; simp)])
        clear hd hDD e1 hz2 htb
        go_wp2_with fail
        go_roundw
        case rel => exact ⟨s + 1, by omega, by go_num, by rw [HST.out]; exact HO.out, HB.out⟩
        case measure => simp [intOf]; omega
      · rw [hz2] at hand
        have HST := Lib.hid (show listK b (s + 1) = listK b s ++ [(s : Int)] by rw [listK_succ, if_pos (by rw [htb, hz2]; simp)])
        clear hd hDD e1 hz2 htb
        go_wp2_with (at_builtin; refine wpList_append_own _ rfl _ _ 35 rfl (w.heap.size) 2 i0 (.int .i64 0) 1 8 Try.underlying35 hi hz0 hz1 hz2 rfl (by decide) _ _ _ rfl (World.ownsRow.alloc (HO.out) _) ⟨(wr).heap.size, 0, none⟩ 1 1 [.int .i64 (s : Int)] rfl rfl (cell_one_new _ _ _) (ones_i64 [(s : Int)]) (by unfold maxLen; omega) (by omega) (by rw [World.size_alloc]; exact Nat.le_succ_of_le (HB.out.size)) ?_)
        intro v' w2 hown' hgrow _
        have ba : Below wr.heap.size wr (wr.alloc (.cells #[.int .i64 (s : Int)] 2)) := (Below.refl _ _).alloc (Nat.le_refl _) _
        have HB2 := Lib.hid (below_grown (below_then HB.out ba) hgrow (fun g hg => (HO.out.lt g hg).1))
        have HO2 := Lib.hid hown'
        clear hown' hgrow ba
        go_wp2_with fail
        go_roundw
        case rel => exact ⟨s + 1, by omega, by go_num, by rw [HST.out, List.length_append, List.map_append]; exact HO2.out, HB2.out⟩
        case measure => simp [intOf]; omega

/-- The least number of states among the sets that are found. -/
def leastF (b0 : Nat) (T : List Fnd) : Nat := T.foldl (fun m f => min m (Lib.onesCount f.set)) (Lib.onesCount b0)
theorem leastF_snoc (b0 : Nat) (T : List Fnd) (f : Fnd) : leastF b0 (T ++ [f]) = min (leastF b0 T) (Lib.onesCount f.set) := by simp [leastF]
theorem foldl_min_le (T : List Fnd) : ∀ m0 : Nat, T.foldl (fun m f => min m (Lib.onesCount f.set)) m0 ≤ m0 ∧ ∀ f ∈ T, T.foldl (fun m f => min m (Lib.onesCount f.set)) m0 ≤ Lib.onesCount f.set := by
  induction T with
  | nil => intro m0; exact ⟨Nat.le_refl _, by simp⟩
  | cons a T ih =>
    intro m0
    obtain ⟨h1, h2⟩ := ih (min m0 (Lib.onesCount a.set))
    rw [List.foldl_cons]
    refine ⟨by omega, fun f hf => ?_⟩
    rcases List.mem_cons.1 hf with e | e
    · subst e; omega
    · exact h2 f e
theorem foldl_min_at (T : List Fnd) : ∀ m0 : Nat, T.foldl (fun m f => min m (Lib.onesCount f.set)) m0 = m0 ∨ ∃ f ∈ T, T.foldl (fun m f => min m (Lib.onesCount f.set)) m0 = Lib.onesCount f.set := by
  induction T with
  | nil => intro m0; exact .inl rfl
  | cons a T ih =>
    intro m0
    rw [List.foldl_cons]
    rcases ih (min m0 (Lib.onesCount a.set)) with h | ⟨f, hf, h⟩
    · rcases Nat.le_total m0 (Lib.onesCount a.set) with k | k
      · exact .inl (by rw [h]; omega)
      · exact .inr ⟨a, by simp, by rw [h]; omega⟩
    · exact .inr ⟨f, by simp [hf], h⟩
theorem leastF_le (b0 : Nat) (T : List Fnd) {f : Fnd} (hf : f ∈ T) : leastF b0 T ≤ Lib.onesCount f.set := (foldl_min_le T _).2 f hf
theorem leastF_ten {b0 : Nat} (hb : b0 < 1024) (T : List Fnd) : leastF b0 T ≤ 10 := Nat.le_trans (foldl_min_le T _).1 (ones_split hb).2.2.2
/-- From all states, words of at most 400 letters come to as few states as any. -/
theorem least_same {n m : Nat} {xss : List (List Int)} (hg : Good n m xss) : leastF (2 ^ n - 1) (fnd n m xss 400 (2 ^ n - 1)) = leastF (2 ^ n - 1) (fnd n m xss 1024 (2 ^ n - 1)) := by
  have ha := acts hg
  have hb : 2 ^ n - 1 < 1024 := (full_in n).lt hg.n10
  refine Nat.le_antisymm ?_ ?_
  · rcases foldl_min_at (fnd n m xss 1024 (2 ^ n - 1)) (Lib.onesCount (2 ^ n - 1)) with h | ⟨f, hf, h⟩
    · unfold leastF; rw [h]; exact (foldl_min_le _ _).1
    · show _ ≤ leastF _ _
      unfold leastF
      rw [h]
      obtain ⟨h1, h2⟩ := found_word hf
      obtain ⟨us, h3, h4, h5⟩ := rank_bound ha (aftF_lt hg) f.word h2
      obtain ⟨j, f', h6, h7, _⟩ := all_found (cap := 400) (small hg hb) us.length us rfl (by omega) h3
      have h8 := leastF_le (2 ^ n - 1) (fnd n m xss 400 (2 ^ n - 1)) (List.mem_of_getElem? h6)
      rw [h7, ones_cnt ((goW_in ha us _ h3 (full_in n)).1.lt hg.n10)] at h8
      rw [h1, ones_cnt ((goW_in ha f.word _ h2 (full_in n)).1.lt hg.n10)]
      exact Nat.le_trans h8 h5
  · obtain ⟨N, hN, _⟩ := cap_pre (aft := aftF n xss) (m := m) (b0 := 2 ^ n - 1) (show 400 ≤ 1024 by decide) 1024
    have hsub : ∀ f ∈ fnd n m xss 400 (2 ^ n - 1), f ∈ fnd n m xss 1024 (2 ^ n - 1) := fun f hf => by
      unfold fnd at hf ⊢
      rw [all_eq] at hf ⊢
      rw [hN]
      exact List.mem_append_left _ hf
    rcases foldl_min_at (fnd n m xss 400 (2 ^ n - 1)) (Lib.onesCount (2 ^ n - 1)) with h | ⟨f, hf, h⟩
    · unfold leastF; rw [h]; exact (foldl_min_le _ _).1
    · show leastF _ _ ≤ _
      have h1 := leastF_le (2 ^ n - 1) (fnd n m xss 1024 (2 ^ n - 1)) (hsub f hf)
      unfold leastF at h1 ⊢
      rw [h]
      exact h1

theorem fnd_len4 {n m b : Nat} {xss : List (List Int)} (hg : Good n m xss) (hb : b < 1024) : (fnd n m xss 400 b).length ≤ 1024 := all_len (small hg hb)
theorem fnd_lt {n m b cap : Nat} {xss : List (List Int)} (hg : Good n m xss) (hb : b < 1024) {f : Fnd} (hf : f ∈ fnd n m xss cap b) : f.set < 1024 := by
  obtain ⟨h1, h2⟩ := found_word hf
  rw [h1]
  exact goW_lt (aftF_lt hg) hb _ h2
end Go.Proofs.Ytcglncepmieaaaa
