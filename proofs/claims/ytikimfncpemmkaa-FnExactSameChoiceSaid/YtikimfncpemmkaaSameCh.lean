/-
  Equal automata with choices: the contracts of both SameChoice.
-/
import Derived.Test.YtikimfncpemmkaaSameP
import Derived.Test.YtikimfncpemmkaaTrip
namespace Go.Proofs.Ytikimfncpemmkaa
open Go.RowKit Go.Deep Go.ChangeShapes Go.WideShapes

theorem sameChoice1_any (A A' : Option Addr) (n n' cap cap' : Nat) (xss yss : List (List Int)) (w : World) (h : RowsAt w A n xss) (h' : RowsAt w A' n' yss) (hn : n ≤ 4611686018427387904) (hn' : n' ≤ 4611686018427387904)
    (hrows : ∀ (r : Nat) (xs : List Int), xss[r]? = some xs → xs.length ≤ 4611686018427387904) (hrows' : ∀ (r : Nat) (xs : List Int), yss[r]? = some xs → xs.length ≤ 4611686018427387904) :
    Calls Try.prog 100 #[.slice A n cap, .slice A' n' cap'] w fun e w' => e = .returned (.bool (sameR xss yss)) ∧ ∃ m, w' = w.drewN m := by
  have HR := Lib.hid hrows
  have HR' := Lib.hid hrows'
  clear hrows hrows'
  go_enter Try.func100, Try.ntmps100
  go_wp2_with fail
  refine (equalFunc_any _ _ _ _ _ _ xss yss _ h h' hn hn' HR.out HR'.out).mono ?_
  rintro e w2 ⟨rfl, m, rfl⟩
  go_wp2_with fail
  go_ret
  exact ⟨rfl, m, rfl⟩

set_option maxHeartbeats 1000000 in
theorem equalFunc3_any (A A' : Option Addr) (n n' cap cap' : Nat) (xss yss : List (List (List Int))) (w : World) (h : TabsAt w A n xss) (h' : TabsAt w A' n' yss) (hn : n ≤ 4611686018427387904) (hn' : n' ≤ 4611686018427387904)
    (hrows : Wide3 4611686018427387904 xss) (hrows' : Wide3 4611686018427387904 yss) :
    Calls Try.prog 103 #[.slice A n cap, .slice A' n' cap', .func (.func 100) #[] #[]] w fun e w' => e = .returned (.bool (sameT xss yss)) ∧ ∃ m, w' = w.drewN m := by
  have HR := Lib.hid hrows
  have HR' := Lib.hid hrows'
  clear hrows hrows'
  by_cases hnn : n = n'
  · subst hnn
    go_enter Try.func103, Try.ntmps103
    go_wp2_with fail
    go_loopw [17] (fun i wr => ∃ k m : Nat, k ≤ n ∧ i = .int .i64 k ∧ wr = w.drewN m ∧ xss.take k = yss.take k) (fun i _ => n - (intOf i).toNat)
    case atStart => exact ⟨0, 0, Nat.zero_le _, rfl, rfl, by simp⟩
    case round =>
      obtain ⟨k, m, hk, rfl, hw, htake⟩ := hrel
      have HT := Lib.hid htake
      have HW := Lib.hid hw
      have h1 : TabsAt wr A n xss := by rw [hw]; exact h.drewN m
      have h2 : TabsAt wr A' n yss := by rw [hw]; exact h'.drewN m
      clear htake hw
      by_cases hlt : k < n
      · obtain ⟨xs, b, off, A1, c1, hx, rfl, hc, hnum⟩ := h1.at_ hlt
        obtain ⟨ys, b', off', A2, c2, hy, rfl, hc', hnum'⟩ := h2.at_ hlt
        have HX := Lib.hid hx
        have HY := Lib.hid hy
        have HN := Lib.hid hnum
        have HN' := Lib.hid hnum'
        have hk0 : (0 : Int) ≤ (k : Int) := by omega
        have hkn : (k : Int) < (n : Int) := by omega
        clear hx hy hnum hnum' h1 h2
        go_wp2_with fail
        refine (sameChoice1_any _ _ _ _ _ _ _ _ _ HN.out HN'.out (HR.out _ _ HX.out).1 (HR'.out _ _ HY.out).1 (HR.out _ _ HX.out).2 (HR'.out _ _ HY.out).2).mono ?_
        rintro e w1 ⟨rfl, m1, rfl⟩
        by_cases hxy : xs = ys
        · rw [sameR_t hxy]
          have HXY := Lib.hid hxy
          clear hxy
          go_wp2_with fail
          go_roundw
          case rel => exact ⟨k + 1, _, by omega, by go_num, by rw [HW.out, World.drewN_drewN], tabs_snoc HT.out HX.out HY.out HXY.out⟩
          case measure => simp [intOf]; omega
        · rw [sameR_f hxy]
          have HXY := Lib.hid hxy
          clear hxy
          go_wp2_with fail
          go_ret
          exact ⟨ret_bool (sameT_f (tabs_stop HX.out HY.out HXY.out)).symm, _, by rw [HW.out, World.drewN_drewN]⟩
      · go_wp2
        go_ret
        have hkn : k = n := by omega
        subst hkn
        have ht := HT.out
        rw [List.take_of_length_le (Nat.le_of_eq h.1), List.take_of_length_le (Nat.le_of_eq h'.1)] at ht
        exact ⟨ret_bool (sameT_t ht).symm, _, HW.out⟩
  · have hne : ((n : Int) != (n' : Int)) = true := by rw [bne_iff_ne]; omega
    go_enter Try.func103, Try.ntmps103
    go_wp2_with fail
    go_ret
    exact ⟨ret_bool (sameT_f (by rintro rfl; exact hnn (h.1.symm.trans h'.1))).symm, 0, rfl⟩

set_option maxHeartbeats 1000000 in
theorem implSameChoice_any (s s' : Int) (A A' : Option Addr) (n n' cap cap' : Nat) (xss yss : List (List (List Int))) (w : World) (h : TabsAt w A n xss) (h' : TabsAt w A' n' yss) (hn : n ≤ 4611686018427387904) (hn' : n' ≤ 4611686018427387904)
    (hrows : Wide3 4611686018427387904 xss) (hrows' : Wide3 4611686018427387904 yss) :
    Calls Try.prog 53 #[.agg #[.int .i64 s, .slice A n cap], .agg #[.int .i64 s', .slice A' n' cap']] w fun e w' => e = .returned (.bool (sameC s s' xss yss)) ∧ Below w.heap.size w w' := by
  have HR := Lib.hid hrows
  have HR' := Lib.hid hrows'
  clear hrows hrows'
  by_cases hss : s = s'
  · subst hss
    rw [sameC_of rfl]
    go_enter Try.func53, Try.ntmps53
    go_wp2_with fail
    refine (equalFunc3_any _ _ _ _ _ _ xss yss _ (h.below (by go_grown)) (h'.below (by go_grown)) hn hn' HR.out HR'.out).mono ?_
    rintro e w2 ⟨rfl, m, rfl⟩
    rcases hs : sameT xss yss with _ | _
    · go_wp2_with fail
      go_ret
      exact ⟨ret_bool hs.symm, below_drewN' (by go_grown) _⟩
    · go_wp2_with fail
      go_ret
      exact ⟨ret_bool hs.symm, below_drewN' (by go_grown) _⟩
  · have hne : (s == s') = false := by rw [beq_eq_false_iff_ne]; exact hss
    have HE := Lib.hid hss
    clear hss
    go_enter Try.func53, Try.ntmps53
    go_wp2_with fail
    go_ret
    exact ⟨ret_bool (sameC_f HE.out).symm, by go_grown⟩

set_option maxHeartbeats 1000000 in
theorem specSameChoice_any (s s' : Int) (A A' : Option Addr) (n n' cap cap' : Nat) (xss yss : List (List (List Int))) (w : World) (h : TabsAt w A n xss) (h' : TabsAt w A' n' yss) (hn : n ≤ 4611686018427387904) (hn' : n' ≤ 4611686018427387904)
    (hrows : Wide3 4611686018427387904 xss) (hrows' : Wide3 4611686018427387904 yss) :
    Calls Try.prog 52 #[.agg #[.int .i64 s, .slice A n cap], .agg #[.int .i64 s', .slice A' n' cap']] w fun e w' => e = .returned (.bool (sameC s s' xss yss)) ∧ Below w.heap.size w w' := by
  have HR := Lib.hid hrows
  have HR' := Lib.hid hrows'
  clear hrows hrows'
  by_cases hss : s = s'
  · subst hss
    rw [sameC_of rfl]
    by_cases hnn : n = n'
    · subst hnn
      go_enter Try.func52, Try.ntmps52
      go_wp2_with fail
      obtain ⟨W0, hW0⟩ : ∃ W0, W0 = (w.alloc (.cells #[.int .i64 s, .slice A n cap] 56)).alloc (.cells #[.int .i64 s, .slice A' n cap'] 56) := ⟨_, rfl⟩
      rw [← hW0]
      have b0 : Below w.heap.size w W0 := by rw [hW0]; go_grown
      have c1 : W0.cell? ⟨w.heap.size, 1, none⟩ = some (.slice A n cap) := by rw [hW0]; go_cell
      have c2 : W0.cell? ⟨w.heap.size + 1, 1, none⟩ = some (.slice A' n cap') := by rw [hW0]; go_cell
      have H1 := Lib.hid (h.below b0)
      have H2 := Lib.hid (h'.below b0)
      have B0 := Lib.hid b0
      clear hW0 b0
      go_loopw [5] (fun i wr => ∃ k m : Nat, k ≤ n ∧ i = .int .i64 k ∧ wr = W0.drewN m ∧ xss.take k = yss.take k) (fun i _ => n - (intOf i).toNat)
      case atStart => exact ⟨0, 0, Nat.zero_le _, rfl, rfl, by simp⟩
      case round =>
        obtain ⟨k, m, hk, rfl, hw, htake⟩ := hrel
        have HT := Lib.hid htake
        have HW := Lib.hid hw
        have h1 : TabsAt wr A n xss := by rw [hw]; exact H1.out.drewN m
        have h2 : TabsAt wr A' n yss := by rw [hw]; exact H2.out.drewN m
        have d1 : wr.cell? ⟨w.heap.size, 1, none⟩ = some (.slice A n cap) := by rw [hw]; exact c1
        have d2 : wr.cell? ⟨w.heap.size + 1, 1, none⟩ = some (.slice A' n cap') := by rw [hw]; exact c2
        clear htake hw c1 c2
        by_cases hlt : k < n
        · obtain ⟨xs, b, off, A1, e1, hx, rfl, hc, hnum⟩ := h1.at_ hlt
          obtain ⟨ys, b', off', A2, e2, hy, rfl, hc', hnum'⟩ := h2.at_ hlt
          have HX := Lib.hid hx
          have HY := Lib.hid hy
          have HN := Lib.hid hnum
          have HN' := Lib.hid hnum'
          have hk0 : (0 : Int) ≤ (k : Int) := by omega
          have hkn : (k : Int) < (n : Int) := by omega
          clear hx hy hnum hnum' h1 h2
          by_cases hxy : xs = ys
          · have hs : sameR xs ys = true := sameR_t hxy
            have HXY := Lib.hid hxy
            clear hxy
            go_wp2_with fail
            go_quiet ((go_at_call 65; exact Calls.quiet_of (l06SameRows_any _ _ _ _ _ _ _ _ _ (HN.out.drewN _) (HN'.out.drewN _) (HR.out _ _ HX.out).1 (HR'.out _ _ HY.out).1 (HR.out _ _ HX.out).2 (HR'.out _ _ HY.out).2)))
            go_wp2_with fail
            go_roundw
            case rel => exact ⟨k + 1, _, by omega, by go_num, by rw [HW.out, World.drewN_drewN], tabs_snoc HT.out HX.out HY.out HXY.out⟩
            case measure => simp [intOf]; omega
          · have hs : sameR xs ys = false := sameR_f hxy
            have HXY := Lib.hid hxy
            clear hxy
            go_wp2_with fail
            go_quiet ((go_at_call 65; exact Calls.quiet_of (l06SameRows_any _ _ _ _ _ _ _ _ _ (HN.out.drewN _) (HN'.out.drewN _) (HR.out _ _ HX.out).1 (HR'.out _ _ HY.out).1 (HR.out _ _ HX.out).2 (HR'.out _ _ HY.out).2)))
            go_wp2_with fail
            go_ret
            exact ⟨ret_bool (sameT_f (tabs_stop HX.out HY.out HXY.out)).symm, by rw [HW.out]; exact below_drewN' (below_drewN' B0.out _) _⟩
        · go_wp2
          go_ret
          have hkn : k = n := by omega
          subst hkn
          have ht := HT.out
          rw [List.take_of_length_le (Nat.le_of_eq h.1), List.take_of_length_le (Nat.le_of_eq h'.1)] at ht
          exact ⟨ret_bool (sameT_t ht).symm, by rw [HW.out]; exact below_drewN' B0.out _⟩
    · have hne : ((n : Int) != (n' : Int)) = true := by rw [bne_iff_ne]; omega
      go_enter Try.func52, Try.ntmps52
      go_wp2_with fail
      go_ret
      exact ⟨ret_bool (sameT_f (by rintro rfl; exact hnn (h.1.symm.trans h'.1))).symm, by go_grown⟩
  · have hne : (s != s') = true := by rw [bne_iff_ne]; exact hss
    have HE := Lib.hid hss
    clear hss
    go_enter Try.func52, Try.ntmps52
    go_wp2_with fail
    go_ret
    exact ⟨ret_bool (sameC_f HE.out).symm, by go_grown⟩

end Go.Proofs.Ytikimfncpemmkaa
