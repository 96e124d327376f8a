/-
  Equal roads: the contracts of l05Same and of both SameRoads.
-/
import Derived.Test.YtkhhemlfahdbnabSame
import Derived.Test.YtkhhemlfahdbnabRoad
namespace Go.Proofs.Ytkhhemlfahdbnab
open Go.RowKit Go.Deep Go.ChangeShapes Go.WideShapes

set_option maxRecDepth 100000 in
set_option maxHeartbeats 1000000 in
theorem l05Same_any (p p' : Nat) (s s' : Int) (A A' : Option Addr) (n n' cap cap' : Nat) (xss yss : List (List Int)) (w : World) (c0 : w.cell? ⟨p, 0, none⟩ = some (.int .i64 s)) (c1 : w.cell? ⟨p, 1, none⟩ = some (.slice A n cap))
    (c2 : w.cell? ⟨p', 0, none⟩ = some (.int .i64 s')) (c3 : w.cell? ⟨p', 1, none⟩ = some (.slice A' n' cap')) (h : RowsAt w A n xss) (h' : RowsAt w A' n' yss) (hn : n ≤ 4611686018427387904) (hn' : n' ≤ 4611686018427387904)
    (hrows : ∀ (r : Nat) (xs : List Int), xss[r]? = some xs → xs.length ≤ 4611686018427387904) (hrows' : ∀ (r : Nat) (xs : List Int), yss[r]? = some xs → xs.length ≤ 4611686018427387904) :
    Calls Try.prog 141 #[.pointer (some ⟨p, 0, none⟩), .pointer (some ⟨p', 0, none⟩)] w fun e w' => e = .returned (.bool (sameA s s' xss yss)) ∧ ∃ m, w' = w.drewN m := by
  have HR := Lib.hid hrows
  have HR' := Lib.hid hrows'
  clear hrows hrows'
  by_cases hss : s = s'
  · subst hss
    rw [sameA_of rfl]
    have hse : (s != s) = false := by simp
    by_cases hnn : n = n'
    · subst hnn
      have hne : ((n : Int) != (n : Int)) = false := by simp
      go_enter Try.func141, Try.ntmps141
      go_wp2_with fail
      go_quiet (fail)
      go_wp2_with fail
      clear hse hne
      go_loopw [5] (fun i wr => ∃ k m : Nat, k ≤ n ∧ i = .int .i64 k ∧ wr = w.drewN m ∧ xss.take k = yss.take k) (fun i _ => n - (intOf i).toNat)
      case atStart => exact ⟨0, _, Nat.zero_le _, rfl, rfl, by simp⟩
      case round =>
        obtain ⟨k, m, hk, rfl, hw, htake⟩ := hrel
        have HT := Lib.hid htake
        have HW := Lib.hid hw
        have h1 : RowsAt wr A n xss := by rw [hw]; exact h.drewN m
        have h2 : RowsAt wr A' n yss := by rw [hw]; exact h'.drewN m
        have d1 : wr.cell? ⟨p, 1, none⟩ = some (.slice A n cap) := by rw [hw]; exact c1
        have d2 : wr.cell? ⟨p', 1, none⟩ = some (.slice A' n cap') := by rw [hw]; exact c3
        clear htake hw c0 c1 c2 c3
        by_cases hlt : k < n
        · obtain ⟨xs, b, off, A1, e1, hx, rfl, hc, hnum⟩ := h1.at_ hlt
          obtain ⟨ys, b', off', A2, e2, hy, rfl, hc', hnum'⟩ := h2.at_ hlt
          have HX := Lib.hid hx
          have HY := Lib.hid hy
          have HN := Lib.hid hnum
          have HN' := Lib.hid hnum'
          have hk0 : (0 : Int) ≤ (k : Int) := by omega
          have hkn : (k : Int) < (n : Int) := by omega
          clear hx hy hnum hnum' h1 h2
          by_cases hxy : xs = ys
          · have hs : sameB xs ys = true := sameB_t hxy
            have HXY := Lib.hid hxy
            clear hxy
            go_wp2_with fail
            go_quiet ((go_at_call 142; exact Calls.quiet_of (l00Same_any _ _ _ _ _ _ _ _ _ (HN.out.drewN _) (HN'.out.drewN _) (HR.out _ _ HX.out) (HR'.out _ _ HY.out))))
            go_wp2_with fail
            go_roundw
            case rel => exact ⟨k + 1, _, by omega, by go_num, by rw [HW.out, World.drewN_drewN], rows_snoc HT.out HX.out HY.out HXY.out⟩
            case measure => simp [intOf]; omega
          · have hs : sameB xs ys = false := sameB_f hxy
            have HXY := Lib.hid hxy
            clear hxy
            go_wp2_with fail
            go_quiet ((go_at_call 142; exact Calls.quiet_of (l00Same_any _ _ _ _ _ _ _ _ _ (HN.out.drewN _) (HN'.out.drewN _) (HR.out _ _ HX.out) (HR'.out _ _ HY.out))))
            go_wp2_with fail
            go_ret
            exact ⟨ret_bool (sameR_f (rows_stop HX.out HY.out HXY.out)).symm, _, by rw [HW.out, World.drewN_drewN]⟩
        · go_wp2
          go_ret
          have hkn : k = n := by omega
          subst hkn
          have ht := HT.out
          rw [List.take_of_length_le (Nat.le_of_eq h.1), List.take_of_length_le (Nat.le_of_eq h'.1)] at ht
          exact ⟨ret_bool (sameR_t ht).symm, _, HW.out⟩
    · have hne : ((n : Int) != (n' : Int)) = true := by rw [bne_iff_ne]; omega
      go_enter Try.func141, Try.ntmps141
      go_wp2_with fail
      go_quiet (fail)
      go_wp2_with fail
      go_ret
      exact ⟨ret_bool (sameR_f (by rintro rfl; exact hnn (h.1.symm.trans h'.1))).symm, _, rfl⟩
  · have hne : (s != s') = true := by rw [bne_iff_ne]; exact hss
    have HE := Lib.hid hss
    clear hss
    go_enter Try.func141, Try.ntmps141
    go_wp2_with fail
    go_quiet (fail)
    go_wp2_with fail
    go_ret
    exact ⟨ret_bool (sameA_f HE.out).symm, _, rfl⟩

set_option maxHeartbeats 1000000 in
theorem implSameRoads_any (s s' : Int) (A A' : Option Addr) (n n' cap cap' : Nat) (xss yss : List (List Int)) (w : World) (h : RowsAt w A n xss) (h' : RowsAt w A' n' yss) (hn : n ≤ 4611686018427387904) (hn' : n' ≤ 4611686018427387904)
    (hrows : ∀ (r : Nat) (xs : List Int), xss[r]? = some xs → xs.length ≤ 4611686018427387904) (hrows' : ∀ (r : Nat) (xs : List Int), yss[r]? = some xs → xs.length ≤ 4611686018427387904) :
    Calls Try.prog 143 #[.agg #[.int .i64 s, .slice A n cap], .agg #[.int .i64 s', .slice A' n' cap']] w fun e w' => e = .returned (.bool (sameA s s' xss yss)) ∧ Below w.heap.size w w' := by
  have HR := Lib.hid hrows
  have HR' := Lib.hid hrows'
  clear hrows hrows'
  by_cases hss : s = s'
  · subst hss
    rw [sameA_of rfl]
    go_enter Try.func143, Try.ntmps143
    go_wp2_with fail
    refine (equalFunc_any _ _ _ _ _ _ xss yss _ (h.below (by go_grown)) (h'.below (by go_grown)) hn hn' HR.out HR'.out).mono ?_
    rintro e w2 ⟨rfl, m, rfl⟩
    rcases hs : sameR xss yss with _ | _
    · go_wp2_with fail
      go_ret
      exact ⟨ret_bool hs.symm, below_drewN' (by go_grown) _⟩
    · go_wp2_with fail
      go_ret
      exact ⟨ret_bool hs.symm, below_drewN' (by go_grown) _⟩
  · have hne : (s == s') = false := by rw [beq_eq_false_iff_ne]; exact hss
    have HE := Lib.hid hss
    clear hss
    go_enter Try.func143, Try.ntmps143
    go_wp2_with fail
    go_ret
    exact ⟨ret_bool (sameA_f HE.out).symm, by go_grown⟩

end Go.Proofs.Ytkhhemlfahdbnab
