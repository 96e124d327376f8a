/-
  Sets of states: the contracts of isSet, l00Rises, l01Set, l00Has, checkSetAndWord, markSet, set and l01Back.
-/
import Derived.Test.YtcglncepmieaaaaHelp
namespace Go.Proofs.Ytcglncepmieaaaa
open Go.RowKit Go.Deep Go.ChangeShapes Go.WideShapes

def hasB (xs : List Int) (v : Int) : Bool := xs.any (fun x => decide (x = v))
theorem hasB_t {xs : List Int} {k : Nat} {x v : Int} (hx : xs[k]? = some x) (h : x = v) : hasB xs v = true := by
  simp only [hasB, List.any_eq_true, decide_eq_true_eq]
  exact ⟨x, List.mem_of_getElem? hx, h⟩
theorem hasB_snoc {xs : List Int} {k : Nat} {x v : Int} (hx : xs[k]? = some x) : hasB (xs.take (k + 1)) v = (hasB (xs.take k) v || decide (x = v)) := by
  rw [take_snoc hx]; simp [hasB]

/-- The place k of a set of states is right. -/
def setAt (s : Int) (xs : List Int) (k : Nat) : Bool := belowB s (xs.getD k 0) && (decide (k = 0) || decide (xs.getD (k - 1) 0 < xs.getD k 0))
def setB (s : Int) (xs : List Int) : Bool := (List.range xs.length).all (setAt s xs)
theorem setB_t {s : Int} {xs : List Int} {n : Nat} (hn : xs.length = n) (h : ∀ j, j < n → setAt s xs j = true) : setB s xs = true := by
  subst hn; simpa [setB] using h
theorem setB_f {s : Int} {xs : List Int} {n k : Nat} (hn : xs.length = n) (hk : k < n) (h : setAt s xs k = false) : setB s xs = false := by
  subst hn
  rw [setB, List.all_eq_false]
  exact ⟨k, List.mem_range.2 hk, by simp [h]⟩
theorem setB_mem {s : Int} {xs : List Int} (h : setB s xs = true) : ∀ x ∈ xs, 0 ≤ x ∧ x < s := by
  intro x hx
  obtain ⟨k, hk⟩ := List.getElem?_of_mem hx
  have hlt : k < xs.length := by
    rcases Nat.lt_or_ge k xs.length with h | h
    · exact h
    · rw [List.getElem?_eq_none h] at hk; cases hk
  simp only [setB, List.all_eq_true, List.mem_range, setAt, Bool.and_eq_true, belowB, decide_eq_true_eq] at h
  have := (h k hlt).1
  rw [List.getD, hk] at this
  exact this
theorem setAt_low {s x : Int} {xs : List Int} {k : Nat} (hx : xs[k]? = some x) (hb : belowB s x = false) : setAt s xs k = false := by
  simp [setAt, List.getD, hx, hb]
theorem setAt_first {s x : Int} {xs : List Int} (hx : xs[0]? = some x) (hb : belowB s x = true) : setAt s xs 0 = true := by
  simp [setAt, List.getD, hx, hb]
theorem setAt_next {s x y : Int} {xs : List Int} {k : Nat} (hx : xs[k + 1]? = some x) (hy : xs[k]? = some y) (hb : belowB s x = true) : setAt s xs (k + 1) = decide (y < x) := by
  simp [setAt, List.getD, hx, hy, hb]
theorem setAt_done {s : Int} {xs : List Int} {k : Nat} (h : ∀ j, j < k → setAt s xs j = true) (hk : setAt s xs k = true) : ∀ j, j < k + 1 → setAt s xs j = true := by
  intro j hj
  rcases Nat.lt_or_ge j k with h1 | h1
  · exact h j h1
  · obtain rfl : j = k := by omega
    exact hk

set_option maxHeartbeats 1000000 in
theorem isSet_any (s : Int) (A : Option Addr) (n cap : Nat) (xs : List Int) (w : World) (h : NumsAt w A n xs) (hn : n ≤ 4611686018427387904) :
    Calls Try.prog 170 #[.int .i64 s, .slice A n cap] w fun e w' => e = .returned (.bool (setB s xs)) ∧ w = w' := by
  have HL := Lib.hid h.1
  go_enter Try.func170, Try.ntmps170
  go_wp2
  go_loop [9] (fun i => ∃ k : Nat, k ≤ n ∧ i = .int .i64 k ∧ ∀ j, j < k → setAt s xs j = true) (fun i => n - (intOf i).toNat)
  case atStart => exact ⟨0, Nat.zero_le _, rfl, by omega⟩
  case round =>
    obtain ⟨k, hk, rfl, hall⟩ := hrel
    have HA := Lib.hid hall
    clear hall
    by_cases hlt : k < n
    · obtain ⟨x, b, off, hx, rfl, hc⟩ := h.at_ hlt
      have HX := Lib.hid hx
      have hk0 : (0 : Int) ≤ (k : Int) := by omega
      have hkn : (k : Int) < (n : Int) := by omega
      clear hx
      rcases hb : belowB s x with _ | _
      · go_wp2_with (go_at_call 82; refine (isBelow_any _ _ _).mono ?_; rintro e w' ⟨rfl, rfl⟩)
        go_ret
        exact ⟨ret_bool (setB_f HL.out hlt (setAt_low HX.out hb)).symm, rfl⟩
      · rcases k with _ | k
        · rw [Nat.add_zero] at hc
          go_wp2_with (go_at_call 82; refine (isBelow_any _ _ _).mono ?_; rintro e w' ⟨rfl, rfl⟩)
          go_round
          case rel => exact ⟨0 + 1, by omega, by go_num, setAt_done HA.out (setAt_first HX.out hb)⟩
          case measure => simp [intOf]; omega
        · obtain ⟨y, b2, off2, hy, e2, hc2⟩ := h.at_ (show k < n by omega)
          simp only [Option.some.injEq, Addr.mk.injEq, and_true] at e2
          obtain ⟨rfl, rfl⟩ := e2
          have HY := Lib.hid hy
          have hz : decide ((0 : Int) < ((k + 1 : Nat) : Int)) = true := by rw [decide_eq_true_eq]; omega
          have hsub : IntKind.i64.wrap (((k + 1 : Nat) : Int) - 1) = (k : Int) := by rw [IntWalk.i64_in _ (by omega)]; omega
          have hk1 : (0 : Int) ≤ (k : Int) := by omega
          have hk2 : (k : Int) < (n : Int) := by omega
          clear hy
          rcases hd : decide (y < x) with _ | _
          · have hge : decide (x ≤ y) = true := by simp at hd ⊢; omega
            go_wp2_with (go_at_call 82; refine (isBelow_any _ _ _).mono ?_; rintro e w' ⟨rfl, rfl⟩)
            go_ret
            exact ⟨ret_bool (setB_f HL.out hlt ((setAt_next HX.out HY.out hb).trans hd)).symm, rfl⟩
          · have hge : decide (x ≤ y) = false := by simp at hd ⊢; omega
            go_wp2_with (go_at_call 82; refine (isBelow_any _ _ _).mono ?_; rintro e w' ⟨rfl, rfl⟩)
            go_round
            case rel => exact ⟨k + 1 + 1, by omega, by go_num, setAt_done HA.out ((setAt_next HX.out HY.out hb).trans hd)⟩
            case measure => simp [intOf]; omega
    · go_wp2
      go_ret
      have hkn : k = n := by omega
      subst hkn
      exact ⟨ret_bool (setB_t HL.out HA.out).symm, rfl⟩

set_option maxHeartbeats 1000000 in
theorem l00Rises_any (A : Option Addr) (n cap : Nat) (xs : List Int) (s : Int) (w : World) (h : NumsAt w A n xs) (hn : n ≤ 4611686018427387904) :
    Calls Try.prog 152 #[.slice A n cap, .int .i64 0, .int .i64 (s - 1)] w fun e w' => e = .returned (.bool (setB s xs)) ∧ ∃ m, w' = w.drewN m := by
  have HL := Lib.hid h.1
  go_enter Try.func152, Try.ntmps152
  go_wp2_with fail
  go_loopw [7] (fun i wr => ∃ k m : Nat, k ≤ n ∧ i = .int .i64 k ∧ wr = w.drewN m ∧ ∀ j, j < k → setAt s xs j = true) (fun i _ => n - (intOf i).toNat)
  case atStart => exact ⟨0, 0, Nat.zero_le _, rfl, rfl, by omega⟩
  case round =>
    obtain ⟨k, m, hk, rfl, hw, hall⟩ := hrel
    have HA := Lib.hid hall
    have HW := Lib.hid hw
    have h1 : NumsAt wr A n xs := by rw [hw]; exact h.drewN m
    clear hall hw
    by_cases hlt : k < n
    · obtain ⟨x, b, off, hx, rfl, hc⟩ := h1.at_ hlt
      have HX := Lib.hid hx
      have hk0 : (0 : Int) ≤ (k : Int) := by omega
      have hkn : (k : Int) < (n : Int) := by omega
      clear hx
      rcases hb : belowB s x with _ | _
      · have hin : inB 0 (s - 1) x = false := by rw [← belowB_inB]; exact hb
        clear h1
        go_wp2_with fail
        go_quiet ((go_at_call 94; exact quiet_eq (l00In_any _ _ _ _)))
        go_wp2_with fail
        go_ret
        exact ⟨ret_bool (setB_f HL.out hlt (setAt_low HX.out hb)).symm, _, by rw [HW.out, World.drewN_drewN]⟩
      · have hin : inB 0 (s - 1) x = true := by rw [← belowB_inB]; exact hb
        rcases k with _ | k
        · rw [Nat.add_zero] at hc
          clear h1
          go_wp2_with fail
          go_quiet ((go_at_call 94; exact quiet_eq (l00In_any _ _ _ _)))
          go_wp2_with fail
          go_roundw
          case rel => exact ⟨0 + 1, _, by omega, by go_num, by rw [HW.out, World.drewN_drewN], setAt_done HA.out (setAt_first HX.out hb)⟩
          case measure => simp [intOf]; omega
        · obtain ⟨y, b2, off2, hy, e2, hc2⟩ := h1.at_ (show k < n by omega)
          simp only [Option.some.injEq, Addr.mk.injEq, and_true] at e2
          obtain ⟨rfl, rfl⟩ := e2
          have HY := Lib.hid hy
          have hz : decide ((0 : Int) < ((k + 1 : Nat) : Int)) = true := by rw [decide_eq_true_eq]; omega
          have hsub : IntKind.i64.wrap (((k + 1 : Nat) : Int) - 1) = (k : Int) := by rw [IntWalk.i64_in _ (by omega)]; omega
          have hk1 : (0 : Int) ≤ (k : Int) := by omega
          have hk2 : (k : Int) < (n : Int) := by omega
          clear hy h1
          rcases hd : decide (y < x) with _ | _
          · have hge : decide (x ≤ y) = true := by simp at hd ⊢; omega
            go_wp2_with fail
            go_quiet ((go_at_call 94; exact quiet_eq (l00In_any _ _ _ _)))
            go_wp2_with fail
            go_ret
            exact ⟨ret_bool (setB_f HL.out hlt ((setAt_next HX.out HY.out hb).trans hd)).symm, _, by rw [HW.out, World.drewN_drewN]⟩
          · have hge : decide (x ≤ y) = false := by simp at hd ⊢; omega
            go_wp2_with fail
            go_quiet ((go_at_call 94; exact quiet_eq (l00In_any _ _ _ _)))
            go_wp2_with fail
            go_roundw
            case rel => exact ⟨k + 1 + 1, _, by omega, by go_num, by rw [HW.out, World.drewN_drewN], setAt_done HA.out ((setAt_next HX.out HY.out hb).trans hd)⟩
            case measure => simp [intOf]; omega
    · clear h1
      go_wp2
      go_ret
      have hkn : k = n := by omega
      subst hkn
      exact ⟨ret_bool (setB_t HL.out HA.out).symm, _, HW.out⟩

end Go.Proofs.Ytcglncepmieaaaa
