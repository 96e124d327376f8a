/-
  The place of a number in a list: the contracts of l01Place and slices.Index.
-/
import Derived.Test.YtcglncepmieaaaaHelp
namespace Go.Proofs.Ytcglncepmieaaaa
open Go.RowKit Go.Deep Go.ChangeShapes Go.WideShapes

/-- The place of a number in a list, counted from k on; -1 if it is not there. -/
def placeOf : List Int → Int → Nat → Int
  | [], _, _ => -1
  | x :: xs, v, k => if x = v then (k : Int) else placeOf xs v (k + 1)
theorem placeOf_hit {v : Int} : ∀ {xs : List Int} {k k0 : Nat}, xs[k]? = some v → (∀ j, j < k → xs[j]? ≠ some v) → placeOf xs v k0 = ((k0 + k : Nat) : Int)
  | [], k, k0, h, _ => by simp at h
  | x :: xs, 0, k0, h, _ => by
    simp only [List.getElem?_cons_zero, Option.some.injEq] at h
    simp [placeOf, h]
  | x :: xs, k + 1, k0, h, hn => by
    have h0 : ¬ x = v := fun e => hn 0 (by omega) (by simp [e])
    rw [placeOf, if_neg h0, placeOf_hit (k := k) (by simpa using h) (fun j hj => by have := hn (j + 1) (by omega); simpa using this)]
    congr 1
    omega
theorem placeOf_miss {v : Int} : ∀ {xs : List Int} {k0 : Nat}, (∀ j, j < xs.length → xs[j]? ≠ some v) → placeOf xs v k0 = -1
  | [], _, _ => rfl
  | x :: xs, k0, h => by
    have h0 : ¬ x = v := fun e => h 0 (by simp) (by simp [e])
    rw [placeOf, if_neg h0]
    exact placeOf_miss (fun j hj => by have := h (j + 1) (by simpa using hj); simpa using this)
theorem ne_done {xs : List Int} {v x : Int} {k : Nat} (h : ∀ j, j < k → xs[j]? ≠ some v) (hx : xs[k]? = some x) (hne : ¬ x = v) : ∀ j, j < k + 1 → xs[j]? ≠ some v := fun j hj => by
  rcases Nat.lt_or_ge j k with a | a
  · exact h j a
  · obtain rfl : j = k := by omega
    rw [hx]; exact fun e => hne (Option.some.inj e)

theorem slIndex_any (A : Option Addr) (n cap : Nat) (xs : List Int) (v : Int) (w : World) (h : NumsAt w A n xs) (hn : n ≤ 4611686018427387904) :
    Calls Try.prog 118 #[.slice A n cap, .int .i64 v] w fun e w' => e = .returned (.int .i64 (placeOf xs v 0)) ∧ w = w' := by
  have HL := Lib.hid h.1
  go_enter Try.func118, Try.ntmps118
  go_wp2
  go_loop [8] (fun i => ∃ k : Nat, k ≤ n ∧ i = .int .i64 k ∧ ∀ j, j < k → xs[j]? ≠ some v) (fun i => n - (intOf i).toNat)
  case atStart => exact ⟨0, Nat.zero_le _, rfl, fun j hj => by omega⟩
  case round =>
    obtain ⟨k, hk, rfl, hall⟩ := hrel
    have HA := Lib.hid hall
    clear hall
    by_cases hlt : k < n
    · obtain ⟨x, b, off, hx, rfl, hc⟩ := h.at_ hlt
      have HX := Lib.hid hx
      have hk0 : (0 : Int) ≤ (k : Int) := by omega
      have hkn : (k : Int) < (n : Int) := by omega
      clear hx
      by_cases hxv : v = x
      · have HXV := Lib.hid hxv
        have hbq : (v == x) = true := by rw [beq_iff_eq]; exact hxv
        clear hxv
        go_wp2_with fail
        go_ret
        exact ⟨ret_int (by rw [placeOf_hit (k := k) (by rw [HX.out, HXV.out]) HA.out]; simp), rfl⟩
      · have HXV := Lib.hid hxv
        have hbq : (v == x) = false := by rw [beq_eq_false_iff_ne]; exact hxv
        clear hxv
        go_wp2_with fail
        go_round
        case rel => exact ⟨k + 1, by omega, by go_num, ne_done HA.out HX.out (fun e => HXV.out e.symm)⟩
        case measure => simp [intOf]; omega
    · go_wp2
      go_ret
      have hkn : k = n := by omega
      subst hkn
      exact ⟨ret_int (placeOf_miss (fun j hj => HA.out j (by rw [← HL.out]; exact hj))).symm, rfl⟩
theorem slIndex_q (A : Option Addr) (n cap : Nat) (xs : List Int) (v : Int) (w : World) (h : NumsAt w A n xs) (hn : n ≤ 4611686018427387904) :
    Calls Try.prog 118 #[.slice A n cap, .int .i64 v] w fun e w' => e = .returned (.int .i64 (placeOf xs v 0)) ∧ ∃ k, w' = w.drewN k :=
  (slIndex_any A n cap xs v w h hn).mono fun _ _ hh => ⟨hh.1, 0, hh.2.symm⟩
theorem placeOf_le {v : Int} : ∀ {xs : List Int} {i k0 : Nat}, xs[i]? = some v → ∃ p, p ≤ i ∧ xs[p]? = some v ∧ (∀ j, j < p → xs[j]? ≠ some v) ∧ placeOf xs v k0 = ((k0 + p : Nat) : Int)
  | [], i, k0, h => by simp at h
  | x :: xs, i, k0, h => by
    by_cases hx : x = v
    · exact ⟨0, Nat.zero_le _, by simp [hx], fun j hj => by omega, by simp [placeOf, hx]⟩
    · rcases i with _ | i
      · simp only [List.getElem?_cons_zero, Option.some.injEq] at h; exact absurd h hx
      · obtain ⟨p, h1, h2, h3, h4⟩ := placeOf_le (xs := xs) (i := i) (k0 := k0 + 1) (by simpa using h)
        refine ⟨p + 1, by omega, by simpa using h2, fun j hj => ?_, ?_⟩
        · rcases j with _ | j
          · simp only [List.getElem?_cons_zero, ne_eq, Option.some.injEq]; exact hx
          · have := h3 j (by omega); simpa using this
        · rw [placeOf, if_neg hx, h4]; congr 1; omega

end Go.Proofs.Ytcglncepmieaaaa
