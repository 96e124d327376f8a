/-
  The place of a list among lists: the contracts of the model's l01Find and of the program's place.
-/
import Derived.Test.YtcglncepmieaaaaSame
import Derived.Test.YtcglncepmieaaaaLaw
namespace Go.Proofs.Ytcglncepmieaaaa
open Go.RowKit Go.Deep Go.ChangeShapes Go.WideShapes

/-- The first place of a list among lists, -1 if it is not there. -/
def findL : List (List Int) → List Int → Nat → Int
  | [], _, _ => -1
  | y :: ys, xs, k => if y = xs then (k : Int) else findL ys xs (k + 1)
theorem findL_hit {xs : List Int} : ∀ {Y : List (List Int)} {k k0 : Nat}, Y[k]? = some xs → (∀ j y, j < k → Y[j]? = some y → ¬ y = xs) → findL Y xs k0 = ((k0 + k : Nat) : Int)
  | [], k, k0, h, _ => by simp at h
  | y :: ys, 0, k0, h, _ => by
    simp only [List.getElem?_cons_zero, Option.some.injEq] at h
    unfold findL
    rw [if_pos h]
    rfl
  | y :: ys, k + 1, k0, h, hn => by
    unfold findL
    rw [if_neg (hn 0 y (Nat.succ_pos _) rfl), findL_hit (k := k) (by simpa using h) (fun j z hj hz => hn (j + 1) z (by omega) (by simpa using hz))]
    congr 1
    omega
theorem findL_miss {xs : List Int} : ∀ {Y : List (List Int)} {k0 : Nat}, (∀ (j : Nat) (y : List Int), Y[j]? = some y → ¬ y = xs) → findL Y xs k0 = -1
  | [], _, _ => rfl
  | y :: ys, k0, hn => by
    unfold findL
    rw [if_neg (hn 0 y rfl), findL_miss (fun j z hz => hn (j + 1) z (by simpa using hz))]
theorem findL_range {xs : List Int} : ∀ {Y : List (List Int)} {k0 : Nat}, -1 ≤ findL Y xs k0 ∧ findL Y xs k0 ≤ ((k0 + Y.length : Nat) : Int)
  | [], k0 => by unfold findL; exact ⟨Int.le_refl _, by omega⟩
  | y :: ys, k0 => by
    unfold findL
    split
    · exact ⟨by omega, by simp; omega⟩
    · have := findL_range (xs := xs) (Y := ys) (k0 := k0 + 1)
      exact ⟨this.1, by simp only [List.length_cons]; omega⟩

set_option maxRecDepth 100000 in
set_option maxHeartbeats 1000000 in
theorem l01Find_any (A A' : Option Addr) (n cap l cap' : Nat) (Y : List (List Int)) (xs : List Int) (w : World) (h : RowsAt w A n Y) (h' : NumsAt w A' l xs) (hn : n ≤ 4611686018427387904) (hl : l ≤ 4611686018427387904) (hrows : ∀ (r : Nat) (xs : List Int), Y[r]? = some xs → xs.length ≤ 4611686018427387904) :
    Calls Try.prog 76 #[.slice A n cap, .slice A' l cap'] w fun e w' => e = .returned (.int .i64 (findL Y xs 0)) ∧ ∃ m, w' = w.drewN m := by
  have HR := Lib.hid hrows
  have HL := Lib.hid h.1
  clear hrows
  go_enter Try.func76, Try.ntmps76
  go_wp2
  go_loopw [5] (fun i wr => ∃ k m : Nat, k ≤ n ∧ i = .int .i64 k ∧ wr = w.drewN m ∧ (∀ j y, j < k → Y[j]? = some y → ¬ y = xs)) (fun i _ => n - (intOf i).toNat)
  case atStart => exact ⟨0, 0, Nat.zero_le _, rfl, rfl, fun j y hj => absurd hj (Nat.not_lt_zero _)⟩
  case round =>
    obtain ⟨k, m, hk, rfl, hw, hno⟩ := hrel
    have HNO := Lib.hid hno
    have HW := Lib.hid hw
    have h1 : RowsAt wr A n Y := by rw [hw]; exact h.drewN m
    have h2 : NumsAt wr A' l xs := by rw [hw]; exact h'.drewN m
    clear hno hw
    by_cases hlt : k < n
    · obtain ⟨ys, b, off, A1, c1, hy, rfl, hc, hnum⟩ := h1.at_ hlt
      have HY := Lib.hid hy
      have HN := Lib.hid hnum
      have HN' := Lib.hid h2
      have hk0 : (0 : Int) ≤ (k : Int) := by omega
      have hkn : (k : Int) < (n : Int) := by omega
      clear hy hnum h1 h2
      by_cases hxy : ys = xs
      · have hs : sameB ys xs = true := sameB_t hxy
        have HXY := Lib.hid hxy
        clear hxy
        go_wp2_with fail
        refine (l00Same_any _ _ _ _ _ _ ys xs wr HN.out HN'.out (HR.out _ _ HY.out) hl).mono ?_
        rw [hs]
        rintro e w2 ⟨rfl, m2, rfl⟩
        go_wp2_with fail
        go_ret
        refine ⟨ret_int ?_, _, by rw [HW.out, World.drewN_drewN]⟩
        rw [findL_hit (k := k) (by rw [HY.out, HXY.out]) HNO.out, Nat.zero_add]
      · have hs : sameB ys xs = false := sameB_f hxy
        have HXY := Lib.hid hxy
        clear hxy
        go_wp2_with fail
        refine (l00Same_any _ _ _ _ _ _ ys xs wr HN.out HN'.out (HR.out _ _ HY.out) hl).mono ?_
        rw [hs]
        rintro e w2 ⟨rfl, m2, rfl⟩
        go_wp2_with fail
        go_roundw
        case rel =>
          refine ⟨k + 1, _, by omega, by go_num, by rw [HW.out, World.drewN_drewN], fun j y hj hy => ?_⟩
          by_cases hjk : j = k
          · subst hjk
            rw [HY.out] at hy
            obtain rfl := Option.some.inj hy
            exact HXY.out
          · exact HNO.out j y (by omega) hy
        case measure => simp [intOf]; omega
    · clear h1 h2
      go_wp2
      go_ret
      refine ⟨ret_int (findL_miss (fun j y hy => HNO.out j y ?_ hy)).symm, _, HW.out⟩
      have : j < Y.length := by
        rcases Nat.lt_or_ge j Y.length with a | a
        · exact a
        · rw [List.getElem?_eq_none a] at hy; cases hy
      have := HL.out
      omega

end Go.Proofs.Ytcglncepmieaaaa
