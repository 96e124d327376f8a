/-
  Divisions and congruences: the contracts of l01Division, isDivision, leastStates, l01Congruent, keepsClasses.
-/
import Derived.Test.YtkbnbcecphmihaaHelp
namespace Go.Proofs.Ytkbnbcecphmihaa
open Go.RowKit Go.Deep Go.ChangeShapes Go.WideShapes

theorem nums_base {w : World} {A : Option Addr} {n : Nat} {xs : List Int} (h : NumsAt w A n xs) (hn : 0 < n) :
    ∃ b off, A = some ⟨b, off, none⟩ ∧ ∀ (k : Nat) (x : Int), xs[k]? = some x → w.cell? ⟨b, off + k, none⟩ = some (.int .i64 x) := by
  obtain ⟨x, b, off, hx, hA, hc⟩ := h.at_ hn
  refine ⟨b, off, hA, fun k y hy => ?_⟩
  obtain ⟨b', off', e, hc'⟩ := h.2 k y hy
  rw [hA] at e
  simp only [Option.some.injEq, Addr.mk.injEq, and_true] at e
  obtain ⟨rfl, rfl⟩ := e
  exact hc'

/-- How many classes the first k states have. -/
def cntK (cls : List Int) : Nat → Nat
  | 0 => 0
  | k + 1 => if cls.getD k 0 = (cntK cls k : Int) then cntK cls k + 1 else cntK cls k
theorem cntK_le (cls : List Int) : ∀ k, cntK cls k ≤ k
  | 0 => Nat.le_refl _
  | k + 1 => by have := cntK_le cls k; unfold cntK; split <;> omega
theorem cntK_eq {cls : List Int} {k : Nat} {c : Int} (hc : cls[k]? = some c) (h : c = (cntK cls k : Int)) : cntK cls (k + 1) = cntK cls k + 1 := by
  rw [cntK, if_pos (by rw [List.getD, hc]; exact h)]
theorem cntK_ne {cls : List Int} {k : Nat} {c : Int} (hc : cls[k]? = some c) (h : ¬ c = (cntK cls k : Int)) : cntK cls (k + 1) = cntK cls k := by
  rw [cntK, if_neg (by rw [List.getD, hc]; exact h)]
def divAt (cls : List Int) (k : Nat) : Bool := inB 0 (cntK cls k : Int) (cls.getD k 0)
theorem divAt_is {cls : List Int} {k : Nat} {c : Int} (hc : cls[k]? = some c) : divAt cls k = inB 0 (cntK cls k : Int) c := by
  rw [divAt, List.getD, hc]; rfl
def divB (s : Int) (cls : List Int) : Bool := (List.range cls.length).all (divAt cls) && decide ((cls.length : Int) = s)
theorem divB_t {s : Int} {cls : List Int} {n : Nat} (hn : cls.length = n) (hs : (n : Int) = s) (h : ∀ j, j < n → divAt cls j = true) : divB s cls = true := by
  subst hn; simpa [divB, hs] using h
theorem divB_f {s : Int} {cls : List Int} {n k : Nat} (hn : cls.length = n) (hk : k < n) (h : divAt cls k = false) : divB s cls = false := by
  subst hn
  have : (List.range cls.length).all (divAt cls) = false := by
    rw [List.all_eq_false]
    exact ⟨k, List.mem_range.2 hk, by simp [h]⟩
  simp [divB, this]
theorem divB_g {s : Int} {cls : List Int} {n : Nat} (hn : cls.length = n) (hs : ¬ (n : Int) = s) : divB s cls = false := by
  subst hn; simp [divB, hs]
theorem divAt_done {cls : List Int} {k : Nat} (h : ∀ j, j < k → divAt cls j = true) (hk : divAt cls k = true) : ∀ j, j < k + 1 → divAt cls j = true := by
  intro j hj
  rcases Nat.lt_or_ge j k with h1 | h1
  · exact h j h1
  · obtain rfl : j = k := by omega
    exact hk

theorem l01Division_any (A : Option Addr) (n cap : Nat) (cls : List Int) (s : Int) (w : World) (h : NumsAt w A n cls) (hn : n ≤ 1048576) :
    Calls Try.prog 93 #[.slice A n cap, .int .i64 s] w fun e w' => e = .returned (.bool (divB s cls)) ∧ w = w' := by
  have HL := Lib.hid h.1
  obtain ⟨bs, hbs⟩ : ∃ b, ((n : Int) == s) = b := ⟨_, rfl⟩
  go_enter Try.func93, Try.ntmps93
  go_wp2
  go_loop [5, 6] (fun u i => ∃ k : Nat, k ≤ n ∧ i = .int .i64 k ∧ u = .int .i64 (cntK cls k : Int) ∧ ∀ j, j < k → divAt cls j = true) (fun _ i => n - (intOf i).toNat)
  case atStart => exact ⟨0, Nat.zero_le _, rfl, rfl, by omega⟩
  case round =>
    obtain ⟨k, hk, rfl, rfl, hall⟩ := hrel
    have HA := Lib.hid hall
    have hck := cntK_le cls k
    clear hall
    by_cases hlt : k < n
    · obtain ⟨x, b, off, hx, rfl, hc⟩ := h.at_ hlt
      have hk0 : (0 : Int) ≤ (k : Int) := by omega
      have hkn : (k : Int) < (n : Int) := by omega
      have hdx := divAt_is hx
      rcases hin : inB 0 (cntK cls k : Int) x with _ | _
      · rw [hin] at hdx
        have HD := Lib.hid hdx
        clear hx hdx
        go_wp2_with (go_at_call 79; refine (l00In_any _ _ _ _).mono ?_; rintro e w' ⟨rfl, rfl⟩)
        go_ret
        exact ⟨ret_bool (divB_f HL.out hlt HD.out).symm, rfl⟩
      · rw [hin] at hdx
        have HD := Lib.hid hdx
        by_cases hxe : x = (cntK cls k : Int)
        · have hbe : (x == (cntK cls k : Int)) = true := by rw [beq_iff_eq]; exact hxe
          have HC := Lib.hid (cntK_eq hx hxe)
          clear hx hdx hxe
          go_wp2_with (go_at_call 79; refine (l00In_any _ _ _ _).mono ?_; rintro e w' ⟨rfl, rfl⟩)
          go_round
          case rel => exact ⟨k + 1, by omega, by go_num, by rw [HC.out]; go_num, divAt_done HA.out HD.out⟩
          case measure => simp [intOf]; omega
        · have hbe : (x == (cntK cls k : Int)) = false := by rw [beq_eq_false_iff_ne]; exact hxe
          have HC := Lib.hid (cntK_ne hx hxe)
          clear hx hdx hxe
          go_wp2_with (go_at_call 79; refine (l00In_any _ _ _ _).mono ?_; rintro e w' ⟨rfl, rfl⟩)
          go_round
          case rel => exact ⟨k + 1, by omega, by go_num, by rw [HC.out], divAt_done HA.out HD.out⟩
          case measure => simp [intOf]; omega
    · have hkn : k = n := by omega
      subst hkn
      rcases bs with _ | _
      · go_wp2
        go_ret
        exact ⟨ret_bool (divB_g HL.out (beq_eq_false_iff_ne.1 hbs)).symm, rfl⟩
      · go_wp2
        go_ret
        exact ⟨ret_bool (divB_t HL.out (beq_iff_eq.1 hbs) HA.out).symm, rfl⟩

theorem isDivision_any (A : Option Addr) (n cap : Nat) (cls : List Int) (s : Int) (w : World) (h : NumsAt w A n cls) (hn : n ≤ 1048576) :
    Calls Try.prog 96 #[.int .i64 s, .slice A n cap] w fun e w' => e = .returned (.bool (divB s cls)) ∧ w = w' := by
  have HL := Lib.hid h.1
  rcases hbs : ((n : Int) == s) with _ | _
  · go_enter Try.func96, Try.ntmps96
    go_wp2
    go_ret
    exact ⟨ret_bool (divB_g HL.out (beq_eq_false_iff_ne.1 hbs)).symm, rfl⟩
  · obtain rfl := beq_iff_eq.1 hbs
    clear hbs
    go_enter Try.func96, Try.ntmps96
    go_wp2
    go_loop [5, 14] (fun u i => ∃ k : Nat, k ≤ n ∧ i = .int .i64 k ∧ u = .int .i64 (cntK cls k : Int) ∧ ∀ j, j < k → divAt cls j = true) (fun _ i => n - (intOf i).toNat)
    case atStart => exact ⟨0, Nat.zero_le _, rfl, rfl, by omega⟩
    case round =>
      obtain ⟨k, hk, rfl, rfl, hall⟩ := hrel
      have HA := Lib.hid hall
      have hck := cntK_le cls k
      clear hall
      by_cases hlt : k < n
      · obtain ⟨x, b, off, hx, rfl, hc⟩ := h.at_ hlt
        have hk0 : (0 : Int) ≤ (k : Int) := by omega
        have hkn : (k : Int) < (n : Int) := by omega
        have hdx := divAt_is hx
        have hbl : belowB ((cntK cls k : Int) + 1) x = inB 0 (cntK cls k : Int) x := by rw [belowB_inB, Int.add_sub_cancel]
        rcases hin : inB 0 (cntK cls k : Int) x with _ | _
        · rw [hin] at hdx hbl
          have HD := Lib.hid hdx
          clear hx hdx
          go_wp2_with (go_at_call 81; refine (isBelow_any _ _ _).mono ?_; rintro e w' ⟨rfl, rfl⟩)
          go_ret
          exact ⟨ret_bool (divB_f HL.out hlt HD.out).symm, rfl⟩
        · rw [hin] at hdx hbl
          have HD := Lib.hid hdx
          have hx2 : 0 ≤ x ∧ x ≤ (cntK cls k : Int) := by simpa [inB] using hin
          have hx0 : 0 ≤ x := hx2.1
          have hx1 : x ≤ (cntK cls k : Int) := hx2.2
          by_cases hxe : x = (cntK cls k : Int)
          · have HC := Lib.hid (cntK_eq hx hxe)
            subst hxe
            have hgt : (cntK cls k : Int) < (cntK cls k : Int) + 1 := by omega
            clear hx hdx hx2
            go_wp2_with (go_at_call 81; refine (isBelow_any _ _ _).mono ?_; rintro e w' ⟨rfl, rfl⟩)
            go_round
            case rel => exact ⟨k + 1, by omega, by go_num, by rw [HC.out]; go_num, divAt_done HA.out HD.out⟩
            case measure => simp [intOf]; omega
          · have HC := Lib.hid (cntK_ne hx hxe)
            have hgt : ¬ (cntK cls k : Int) < x + 1 := by omega
            clear hx hdx hx2 hxe
            go_wp2_with (go_at_call 81; refine (isBelow_any _ _ _).mono ?_; rintro e w' ⟨rfl, rfl⟩)
            go_round
            case rel => exact ⟨k + 1, by omega, by go_num, by rw [HC.out], divAt_done HA.out HD.out⟩
            case measure => simp [intOf]; omega
      · have hkn : k = n := by omega
        subst hkn
        go_wp2
        go_ret
        exact ⟨ret_bool (divB_t HL.out rfl HA.out).symm, rfl⟩

end Go.Proofs.Ytkbnbcecphmihaa
