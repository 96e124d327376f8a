/-
  Which lists are words of an automaton: the contracts of l01Word, isLetterList and of both ValidWord.
-/
import Derived.Test.YtcglncepmieaaaaValid
namespace Go.Proofs.Ytcglncepmieaaaa
open Go.RowKit Go.Deep Go.ChangeShapes Go.WideShapes

def isWordB (m : Int) (xs : List Int) : Bool := decide (xs.length ≤ 400) && xs.all (belowB m)
theorem isWordB_t {m : Int} {xs : List Int} (h : xs.length ≤ 400) (h' : xs.all (belowB m) = true) : isWordB m xs = true := by simp [isWordB, h, h']
theorem isWordB_f {m : Int} {xs : List Int} (h : ¬ xs.length ≤ 400) : isWordB m xs = false := by simp [isWordB, h]
theorem isWordB_g {m : Int} {xs : List Int} (h : xs.all (belowB m) = false) : isWordB m xs = false := by simp [isWordB, h]

set_option maxHeartbeats 1000000 in
theorem l01Word_any (p : Nat) (A A' : Option Addr) (n cap l cap' : Nat) (xs : List Int) (w : World) (c1 : w.cell? ⟨p, 1, none⟩ = some (.slice A n cap)) (h : NumsAt w A' l xs) (hn1 : 1 ≤ n) (hn3 : n ≤ 3) (hl : l ≤ 4611686018427387904) :
    Calls Try.prog 143 #[.pointer (some ⟨p, 0, none⟩), .slice A' l cap'] w fun e w' => e = .returned (.bool (isWordB (n : Int) xs)) ∧ ∃ m, w' = w.drewN m := by
  have HL := Lib.hid h.1
  have hlen : decide ((l : Int) ≤ 400) = decide (l ≤ 400) := by congr 1; exact propext ⟨fun h => by omega, fun h => by omega⟩
  have HD := Lib.hid hlen
  clear hlen
  go_enter Try.func143, Try.ntmps143
  go_wp2_with fail
  go_loopw [5] (fun i wr => ∃ k m : Nat, k ≤ l ∧ i = .int .i64 k ∧ wr = w.drewN m ∧ (xs.take k).all (belowB (n : Int)) = true) (fun i _ => l - (intOf i).toNat)
  case atStart => exact ⟨0, 0, Nat.zero_le _, rfl, rfl, by simp⟩
  case round =>
    obtain ⟨k, m, hk, rfl, hw, hall⟩ := hrel
    have HA := Lib.hid hall
    have HW := Lib.hid hw
    have h1 : NumsAt wr A' l xs := by rw [hw]; exact h.drewN m
    have d1 : wr.cell? ⟨p, 1, none⟩ = some (.slice A n cap) := by rw [hw]; exact c1
    clear hall hw
    by_cases hlt : k < l
    · obtain ⟨x, b, off, hx, rfl, hc⟩ := h1.at_ hlt
      have HX := Lib.hid hx
      have hk0 : (0 : Int) ≤ (k : Int) := by omega
      have hkn : (k : Int) < (l : Int) := by omega
      have hsub : IntKind.i64.wrap ((n : Int) - 1) = (n : Int) - 1 := IntWalk.i64_in _ (by omega)
      clear hx h1
      rcases hb : belowB (n : Int) x with _ | _
      · have hin : inB 0 ((n : Int) - 1) x = false := by rw [← belowB_inB]; exact hb
        go_wp2_with fail
        go_quiet ((go_at_call 94; exact quiet_eq (l00In_any _ _ _ _)))
        clear hsub
        go_wp2_with fail
        go_ret
        exact ⟨ret_bool (isWordB_g (all_stop HX.out hb)).symm, _, by rw [HW.out, World.drewN_drewN]⟩
      · have hin : inB 0 ((n : Int) - 1) x = true := by rw [← belowB_inB]; exact hb
        go_wp2_with fail
        go_quiet ((go_at_call 94; exact quiet_eq (l00In_any _ _ _ _)))
        clear hsub
        go_wp2_with fail
        go_roundw
        case rel => exact ⟨k + 1, _, by omega, by go_num, by rw [HW.out, World.drewN_drewN], all_snoc HA.out HX.out hb⟩
        case measure => simp [intOf]; omega
    · have hkn : k = l := by omega
      subst hkn
      clear h1 d1
      by_cases h4 : k ≤ 400
      · have h4' : (k : Int) ≤ 400 := by omega
        go_wp2
        go_ret
        exact ⟨ret_bool (isWordB_t (by rw [HL.out]; exact h4) (all_done HL.out HA.out)).symm, _, HW.out⟩
      · have h4' : ¬ (k : Int) ≤ 400 := by omega
        go_wp2
        go_ret
        exact ⟨ret_bool (isWordB_f (by rw [HL.out]; exact h4)).symm, _, HW.out⟩

theorem isLetterList_any (_s : Int) (_A A' : Option Addr) (n _cap l cap' : Nat) (xs : List Int) (w : World) (h : NumsAt w A' l xs) (_hn : n ≤ 4611686018427387904) (hl : l ≤ 4611686018427387904) :
    Calls Try.prog 89 #[.int .i64 (n : Int), .slice A' l cap'] w fun e w' => e = .returned (.bool (isWordB (n : Int) xs)) ∧ Below w.heap.size w w' := by
  have HL := Lib.hid h.1
  by_cases h4 : l ≤ 400
  · have h4' : decide ((l : Int) ≤ 400) = true := by simp; omega
    rcases hb : xs.all (belowB (n : Int)) with _ | _
    · go_enter Try.func89, Try.ntmps89
      go_wp2_with (go_at_call 131; refine (areBelow_any _ _ _ xs _ _ h hl).mono ?_; rintro e w' ⟨rfl, rfl⟩)
      go_ret
      exact ⟨ret_bool (isWordB_g hb).symm, Below.refl _ _⟩
    · go_enter Try.func89, Try.ntmps89
      go_wp2_with (go_at_call 131; refine (areBelow_any _ _ _ xs _ _ h hl).mono ?_; rintro e w' ⟨rfl, rfl⟩)
      go_ret
      exact ⟨ret_bool (isWordB_t (by rw [HL.out]; exact h4) hb).symm, Below.refl _ _⟩
  · have h4' : decide ((l : Int) ≤ 400) = false := by simp; omega
    go_enter Try.func89, Try.ntmps89
    go_wp2_with fail
    go_ret
    exact ⟨ret_bool (isWordB_f (by rw [HL.out]; exact h4)).symm, Below.refl _ _⟩

theorem okA_parts {s : Int} {xss : List (List Int)} (h : okA s xss = true) : (1 ≤ s ∧ s ≤ 10) ∧ (1 ≤ xss.length ∧ xss.length ≤ 3) ∧ ∀ (r : Nat) (xs : List Int), xss[r]? = some xs → (xs.length : Int) = s ∧ ∀ x ∈ xs, 0 ≤ x ∧ x < s := by
  simp only [okA, Bool.and_eq_true, inB, decide_eq_true_eq, List.all_eq_true] at h
  obtain ⟨⟨h1, h2⟩, h3⟩ := h
  refine ⟨h1, ⟨by omega, by omega⟩, fun r xs hx => ?_⟩
  have := h3 xs (List.mem_of_getElem? hx)
  simp only [mapB, Bool.and_eq_true, decide_eq_true_eq, List.all_eq_true, belowB] at this
  exact ⟨this.2, this.1⟩

end Go.Proofs.Ytcglncepmieaaaa
