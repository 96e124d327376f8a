/-
  Where careful words lead: the contracts of l02Bits and of both CarefulImage.
-/
import Derived.Test.YtikimfncpemmkabCareC
import Derived.Test.YtikimfncpemmkabMarks
namespace Go.Proofs.Ytikimfncpemmkab
open Go.RowKit Go.Deep Go.ChangeShapes Go.WideShapes
open Hunt Moved

theorem setN_in {n : Nat} : ∀ (k : Nat) (xs : List Int), xs.length = k → (∀ x ∈ xs, 0 ≤ x ∧ x < (n : Int)) → setN xs < 2 ^ n
  | 0, xs, hl, _ => by rw [List.eq_nil_of_length_eq_zero hl]; exact Nat.pow_pos (by decide)
  | k + 1, xs, hl, hx => by
    obtain ⟨ys, y, rfl⟩ : ∃ ys y, xs = ys ++ [y] := by
      rcases List.eq_nil_or_concat xs with h | ⟨ys, y, h⟩
      · subst h; simp at hl
      · exact ⟨ys, y, by simpa using h⟩
    rw [setN_snoc]
    have h1 := setN_in k ys (by rw [List.length_append] at hl; simp at hl; exact hl) (fun x h => hx x (by simp [h]))
    have h2 := hx y (by simp)
    exact Nat.or_lt_two_pow h1 (Nat.pow_lt_pow_right (by decide) (by omega))

set_option maxRecDepth 100000 in
set_option maxHeartbeats 1000000 in
theorem l02Bits_any (A : Option Addr) (l cap : Nat) (xs : List Int) (w : World) (h : NumsAt w A l xs) (hx : ∀ x ∈ xs, 0 ≤ x ∧ x < 10) (hl : l ≤ 4611686018427387904) :
    Calls Try.prog 74 #[.slice A l cap] w fun e w' => e = .returned (.int .i64 (setN xs : Int)) ∧ w = w' := by
  have HX := Lib.hid hx
  have HL := Lib.hid h.1
  clear hx
  go_enter Try.func74, Try.ntmps74
  go_wp2_with fail
  go_loop [3, 4] (fun u i => ∃ (k c : Nat), k ≤ l ∧ i = .int .i64 k ∧ u = .int .i64 (c : Int) ∧ c = setN (xs.take k)) (fun _ i => l - (intOf i).toNat)
  case atStart => exact ⟨0, 0, Nat.zero_le _, rfl, rfl, rfl⟩
  case round =>
    obtain ⟨k, c, hk, rfl, rfl, hc⟩ := hrel
    have HC := Lib.hid hc
    have hcl : c < 1024 := by rw [hc]; exact setN_lt _ _ rfl (fun x hx => HX.out x (List.mem_of_mem_take hx))
    clear hc
    by_cases hlt : k < l
    · obtain ⟨y, b3, off3, hy, rfl, hcy⟩ := h.at_ hlt
      have hy1 := HX.out y (List.mem_of_getElem? hy)
      obtain ⟨t, rfl⟩ : ∃ t : Nat, y = (t : Int) := ⟨y.toNat, by omega⟩
      have i1 : (0 : Int) ≤ (k : Int) := by omega
      have i2 : (k : Int) < (l : Int) := by omega
      have i3 : (0 : Int) ≤ (t : Int) := by omega
      have i4 : (t : Int) < 10 := by omega
      have HOR := Lib.hid (i64_or_t hcl (show t < 10 by omega))
      have HST := Lib.hid (show setN (xs.take (k + 1)) = c ||| 2 ^ t by rw [take_snoc hy, setN_snoc, ← HC.out, Int.toNat_natCast])
      clear hy hy1
      go_wp2_with fail
      go_round
      case rel => exact ⟨k + 1, setN (xs.take (k + 1)), by omega, by go_num, by rw [HOR.out, HST.out], rfl⟩
      case measure => simp [intOf]; omega
    · have hkn : k = l := by omega
      have HK := Lib.hid hkn
      clear hkn
      go_wp2_with fail
      go_ret
      exact ⟨ret_int (by rw [HC.out, HK.out, List.take_of_length_le (by rw [HL.out]; exact Nat.le_refl _)]), rfl⟩

/-- What CarefulImage answers. -/
def carefulImage (s : Int) (xss : List (List Int)) (set ws : List Int) : List Int × Int :=
  if okP s xss = true then (if setB s set = true then (if isWordB (xss.length : Int) ws = true then (if (carW xss ws (setN set)).2 = true then (listK (carW xss ws (setN set)).1 10, 0) else ([], 4)) else ([], 2)) else ([], 2)) else ([], 1)
theorem carefulImage_len (s : Int) (xss : List (List Int)) (set ws : List Int) : (carefulImage s xss set ws).1.length ≤ 10 := by
  unfold carefulImage
  split
  · split
    · split
      · split
        · unfold listK
          rw [List.length_map]
          exact Nat.le_trans (List.length_filter_le _ _) (by rw [List.length_range]; exact Nat.le_refl _)
        · exact Nat.zero_le _
      · exact Nat.zero_le _
    · exact Nat.zero_le _
  · exact Nat.zero_le _
theorem carefulImage_1 {s : Int} {xss : List (List Int)} {set ws : List Int} (h : okP s xss = false) : carefulImage s xss set ws = ([], 1) := by unfold carefulImage; rw [if_neg (by simp [h])]
theorem carefulImage_2 {s : Int} {xss : List (List Int)} {set ws : List Int} (h : okP s xss = true) (h' : setB s set = false) : carefulImage s xss set ws = ([], 2) := by unfold carefulImage; rw [if_pos h, if_neg (by simp [h'])]
theorem carefulImage_3 {s : Int} {m : Nat} {xss : List (List Int)} {set ws : List Int} (h : okP s xss = true) (hm : xss.length = m) (h' : setB s set = true) (h2 : isWordB (m : Int) ws = false) : carefulImage s xss set ws = ([], 2) := by unfold carefulImage; rw [if_pos h, if_pos h', hm, if_neg (by simp [h2])]
theorem carefulImage_4 {s : Int} {m : Nat} {xss : List (List Int)} {set ws : List Int} {R1 : Nat} (h : okP s xss = true) (hm : xss.length = m) (h' : setB s set = true) (h2 : isWordB (m : Int) ws = true) (hR : carW xss ws (setN set) = (R1, false)) : carefulImage s xss set ws = ([], 4) := by
  unfold carefulImage; rw [if_pos h, if_pos h', hm, if_pos h2, hR, if_neg (by simp)]
theorem carefulImage_0 {s : Int} {m : Nat} {xss : List (List Int)} {set ws : List Int} {R1 : Nat} (h : okP s xss = true) (hm : xss.length = m) (h' : setB s set = true) (h2 : isWordB (m : Int) ws = true) (hR : carW xss ws (setN set) = (R1, true)) : carefulImage s xss set ws = (listK R1 10, 0) := by
  unfold carefulImage; rw [if_pos h, if_pos h', hm, if_pos h2, hR, if_pos rfl]

end Go.Proofs.Ytikimfncpemmkab
