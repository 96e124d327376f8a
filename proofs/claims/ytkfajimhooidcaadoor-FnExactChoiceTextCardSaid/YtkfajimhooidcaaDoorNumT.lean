/-
  The texts of the numbers from 0 to 10: the contracts of the model's Decimal and of the program's numberText.
-/
import Derived.Test.YtkfajimhooidcaaDoorWText
import Derived.Test.YtkfajimhooidcaaDoorWords
import Derived.Deep.RegionLaw
namespace Go.Proofs.YtkfajimhooidcaaDoor
open Go.RowKit Go.Deep Go.ChangeShapes Go.WideShapes

/-- The decimal text of a number below 100, as numbers of bytes. -/
def decT (n : Nat) : List Int := if n < 10 then [48 + (n : Int)] else [48 + ((n / 10 : Nat) : Int), 48 + ((n % 10 : Nat) : Int)]
theorem decT_1 {n : Nat} (h : n < 10) : decT n = [48 + (n : Int)] := if_pos h
theorem decT_10 : decT 10 = [49, 48] := rfl
theorem ten_str : strOfNums (decT 1) ++ strOfNums [48] = strOfNums (decT 10) := by apply ByteArray.ext; rfl
theorem decT_len (n : Nat) : (decT n).length ≤ 2 := by unfold decT; split <;> simp

theorem digit_own (w : World) (x : Int) : (w.alloc (.cells #[.int .u8 x] 5)).ownsRow w.heap.size 5 1 (.slice (some ⟨w.heap.size, 0, none⟩) 1 1) 1 ([x].map (Value.int .u8)) :=
  World.ownsRow_lit (e := 5) w #[.int .u8 x] 1 (Nat.le_refl _) (by unfold maxLen; omega) rfl

set_option maxRecDepth 100000 in
theorem decimal_small (n : Nat) (w : World) (hn : n < 10) :
    Calls Tryd.prog 23 #[.int .i64 (n : Int)] w fun e w' => e = .returned (.string (strOfNums (decT n))) ∧ Below w.heap.size w w' := by
  have h0 : (0 : Int) ≤ (n : Int) := by omega
  have h1 : ¬ (10 : Int) ≤ (n : Int) := by omega
  have h2 : (n : Int) < 10 := by omega
  have hc := convert_own (digit_own w (48 + (n : Int)))
  have HD := Lib.hid (decT_1 hn)
  clear hn
  go_enter Tryd.func23, Tryd.ntmps23
  go_wp2_with fail
  go_ret
  exact ⟨by rw [HD.out]; rfl, by go_grown⟩

set_option maxRecDepth 100000 in
set_option maxHeartbeats 2000000 in
theorem decimal_ten (w : World) :
    Calls Tryd.prog 23 #[.int .i64 10] w fun e w' => e = .returned (.string (strOfNums (decT 10))) ∧ Below w.heap.size w w' := by
  have hc := convert_own (digit_own w 48)
  have hcd := convert_own (own_below (digit_own w 48) (Below.refl _ _).drew)
  have e1 : IntKind.i64.wrap 1 = 1 := rfl
  have e2 : IntKind.i64.wrap 48 = 48 := rfl
  have e3 : IntKind.u8.wrap 48 = 48 := rfl
  have e4 : ¬ 9223372036854775807 < (strOfNums (decT 1)).size + (strOfNums [48]).size := by rw [strOfNums_size, strOfNums_size]; decide
  have c9 : Below w.heap.size w w := Below.refl _ _
  go_enter Tryd.func23, Tryd.ntmps23
  go_wp2_with fail
  go_region_law (first
    | (go_simp; go_at_call 23; refine (decimal_small 1 ((w.alloc (.cells #[.int .u8 48] 5)).drew) (by decide)).mono ?_; rintro e w1 ⟨rfl, b1⟩; have hc1 := convert_own (own_below (digit_own w 48) (below_then (Below.refl _ _).drew b1)); have c1 : Below w.heap.size w w1 := below_then (c9.alloc (Nat.le_refl _) _).drew b1; clear b1)
    | (go_simp; go_at_call 23; refine (decimal_small 1 w.drew (by decide)).mono ?_; rintro e w1 ⟨rfl, b1⟩; have hc1 := convert_own (digit_own w1 48); have c1 : Below w.heap.size w w1 := below_then c9.drew b1; clear b1)
    | fail)
  all_goals
    go_wp2_with fail
    go_ret
    exact ⟨by rw [← ten_str]; rfl, by first | exact c1 | exact c1.drew | exact c1.alloc c1.size _ | exact (c1.alloc c1.size _).drew⟩

theorem decimal_any (n : Nat) (w : World) (hn : n ≤ 10) :
    Calls Tryd.prog 23 #[.int .i64 (n : Int)] w fun e w' => e = .returned (.string (strOfNums (decT n))) ∧ Below w.heap.size w w' := by
  rcases Nat.lt_or_ge n 10 with h | h
  · exact decimal_small n w h
  · obtain rfl : n = 10 := by omega
    exact decimal_ten w

set_option maxRecDepth 100000 in
theorem small_any (n : Nat) (w : World) (hn : n ≤ 10) :
    Calls Tryd.prog 72 #[.int .i64 (n : Int)] w fun e w' => e = .returned (.string (strOfNums (decT n))) ∧ w' = w := by
  obtain rfl | rfl | rfl | rfl | rfl | rfl | rfl | rfl | rfl | rfl | rfl : n = 0 ∨ n = 1 ∨ n = 2 ∨ n = 3 ∨ n = 4 ∨ n = 5 ∨ n = 6 ∨ n = 7 ∨ n = 8 ∨ n = 9 ∨ n = 10 := by omega
  all_goals
    go_enter Tryd.func72, Tryd.ntmps72
    go_wp2_with fail
    go_ret
    exact ⟨by kernel_rfl, rfl⟩

set_option maxRecDepth 100000 in
theorem formatInt_any (n : Nat) (w : World) (hn : n ≤ 10) :
    Calls Tryd.prog 57 #[.int .i64 (n : Int), .int .i64 10] w fun e w' => e = .returned (.string (strOfNums (decT n))) ∧ w' = w := by
  have h0 : (0 : Int) ≤ (n : Int) := by omega
  have h1 : (n : Int) < 100 := by omega
  go_enter Tryd.func57, Tryd.ntmps57
  go_wp2_with fail
  refine (small_any n w hn).mono ?_
  rintro e w1 ⟨rfl, rfl⟩
  obtain ⟨S, hS⟩ : ∃ S, S = strOfNums (decT n) := ⟨_, rfl⟩
  rw [← hS]
  have HS := Lib.hid hS
  clear hS
  go_wp2_with fail
  go_ret
  exact ⟨by rw [← HS.out]; rfl, rfl⟩

set_option maxRecDepth 100000 in
theorem stdFormatInt_any (n : Nat) (w : World) (hn : n ≤ 10) :
    Calls Tryd.prog 39 #[.int .i64 (n : Int), .int .i64 10] w fun e w' => e = .returned (.string (strOfNums (decT n))) ∧ w' = w := by
  go_enter Tryd.func39, Tryd.ntmps39
  go_wp2_with fail
  refine (formatInt_any n w hn).mono ?_
  rintro e w1 ⟨rfl, rfl⟩
  obtain ⟨S, hS⟩ : ∃ S, S = strOfNums (decT n) := ⟨_, rfl⟩
  rw [← hS]
  have HS := Lib.hid hS
  clear hS
  go_wp2_with fail
  go_ret
  exact ⟨by rw [← HS.out]; rfl, rfl⟩

set_option maxRecDepth 100000 in
theorem numberText_any (n : Nat) (w : World) (hn : n ≤ 10) :
    Calls Tryd.prog 24 #[.int .i64 (n : Int)] w fun e w' => e = .returned (.string (strOfNums (decT n))) ∧ w' = w := by
  go_enter Tryd.func24, Tryd.ntmps24
  go_wp2_with fail
  refine (stdFormatInt_any n w hn).mono ?_
  rintro e w1 ⟨rfl, rfl⟩
  obtain ⟨S, hS⟩ : ∃ S, S = strOfNums (decT n) := ⟨_, rfl⟩
  rw [← hS]
  have HS := Lib.hid hS
  clear hS
  go_wp2_with fail
  go_ret
  exact ⟨by rw [← HS.out]; rfl, rfl⟩

end Go.Proofs.YtkfajimhooidcaaDoor
