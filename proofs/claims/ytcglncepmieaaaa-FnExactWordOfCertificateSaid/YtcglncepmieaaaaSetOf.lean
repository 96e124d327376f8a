/-
  Sets as bits, put together from states: the contract of setOf.
-/
import Derived.Test.YtcglncepmieaaaaMoved
import Derived.Test.YtcglncepmieaaaaBound
namespace Go.Proofs.Ytcglncepmieaaaa
open Go.RowKit Go.Deep Go.ChangeShapes Go.WideShapes
open Hunt

def setN (xs : List Int) : Nat := xs.foldl (fun b x => b ||| 2 ^ x.toNat) 0
theorem setN_snoc (xs : List Int) (x : Int) : setN (xs ++ [x]) = setN xs ||| 2 ^ x.toNat := by simp [setN]
theorem setN_lt : ∀ (k : Nat) (xs : List Int), xs.length = k → (∀ x ∈ xs, 0 ≤ x ∧ x < 10) → setN xs < 1024
  | 0, xs, hl, _ => by rw [List.eq_nil_of_length_eq_zero hl]; decide
  | k + 1, xs, hl, hx => by
    obtain ⟨ys, y, rfl⟩ : ∃ ys y, xs = ys ++ [y] := by
      rcases List.eq_nil_or_concat xs with h | ⟨ys, y, h⟩
      · subst h; simp at hl
      · exact ⟨ys, y, by simpa using h⟩
    rw [setN_snoc]
    have h1 := setN_lt k ys (by rw [List.length_append] at hl; simp at hl; exact hl) (fun x h => hx x (by simp [h]))
    have h2 := hx y (by simp)
    have h3 : 2 ^ y.toNat ≤ 2 ^ 9 := Nat.pow_le_pow_right (by decide) (by omega)
    exact Nat.or_lt_two_pow (n := 10) h1 (by omega)
theorem setN_pair (s t : Nat) : setN [(s : Int), (t : Int)] = pairB s t := by
  simp [setN, pairB, Nat.one_shiftLeft]
theorem setN_one (s : Nat) : setN [(s : Int)] = 1 <<< s := by simp [setN, Nat.one_shiftLeft]
theorem setN_bit : ∀ (k : Nat) (xs : List Int), xs.length = k → (∀ x ∈ xs, 0 ≤ x) → ∀ q : Nat, (setN xs).testBit q = true ↔ (q : Int) ∈ xs
  | 0, xs, hl, _, q => by rw [List.eq_nil_of_length_eq_zero hl]; simp [setN]
  | k + 1, xs, hl, hx, q => by
    obtain ⟨ys, y, rfl⟩ : ∃ ys y, xs = ys ++ [y] := by
      rcases List.eq_nil_or_concat xs with h | ⟨ys, y, h⟩
      · subst h; simp at hl
      · exact ⟨ys, y, by simpa using h⟩
    have ih := setN_bit k ys (by rw [List.length_append] at hl; simp at hl; exact hl) (fun x h => hx x (by simp [h])) q
    have hy := hx y (by simp)
    rw [setN_snoc, Nat.testBit_or, Bool.or_eq_true, ih, Nat.testBit_two_pow, decide_eq_true_eq, List.mem_append]
    constructor
    · rintro (h | h)
      · exact .inl h
      · exact .inr (by simp; omega)
    · rintro (h | h)
      · exact .inl h
      · exact .inr (by simp at h; omega)
theorem nums_two (w : World) (x y : Int) (t : TypeId) : NumsAt (w.alloc (.cells #[.int .i64 x, .int .i64 y] t)) (some ⟨w.heap.size, 0, none⟩) 2 [x, y] := by
  refine ⟨rfl, fun k z hk => ⟨w.heap.size, 0, rfl, ?_⟩⟩
  rw [cell_of_row _ _ _ _ _ _ (heap_alloc_new _ _), Nat.zero_add]
  rcases k with _ | _ | k
  · simp at hk; subst hk; rfl
  · simp at hk; subst hk; rfl
  · simp at hk
theorem nums_one (w : World) (x : Int) (t : TypeId) : NumsAt (w.alloc (.cells #[.int .i64 x] t)) (some ⟨w.heap.size, 0, none⟩) 1 [x] := by
  refine ⟨rfl, fun k z hk => ⟨w.heap.size, 0, rfl, ?_⟩⟩
  rw [cell_of_row _ _ _ _ _ _ (heap_alloc_new _ _), Nat.zero_add]
  rcases k with _ | k
  · simp at hk; subst hk; rfl
  · simp at hk

set_option maxRecDepth 100000 in
set_option maxHeartbeats 1000000 in
theorem setOf_any (A : Option Addr) (l cap : Nat) (xs : List Int) (w : World) (h : NumsAt w A l xs) (hx : ∀ x ∈ xs, 0 ≤ x ∧ x < 10) (hl : l ≤ 4611686018427387904) :
    Calls Try.prog 101 #[.slice A l cap] w fun e w' => e = .returned (.int .u16 (setN xs : Int)) ∧ w = w' := by
  have HX := Lib.hid hx
  clear hx
  go_enter Try.func101, Try.ntmps101
  go_wp2_with fail
  go_loop [3, 8] (fun u i => ∃ (k c : Nat), k ≤ l ∧ i = .int .i64 k ∧ u = .int .u16 (c : Int) ∧ c = setN (xs.take k)) (fun _ i => l - (intOf i).toNat)
  case atStart => exact ⟨0, 0, Nat.zero_le _, rfl, rfl, rfl⟩
  case round =>
    obtain ⟨k, c, hk, rfl, rfl, hc⟩ := hrel
    have HC := Lib.hid hc
    have hcl : c < 1024 := by rw [hc]; exact setN_lt _ _ rfl (fun x hx => HX.out x (List.mem_of_mem_take hx))
    clear hc
    by_cases hlt : k < l
    · obtain ⟨y, b3, off3, hy, rfl, hcy⟩ := h.at_ hlt
      have hy1 := HX.out y (List.mem_of_getElem? hy)
      obtain ⟨t, rfl⟩ : ∃ t : Nat, y = (t : Int) := ⟨y.toNat, by omega⟩
      have i1 : (0 : Int) ≤ (k : Int) := by omega
      have i2 : (k : Int) < (l : Int) := by omega
      have i3 : (0 : Int) ≤ (t : Int) := by omega
      have i4 : (t : Int) < 10 := by omega
      have ht9 : 2 ^ t ≤ 2 ^ 9 := Nat.pow_le_pow_right (by decide) (by omega)
      have hst := Lib.hid (show bits .or .u16 (c : Int) (IntKind.u16.wrap (2 ^ t)) = ((setN (xs.take (k + 1)) : Nat) : Int) by
        have e3 : ((2 : Int) ^ t) = ((2 ^ t : Nat) : Int) := by push_cast; rfl
        rw [e3, wrap_small (by omega), u16_or_nat c _ (by omega) (by omega), take_snoc hy, setN_snoc, ← HC.out, Int.toNat_natCast])
      clear hy hy1 ht9
      go_wp2_with fail
      go_round
      case rel => exact ⟨k + 1, setN (xs.take (k + 1)), by omega, by go_num, by rw [hst.out], rfl⟩
      case measure => simp [intOf]; omega
    · have hkn : k = l := by omega
      have HK := Lib.hid hkn
      clear hkn
      go_wp2_with fail
      go_ret
      exact ⟨ret_int (by rw [HC.out, HK.out, List.take_of_length_le (by rw [h.1]; exact Nat.le_refl _)]), rfl⟩

end Go.Proofs.Ytcglncepmieaaaa
