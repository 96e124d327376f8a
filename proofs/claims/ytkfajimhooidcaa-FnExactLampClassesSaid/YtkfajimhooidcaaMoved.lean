/-
  The model's sets as numbers: the contracts of l02Full, l02Single, l02Moved.
-/
import Derived.Test.YtkfajimhooidcaaBits
namespace Go.Proofs.Ytkfajimhooidcaa
open Go.RowKit Go.Deep Go.ChangeShapes Go.WideShapes

namespace Moved
theorem ofInt_i64 (a : Nat) (ha : a < 4611686018427387904) : (BitVec.ofInt 64 (a : Int)).toNat = a := by
  rw [BitVec.ofInt_natCast, BitVec.toNat_ofNat]; exact Nat.mod_eq_of_lt (by omega)
theorem wrap_i64' {x : Nat} (h : x < 4611686018427387904) : IntKind.i64.wrap (x : Int) = (x : Int) := IntWalk.i64_in _ (by omega)
theorem wrap_512 {x : Nat} (h : x ≤ 512) : wrap64 (x : Int) = (x : Int) := by unfold wrap64; omega
theorem i64_and_nat (a b : Nat) (ha : a < 4611686018427387904) (hb : b < 4611686018427387904) : bits .and .i64 (a : Int) (b : Int) = ((a &&& b : Nat) : Int) := by
  have hx : a &&& b < 2 ^ 62 := Nat.and_lt_two_pow _ (by omega)
  show IntKind.i64.wrap ((BitVec.ofInt 64 (a : Int) &&& BitVec.ofInt 64 (b : Int)).toNat : Int) = _
  rw [BitVec.toNat_and, ofInt_i64 a ha, ofInt_i64 b hb, wrap_i64' (by omega)]
theorem i64_or_nat (a b : Nat) (ha : a < 4611686018427387904) (hb : b < 4611686018427387904) : bits .or .i64 (a : Int) (b : Int) = ((a ||| b : Nat) : Int) := by
  have hx : a ||| b < 2 ^ 62 := Nat.or_lt_two_pow (by omega) (by omega)
  show IntKind.i64.wrap ((BitVec.ofInt 64 (a : Int) ||| BitVec.ofInt 64 (b : Int)).toNat : Int) = _
  rw [BitVec.toNat_or, ofInt_i64 a ha, ofInt_i64 b hb, wrap_i64' (by omega)]
def singleOk (b : Nat) : Bool := (bits .and .i64 (b : Int) ((b : Int) - 1) == 0) == decide (Lib.onesCount b ≤ 1)
theorem single_all : (List.range 1024).all singleOk = true := by decide +kernel
theorem single_is {b : Nat} (hb : b < 1024) : (bits .and .i64 (b : Int) ((b : Int) - 1) == 0) = decide (Lib.onesCount b ≤ 1) := by
  have h := List.all_eq_true.1 single_all b (List.mem_range.2 hb)
  simpa [singleOk] using h

theorem l02Single_any (b : Nat) (w : World) (hb : b < 1024) :
    Calls Try.prog 72 #[.int .i64 (b : Int)] w fun e w' => e = .returned (.bool (decide (Lib.onesCount b ≤ 1))) ∧ w = w' := by
  have hs := single_is hb
  obtain ⟨v, hv⟩ : ∃ v, v = decide (Lib.onesCount b ≤ 1) := ⟨_, rfl⟩
  rw [← hv] at hs ⊢
  have i1 : (0 : Int) ≤ (b : Int) := by omega
  have i2 : (b : Int) < 1024 := by omega
  clear hv
  go_enter Try.func72, Try.ntmps72
  go_wp2_with fail
  go_ret
  exact ⟨rfl, rfl⟩

end Moved

end Go.Proofs.Ytkfajimhooidcaa
