/-
  The model's sets as numbers: the contracts of l02Full, l02Single, l02Moved.
-/
import Derived.Test.YtcglncepmieaaaaBits
namespace Go.Proofs.Ytcglncepmieaaaa
open Go.RowKit Go.Deep Go.ChangeShapes Go.WideShapes

namespace Moved
theorem ofInt_i64 (a : Nat) (ha : a < 4611686018427387904) : (BitVec.ofInt 64 (a : Int)).toNat = a := by
  rw [BitVec.ofInt_natCast, BitVec.toNat_ofNat]; exact Nat.mod_eq_of_lt (by omega)
theorem wrap_i64' {x : Nat} (h : x < 4611686018427387904) : IntKind.i64.wrap (x : Int) = (x : Int) := IntWalk.i64_in _ (by omega)
theorem wrap_512 {x : Nat} (h : x ≤ 512) : wrap64 (x : Int) = (x : Int) := by unfold wrap64; omega
theorem i64_and_nat (a b : Nat) (ha : a < 4611686018427387904) (hb : b < 4611686018427387904) : bits .and .i64 (a : Int) (b : Int) = ((a &&& b : Nat) : Int) := by
  have hx : a &&& b < 2 ^ 62 := Nat.and_lt_two_pow _ (by omega)
  show IntKind.i64.wrap ((BitVec.ofInt 64 (a : Int) &&& BitVec.ofInt 64 (b : Int)).toNat : Int) = _
  rw [BitVec.toNat_and, ofInt_i64 a ha, ofInt_i64 b hb, wrap_i64' (by omega)]
theorem i64_or_nat (a b : Nat) (ha : a < 4611686018427387904) (hb : b < 4611686018427387904) : bits .or .i64 (a : Int) (b : Int) = ((a ||| b : Nat) : Int) := by
  have hx : a ||| b < 2 ^ 62 := Nat.or_lt_two_pow (by omega) (by omega)
  show IntKind.i64.wrap ((BitVec.ofInt 64 (a : Int) ||| BitVec.ofInt 64 (b : Int)).toNat : Int) = _
  rw [BitVec.toNat_or, ofInt_i64 a ha, ofInt_i64 b hb, wrap_i64' (by omega)]
def singleOk (b : Nat) : Bool := (bits .and .i64 (b : Int) ((b : Int) - 1) == 0) == decide (Lib.onesCount b ≤ 1)
theorem single_all : (List.range 1024).all singleOk = true := by decide +kernel
theorem single_is {b : Nat} (hb : b < 1024) : (bits .and .i64 (b : Int) ((b : Int) - 1) == 0) = decide (Lib.onesCount b ≤ 1) := by
  have h := List.all_eq_true.1 single_all b (List.mem_range.2 hb)
  simpa [singleOk] using h

theorem l02Single_any (b : Nat) (w : World) (hb : b < 1024) :
    Calls Try.prog 120 #[.int .i64 (b : Int)] w fun e w' => e = .returned (.bool (decide (Lib.onesCount b ≤ 1))) ∧ w = w' := by
  have hs := single_is hb
  obtain ⟨v, hv⟩ : ∃ v, v = decide (Lib.onesCount b ≤ 1) := ⟨_, rfl⟩
  rw [← hv] at hs ⊢
  have i1 : (0 : Int) ≤ (b : Int) := by omega
  have i2 : (b : Int) < 1024 := by omega
  clear hv
  go_enter Try.func120, Try.ntmps120
  go_wp2_with fail
  go_ret
  exact ⟨rfl, rfl⟩

set_option maxRecDepth 100000 in
set_option maxHeartbeats 1000000 in
theorem l02Moved_any (A : Option Addr) (n cap : Nat) (b : Nat) (row : List Int) (w : World) (hb : b < 1024) (h : NumsAt w A n row) (hn : n ≤ 10) (hrow : ∀ y ∈ row, 0 ≤ y ∧ y < 10) :
    Calls Try.prog 142 #[.slice A n cap, .int .i64 (b : Int)] w fun e w' => e = .returned (.int .i64 ((aftB b row n : Nat) : Int)) ∧ w = w' := by
  have hlt10 : ∀ j, (row.getD j 0).toNat < 10 := fun j => by
    rcases Nat.lt_or_ge j row.length with a | a
    · have := hrow row[j] (List.getElem_mem a)
      rw [List.getD_eq_getElem?_getD, List.getElem?_eq_getElem a]
      show (row[j]).toNat < 10
      omega
    · rw [List.getD_eq_getElem?_getD, List.getElem?_eq_none a]; simp
  have HT := Lib.hid hlt10
  have HROW := Lib.hid hrow
  clear hlt10 hrow
  go_enter Try.func142, Try.ntmps142
  go_wp2_with fail
  go_loop [5, 6] (fun u i => ∃ (k c : Nat), k ≤ n ∧ i = .int .i64 k ∧ u = .int .i64 (c : Int) ∧ c = aftB b row k) (fun _ i => n - (intOf i).toNat)
  case atStart => exact ⟨0, 0, Nat.zero_le _, rfl, rfl, rfl⟩
  case round =>
    obtain ⟨k, c, hk, rfl, rfl, hc⟩ := hrel
    have HC := Lib.hid hc
    have hcl : c < 1024 := by rw [hc]; exact aftB_lt k (fun j _ => HT.out j)
    clear hc
    by_cases hlt : k < n
    · obtain ⟨y, b3, off3, hy, rfl, hcy⟩ := h.at_ hlt
      have hy1 := HROW.out y (List.mem_of_getElem? hy)
      obtain ⟨t, rfl⟩ : ∃ t : Nat, y = (t : Int) := ⟨y.toNat, by omega⟩
      have hgd : (row.getD k 0).toNat = t := by rw [List.getD_eq_getElem?_getD, hy]; rfl
      have i1 : (0 : Int) ≤ (k : Int) := by omega
      have i2 : (k : Int) < (n : Int) := by omega
      have i3 : (0 : Int) ≤ (t : Int) := by omega
      have i4 : (t : Int) < 10 := by omega
      have i5 : (k : Int) < 10 := by omega
      have ht9 : 2 ^ t ≤ 2 ^ 9 := Nat.pow_le_pow_right (by decide) (by omega)
      have e1 : (b : Int) / 2 ^ k = ((b / 2 ^ k : Nat) : Int) := by push_cast; rfl
      have hdl : b / 2 ^ k ≤ b := Nat.div_le_self _ _
      have hand : bits .and .i64 ((b : Int) / 2 ^ k) 1 = ((b / 2 ^ k % 2 : Nat) : Int) := by
        rw [e1]
        have e2 := i64_and_nat (b / 2 ^ k) 1 (by omega) (by decide)
        rw [show ((1 : Nat) : Int) = 1 from rfl, Nat.and_one_is_mod] at e2
        exact e2
      rcases Nat.mod_two_eq_zero_or_one (b / 2 ^ k) with hz | hz
      · rw [hz] at hand
        have HST := Lib.hid (show aftB b row (k + 1) = c by rw [aftB, hz, ← HC.out]; simp)
        clear hy hy1 hgd ht9 e1 hdl hz
        go_wp2_with fail
        go_round
        case rel => exact ⟨k + 1, c, by omega, by go_num, rfl, HST.out.symm⟩
        case measure => simp [intOf]; omega
      · rw [hz] at hand
        have HST := Lib.hid (show bits .or .i64 (c : Int) (wrap64 (2 ^ t)) = ((aftB b row (k + 1) : Nat) : Int) by
          have e3 : ((2 : Int) ^ t) = ((2 ^ t : Nat) : Int) := by push_cast; rfl
          rw [e3, wrap_512 (Nat.le_trans ht9 (by decide)), i64_or_nat c _ (by omega) (by omega), aftB, ← HC.out, hgd, hz, Nat.one_mul])
        clear hy hy1 hgd ht9 e1 hdl hz
        go_wp2_with fail
        go_round
        case rel => exact ⟨k + 1, aftB b row (k + 1), by omega, by go_num, by rw [HST.out], rfl⟩
        case measure => simp [intOf]; omega
    · have hkn : k = n := by omega
      have HK := Lib.hid hkn
      clear hkn
      go_wp2_with fail
      go_ret
      exact ⟨ret_int (by rw [HC.out, HK.out]), rfl⟩
end Moved

end Go.Proofs.Ytcglncepmieaaaa
