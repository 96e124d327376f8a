/-
  Greatest common divisors: the contracts of commonDivisor and l01Gcd.
-/
import Derived.Test.YtkhhemlfahdbnabBfs
namespace Go.Proofs.Ytkhhemlfahdbnab
open Go.RowKit Go.Deep Go.ChangeShapes Go.WideShapes

theorem gcd_step {a b : Nat} : Nat.gcd b (a % b) = Nat.gcd a b := by
  rw [Nat.gcd_comm a b, Nat.gcd_comm b (a % b), ← Nat.gcd_rec]

theorem commonDivisor_any (a b : Nat) (w : World) (ha : a ≤ 1000000) (hb : b ≤ 1000000) :
    Calls Try.prog 125 #[.int .i64 (a : Int), .int .i64 (b : Int)] w fun e w' => e = .returned (.int .i64 ((Nat.gcd a b : Nat) : Int)) ∧ ∃ k, w' = w.drewN k := by
  go_enter Try.func125, Try.ntmps125
  go_wp2_with fail
  go_loopw [0, 1] (fun u v wr => ∃ (c d k : Nat), u = .int .i64 (c : Int) ∧ v = .int .i64 (d : Int) ∧ Nat.gcd c d = Nat.gcd a b ∧ wr = w.drewN k ∧ c ≤ 1000000 ∧ d ≤ 1000000) (fun _ v _ => (intOf v).toNat)
  case atStart => exact ⟨a, b, 0, rfl, rfl, rfl, rfl, ha, hb⟩
  case round =>
    obtain ⟨c, d, k, rfl, rfl, hg, rfl, hc, hd⟩ := hrel
    have HG := Lib.hid hg
    clear hg
    by_cases h0 : d = 0
    · subst h0
      have hz : ((((0 : Nat) : Int)) != 0) = false := by simp
      go_wp2_with fail
      go_ret
      exact ⟨ret_int (by rw [← HG.out, Nat.gcd_zero_right]), k, rfl⟩
    · have hz : ((d : Int) != 0) = true := by rw [bne_iff_ne]; omega
      have hz2 : ((d : Int) == 0) = false := by rw [beq_eq_false_iff_ne]; omega
      have hm : (c : Int).tmod (d : Int) = ((c % d : Nat) : Int) := rfl
      have HM := Lib.hid hm
      have hlt : c % d < d := Nat.mod_lt _ (by omega)
      have hpos : (0 : Int) < (d : Int) := by omega
      have hc0 : (0 : Int) ≤ (c : Int) := by omega
      clear h0 hm
      go_wp2_with fail
      go_quiet (fail)
      go_wp2_with fail
      go_roundw
      case rel => exact ⟨d, c % d, _, rfl, by first | rfl | (rw [HM.out]), by rw [gcd_step]; exact HG.out, by rw [World.drewN_drewN], hd, by omega⟩
      case measure => simp [intOf]; first | omega | (rw [HM.out]; omega)

theorem l01Gcd_any (a b : Nat) (w : World) (ha : a ≤ 1000000) (hb : b ≤ 1000000) :
    Calls Try.prog 150 #[.int .i64 (a : Int), .int .i64 (b : Int)] w fun e w' => e = .returned (.int .i64 ((Nat.gcd a b : Nat) : Int)) ∧ w = w' := by
  go_enter Try.func150, Try.ntmps150
  go_wp2_with fail
  go_loop [0, 1] (fun u v => ∃ (c d : Nat), u = .int .i64 (c : Int) ∧ v = .int .i64 (d : Int) ∧ Nat.gcd c d = Nat.gcd a b ∧ c ≤ 1000000 ∧ d ≤ 1000000) (fun _ v => (intOf v).toNat)
  case atStart => exact ⟨a, b, rfl, rfl, rfl, ha, hb⟩
  case round =>
    obtain ⟨c, d, rfl, rfl, hg, hc, hd⟩ := hrel
    have HG := Lib.hid hg
    clear hg
    by_cases h0 : d = 0
    · subst h0
      have hz : ((((0 : Nat) : Int)) != 0) = false := by simp
      go_wp2_with fail
      go_ret
      exact ⟨ret_int (by rw [← HG.out, Nat.gcd_zero_right]), rfl⟩
    · have hz : ((d : Int) != 0) = true := by rw [bne_iff_ne]; omega
      have hz2 : ((d : Int) == 0) = false := by rw [beq_eq_false_iff_ne]; omega
      have hlt : c % d < d := Nat.mod_lt _ (by omega)
      have hpos : (0 : Int) < (d : Int) := by omega
      have hc0 : (0 : Int) ≤ (c : Int) := by omega
      clear h0
      go_wp2_with fail
      go_round
      case rel => exact ⟨d, c % d, rfl, by first | rfl | go_num, by rw [gcd_step]; exact HG.out, hd, by omega⟩
      case measure => simp [intOf]; omega

end Go.Proofs.Ytkhhemlfahdbnab
