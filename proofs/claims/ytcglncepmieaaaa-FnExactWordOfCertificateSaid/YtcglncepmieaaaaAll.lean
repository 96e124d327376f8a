/-
  The list of all states: the contract of l01All.
-/
import Derived.Test.YtcglncepmieaaaaPre
namespace Go.Proofs.Ytcglncepmieaaaa
open Go.RowKit Go.Deep Go.ChangeShapes Go.WideShapes

/-- The numbers below k. -/
def allL (k : Nat) : List Int := (List.range k).map fun q => ((q : Nat) : Int)
theorem allL_len (k : Nat) : (allL k).length = k := by simp [allL]
theorem allL_succ (k : Nat) : allL (k + 1) = allL k ++ [(k : Int)] := by simp [allL, List.range_succ]
theorem allL_setL (k : Nat) : allL k = setL (fun _ => true) k := by unfold allL setL; rw [List.filter_eq_self.2 (fun _ _ => rfl)]

set_option maxRecDepth 100000 in
set_option maxHeartbeats 1000000 in
theorem l01All_any (n : Nat) (w : World) (hn : n ≤ 10) :
    Calls Try.prog 75 #[.int .i64 (n : Int)] w fun e w' => ∃ v, e = .returned v ∧ w'.ownsRow w.heap.size 2 1 v (allL n).length ((allL n).map (Value.int .i64)) ∧ Below w.heap.size w w' := by
  obtain ⟨i0, hi, hz0, hz1, hz2⟩ := info_parts info_int64
  go_enter Try.func75, Try.ntmps75
  go_wp2_with fail
  go_loopw [3, 4] (fun v i wr => ∃ (k : Nat) (L : List Int), k ≤ n ∧ i = .int .i64 k ∧ L = allL k ∧ wr.ownsRow w.heap.size 2 1 v L.length (L.map (Value.int .i64)) ∧ Below w.heap.size w wr) (fun _ i _ => n - (intOf i).toNat)
  case atStart => exact ⟨0, [], Nat.zero_le _, rfl, rfl, own_none w _ (Nat.le_refl _), (Below.refl _ _).alloc (Nat.le_refl _) _⟩
  case round =>
    obtain ⟨k, L, hk, rfl, hL, hown, hbel⟩ := hrel
    have hlen : L.length ≤ 10 := by rw [hL, allL_len]; omega
    have HL := Lib.hid hL
    clear hL
    obtain ⟨A3, c3, rfl⟩ := own_form hown
    have HO := Lib.hid hown
    have HB := Lib.hid hbel
    clear hown hbel
    by_cases hlt : k < n
    · go_wp2_with (at_builtin; refine wpList_append_own _ rfl _ _ 35 rfl (w.heap.size) 2 i0 (.int .i64 0) 1 8 Try.underlying35 hi hz0 hz1 hz2 rfl (by decide) _ _ _ rfl (World.ownsRow.alloc (HO.out) _) ⟨(wr).heap.size, 0, none⟩ 1 1 [.int .i64 (k : Int)] rfl rfl (cell_one_new _ _ _) (ones_i64 [(k : Int)]) (by unfold maxLen; omega) (by omega) (by rw [World.size_alloc]; exact Nat.le_succ_of_le (HB.out.size)) ?_)
      intro v' w2 hown' hgrow _
      have HO1 := Lib.hid hown'
      have HG1 := Lib.hid hgrow
      clear hown' hgrow
      go_wp2_with fail
      go_roundw
      case rel =>
        refine ⟨k + 1, L ++ [(k : Int)], by omega, by go_num, by rw [allL_succ, ← HL.out], by rw [List.length_append, List.map_append]; exact HO1.out, ?_⟩
        exact (HB.out.alloc HB.out.size _).grown HG1.out (by rw [World.size_alloc]; exact Nat.le_succ_of_le HB.out.size) (fun j hj => (HO.out.lt j hj).1)
      case measure => simp [intOf]; omega
    · go_wp2
      go_ret
      have hkn : k = n := by omega
      subst hkn
      rw [← HL.out]
      exact ⟨_, rfl, HO.out, HB.out⟩


end Go.Proofs.Ytcglncepmieaaaa
