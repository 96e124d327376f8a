/-
  Copies of lists: the contracts of slices.Clone and of an action's list.
-/
import Derived.Test.YtcglncepmieaaaaHelp
import Derived.WalkSpells
namespace Go.Proofs.Ytcglncepmieaaaa
open Go.RowKit Go.Deep Go.ChangeShapes Go.WideShapes

set_option maxRecDepth 100000 in
set_option maxHeartbeats 1000000 in
theorem clone_any (b off n c : Nat) (xs : List Int) (w : World) (h : NumsAt w (some ⟨b, off, none⟩) n xs) (hn : n ≤ 1048576) :
    Calls Try.prog 117 #[.slice (some ⟨b, off, none⟩) n c] w fun e w' => ∃ v, e = .returned v ∧ w'.ownsRow w.heap.size 2 1 v n (xs.map (Value.int .i64)) ∧ Below w.heap.size w w' := by
  obtain ⟨i0, hi, hz0, hz1, hz2⟩ := info_parts info_int64
  have HN := Lib.hid hn
  have HL := Lib.hid h.1
  have hnil := fun (w : World) => Lib.run_eql_slice_nil (P := Try.prog) w 35 2 (some ⟨b, off, none⟩) n c 0 0 Try.underlying35
  clear hn
  go_enter Try.func117, Try.ntmps117
  go_wp2_with (at_builtin; refine wpList_append_own _ rfl _ _ 35 rfl w.heap.size 2 i0 (.int .i64 0) 1 8 Try.underlying35 hi hz0 hz1 hz2 rfl (by decide) _ _ _ rfl (own_none w _ (Nat.le_refl _)) ⟨b, off, none⟩ n c (xs.map (Value.int .i64)) rfl (by rw [List.length_map, HL.out, Nat.mul_one]) (nums_cells (h.below ((Below.refl _ w).alloc (Nat.le_refl _) _))) (ones_i64 xs) (by have := HN.out; unfold maxLen; omega) (by have := HN.out; omega) (by rw [World.size_alloc]; exact Nat.le_succ _) ?_)
  intro v' w1 hown hgrow _
  have HO := Lib.hid hown
  have HB := Lib.hid (((Below.refl _ w).alloc (Nat.le_refl _) _).grown hgrow (by rw [World.size_alloc]; exact Nat.le_succ _) (fun k hk => by simp [Value.ownBlock] at hk; omega))
  clear hown hgrow hnil
  go_wp2_with fail
  go_ret
  exact ⟨_, rfl, by simpa using HO.out, HB.out⟩

theorem list_any (n : Nat) (act : List Int) (w : World) (hl : act.length = 10) (hn : n ≤ 10) :
    Calls Try.prog 68 #[.agg (arr act), .int .i64 (n : Int)] w fun e w' => ∃ v, e = .returned v ∧ w'.ownsRow w.heap.size 2 1 v n ((act.take n).map (Value.int .i64)) ∧ Below w.heap.size w w' := by
  have HL := Lib.hid hl
  have hblk := heap_alloc_new w (.cells (arr act) 90)
  have hnum : NumsAt (w.alloc (.cells (arr act) 90)) (some ⟨w.heap.size, 0, none⟩) n (act.take n) := by
    refine ⟨by rw [List.length_take, hl]; omega, fun k x hx => ⟨w.heap.size, 0, rfl, ?_⟩⟩
    have hk : k < n := by
      rcases Nat.lt_or_ge k n with h | h
      · exact h
      · rw [List.getElem?_take, if_neg (by omega)] at hx; cases hx
    rw [List.getElem?_take, if_pos hk] at hx
    rw [Nat.zero_add, cell_of_row _ w.heap.size k _ _ _ hblk, arr_at, hx]
    rfl
  have HNUM := Lib.hid hnum
  have h10 : (n : Int) ≤ 10 := by omega
  have h00 : (0 : Int) ≤ (n : Int) := by omega
  clear hl hblk hnum
  go_enter Try.func68, Try.ntmps68
  go_wp2_with fail
  refine (clone_any w.heap.size 0 n 10 (act.take n) _ HNUM.out (by omega)).mono ?_
  rintro e w2 ⟨v, rfl, o2, b2⟩
  have HO := Lib.hid o2
  have HB := Lib.hid (((Below.refl _ w).alloc (Nat.le_refl _) _).trans (b2.mono (by simp)))
  clear o2 b2
  go_wp2_with fail
  go_ret
  exact ⟨_, rfl, own_base HO.out (by simp), HB.out⟩

end Go.Proofs.Ytcglncepmieaaaa
