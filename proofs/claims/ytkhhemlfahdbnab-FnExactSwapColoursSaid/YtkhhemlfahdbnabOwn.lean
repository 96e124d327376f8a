/-
  The model's copies of lists: the contract of l00Own.
-/
import Derived.Test.YtkhhemlfahdbnabTab
namespace Go.Proofs.Ytkhhemlfahdbnab
open Go.RowKit Go.Deep Go.ChangeShapes Go.WideShapes

set_option maxRecDepth 100000 in
set_option maxHeartbeats 2000000 in
theorem l00Own_any (A : Option Addr) (n cap : Nat) (xs : List Int) (w : World) (h : NumsAt w A n xs) (h0 : 0 < n) (hn : n ≤ 1048576) :
    Calls Try.prog 90 #[.slice A n cap] w fun e w' => ∃ u, e = .returned u ∧ w'.ownsRow w.heap.size 2 1 u xs.length (xs.map (Value.int .i64)) ∧ Below w.heap.size w w' := by
  obtain ⟨i0, hi, hz0, hz1, hz2⟩ := info_parts info_int64
  obtain ⟨x, b, off, hx, rfl, hc⟩ := h.at_ h0
  have hl := h.1
  have HN := Lib.hid (h.below ((Below.refl w.heap.size w).alloc (Nat.le_refl _) (.cells #[] 2)))
  clear hx hc h
  go_enter Try.func90, Try.ntmps90
  go_wp2_with (at_builtin; refine wpList_append_own _ rfl _ _ 64 rfl w.heap.size 2 i0 (.int .i64 0) 1 8 Try.underlying64 hi hz0 hz1 hz2 rfl (by decide) _ _ _ rfl (own_none w _ (Nat.le_refl _)) ⟨b, off, none⟩ n cap (xs.map (Value.int .i64)) rfl (by rw [List.length_map, hl, Nat.mul_one]) (fun j u hu => ?news) (ones_i64 xs) (by unfold maxLen; omega) (by omega) (by rw [World.size_alloc]; exact Nat.le_succ _) ?_)
  case news =>
    rw [List.getElem?_map] at hu
    rcases hx : xs[j]? with _ | y
    · rw [hx] at hu; cases hu
    · rw [hx] at hu
      obtain rfl := Option.some.inj hu
      have hj : j < n := by
        rcases Nat.lt_or_ge j n with a | a
        · exact a
        · rw [List.getElem?_eq_none (by omega)] at hx; cases hx
      obtain ⟨y', b', off', hy, he, hc⟩ := HN.out.at_ hj
      rw [hx] at hy
      obtain rfl := Option.some.inj hy
      simp at he
      obtain ⟨rfl, rfl⟩ := he
      rw [Addr.add_lit]
      exact hc
  intro v' w2 hown' hgrow _
  have ba : Below w.heap.size w (w.alloc (.cells #[] 2)) := (Below.refl _ _).alloc (Nat.le_refl _) _
  have HB2 := Lib.hid (below_grown ba hgrow (fun g hg => by simp [Value.ownBlock] at hg; omega))
  have HO2 := Lib.hid hown'
  clear hown' hgrow ba
  go_wp2_with fail
  go_ret
  refine ⟨v', rfl, ?_, HB2.out⟩
  have h1 := HO2.out
  simp only [← hl] at h1
  exact h1

end Go.Proofs.Ytkhhemlfahdbnab
