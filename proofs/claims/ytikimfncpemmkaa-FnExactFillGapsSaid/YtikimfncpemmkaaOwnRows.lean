/-
  The model's copies: the contracts of l00Own and l06OwnRows.
-/
import Derived.Test.YtikimfncpemmkaaGaps
import Derived.Test.YtikimfncpemmkaaTab
namespace Go.Proofs.Ytikimfncpemmkaa
open Go.RowKit Go.Deep Go.ChangeShapes Go.WideShapes

set_option maxRecDepth 100000 in
set_option maxHeartbeats 2000000 in
theorem l00Own_any (A : Option Addr) (n cap : Nat) (xs : List Int) (w : World) (h : NumsAt w A n xs) (h0 : 0 < n) (hn : n ≤ 1048576) :
    Calls Try.prog 126 #[.slice A n cap] w fun e w' => ∃ u, e = .returned u ∧ w'.ownsRow w.heap.size 2 1 u xs.length (xs.map (Value.int .i64)) ∧ Below w.heap.size w w' := by
  obtain ⟨i0, hi, hz0, hz1, hz2⟩ := info_parts info_int64
  obtain ⟨x, b, off, hx, rfl, hc⟩ := h.at_ h0
  have hl := h.1
  have HN := Lib.hid (h.below ((Below.refl w.heap.size w).alloc (Nat.le_refl _) (.cells #[] 2)))
  clear hx hc h
  go_enter Try.func126, Try.ntmps126
  go_wp2_with (at_builtin; refine wpList_append_own _ rfl _ _ 38 rfl w.heap.size 2 i0 (.int .i64 0) 1 8 Try.underlying38 hi hz0 hz1 hz2 rfl (by decide) _ _ _ rfl (own_none w _ (Nat.le_refl _)) ⟨b, off, none⟩ n cap (xs.map (Value.int .i64)) rfl (by rw [List.length_map, hl, Nat.mul_one]) (fun j u hu => ?news) (ones_i64 xs) (by unfold maxLen; omega) (by omega) (by rw [World.size_alloc]; exact Nat.le_succ _) ?_)
  case news =>
    rw [List.getElem?_map] at hu
    rcases hx : xs[j]? with _ | y
    · rw [hx] at hu; cases hu
    · rw [hx] at hu
      obtain rfl := Option.some.inj hu
      have hj : j < n := by
        rcases Nat.lt_or_ge j n with a | a
        · exact a
        · rw [List.getElem?_eq_none (by omega)] at hx; cases hx
      obtain ⟨y', b', off', hy, he, hc⟩ := HN.out.at_ hj
      rw [hx] at hy
      obtain rfl := Option.some.inj hy
      simp at he
      obtain ⟨rfl, rfl⟩ := he
      rw [Addr.add_lit]
      exact hc
  intro v' w2 hown' hgrow _
  have ba : Below w.heap.size w (w.alloc (.cells #[] 2)) := (Below.refl _ _).alloc (Nat.le_refl _) _
  have HB2 := Lib.hid (below_grown ba hgrow (fun g hg => by simp [Value.ownBlock] at hg; omega))
  have HO2 := Lib.hid hown'
  clear hown' hgrow ba
  go_wp2_with fail
  go_ret
  refine ⟨v', rfl, ?_, HB2.out⟩
  have h1 := HO2.out
  simp only [← hl] at h1
  exact h1

set_option maxRecDepth 100000 in
set_option maxHeartbeats 2000000 in
theorem l06OwnRows_any (A : Option Addr) (n m cap : Nat) (xss : List (List Int)) (w : World) (hg : GoodP n m xss) (h : RowsAt w A m xss) :
    Calls Try.prog 113 #[.slice A m cap] w fun e w' => ∃ u, e = .returned u ∧ TabIn w.heap.size w'.heap.size w' u xss ∧ Below w.heap.size w w' := by
  obtain ⟨i1, hi1, hy0, hy1, hy2⟩ := info_parts info_ints
  have HG := Lib.hid hg
  have HH := Lib.hid h
  have m3 := hg.m3
  have HL := Lib.hid hg.len
  clear hg h
  go_enter Try.func113, Try.ntmps113
  go_wp2_with fail
  go_loopw [3, 4] (fun ov iv wr => ∃ (k : Nat) (vs : List Value), k ≤ m ∧ iv = .int .i64 k ∧ TabV w.heap.size wr.heap.size wr ov vs (xss.take k) ∧ Below w.heap.size w wr) (fun _ iv _ => m - (intOf iv).toNat)
  case atStart =>
    refine ⟨0, [], Nat.zero_le _, rfl, ⟨rfl, World.ownsRow_lit (e := 38) w #[] 0 (Nat.le_refl _) (Nat.zero_le _) rfl, fun g hg => ?_, fun r u xs hu => ?_, fun r r' u u' g hu => ?_, fun r u g hu => ?_⟩, (Below.refl _ _).alloc (Nat.le_refl _) _⟩
    · simp [Value.ownBlock] at hg; subst hg; simp
    · simp at hu
    · simp at hu
    · simp at hu
  case round =>
    obtain ⟨k, vs, hk, rfl, htab, hbel⟩ := hrel
    obtain ⟨Y, hY⟩ : ∃ Y, Y = xss.take k := ⟨_, rfl⟩
    rw [← hY] at htab
    obtain ⟨A3, C3, rfl⟩ := own_form htab.out
    have HT := Lib.hid htab
    have HB := Lib.hid hbel
    have HKL := Lib.hid (show Y.length = k by rw [hY, List.length_take, HL.out]; omega)
    have HY := Lib.hid hY
    have h1 := HH.out.below hbel
    clear htab hbel hY
    by_cases hlt : k < m
    · obtain ⟨xs, b, off, A1, c2, hx, rfl, hc, hnum⟩ := h1.at_ hlt
      have HX := Lib.hid hx
      have HN := Lib.hid hnum
      have hxn : 0 < xs.length ∧ xs.length ≤ 1048576 := by
        obtain ⟨row, h1, h2, _⟩ := HG.out.row k hlt
        rw [hx] at h1
        obtain rfl := Option.some.inj h1
        have := HG.out.n1
        have := HG.out.n10
        omega
      have HXN := Lib.hid hxn
      have hk0 : (0 : Int) ≤ (k : Int) := by omega
      have hkn : (k : Int) < (m : Int) := by omega
      clear hx hnum h1 hxn
      go_wp2_with fail
      refine (l00Own_any A1 xs.length c2 xs wr HN.out HXN.out.1 HXN.out.2).mono ?_
      rintro e w1 ⟨u, rfl, o1, b1⟩
      obtain ⟨A6, C6, rfl⟩ := own_form o1
      have HB1 := Lib.hid (below_then HB.out b1)
      have HT1 := Lib.hid (HT.out.below b1)
      have HI1 := Lib.hid (IntsIn.of o1)
      have HZ1 := Lib.hid b1.size
      have hrl : Y.length ≤ 3 := by rw [HKL.out]; omega
      clear hc b1 o1
      have HLE := Lib.hid (show w.heap.size ≤ w1.heap.size from HB1.out.size)
      go_wp2_with (at_builtin; refine wpList_append_own_at _ rfl _ _ 22 rfl (w.heap.size) 38 i1 (.slice none 0 0) 1 24 Try.underlying22 hi1 hy0 hy1 hy2 rfl (by decide) _ _ _ rfl (World.ownsRow.alloc (HT1.out.out) _) ⟨(w1).heap.size, 0, none⟩ 1 1 [.slice A6 xs.length C6] rfl rfl (cell_one_new _ _ _) (by simp [Value.oneCell']) (by unfold maxLen; omega) (by omega) (by rw [World.size_alloc]; exact Nat.le_succ_of_le HLE.out) ?_)
      intro v' w2 hown' hgrow _ hat
      have ba : Below w1.heap.size w1 (w1.alloc (.cells #[.slice A6 xs.length C6] 38)) := (Below.refl _ _).alloc (Nat.le_refl _) _
      have htab2 := TabV.snoc (HT1.out.below ba) (HI1.out.below ba) hown' hgrow (by rw [World.size_alloc]; exact hat) HB.out.size (Nat.le_refl _) (by have := ba.size; omega)
      rw [HY.out, ← take_snoc HX.out] at htab2
      have HT2 := Lib.hid htab2
      have HB2 := Lib.hid (below_grown (below_then HB1.out ba) hgrow (fun g hg => (HT1.out.out.lt g hg).1))
      clear hown' hgrow hat ba htab2 hrl
      go_wp2_with fail
      go_roundw
      case rel => exact ⟨k + 1, _, by omega, by go_num, HT2.out, HB2.out⟩
      case measure => simp [intOf]; omega
    · have hkm : k = m := by omega
      have HKM := Lib.hid hkm
      clear h1 hkm
      go_wp2_with fail
      go_ret
      have h1 := HT.out
      have h2 : Y = xss := by rw [HY.out, HKM.out]; exact List.take_of_length_le (by rw [HL.out]; exact Nat.le_refl _)
      refine ⟨_, rfl, ⟨vs, ?_⟩, HB.out⟩
      rw [← h2]
      exact h1

end Go.Proofs.Ytikimfncpemmkaa
