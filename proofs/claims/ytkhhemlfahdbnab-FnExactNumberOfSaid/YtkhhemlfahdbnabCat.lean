/-
  Two lists one behind the other: the contracts of slices.Grow (of nothing) and slices.Concat (of two lists).
-/
import Derived.Test.YtkhhemlfahdbnabOwn
import Derived.Lib.AppendZeros
import Derived.Laws.AppendOwnNone
namespace Go.Proofs.Ytkhhemlfahdbnab
open Go.RowKit Go.Deep Go.ChangeShapes Go.WideShapes

set_option maxRecDepth 100000 in
set_option maxHeartbeats 2000000 in
theorem grow_any (n : Nat) (w : World) (hn : n ≤ 100000) :
    Calls Try.prog 187 #[.slice none 0 0, .int .i64 (n : Int)] w fun e w' => ∃ v, e = .returned v ∧ w'.ownsRow w.heap.size 2 1 v 0 [] ∧ Below w.heap.size w w' := by
  obtain ⟨i0, hi, hz0, hz1, hz2⟩ := info_parts info_int64
  rcases Nat.eq_zero_or_pos n with h0 | h0
  · subst h0
    go_enter Try.func187, Try.ntmps187
    go_wp2_with fail
    go_ret
    exact ⟨_, rfl, World.ownsRow_nil _ _ _ _, Below.refl _ _⟩
  · obtain ⟨G, hG⟩ : ∃ G, G = grownCap w n 0 2 := ⟨_, rfl⟩
    have hGn : n ≤ G := by rw [hG]; exact grownCap_ge w _ _ _
    have hG63 : G ≤ maxLen := by rw [hG]; exact grownCap_le_maxLen w n 0 _ (by unfold maxLen; omega)
    obtain ⟨cs, hcs⟩ : ∃ cs, cs = Builtin.zeroCells (Value.int .i64 0).cells n ++ Builtin.zeroCells (Value.int .i64 0).cells (G - n) := ⟨_, rfl⟩
    have hsz : cs.size = G := by
      rw [hcs, Array.size_append, size_zeroCells, size_zeroCells, show (Value.int IntKind.i64 0).cells.size = 1 from rfl]
      omega
    have hrz : ∀ ty, (Builtin.append_ #[64, 3] ty #[.slice none 0 0, .int .i64 (n : Int)]).run Try.prog w = .ok (.slice (some ⟨w.heap.size, 0, none⟩) n G) (w.drew.alloc (.cells cs 2)) := fun ty => by
      rw [hcs, hG]
      exact Lib.run_append_nil_zeros w 64 3 ty 2 i0 (.int .i64 0) .i64 .i64 Try.underlying64 Try.underlying3 hi hz0 n h0 (by omega) (by omega) (by rw [hz2]; omega)
    have h1 : ¬ ((n : Int) < 0) := by omega
    have h3 : IntKind.i64.wrap ((n : Int) - 0) = (n : Int) := by rw [Int.sub_zero]; exact IntWalk.i64_in _ (by omega)
    have hp : (0 : Int) < (n : Int) := by omega
    have hG' : G ≤ 9223372036854775807 := hG63
    have HSZ := Lib.hid hsz
    have HM := Lib.hid hG63
    clear hcs hG hsz hG63
    go_enter Try.func187, Try.ntmps187
    go_wp2_with (at_builtin; refine Lib.wpList_append_run _ rfl _ _ _ _ rfl _ _ rfl rfl _ _ (hrz _) ?_)
    go_ret
    refine ⟨_, rfl, ?_, (Below.refl _ _).drew.alloc (Nat.le_refl _) _⟩
    exact ⟨rfl, .inr ⟨w.heap.size, G, cs, rfl, Nat.le_refl _, heap_alloc_new w.drew _, Nat.zero_le _, HM.out, by rw [HSZ.out, Nat.mul_one], by simp⟩⟩

/-- A list that is read: nil, or in a block. -/
def SrcAt (w : World) (v : Value) (xs : List Int) : Prop := (v = .slice none 0 0 ∧ xs = []) ∨ ∃ b off c, v = .slice (some ⟨b, off, none⟩) xs.length c ∧ NumsAt w (some ⟨b, off, none⟩) xs.length xs
theorem SrcAt.below {w w' : World} {v : Value} {xs : List Int} (h : SrcAt w v xs) (hb : Below w.heap.size w w') : SrcAt w' v xs := by
  rcases h with h | ⟨b, off, c, e, h⟩
  · exact .inl h
  · exact .inr ⟨b, off, c, e, h.below hb⟩
theorem SrcAt.form {w : World} {v : Value} {xs : List Int} (h : SrcAt w v xs) : ∃ A c, v = .slice A xs.length c := by
  rcases h with ⟨rfl, rfl⟩ | ⟨b, off, c, rfl, _⟩
  · exact ⟨none, 0, rfl⟩
  · exact ⟨_, c, rfl⟩
theorem SrcAt.nums {w : World} {A : Option Addr} {n c : Nat} {xs : List Int} (h : SrcAt w (.slice A n c) xs) : NumsAt w A n xs := by
  rcases h with ⟨e, rfl⟩ | ⟨b, off, c', e, h⟩
  · simp only [Value.slice.injEq] at e
    obtain ⟨rfl, rfl, _⟩ := e
    exact NumsAt.nil _ _
  · simp only [Value.slice.injEq] at e
    obtain ⟨rfl, rfl, _⟩ := e
    exact h
theorem SrcAt.own {w : World} {base : Nat} {v : Value} {xs : List Int} (h : w.ownsRow base 2 1 v xs.length (xs.map (Value.int .i64))) : SrcAt w v xs := by
  rcases h.2 with ⟨hv, h0⟩ | ⟨g, cap, cur, hv, hg, hh, hn, hcap, hsz, htake⟩
  · exact .inl ⟨hv, List.eq_nil_of_length_eq_zero h0⟩
  · subst hv
    exact .inr ⟨g, 0, cap, rfl, NumsAt.own h rfl rfl⟩

def preN (a b k : Nat) : Nat := if k = 0 then 0 else if k = 1 then a else a + b
def preL (xs ys : List Int) (k : Nat) : List Int := if k = 0 then [] else if k = 1 then xs else xs ++ ys

set_option maxRecDepth 100000 in
set_option maxHeartbeats 4000000 in
theorem concat_any (B : Nat) (v1 v2 : Value) (xs ys : List Int) (w : World) (c0 : w.cell? ⟨B, 0, none⟩ = some v1) (c1 : w.cell? ⟨B, 1, none⟩ = some v2) (h1 : SrcAt w v1 xs) (h2 : SrcAt w v2 ys) (hx : xs.length ≤ 1000) (hy : ys.length ≤ 1000) :
    Calls Try.prog 171 #[.slice (some ⟨B, 0, none⟩) 2 2] w fun e w' => ∃ v, e = .returned v ∧ w'.ownsRow w.heap.size 2 1 v (xs ++ ys).length ((xs ++ ys).map (Value.int .i64)) ∧ Below w.heap.size w w' := by
  obtain ⟨i0, hi, hz0, hz1, hz2⟩ := info_parts info_int64
  obtain ⟨A1, e1, rfl⟩ := h1.form
  obtain ⟨A2, e2, rfl⟩ := h2.form
  have H1 := Lib.hid h1
  have H2 := Lib.hid h2
  have C0 := Lib.hid c0
  have C1 := Lib.hid c1
  obtain ⟨n1, hn1⟩ : ∃ n, n = xs.length := ⟨_, rfl⟩
  obtain ⟨n2, hn2⟩ : ∃ n, n = ys.length := ⟨_, rfl⟩
  rw [← hn1] at c0 hx
  rw [← hn2] at c1 hy
  have HN1 := Lib.hid hn1
  have HN2 := Lib.hid hn2
  clear h1 h2 hn1 hn2
  go_enter Try.func171, Try.ntmps171
  go_wp2_with fail
  go_loopw [3, 11] (fun s i wr => ∃ k : Nat, k ≤ 2 ∧ i = .int .i64 k ∧ s = .int .i64 (preN n1 n2 k : Int) ∧ wr = w) (fun _ i _ => 2 - (intOf i).toNat)
  case atStart => exact ⟨0, by omega, rfl, rfl, rfl⟩
  case round =>
    obtain ⟨k, hk, rfl, rfl, hw⟩ := hrel
    have d0 : wr.cell? ⟨B, 0, none⟩ = some (.slice A1 n1 e1) := by rw [hw]; exact c0
    have d1 : wr.cell? ⟨B, 1, none⟩ = some (.slice A2 n2 e2) := by rw [hw]; exact c1
    have HW := Lib.hid hw
    clear hw
    have hk3 : k = 0 ∨ k = 1 ∨ k = 2 := by omega
    rcases hk3 with rfl | rfl | rfl
    · have hadd : IntKind.i64.wrap (((preN n1 n2 0 : Nat) : Int) + (n1 : Int)) = (n1 : Int) := by rw [show ((preN n1 n2 0 : Nat) : Int) = 0 from rfl, Int.zero_add]; exact IntWalk.i64_in _ (by omega)
      have hneg : ¬ ((n1 : Int) < 0) := by omega
      go_wp2_with fail
      go_roundw
      case rel => exact ⟨1, by omega, rfl, rfl, HW.out⟩
      case measure => simp [intOf]
    · have hadd : IntKind.i64.wrap (((preN n1 n2 1 : Nat) : Int) + (n2 : Int)) = ((n1 + n2 : Nat) : Int) := by rw [show ((preN n1 n2 1 : Nat) : Int) = (n1 : Int) from rfl, show (n1 : Int) + (n2 : Int) = ((n1 + n2 : Nat) : Int) by omega]; exact IntWalk.i64_in _ (by omega)
      have hneg : ¬ (((n1 + n2 : Nat) : Int) < 0) := by omega
      go_wp2_with fail
      go_roundw
      case rel => exact ⟨2, by omega, rfl, rfl, HW.out⟩
      case measure => simp [intOf]
    · clear c0 c1 d0 d1
      rw [HW.out]
      go_wp2_with fail
      refine (grow_any (n1 + n2) _ (by omega)).mono ?_
      rintro e w1 ⟨v, rfl, o1, b1⟩
      obtain ⟨A3, c3, rfl⟩ := own_form o1
      have O1 := Lib.hid o1
      have B1 := Lib.hid b1
      clear o1 b1
      go_wp2_with fail
      go_loopw [6, 27] (fun u i wr => ∃ k : Nat, k ≤ 2 ∧ i = .int .i64 k ∧ wr.ownsRow w.heap.size 2 1 u (preL xs ys k).length ((preL xs ys k).map (Value.int .i64)) ∧ Below w.heap.size w wr) (fun _ i _ => 2 - (intOf i).toNat)
      case atStart => exact ⟨0, by omega, rfl, O1.out, B1.out⟩
      case round =>
        obtain ⟨k, hk, rfl, hown, hbel⟩ := hrel
        have HOI := Lib.hid hown
        have HBI := Lib.hid hbel
        obtain ⟨A5, c5, rfl⟩ := own_form hown
        clear hown hbel
        have hk3 : k = 0 ∨ k = 1 ∨ k = 2 := by omega
        rcases hk3 with rfl | rfl | rfl
        · have d := (HBI.out.cell (cell_lt C0.out)).trans C0.out
          rw [← HN1.out] at d
          rcases H1.out with ⟨hv, hnil⟩ | ⟨b, off, c, hv, hnum⟩
          · simp only [Value.slice.injEq] at hv
            obtain ⟨rfl, hl0, rfl⟩ := hv
            have hz : n1 = 0 := by rw [HN1.out, hnil]; rfl
            rw [hz] at d
            have HNIL := Lib.hid hnil
            clear hnil hl0 hz
            go_wp2_with (at_builtin; refine wpList_append_own_none rfl _ _ 64 rfl _ 2 i0 1 Try.underlying64 hi _ _ _ rfl HOI.out rfl ?_)
            go_roundw
            case rel => exact ⟨1, by omega, rfl, by rw [show preL xs ys 1 = preL xs ys 0 by rw [HNIL.out]; simp [preL]]; exact HOI.out, HBI.out⟩
            case measure => simp [intOf]
          · simp only [Value.slice.injEq] at hv
            obtain ⟨rfl, _, rfl⟩ := hv
            have HNM := Lib.hid (hnum.below HBI.out)
            have hpl : (preL xs ys 0).length ≤ 1000 := by simp [preL]
            clear hnum
            go_wp2_with (at_builtin; refine wpList_append_own _ rfl _ _ 64 rfl w.heap.size 2 i0 (.int .i64 0) 1 8 Try.underlying64 hi hz0 hz1 hz2 rfl (by decide) _ _ _ rfl HOI.out ⟨b, off, none⟩ n1 _ (xs.map (Value.int .i64)) rfl (by rw [List.length_map, HN1.out, Nat.mul_one]) (nums_cells HNM.out) (ones_i64 xs) (by unfold maxLen; omega) (by omega) HBI.out.size ?_)
            intro v' w5 hown hgrow _
            have HO5 := Lib.hid hown
            have HB5 := Lib.hid (below_grown HBI.out hgrow (fun q hq => (HOI.out.lt q hq).1))
            clear hown hgrow
            go_wp2_with fail
            go_roundw
            case rel =>
              have e : preL xs ys 1 = preL xs ys 0 ++ xs := by simp [preL]
              refine ⟨1, by omega, rfl, ?_, HB5.out⟩
              rw [e, List.length_append, List.map_append, ← HN1.out]
              exact HO5.out
            case measure => simp [intOf]
        · have d := (HBI.out.cell (cell_lt C1.out)).trans C1.out
          rw [← HN2.out] at d
          rcases H2.out with ⟨hv, hnil⟩ | ⟨b, off, c, hv, hnum⟩
          · simp only [Value.slice.injEq] at hv
            obtain ⟨rfl, hl0, rfl⟩ := hv
            have hz : n2 = 0 := by rw [HN2.out, hnil]; rfl
            rw [hz] at d
            have HNIL := Lib.hid hnil
            clear hnil hl0 hz
            go_wp2_with (at_builtin; refine wpList_append_own_none rfl _ _ 64 rfl _ 2 i0 1 Try.underlying64 hi _ _ _ rfl HOI.out rfl ?_)
            go_roundw
            case rel => exact ⟨2, by omega, rfl, by rw [show preL xs ys 2 = preL xs ys 1 by rw [HNIL.out]; simp [preL]]; exact HOI.out, HBI.out⟩
            case measure => simp [intOf]
          · simp only [Value.slice.injEq] at hv
            obtain ⟨rfl, _, rfl⟩ := hv
            have HNM := Lib.hid (hnum.below HBI.out)
            have hpl : (preL xs ys 1).length ≤ 1000 := by simp [preL]; rw [← HN1.out]; omega
            clear hnum
            go_wp2_with (at_builtin; refine wpList_append_own _ rfl _ _ 64 rfl w.heap.size 2 i0 (.int .i64 0) 1 8 Try.underlying64 hi hz0 hz1 hz2 rfl (by decide) _ _ _ rfl HOI.out ⟨b, off, none⟩ n2 _ (ys.map (Value.int .i64)) rfl (by rw [List.length_map, HN2.out, Nat.mul_one]) (nums_cells HNM.out) (ones_i64 ys) (by unfold maxLen; omega) (by omega) HBI.out.size ?_)
            intro v' w5 hown hgrow _
            have HO5 := Lib.hid hown
            have HB5 := Lib.hid (below_grown HBI.out hgrow (fun q hq => (HOI.out.lt q hq).1))
            clear hown hgrow
            go_wp2_with fail
            go_roundw
            case rel =>
              have e : preL xs ys 2 = preL xs ys 1 ++ ys := by simp [preL]
              refine ⟨2, by omega, rfl, ?_, HB5.out⟩
              rw [e, List.length_append, List.map_append, ← HN2.out]
              exact HO5.out
            case measure => simp [intOf]
        · go_wp2_with fail
          go_ret
          exact ⟨_, rfl, HOI.out, HBI.out⟩

end Go.Proofs.Ytkhhemlfahdbnab
