/-
  The lengths of all merging words: the contract of the model's l02Table.
-/
import Derived.Test.YtcglncepmieaaaaWord
import Derived.Test.YtcglncepmieaaaaTab
namespace Go.Proofs.Ytcglncepmieaaaa
open Go.RowKit Go.Deep Go.ChangeShapes Go.WideShapes
open Hunt Srch Moved From

theorem pair_bitsT {p q : Nat} (hp : p < 10) (hq : q < 10) : bits .or .i64 (wrap64 (2 ^ p)) (wrap64 (2 ^ q)) = ((pairB p q : Nat) : Int) := by
  have h1 : 2 ^ p ≤ 2 ^ 9 := Nat.pow_le_pow_right (by decide) (by omega)
  have h2 : 2 ^ q ≤ 2 ^ 9 := Nat.pow_le_pow_right (by decide) (by omega)
  have e1 : ((2 : Int) ^ p) = ((2 ^ p : Nat) : Int) := by push_cast; rfl
  have e2 : ((2 : Int) ^ q) = ((2 ^ q : Nat) : Int) := by push_cast; rfl
  rw [e1, e2, wrap_512 (Nat.le_trans h1 (by decide)), wrap_512 (Nat.le_trans h2 (by decide)), i64_or_nat _ _ (by omega) (by omega)]
  unfold pairB
  rw [Nat.one_shiftLeft, Nat.one_shiftLeft]
/-- The length of a word that is found, -1 if none is. -/
def lenO (o : Option Fnd) : Int := if hitB o = true then (((toldW o).1.length : Nat) : Int) else -1
noncomputable def lenP (n m : Nat) (xss : List (List Int)) (s t : Nat) : Int := lenO (firstF mergedB (fnd n m xss 1024 (pairB s t)))
noncomputable def rowK (n m : Nat) (xss : List (List Int)) (s k : Nat) : List Int := (List.range k).map fun t => lenP n m xss s t
theorem rowK_len (n m : Nat) (xss : List (List Int)) (s k : Nat) : (rowK n m xss s k).length = k := by simp [rowK]
theorem rowK_succ (n m : Nat) (xss : List (List Int)) (s k : Nat) : rowK n m xss s (k + 1) = rowK n m xss s k ++ [lenP n m xss s k] := by simp [rowK, List.range_succ]
noncomputable def tabK (n m : Nat) (xss : List (List Int)) (k : Nat) : List (List Int) := (List.range k).map fun s => rowK n m xss s n
theorem tabK_len (n m : Nat) (xss : List (List Int)) (k : Nat) : (tabK n m xss k).length = k := by simp [tabK]
theorem tabK_succ (n m : Nat) (xss : List (List Int)) (k : Nat) : tabK n m xss (k + 1) = tabK n m xss k ++ [rowK n m xss k n] := by simp [tabK, List.range_succ]

set_option maxRecDepth 100000 in
set_option maxHeartbeats 4000000 in
theorem l02Table_any (p n m cap : Nat) (A : Option Addr) (xss : List (List Int)) (w : World) (hg : Good n m xss) (hR : RowsAt w A m xss) (hb : Box w p [.int .i64 (n : Int), .slice A m cap]) :
    Calls Try.prog 52 #[.pointer (some ⟨p, 0, none⟩)] w fun e w' => ∃ u, e = .returned u ∧ TabIn w.heap.size w'.heap.size w' u (tabK n m xss n) ∧ Below w.heap.size w w' := by
  obtain ⟨i1, hi1, hy0, hy1, hy2⟩ := info_parts info_ints
  obtain ⟨i0, hi, hz0, hz1, hz2⟩ := info_parts info_int64
  have HG := Lib.hid hg
  have HH := Lib.hid hR
  have HBX := Lib.hid hb
  have hn10 : n ≤ 10 := hg.n10
  clear hg hR hb
  go_enter Try.func52, Try.ntmps52
  go_wp2_with fail
  go_loopw [3, 4] (fun ov iv wr => ∃ (k : Nat) (vs : List Value), k ≤ n ∧ iv = .int .i64 k ∧ TabV w.heap.size wr.heap.size wr ov vs (tabK n m xss k) ∧ Below w.heap.size w wr) (fun _ iv _ => n - (intOf iv).toNat)
  case atStart =>
    refine ⟨0, [], Nat.zero_le _, rfl, ⟨rfl, World.ownsRow_lit (e := 35) w #[] 0 (Nat.le_refl _) (Nat.zero_le _) rfl, fun g hg => ?_, fun r u xs hu => ?_, fun r r' u u' g hu => ?_, fun r u g hu => ?_⟩, (Below.refl _ _).alloc (Nat.le_refl _) _⟩
    · simp [Value.ownBlock] at hg; subst hg; simp
    · simp at hu
    · simp at hu
    · simp at hu
  case round =>
    obtain ⟨k, vs, hk, rfl, htab, hbel⟩ := hrel
    obtain ⟨wo, hwo⟩ : ∃ wo, wo = wr := ⟨_, rfl⟩
    rw [← hwo] at htab hbel ⊢
    clear hwo
    obtain ⟨Y, hY⟩ : ∃ Y, Y = tabK n m xss k := ⟨_, rfl⟩
    rw [← hY] at htab
    obtain ⟨A3, C3, rfl⟩ := own_form htab.out
    have HT := Lib.hid htab
    have HB := Lib.hid hbel
    have HKL := Lib.hid (show Y.length = k by rw [hY, tabK_len])
    have HY := Lib.hid hY
    have q0 := (Box.below HBX.out hbel) 0 _ rfl
    have hk0 : (0 : Int) ≤ (k : Int) := by omega
    clear htab hbel hY
    by_cases hlt : k < n
    · have hkn : (k : Int) < (n : Int) := by omega
      go_wp2_with fail
      clear q0
      go_loopw [5, 6] (fun rv tv wr => ∃ (t : Nat) (L : List Int), t ≤ n ∧ tv = .int .i64 t ∧ L = rowK n m xss k t ∧ wr.ownsRow wo.heap.size 2 1 rv L.length (L.map (Value.int .i64)) ∧ Below wo.heap.size wo wr) (fun _ tv _ => n - (intOf tv).toNat)
      case atStart => exact ⟨0, [], Nat.zero_le _, rfl, rfl, own_none wo _ (Nat.le_refl _), (Below.refl _ _).alloc (Nat.le_refl _) _⟩
      case round =>
        obtain ⟨t, L, ht, rfl, hL, hown, hbel⟩ := hrel
        obtain ⟨wi, hwi⟩ : ∃ wi, wi = wr := ⟨_, rfl⟩
        rw [← hwi] at hown hbel ⊢
        clear hwi
        obtain ⟨A5, C5, rfl⟩ := own_form hown
        have HO := Lib.hid hown
        have HBI := Lib.hid hbel
        have HL := Lib.hid hL
        have hLn : L.length ≤ 10 := by rw [hL, rowK_len]; omega
        have BI := Lib.hid (below_then HB.out hbel)
        have ht0 : (0 : Int) ≤ (t : Int) := by omega
        have XI := Lib.hid (Box.below HBX.out BI.out)
        have q0 := XI.out 0 _ rfl
        clear hown hbel hL
        by_cases hltt : t < n
        · have htn : (t : Int) < (n : Int) := by omega
          have HPB := Lib.hid (pair_bitsT (show k < 10 by omega) (show t < 10 by omega))
          have hk10 : (k : Int) < 10 := by omega
          have ht10 : (t : Int) < 10 := by omega
          have HIN := Lib.hid (pair_in hlt hltt)
          obtain ⟨o, ho⟩ : ∃ o, o = firstF mergedB (fnd n m xss 1024 (pairB k t)) := ⟨_, rfl⟩
          have HOE := Lib.hid ho
          go_wp2_with fail
          rw [HPB.out]
          refine (l02Shrink_any p n m cap (pairB k t) A xss wi HG.out (HH.out.below BI.out) (XI.out 0 _ rfl) (XI.out 1 _ rfl) HIN.out).mono ?_
          rw [← ho]
          rintro e w3 ⟨u, rfl, ow, b3⟩
          obtain ⟨A7, C7, rfl⟩ := own_form ow
          obtain ⟨N, hN⟩ : ∃ N, N = (toldW o).1.length := ⟨_, rfl⟩
          have HO3 := Lib.hid (own_below HO.out b3)
          have B3 := Lib.hid (below_then HBI.out b3)
          have HLE := Lib.hid (show wo.heap.size ≤ w3.heap.size from B3.out.size)
          rw [← hN]
          have HNE := Lib.hid hN
          clear ow b3 q0 ho hN
          rcases hh : hitB o with _ | _
          · have HV := Lib.hid (show lenP n m xss k t = -1 by unfold lenP; rw [← HOE.out]; unfold lenO; rw [if_neg (by simp [hh])])
            clear hh
            go_wp2_with (at_builtin; refine wpList_append_own _ rfl _ _ 35 rfl (wo.heap.size) 2 i0 (.int .i64 0) 1 8 Try.underlying35 hi hz0 hz1 hz2 rfl (by decide) _ _ _ rfl (World.ownsRow.alloc (HO3.out) _) ⟨(w3).heap.size, 0, none⟩ 1 1 [.int .i64 (-1)] rfl rfl (cell_one_new _ _ _) (ones_i64 [(-1)]) (by unfold maxLen; omega) (by omega) (by rw [World.size_alloc]; exact Nat.le_succ_of_le (HLE.out)) ?_)
            intro v' w4 hown' hgrow _
            have hbb : Below w3.heap.size w3 (w3.alloc (.cells #[.int .i64 (-1)] 2)) := (Below.refl _ _).alloc (Nat.le_refl _) _
            have HB4 := Lib.hid (B3.out.trans ((hbb.mono HLE.out).grown hgrow (Nat.le_trans HLE.out hbb.size) (fun g hg => (HO3.out.lt g hg).1)))
            have HO4 := Lib.hid hown'
            clear hown' hgrow hbb
            go_wp2_with fail
            go_roundw
            case rel => exact ⟨t + 1, L ++ [-1], by omega, by go_num, by rw [rowK_succ, ← HL.out, HV.out], by rw [List.length_append, List.map_append]; exact HO4.out, HB4.out⟩
            case measure => simp [intOf]; omega
          · have HV := Lib.hid (show lenP n m xss k t = (N : Int) by unfold lenP; rw [← HOE.out]; unfold lenO; rw [if_pos hh, HNE.out])
            clear hh
            go_wp2_with (at_builtin; refine wpList_append_own _ rfl _ _ 35 rfl (wo.heap.size) 2 i0 (.int .i64 0) 1 8 Try.underlying35 hi hz0 hz1 hz2 rfl (by decide) _ _ _ rfl (World.ownsRow.alloc (HO3.out) _) ⟨(w3).heap.size, 0, none⟩ 1 1 [.int .i64 (N : Int)] rfl rfl (cell_one_new _ _ _) (ones_i64 [(N : Int)]) (by unfold maxLen; omega) (by omega) (by rw [World.size_alloc]; exact Nat.le_succ_of_le (HLE.out)) ?_)
            intro v' w4 hown' hgrow _
            have hbb : Below w3.heap.size w3 (w3.alloc (.cells #[.int .i64 (N : Int)] 2)) := (Below.refl _ _).alloc (Nat.le_refl _) _
            have HB4 := Lib.hid (B3.out.trans ((hbb.mono HLE.out).grown hgrow (Nat.le_trans HLE.out hbb.size) (fun g hg => (HO3.out.lt g hg).1)))
            have HO4 := Lib.hid hown'
            clear hown' hgrow hbb
            go_wp2_with fail
            go_roundw
            case rel => exact ⟨t + 1, L ++ [(N : Int)], by omega, by go_num, by rw [rowK_succ, ← HL.out, HV.out], by rw [List.length_append, List.map_append]; exact HO4.out, HB4.out⟩
            case measure => simp [intOf]; omega
        · have hte : t = n := by omega
          have HROW := Lib.hid (show L = rowK n m xss k n by rw [HL.out, hte])
          have HT1 := Lib.hid (HT.out.below HBI.out)
          have HI1 := Lib.hid (IntsIn.of HO.out)
          have hrl : Y.length ≤ 10 := by rw [HKL.out]; omega
          have HLE := Lib.hid (show w.heap.size ≤ wi.heap.size from BI.out.size)
          clear hte
          go_wp2_with (at_builtin; refine wpList_append_own_at _ rfl _ _ 22 rfl (w.heap.size) 35 i1 (.slice none 0 0) 1 24 Try.underlying22 hi1 hy0 hy1 hy2 rfl (by decide) _ _ _ rfl (World.ownsRow.alloc (HT1.out.out) _) ⟨(wi).heap.size, 0, none⟩ 1 1 [.slice A5 L.length C5] rfl rfl (cell_one_new _ _ _) (by simp [Value.oneCell']) (by unfold maxLen; omega) (by omega) (by rw [World.size_alloc]; exact Nat.le_succ_of_le HLE.out) ?_)
          intro v' w2 hown' hgrow _ hat
          have ba : Below wi.heap.size wi (wi.alloc (.cells #[.slice A5 L.length C5] 35)) := (Below.refl _ _).alloc (Nat.le_refl _) _
          have htab2 := TabV.snoc (HT1.out.below ba) (HI1.out.below ba) hown' hgrow (by rw [World.size_alloc]; exact hat) HB.out.size (Nat.le_refl _) (by have := ba.size; omega)
          rw [HY.out, HROW.out, ← tabK_succ] at htab2
          rw [← HROW.out] at htab2
          have HT2 := Lib.hid htab2
          have HB2 := Lib.hid (below_grown (below_then BI.out ba) hgrow (fun g hg => (HT1.out.out.lt g hg).1))
          clear hown' hgrow hat ba htab2 hrl q0
          go_wp2_with fail
          go_roundw
          case rel => exact ⟨k + 1, _, by omega, by go_num, HT2.out, HB2.out⟩
          case measure => simp [intOf]; omega
    · have hke : k = n := by omega
      have HTE := Lib.hid (show TabIn w.heap.size wo.heap.size wo (.slice A3 Y.length C3) (tabK n m xss n) from ⟨vs, by have h9 := HT.out; rw [HY.out, hke] at h9; rw [HY.out, hke]; exact h9⟩)
      clear hke
      go_wp2_with fail
      go_ret
      exact ⟨_, rfl, HTE.out, HB.out⟩

end Go.Proofs.Ytcglncepmieaaaa
