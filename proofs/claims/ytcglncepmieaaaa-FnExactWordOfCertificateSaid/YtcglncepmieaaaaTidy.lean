/-
  Divisions with the same classes as some labels: the contracts of l01Tidied and divisionOf.
-/
import Derived.Test.YtcglncepmieaaaaTab
import Derived.Test.YtcglncepmieaaaaPlace
namespace Go.Proofs.Ytcglncepmieaaaa
open Go.RowKit Go.Deep Go.ChangeShapes Go.WideShapes

/-- How many of the first k places have a label that is not ahead of them. -/
def cntT (ms : List Int) : Nat → Nat
  | 0 => 0
  | k + 1 => if placeOf ms (ms.getD k 0) 0 = (k : Int) then cntT ms k + 1 else cntT ms k
theorem cntT_le (ms : List Int) : ∀ k, cntT ms k ≤ k
  | 0 => Nat.le_refl _
  | k + 1 => by have := cntT_le ms k; unfold cntT; split <;> omega
/-- The class of a place. -/
def tidF (ms : List Int) (j : Nat) : Int := (cntT ms (placeOf ms (ms.getD j 0) 0).toNat : Int)
def tidL (ms : List Int) : List Int := (List.range ms.length).map (tidF ms)
theorem tidL_len (ms : List Int) : (tidL ms).length = ms.length := by simp [tidL]
theorem tid_place {ms : List Int} {k p : Nat} {v : Int} (hk : ms[k]? = some v) (hp : placeOf ms v 0 = (p : Int)) : tidF ms k = (cntT ms p : Int) := by
  unfold tidF
  rw [List.getD_eq_getElem?_getD, hk, Option.getD_some, hp, Int.toNat_natCast]
theorem tid_same {ms : List Int} {k t : Nat} (h : ms[k]? = ms[t]?) : tidF ms k = tidF ms t := by
  unfold tidF
  rw [List.getD_eq_getElem?_getD, List.getD_eq_getElem?_getD, h]
theorem cntT_new {ms : List Int} {k : Nat} {v : Int} (hk : ms[k]? = some v) (hp : placeOf ms v 0 = (k : Int)) : cntT ms (k + 1) = cntT ms k + 1 := by
  rw [cntT, List.getD_eq_getElem?_getD, hk, Option.getD_some, if_pos hp]
theorem cntT_old {ms : List Int} {k p : Nat} {v : Int} (hk : ms[k]? = some v) (hp : placeOf ms v 0 = (p : Int)) (hlt : p < k) : cntT ms (k + 1) = cntT ms k := by
  rw [cntT, List.getD_eq_getElem?_getD, hk, Option.getD_some, if_neg (by rw [hp]; omega)]
def tidK (ms : List Int) (k : Nat) : List Int := (List.range k).map (tidF ms)
theorem tidK_len (ms : List Int) (k : Nat) : (tidK ms k).length = k := by simp [tidK]
theorem tidK_succ (ms : List Int) (k : Nat) : (tidK ms (k + 1)).map (Value.int .i64) = (tidK ms k).map (Value.int .i64) ++ [Value.int .i64 (tidF ms k)] := by simp [tidK, List.range_succ]
theorem tidK_at {ms : List Int} {k j : Nat} (h : j < k) : (tidK ms k)[j]? = some (tidF ms j) := by
  unfold tidK; rw [List.getElem?_map, List.getElem?_range h]; rfl
/-- What the model's inner loop has found behind t places. -/
def ownT (ms : List Int) (k p t : Nat) : Int := if p < t then tidF ms k else -1
theorem tidF_0 (ms : List Int) (k : Nat) : 0 ≤ tidF ms k := by unfold tidF; omega


theorem own_up {ms : List Int} {k p t : Nat} {z y : Int} (hz : ms[t]? = some z) (hy : ms[k]? = some y) (hp : ms[p]? = some y) (hl : ∀ j, j < p → ms[j]? ≠ some y) (he : z = y) : ownT ms k p (t + 1) = tidF ms t := by
  subst he
  have hpt : p ≤ t := by
    rcases Nat.lt_or_ge t p with a | a
    · exact absurd hz (hl t a)
    · exact a
  unfold ownT
  rw [if_pos (by omega), tid_same (hy.trans hz.symm)]
theorem own_stay {ms : List Int} {k p t : Nat} {z y : Int} (hz : ms[t]? = some z) (hp : ms[p]? = some y) (he : ¬ z = y) : ownT ms k p (t + 1) = ownT ms k p t := by
  have hpt : p ≠ t := fun e => by subst e; rw [hz] at hp; exact he (Option.some.inj hp)
  unfold ownT
  by_cases h : p < t
  · rw [if_pos h, if_pos (by omega)]
  · rw [if_neg h, if_neg (by omega)]

set_option maxRecDepth 100000 in
set_option maxHeartbeats 2000000 in
theorem l01Tidied_any (A : Option Addr) (n cap : Nat) (ms : List Int) (w : World) (h : NumsAt w A n ms) (hn : n ≤ 1048576) :
    Calls Try.prog 116 #[.slice A n cap] w fun e w' => ∃ v, e = .returned v ∧ w'.ownsRow w.heap.size 2 1 v n ((tidL ms).map (Value.int .i64)) ∧ Below w.heap.size w w' := by
  obtain ⟨i0, hi, hz0, hz1, hz2⟩ := info_parts info_int64
  have HL := Lib.hid h.1
  have HN := Lib.hid h
  clear h
  go_enter Try.func116, Try.ntmps116
  go_wp2_with fail
  go_loopw [3, 4, 5] (fun ov cv iv wr => ∃ k : Nat, k ≤ n ∧ iv = .int .i64 k ∧ cv = .int .i64 (cntT ms k : Int) ∧ wr.ownsRow w.heap.size 2 1 ov k ((tidK ms k).map (Value.int .i64)) ∧ Below w.heap.size w wr) (fun _ _ iv _ => n - (intOf iv).toNat)
  case atStart => exact ⟨0, Nat.zero_le _, rfl, rfl, by simpa [tidK] using own_none w _ (Nat.le_refl _), (Below.refl _ _).alloc (Nat.le_refl _) _⟩
  case round =>
    obtain ⟨k, hk, rfl, rfl, hown, hbel⟩ := hrel
    obtain ⟨A3, c3, rfl⟩ := own_form hown
    have HO := Lib.hid hown
    have HB := Lib.hid hbel
    have hck := cntT_le ms k
    by_cases hlt : k < n
    · obtain ⟨y, b, off, hy, rfl, hc⟩ := (HN.out.below HB.out).at_ hlt
      obtain ⟨p, hpk, hpy, hpl, hpp⟩ := placeOf_le (k0 := 0) hy
      rw [Nat.zero_add] at hpp
      have HY := Lib.hid hy
      have HPY := Lib.hid hpy
      have HPL := Lib.hid hpl
      have HPP := Lib.hid hpp
      have HC := Lib.hid hc
      clear hy hpy hpl hpp hown hbel hc
      go_wp2_with fail
      go_loopw [6, 7] (fun ow tv wi => ∃ t d : Nat, t ≤ k ∧ tv = .int .i64 t ∧ ow = .int .i64 (ownT ms k p t) ∧ wi = wr.drewN d) (fun _ tv _ => k - (intOf tv).toNat)
      case atStart => exact ⟨0, 0, Nat.zero_le _, rfl, by simp [ownT], rfl⟩
      case round =>
        obtain ⟨t, d, ht, rfl, rfl, hwd⟩ := hrel
        have HW := Lib.hid hwd
        obtain ⟨z9, hz9⟩ : ∃ z9, z9 = ownT ms k p t := ⟨_, rfl⟩
        have HZ9 := Lib.hid hz9
        rw [← hz9]
        by_cases htk : t < k
        · obtain ⟨z, b', off', hz, hA', hcz⟩ := ((HN.out.below HB.out).drewN d).at_ (k := t) (by omega)
          simp only [Option.some.injEq, Addr.mk.injEq, and_true] at hA'
          obtain ⟨rfl, rfl⟩ := hA'
          have hcy : wr.cell? ⟨b, off + k, none⟩ = some (.int .i64 y) := by rw [hwd]; exact HC.out
          obtain ⟨q, b3, off3, hq, hA3, hcq⟩ := (NumsAt.own (own_below HO.out (below_drewN' (Below.refl _ _) d)) (tidK_len ms k) rfl).at_ htk
          subst hA3
          rw [tidK_at htk] at hq
          obtain rfl := Option.some.inj hq
          rw [← hwd] at hcz hcq
          have j1 : (0 : Int) ≤ (t : Int) := by omega
          have j2 : (t : Int) < (k : Int) := by omega
          have j3 : (k : Int) < (n : Int) := by omega
          have j4 : (t : Int) < (n : Int) := by omega
          have j5 : (0 : Int) ≤ (k : Int) := by omega
          by_cases hzy : z = y
          · have HU := Lib.hid (own_up (k := k) hz HY.out HPY.out HPL.out hzy)
            have hbq : (z == y) = true := by rw [beq_iff_eq]; exact hzy
            obtain ⟨q9, hq9⟩ : ∃ q9, q9 = tidF ms t := ⟨_, rfl⟩
            rw [← hq9] at hcq
            have HQ9 := Lib.hid hq9
            clear hz hzy hwd hz9 hq9 hq
            go_wp2_with fail
            go_quiet (fail)
            go_wp2_with fail
            go_roundw
            case rel => exact ⟨t + 1, _, by omega, by go_num, by rw [HU.out, ← HQ9.out], by rw [HW.out, World.drewN_drewN]⟩
            case measure => simp [intOf]; omega
          · have HU := Lib.hid (own_stay (k := k) hz HPY.out hzy)
            have hbq : (z == y) = false := by rw [beq_eq_false_iff_ne]; exact hzy
            clear hz hzy hwd hz9 hq
            go_wp2_with fail
            go_quiet (fail)
            go_wp2_with fail
            go_roundw
            case rel => exact ⟨t + 1, _, by omega, by go_num, by rw [HU.out, ← HZ9.out], by rw [HW.out, World.drewN_drewN]⟩
            case measure => simp [intOf]; omega
        · have htk' : t = k := by omega
          have HTK := Lib.hid htk'
          have HO2 := Lib.hid (show wr.ownsRow w.heap.size 2 1 (.slice A3 k c3) k ((tidK ms k).map (Value.int .i64)) from by rw [HW.out]; exact own_below HO.out (below_drewN' (Below.refl _ _) d))
          have HB2 := Lib.hid (show Below w.heap.size w wr by rw [HW.out]; exact below_drewN' HB.out d)
          rcases Nat.lt_or_ge p k with hpk2 | hpk2
          · have HZ := Lib.hid (show z9 = tidF ms k by rw [HZ9.out, HTK.out]; unfold ownT; rw [if_pos hpk2])
            have hz0' : ¬ z9 < 0 := by rw [HZ.out]; have := tidF_0 ms k; omega
            have HCN := Lib.hid (cntT_old HY.out HPP.out hpk2)
            clear htk' hwd hz9
            go_wp2_with (at_builtin; refine wpList_append_own _ rfl _ _ 35 rfl (w.heap.size) 2 i0 (.int .i64 0) 1 8 Try.underlying35 hi hz0 hz1 hz2 rfl (by decide) _ _ _ rfl (World.ownsRow.alloc (HO2.out) _) ⟨(wr).heap.size, 0, none⟩ 1 1 [.int .i64 z9] rfl rfl (cell_one_new _ _ _) (ones_i64 [z9]) (by unfold maxLen; omega) (by omega) (by rw [World.size_alloc]; exact Nat.le_succ_of_le (HB2.out.size)) ?_)
            intro v' w2 hown' hgrow _
            have HO1 := Lib.hid hown'
            have HB1 := Lib.hid (below_grown (HB2.out.alloc HB2.out.size _) hgrow (fun g hg => (HO2.out.lt g hg).1))
            clear hown' hgrow
            go_wp2_with fail
            go_roundw
            case rel => exact ⟨k + 1, by omega, by go_num, by rw [HCN.out], by rw [tidK_succ, ← HZ.out]; exact HO1.out, HB1.out⟩
            case measure => simp [intOf]; omega
          · have hpe : p = k := by omega
            have HZ := Lib.hid (show z9 = -1 by rw [HZ9.out, HTK.out]; unfold ownT; rw [if_neg (by omega)])
            have hz0' : z9 < 0 := by rw [HZ.out]; omega
            have HCN := Lib.hid (cntT_new HY.out (by rw [HPP.out, hpe]))
            have HTF := Lib.hid (show tidF ms k = (cntT ms k : Int) by rw [tid_place HY.out HPP.out, hpe])
            clear htk' hwd hz9
            go_wp2_with (at_builtin; refine wpList_append_own _ rfl _ _ 35 rfl (w.heap.size) 2 i0 (.int .i64 0) 1 8 Try.underlying35 hi hz0 hz1 hz2 rfl (by decide) _ _ _ rfl (World.ownsRow.alloc (HO2.out) _) ⟨(wr).heap.size, 0, none⟩ 1 1 [.int .i64 (cntT ms k : Int)] rfl rfl (cell_one_new _ _ _) (ones_i64 [(cntT ms k : Int)]) (by unfold maxLen; omega) (by omega) (by rw [World.size_alloc]; exact Nat.le_succ_of_le (HB2.out.size)) ?_)
            intro v' w2 hown' hgrow _
            have HO1 := Lib.hid hown'
            have HB1 := Lib.hid (below_grown (HB2.out.alloc HB2.out.size _) hgrow (fun g hg => (HO2.out.lt g hg).1))
            clear hown' hgrow
            go_wp2_with fail
            go_roundw
            case rel => exact ⟨k + 1, by omega, by go_num, by rw [HCN.out]; go_num, by rw [tidK_succ, HTF.out]; exact HO1.out, HB1.out⟩
            case measure => simp [intOf]; omega
    · have hkn : k = n := by omega
      have HKN := Lib.hid hkn
      clear hkn hown hbel
      go_wp2_with fail
      go_ret
      refine ⟨_, rfl, ?_, HB.out⟩
      have := HO.out
      rw [HKN.out] at this ⊢
      unfold tidL
      rw [HL.out]
      exact this

set_option maxRecDepth 100000 in
set_option maxHeartbeats 2000000 in
theorem divisionOf_any (A : Option Addr) (n cap : Nat) (ms : List Int) (w : World) (h : NumsAt w A n ms) (hn : n ≤ 1048576) :
    Calls Try.prog 69 #[.slice A n cap] w fun e w' => ∃ v, e = .returned v ∧ w'.ownsRow w.heap.size 2 1 v n ((tidL ms).map (Value.int .i64)) ∧ Below w.heap.size w w' := by
  have hmk := run_make_row' (P := Try.prog) 35 2 (.int .i64 0) 8 Try.underlying35 info_int64 rfl .i64 .i64 n (by omega) (by omega)
  have HL := Lib.hid h.1
  have HN := Lib.hid h
  have HO0 : Hid ((w.alloc (.cells (madeCells #[.int .i64 0] n) 2)).ownsRow w.heap.size 2 1 (.slice (some ⟨w.heap.size, 0, none⟩) n n) n ((fillK n 0 (tidF ms)).map (Value.int .i64))) := Lib.hid (by
    rw [fillK_0, ← made_zeros]
    exact World.ownsRow_lit w _ n (Nat.le_refl _) (by unfold maxLen; omega) (by rw [size_madeCells, Nat.mul_one]))
  have HB0 := Lib.hid (show Below w.heap.size w (w.alloc (.cells (madeCells #[.int .i64 0] n) 2)) from (Below.refl _ _).alloc (Nat.le_refl _) _)
  clear h
  go_enter Try.func69, Try.ntmps69
  go_wp2_with fail
  clear hmk
  go_loopw [4, 12] (fun uv iv wr => ∃ k : Nat, k ≤ n ∧ iv = .int .i64 k ∧ uv = .int .i64 (cntT ms k : Int) ∧ wr.ownsRow w.heap.size 2 1 (.slice (some ⟨w.heap.size, 0, none⟩) n n) n ((fillK n k (tidF ms)).map (Value.int .i64)) ∧ Below w.heap.size w wr) (fun _ iv _ => n - (intOf iv).toNat)
  case atStart => exact ⟨0, Nat.zero_le _, rfl, rfl, HO0.out, HB0.out⟩
  case round =>
    obtain ⟨k, hk, rfl, rfl, hown, hbel⟩ := hrel
    have HO := Lib.hid hown
    have HB := Lib.hid hbel
    have hck := cntT_le ms k
    by_cases hlt : k < n
    · obtain ⟨y, b, off, hy, rfl, hc⟩ := (HN.out.below HB.out).at_ hlt
      obtain ⟨p, hpk, hpy, hpl, hpp⟩ := placeOf_le (k0 := 0) hy
      rw [Nat.zero_add] at hpp
      have HPP := Lib.hid hpp
      have HTF := Lib.hid (tid_place hy hpp)
      have HTP := Lib.hid (tid_place hpy hpp)
      have hs1 : wr.cell? ⟨w.heap.size, k, none⟩ = some (.int .i64 0) := by
        have h1 := hown.cellAt k (by omega)
        rw [List.getElem?_map, fillK_at _ _ _ hlt, if_neg (by omega)] at h1
        exact h1
      have hf1 : wr.frozen? ⟨w.heap.size, k, none⟩ = false := hown.frozenAt k
      have j1 : (0 : Int) ≤ (k : Int) := by omega
      have j2 : (k : Int) < (n : Int) := by omega
      have HS := Lib.hid (fill_set hown hlt)
      have HB2 := Lib.hid (show Below w.heap.size w (wr.setCell ⟨w.heap.size, k, none⟩ (.int .i64 (tidF ms k))) from hbel.setCell (by simp) _)
      have HNR := Lib.hid (HN.out.below HB.out)
      rcases Nat.lt_or_ge p k with hpk2 | hpk2
      · have hcp : wr.cell? ⟨w.heap.size, p, none⟩ = some (.int .i64 (tidF ms k)) := by
          have h1 := hown.cellAt p (by omega)
          rw [List.getElem?_map, fillK_at _ _ _ (by omega), if_pos hpk2, HTP.out, ← HTF.out] at h1
          exact h1
        have HCN := Lib.hid (cntT_old hy hpp hpk2)
        have j3 : (0 : Int) ≤ (p : Int) := by omega
        have j4 : (p : Int) < (k : Int) := by omega
        have j5 : (p : Int) < (n : Int) := by omega
        clear hy hpy hpl hpp hown hbel
        go_wp2_with (go_at_call 118; refine (slIndex_any _ n cap ms y _ HNR.out (by omega)).mono ?_; rw [HPP.out]; rintro e w' ⟨rfl, rfl⟩)
        go_roundw
        case rel => exact ⟨k + 1, by omega, by go_num, by rw [HCN.out], HS.out, HB2.out⟩
        case measure => simp [intOf]; omega
      · have hpe : p = k := by omega
        have HCN := Lib.hid (cntT_new hy (by rw [hpp, hpe]))
        rw [hpe] at HTF HPP
        have j3 : ¬ (k : Int) < (k : Int) := by omega
        rw [HTF.out] at HS HB2
        clear hy hpy hpl hpp hown hbel
        go_wp2_with (go_at_call 118; refine (slIndex_any _ n cap ms y _ HNR.out (by omega)).mono ?_; rw [HPP.out]; rintro e w' ⟨rfl, rfl⟩)
        go_roundw
        case rel => exact ⟨k + 1, by omega, by go_num, by rw [HCN.out]; go_num, HS.out, HB2.out⟩
        case measure => simp [intOf]; omega
    · have hkn : k = n := by omega
      have HKN := Lib.hid hkn
      clear hkn hown hbel
      go_wp2_with fail
      go_ret
      refine ⟨_, rfl, ?_, HB.out⟩
      have := HO.out
      rw [HKN.out, fillK_all] at this
      unfold tidL
      rw [HL.out]
      exact this

end Go.Proofs.Ytcglncepmieaaaa
