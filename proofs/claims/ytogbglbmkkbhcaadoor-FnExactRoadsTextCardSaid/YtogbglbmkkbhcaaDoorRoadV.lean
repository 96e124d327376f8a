/-
  Which roads are valid: the contracts of IsSorted, l05Ok and both ValidRoads.
-/
import Derived.Test.YtogbglbmkkbhcaaDoorRoadD
namespace Go.Proofs.YtogbglbmkkbhcaaDoor
open Go.RowKit Go.Deep Go.ChangeShapes Go.WideShapes

theorem isNaN_any (x : Int) (w : World) : Calls Tryd.prog 105 #[.int .i64 x] w fun e w' => e = .returned (.bool false) ∧ w = w' := by
  go_enter Tryd.func105, Tryd.ntmps105
  go_wp2
  go_ret
  exact ⟨by simp, rfl⟩
theorem less_any (x y : Int) (w : World) : Calls Tryd.prog 96 #[.int .i64 x, .int .i64 y] w fun e w' => e = .returned (.bool (decide (x < y))) ∧ w = w' := by
  go_enter Tryd.func96, Tryd.ntmps96
  go_wp2_with (go_at_call 105; refine (isNaN_any _ _).mono ?_; rintro e w' ⟨rfl, rfl⟩)
  go_ret
  exact ⟨by simp, rfl⟩

set_option maxRecDepth 100000 in
set_option maxHeartbeats 1000000 in
theorem isSorted_any (A : Option Addr) (n cap : Nat) (xs : List Int) (w : World) (h : NumsAt w A n xs) (hn : n ≤ 4611686018427387904) :
    Calls Tryd.prog 83 #[.slice A n cap] w fun e w' => e = .returned (.bool (upB xs xs.length)) ∧ ∃ m, w' = w.drewN m := by
  have HL := Lib.hid h.1
  have hwr : IntKind.i64.wrap ((n : Int) - 1) = (n : Int) - 1 := IntWalk.i64_in _ (by omega)
  go_enter Tryd.func83, Tryd.ntmps83
  go_wp2_with fail
  clear hwr
  go_loopw [3] (fun i wr => ∃ (q : Int) (m : Nat), i = .int .i64 q ∧ -1 ≤ q ∧ q ≤ (n : Int) - 1 ∧ wr = w.drewN m ∧ (∀ k : Nat, q ≤ (k : Int) → k + 1 < n → xs.getD k 0 ≤ xs.getD (k + 1) 0)) (fun i _ => (intOf i + 1).toNat)
  case atStart => exact ⟨(n : Int) - 1, 0, by go_num, by omega, by omega, rfl, fun k h1 h2 => by omega⟩
  case round =>
    obtain ⟨q, m, rfl, hq1, hq2, hw, hall⟩ := hrel
    have HA := Lib.hid hall
    have HW := Lib.hid hw
    have h1 : NumsAt wr A n xs := by rw [hw]; exact h.drewN m
    clear hall hw
    by_cases hlt : 0 < q
    · obtain ⟨k, rfl⟩ : ∃ k : Nat, q = (k : Int) := ⟨q.toNat, by omega⟩
      obtain ⟨x, b, off, hx, rfl, hc⟩ := h1.at_ (k := k) (by omega)
      obtain ⟨y, b2, off2, hy, he, hc2⟩ := h1.at_ (k := k - 1) (by omega)
      simp only [Option.some.injEq, Addr.mk.injEq, and_true] at he
      obtain ⟨rfl, rfl⟩ := he
      have HX := Lib.hid (getD_of hx)
      have HY := Lib.hid (getD_of hy)
      have hwr : IntKind.i64.wrap ((k : Int) - 1) = (k : Int) - 1 := IntWalk.i64_in _ (by omega)
      have hto : ((k : Int) - 1).toNat = k - 1 := by omega
      have i1 : (0 : Int) ≤ (k : Int) - 1 := by omega
      have i2 : (k : Int) - 1 < (n : Int) := by omega
      have i3 : (k : Int) < (n : Int) := by omega
      have i4 : (0 : Int) ≤ (k : Int) := by omega
      clear hx hy h1
      by_cases hxy : x < y
      · have hd : decide (x < y) = true := by simp [hxy]
        go_wp2_with fail
        go_quiet ((go_at_call 96; exact quiet_eq (less_any _ _ _)))
        go_wp2_with fail
        go_ret
        exact ⟨ret_bool (upB_no (q := k) (by omega) (by rw [HL.out]; omega) (by rw [HX.out, HY.out]; omega)).symm, _, by rw [HW.out, World.drewN_drewN]⟩
      · have hd : decide (x < y) = false := decide_eq_false hxy
        go_wp2_with fail
        go_quiet ((go_at_call 96; exact quiet_eq (less_any _ _ _)))
        go_wp2_with fail
        go_roundw
        case rel =>
          refine ⟨(k : Int) - 1, _, by go_num, by omega, by omega, by rw [HW.out, World.drewN_drewN], fun j h1 h2 => ?_⟩
          by_cases hj : (k : Int) ≤ (j : Int)
          · exact HA.out j hj h2
          · have : j = k - 1 := by omega
            subst this
            have e : k - 1 + 1 = k := by omega
            rw [e, HX.out, HY.out]
            omega
        case measure => simp [intOf]
    · have hd : decide (0 < q) = false := decide_eq_false hlt
      go_wp2_with fail
      go_ret
      exact ⟨ret_bool (upB_all (fun k hk => HA.out k (by omega) (by rw [HL.out] at hk; exact hk))).symm, _, HW.out⟩

theorem row_first {w : World} {A : Option Addr} {n : Nat} {xss : List (List Int)} (h : RowsAt w A n xss) (hn : 0 < n) :
    ∃ b off, A = some ⟨b, off, none⟩ ∧ ∀ (k : Nat) (xs : List Int), xss[k]? = some xs → ∃ A1 c1, w.cell? ⟨b, off + k, none⟩ = some (.slice A1 xs.length c1) ∧ NumsAt w A1 xs.length xs := by
  obtain ⟨xs, b, off, A1, c1, hx, rfl, hc, hnum⟩ := h.at_ hn
  refine ⟨b, off, rfl, fun k ys hy => ?_⟩
  obtain ⟨b', off', A2, c2, he, hc2, hnum2⟩ := h.2 k ys hy
  simp only [Option.some.injEq, Addr.mk.injEq, and_true] at he
  obtain ⟨rfl, rfl⟩ := he
  exact ⟨A2, c2, hc2, hnum2⟩

set_option maxRecDepth 100000 in
set_option maxHeartbeats 4000000 in
theorem l05Ok_any (p : Nat) (s : Int) (A : Option Addr) (n cap : Nat) (xss : List (List Int)) (w : World) (c0 : w.cell? ⟨p, 0, none⟩ = some (.int .i64 s)) (c1 : w.cell? ⟨p, 1, none⟩ = some (.slice A n cap)) (h : RowsAt w A n xss) (hn : n ≤ 4611686018427387904)
    (hrows : ∀ (r : Nat) (xs : List Int), xss[r]? = some xs → xs.length ≤ 4611686018427387904) :
    Calls Tryd.prog 53 #[.pointer (some ⟨p, 0, none⟩)] w fun e w' => e = .returned (.bool (okR s xss)) ∧ ∃ m, w' = w.drewN m := by
  have HR := Lib.hid hrows
  have HL := Lib.hid h.1
  clear hrows
  rcases hs : inB 1 7 s with _ | _
  · go_enter Tryd.func53, Tryd.ntmps53
    go_wp2_with fail
    go_quiet ((go_at_call 65; exact quiet_eq (l00In_any _ _ _ _)))
    go_wp2_with fail
    go_ret
    exact ⟨ret_bool (okR_1 hs).symm, _, rfl⟩
  · have hs' : 1 ≤ s ∧ s ≤ 7 := by simpa [inB] using hs
    have hs1 : 1 ≤ s := hs'.1
    have hs2 : s ≤ 7 := hs'.2
    clear hs'
    by_cases hns : (n : Int) = s
    · have hne : ((n : Int) != s) = false := by simp [hns]
      obtain ⟨b, off, rfl, hrow⟩ := row_first h (by omega)
      obtain ⟨r0, hr0⟩ : ∃ r0, xss[0]? = some r0 := ⟨xss[0]'(by rw [HL.out]; omega), List.getElem?_eq_getElem _⟩
      obtain ⟨A0, a0, hc0, hnum0⟩ := hrow 0 r0 hr0
      rw [Nat.add_zero] at hc0
      have hn0 : (0 : Int) < (n : Int) := by omega
      have HM := Lib.hid (show (xss.getD 0 []).length = r0.length by rw [List.getD_eq_getElem?_getD, hr0]; rfl)
      have HNS := Lib.hid hns
      have HROW := Lib.hid hrow
      have HS := Lib.hid hs
      clear hr0 hnum0 hns hrow
      rcases hm : inB 1 3 (r0.length : Int) with _ | _
      · go_enter Tryd.func53, Tryd.ntmps53
        go_wp2_with fail
        go_quiet ((go_at_call 65; exact quiet_eq (l00In_any _ _ _ _)))
        go_wp2_with fail
        go_ret
        exact ⟨ret_bool (okR_3 HM.out hm).symm, _, rfl⟩
      · go_enter Tryd.func53, Tryd.ntmps53
        go_wp2_with fail
        go_quiet ((go_at_call 65; exact quiet_eq (l00In_any _ _ _ _)))
        go_wp2_with fail
        have HMM := Lib.hid hm
        clear hm hs hne
        go_loopw [3] (fun i wr => ∃ k m : Nat, k ≤ n ∧ i = .int .i64 k ∧ wr = w.drewN m ∧ (xss.take k).all (rowR s r0.length) = true) (fun i _ => n - (intOf i).toNat)
        case atStart => exact ⟨0, _, Nat.zero_le _, rfl, rfl, by simp⟩
        case round =>
          obtain ⟨k, m, hk, rfl, hw, hall⟩ := hrel
          have HA := Lib.hid hall
          have HW := Lib.hid hw
          have d0 : wr.cell? ⟨p, 0, none⟩ = some (.int .i64 s) := by rw [hw]; exact c0
          have d1 : wr.cell? ⟨p, 1, none⟩ = some (.slice (some ⟨b, off, none⟩) n cap) := by rw [hw]; exact c1
          have d2 : wr.cell? ⟨b, off, none⟩ = some (.slice A0 r0.length a0) := by rw [hw]; exact hc0
          clear hall hw
          by_cases hlt : k < n
          · obtain ⟨xs, hx⟩ : ∃ xs, xss[k]? = some xs := ⟨xss[k]'(by rw [HL.out]; exact hlt), List.getElem?_eq_getElem _⟩
            obtain ⟨A1, a1, hc1, hnum1⟩ := HROW.out k xs hx
            have d3 : wr.cell? ⟨b, off + k, none⟩ = some (.slice A1 xs.length a1) := by rw [HW.out]; exact hc1
            have HX := Lib.hid hx
            have HN := Lib.hid (show NumsAt wr A1 xs.length xs by rw [HW.out]; exact hnum1.drewN m)
            have hxw := HR.out _ _ hx
            have hk0 : (0 : Int) ≤ (k : Int) := by omega
            have hkn : (k : Int) < (n : Int) := by omega
            clear hx hnum1 hc1
            by_cases hls : xs.length = r0.length
            · have HLS := Lib.hid hls
              have hne : ((xs.length : Int) != (r0.length : Int)) = false := by simp [hls]
              clear hls
              go_wp2_with fail
              go_quiet (fail)
              go_wp2_with fail
              clear hne
              have hsub : IntKind.i64.wrap (s - 1) = s - 1 := IntWalk.i64_in _ (by omega)
              have HSUB := Lib.hid hsub
              clear hsub
              go_loopw [4] (fun j wi => ∃ q m2 : Nat, q ≤ xs.length ∧ j = .int .i64 q ∧ wi = wr.drewN m2 ∧ (xs.take q).all (belowB s) = true ∧ upB xs q = true) (fun j _ => xs.length - (intOf j).toNat)
              case atStart => exact ⟨0, _, Nat.zero_le _, rfl, rfl, by simp, upB_0 _⟩
              case round =>
                obtain ⟨q, m2, hq, rfl, hwi, hin, hup⟩ := hrel
                have HI := Lib.hid hin
                have HU := Lib.hid hup
                have HWI := Lib.hid hwi
                have g0 : World.cell? ‹World› ⟨p, 0, none⟩ = some (.int .i64 s) := by rw [hwi]; exact d0
                have g1 : World.cell? ‹World› ⟨p, 1, none⟩ = some (.slice (some ⟨b, off, none⟩) n cap) := by rw [hwi]; exact d1
                have g3 : World.cell? ‹World› ⟨b, off + k, none⟩ = some (.slice A1 xs.length a1) := by rw [hwi]; exact d3
                have gn : NumsAt ‹World› A1 xs.length xs := by rw [hwi]; exact HN.out.drewN m2
                clear hin hup hwi
                by_cases hqn : q < xs.length
                · obtain ⟨x, b3, off3, hx, rfl, hcx⟩ := gn.at_ hqn
                  have HXX := Lib.hid hx
                  have HXD := Lib.hid (getD_of hx)
                  have hq0 : (0 : Int) ≤ (q : Int) := by omega
                  have hqn' : (q : Int) < (xs.length : Int) := by omega
                  have hsub := HSUB.out
                  rcases hin : inB 0 (s - 1) x with _ | _
                  · clear hx gn
                    go_wp2_with fail
                    go_quiet ((go_at_call 65; exact quiet_eq (l00In_any _ _ _ _)))
                    go_wp2_with fail
                    go_ret
                    exact ⟨ret_bool (okR_4 HM.out HX.out (rowR_2 (all_stop HXX.out (by rw [belowB_inB]; exact hin)))).symm, _, by rw [HWI.out, HW.out, World.drewN_drewN, World.drewN_drewN]⟩
                  · by_cases hq1 : 0 < q
                    · obtain ⟨y, b4, off4, hy, he, hcy⟩ := gn.at_ (k := q - 1) (by omega)
                      simp only [Option.some.injEq, Addr.mk.injEq, and_true] at he
                      obtain ⟨rfl, rfl⟩ := he
                      have HYD := Lib.hid (getD_of hy)
                      have hd0 : decide ((0 : Int) < (q : Int)) = true := by simp; omega
                      have hwr : IntKind.i64.wrap ((q : Int) - 1) = (q : Int) - 1 := IntWalk.i64_in _ (by omega)
                      have hto : ((q : Int) - 1).toNat = q - 1 := by omega
                      have i1 : (0 : Int) ≤ (q : Int) - 1 := by omega
                      have i2 : (q : Int) - 1 < (xs.length : Int) := by omega
                      clear hx hy gn
                      by_cases hyx : x < y
                      · have hd : decide (x < y) = true := by simp [hyx]
                        go_wp2_with fail
                        go_quiet ((go_at_call 65; exact quiet_eq (l00In_any _ _ _ _)))
                        go_wp2_with fail
                        go_ret
                        exact ⟨ret_bool (okR_4 HM.out HX.out (rowR_3 (upB_no hq1 hqn (by rw [HXD.out, HYD.out]; omega)))).symm, _, by rw [HWI.out, HW.out, World.drewN_drewN, World.drewN_drewN]⟩
                      · have hd : decide (x < y) = false := by simp; omega
                        go_wp2_with fail
                        go_quiet ((go_at_call 65; exact quiet_eq (l00In_any _ _ _ _)))
                        go_wp2_with fail
                        go_roundw
                        case rel => exact ⟨q + 1, _, by omega, by go_num, by rw [HWI.out, World.drewN_drewN], all_snoc HI.out HXX.out (by rw [belowB_inB]; exact hin), upB_step HU.out (.inr (by rw [HXD.out, HYD.out]; omega))⟩
                        case measure => simp [intOf]; omega
                    · have hd0 : decide ((0 : Int) < (q : Int)) = false := by simp; omega
                      clear hx gn
                      go_wp2_with fail
                      go_quiet ((go_at_call 65; exact quiet_eq (l00In_any _ _ _ _)))
                      go_wp2_with fail
                      go_roundw
                      case rel => exact ⟨q + 1, _, by omega, by go_num, by rw [HWI.out, World.drewN_drewN], all_snoc HI.out HXX.out (by rw [belowB_inB]; exact hin), upB_step HU.out (.inl (by omega))⟩
                      case measure => simp [intOf]; omega
                · clear gn
                  go_wp2_with fail
                  go_roundw
                  case rel =>
                    have hqe : q = xs.length := by omega
                    refine ⟨k + 1, _, by omega, by go_num, by rw [HWI.out, HW.out, World.drewN_drewN], allR_snoc HA.out HX.out (rowR_t HLS.out (all_done hqe.symm HI.out) ?_)⟩
                    rw [← hqe]
                    exact HU.out
                  case measure => simp [intOf]; omega
            · have hne : ((xs.length : Int) != (r0.length : Int)) = true := by rw [bne_iff_ne]; omega
              have HLS := Lib.hid hls
              clear hls
              go_wp2_with fail
              go_quiet (fail)
              go_wp2_with fail
              go_ret
              exact ⟨ret_bool (okR_4 HM.out HX.out (rowR_1 HLS.out)).symm, _, by rw [HW.out, World.drewN_drewN]⟩
          · go_wp2_with fail
            go_ret
            have hkn : k = n := by omega
            subst hkn
            exact ⟨ret_bool (okR_t HS.out (by rw [HL.out]; exact HNS.out) HM.out HMM.out (allR_done HL.out HA.out)).symm, _, HW.out⟩
    · have hne : ((n : Int) != s) = true := by simp [hns]
      go_enter Tryd.func53, Tryd.ntmps53
      go_wp2_with fail
      go_quiet ((go_at_call 65; exact quiet_eq (l00In_any _ _ _ _)))
      go_wp2_with fail
      go_ret
      exact ⟨ret_bool (okR_2 (by rw [HL.out]; exact hns)).symm, _, rfl⟩

set_option maxRecDepth 100000 in
set_option maxHeartbeats 4000000 in
theorem implValidRoads_any (s : Int) (A : Option Addr) (n cap : Nat) (xss : List (List Int)) (w : World) (h : RowsAt w A n xss) (hn : n ≤ 4611686018427387904)
    (hrows : ∀ (r : Nat) (xs : List Int), xss[r]? = some xs → xs.length ≤ 4611686018427387904) :
    Calls Tryd.prog 54 #[.agg #[.int .i64 s, .slice A n cap]] w fun e w' => e = .returned (.bool (okR s xss)) ∧ Below w.heap.size w w' := by
  have HR := Lib.hid hrows
  have HL := Lib.hid h.1
  clear hrows
  obtain ⟨w1, hw1⟩ : ∃ w1, w1 = w.alloc (.cells #[.int .i64 s, .slice A n cap] 51) := ⟨_, rfl⟩
  have b0 : Below w.heap.size w w1 := by rw [hw1]; exact (Below.refl _ _).alloc (Nat.le_refl _) _
  have x0 : w1.cell? ⟨w.heap.size, 0, none⟩ = some (.int .i64 s) := by rw [hw1]; go_cell
  have x1 : w1.cell? ⟨w.heap.size, 1, none⟩ = some (.slice A n cap) := by rw [hw1]; go_cell
  have HW := Lib.hid hw1
  have B0 := Lib.hid b0
  have H1 := h.below b0
  clear b0
  by_cases hs1 : 1 ≤ s
  · have e1 : decide (s < 1) = false := decide_eq_false (by omega)
    by_cases hs2 : s ≤ 7
    · have e2 : decide (7 < s) = false := decide_eq_false (by omega)
      by_cases hns : (n : Int) = s
      · have hne : ((n : Int) != s) = false := by simp [hns]
        obtain ⟨b, off, rfl, hrow⟩ := row_first H1 (by omega)
        obtain ⟨r0, hr0⟩ : ∃ r0, xss[0]? = some r0 := ⟨xss[0]'(by rw [HL.out]; omega), List.getElem?_eq_getElem _⟩
        obtain ⟨A0, a0, hc0, hnum0⟩ := hrow 0 r0 hr0
        rw [Nat.add_zero] at hc0
        have hn0 : (0 : Int) < (n : Int) := by omega
        have HM := Lib.hid (show (xss.getD 0 []).length = r0.length by rw [List.getD_eq_getElem?_getD, hr0]; rfl)
        have HNS := Lib.hid hns
        have HROW := Lib.hid hrow
        have HS := Lib.hid (show inB 1 7 s = true from inB_t ⟨hs1, hs2⟩)
        have hcA : (w.alloc (.cells #[.int .i64 s, .slice (some ⟨b, off, none⟩) n cap] 51)).cell? ⟨b, off, none⟩ = some (.slice A0 r0.length a0) := by rw [← hw1]; exact hc0
        clear hr0 hnum0 hns hrow hw1 H1
        by_cases hm1 : 1 ≤ r0.length
        · have e3 : decide ((r0.length : Int) < 1) = false := decide_eq_false (by omega)
          by_cases hm3 : r0.length ≤ 3
          · have e4 : decide ((3 : Int) < (r0.length : Int)) = false := decide_eq_false (by omega)
            have HMM := Lib.hid (show inB 1 3 (r0.length : Int) = true from inB_t ⟨by omega, by omega⟩)
            go_enter Tryd.func54, Tryd.ntmps54
            go_wp2_with fail
            rw [← HW.out]
            clear e1 e2 e3 e4 hne hc0 hcA
            have X0 := Lib.hid x0
            clear x0 x1
            go_loopw [36] (fun i wr => ∃ k : Nat, k ≤ n ∧ i = .int .i64 k ∧ (xss.take k).all (rowR s r0.length) = true ∧ Below w1.heap.size w1 wr) (fun i _ => n - (intOf i).toNat)
            case atStart => exact ⟨0, Nat.zero_le _, rfl, by simp, Below.refl _ _⟩
            case round =>
              obtain ⟨k, hk, rfl, hall, hbel⟩ := hrel
              have HA := Lib.hid hall
              have HB := Lib.hid hbel
              have d0 : wr.cell? ⟨w.heap.size, 0, none⟩ = some (.int .i64 s) := (hbel.cell (cell_lt X0.out)).trans X0.out
              clear hall hbel
              by_cases hlt : k < n
              · obtain ⟨xs, hx⟩ : ∃ xs, xss[k]? = some xs := ⟨xss[k]'(by rw [HL.out]; exact hlt), List.getElem?_eq_getElem _⟩
                obtain ⟨A1, a1, hc1, hnum1⟩ := HROW.out k xs hx
                have d3 : wr.cell? ⟨b, off + k, none⟩ = some (.slice A1 xs.length a1) := (HB.out.cell (cell_lt hc1)).trans hc1
                have HX := Lib.hid hx
                have HN := Lib.hid (hnum1.below HB.out)
                have hxw := HR.out _ _ hx
                have hk0 : (0 : Int) ≤ (k : Int) := by omega
                have hkn : (k : Int) < (n : Int) := by omega
                clear hx hnum1 hc1
                by_cases hls : xs.length = r0.length
                · have HLS := Lib.hid hls
                  have hne : ((xs.length : Int) != (r0.length : Int)) = false := by simp [hls]
                  clear hls
                  rcases hbl : xs.all (belowB s) with _ | _
                  · go_wp2_with (go_at_call 82; refine (areBelow_any _ _ _ _ _ _ HN.out hxw).mono ?_; rintro e w' ⟨rfl, rfl⟩)
                    go_ret
                    exact ⟨ret_bool (okR_4 HM.out HX.out (rowR_2 hbl)).symm, below_then B0.out HB.out⟩
                  · rcases hup : upB xs xs.length with _ | _
                    · go_wp2_with (first | (go_at_call 82; refine (areBelow_any _ _ _ _ _ _ HN.out hxw).mono ?_; rintro e w' ⟨rfl, rfl⟩) | (go_at_call 83; refine (isSorted_any _ _ _ _ _ HN.out hxw).mono ?_; rintro e w' ⟨rfl, m, rfl⟩))
                      go_ret
                      exact ⟨ret_bool (okR_4 HM.out HX.out (rowR_3 hup)).symm, below_drewN' (below_then B0.out HB.out) _⟩
                    · go_wp2_with (first | (go_at_call 82; refine (areBelow_any _ _ _ _ _ _ HN.out hxw).mono ?_; rintro e w' ⟨rfl, rfl⟩) | (go_at_call 83; refine (isSorted_any _ _ _ _ _ HN.out hxw).mono ?_; rintro e w' ⟨rfl, m, rfl⟩))
                      go_roundw
                      case rel => exact ⟨k + 1, by omega, by go_num, allR_snoc HA.out HX.out (rowR_t HLS.out hbl hup), below_drewN' HB.out _⟩
                      case measure => simp [intOf]; omega
                · have hne : ((xs.length : Int) != (r0.length : Int)) = true := by rw [bne_iff_ne]; omega
                  have HLS := Lib.hid hls
                  clear hls
                  go_wp2_with fail
                  go_ret
                  exact ⟨ret_bool (okR_4 HM.out HX.out (rowR_1 HLS.out)).symm, below_then B0.out HB.out⟩
              · go_wp2_with fail
                go_ret
                have hkn : k = n := by omega
                subst hkn
                exact ⟨ret_bool (okR_t HS.out (by rw [HL.out]; exact HNS.out) HM.out HMM.out (allR_done HL.out HA.out)).symm, below_then B0.out HB.out⟩
          · have e4 : decide ((3 : Int) < (r0.length : Int)) = true := decide_eq_true (by omega)
            go_enter Tryd.func54, Tryd.ntmps54
            go_wp2_with fail
            rw [← HW.out]
            go_ret
            exact ⟨ret_bool (okR_3 HM.out (inB_f (by omega))).symm, B0.out⟩
        · have e3 : decide ((r0.length : Int) < 1) = true := decide_eq_true (by omega)
          go_enter Tryd.func54, Tryd.ntmps54
          go_wp2_with fail
          rw [← HW.out]
          go_ret
          exact ⟨ret_bool (okR_3 HM.out (inB_f (by omega))).symm, B0.out⟩
      · have hne : ((n : Int) != s) = true := by simp [hns]
        clear hw1
        go_enter Tryd.func54, Tryd.ntmps54
        go_wp2_with fail
        rw [← HW.out]
        go_ret
        exact ⟨ret_bool (okR_2 (by rw [HL.out]; exact hns)).symm, B0.out⟩
    · have e2 : decide (7 < s) = true := decide_eq_true (by omega)
      clear hw1
      go_enter Tryd.func54, Tryd.ntmps54
      go_wp2_with fail
      rw [← HW.out]
      go_ret
      exact ⟨ret_bool (okR_1 (inB_f (by omega))).symm, B0.out⟩
  · have e1 : decide (s < 1) = true := decide_eq_true (by omega)
    clear hw1
    go_enter Tryd.func54, Tryd.ntmps54
    go_wp2_with fail
    rw [← HW.out]
    go_ret
    exact ⟨ret_bool (okR_1 (inB_f (by omega))).symm, B0.out⟩

end Go.Proofs.YtogbglbmkkbhcaaDoor
