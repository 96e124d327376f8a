/-
  The number of a colouring: NumberOf of the model.
-/
import Derived.Test.YtkhhemlfahdbnabNumC
import Derived.Deep.RegionHeld3
namespace Go.Proofs.Ytkhhemlfahdbnab
open Go.RowKit Go.Deep Go.ChangeShapes Go.WideShapes

set_option maxRecDepth 100000 in
set_option maxHeartbeats 4000000 in
theorem specNumberOf_any (s : Int) (A : Option Addr) (n cap : Nat) (xss : List (List Int)) (s' : Int) (A2 : Option Addr) (m' cap2 : Nat) (yss : List (List Int)) (w : World) (h : RowsC w A n xss) (hn : n ≤ 4611686018427387904)
    (hrows : ∀ (r : Nat) (xs : List Int), xss[r]? = some xs → xs.length ≤ 4611686018427387904) (h2 : RowsAt w A2 m' yss) (hm : m' ≤ 4611686018427387904) (hrows2 : ∀ (r : Nat) (xs : List Int), yss[r]? = some xs → xs.length ≤ 4611686018427387904) :
    Calls Try.prog 25 #[.agg #[.int .i64 s, .slice A n cap], .agg #[.int .i64 s', .slice A2 m' cap2]] w fun e w' => e = .returned (.tuple #[.int .i64 (numberOf s xss s' yss).1, .int .i64 (numberOf s xss s' yss).2]) ∧ Below w.heap.size w w' := by
  have HR := Lib.hid hrows
  have HR2 := Lib.hid hrows2
  have HL := Lib.hid h.1
  have HL2 := Lib.hid h2.1
  obtain ⟨w1, hw1⟩ : ∃ w1, w1 = (w.alloc (.cells #[.int .i64 s, .slice A n cap] 28)).alloc (.cells #[.int .i64 s', .slice A2 m' cap2] 33) := ⟨_, rfl⟩
  have b1 : Below w.heap.size w w1 := by rw [hw1]; go_grown
  have x0 : w1.cell? ⟨w.heap.size, 0, none⟩ = some (.int .i64 s) := by rw [hw1]; go_cell
  have x1 : w1.cell? ⟨w.heap.size, 1, none⟩ = some (.slice A n cap) := by rw [hw1]; go_cell
  have y0 : w1.cell? ⟨w.heap.size + 1, 0, none⟩ = some (.int .i64 s') := by rw [hw1]; go_cell
  have y1 : w1.cell? ⟨w.heap.size + 1, 1, none⟩ = some (.slice A2 m' cap2) := by rw [hw1]; go_cell
  have X0 := Lib.hid x0
  have X1 := Lib.hid x1
  have Y0 := Lib.hid y0
  have Y1 := Lib.hid y1
  have H1 := Lib.hid (h.below b1)
  have K1 := Lib.hid (h2.below b1)
  have B1 := Lib.hid b1
  have HW := Lib.hid hw1
  clear hrows hrows2 b1 hw1 h h2
  rcases hokr : okR s xss with _ | _
  · have HF := Lib.hid (numberOf_1 (s := s) (xss := xss) (s' := s') (yss := yss) (by simp [hokr]))
    go_enter Try.func25, Try.ntmps25
    go_wp2_with fail
    rw [← HW.out]
    refine (l05Ok_any w.heap.size s A n cap xss w1 X0.out X1.out H1.out.rows hn HR.out).mono ?_
    rw [hokr]
    rintro e w2 ⟨rfl, k2, rfl⟩
    go_wp2_with fail
    go_ret2
    exact ⟨two_mkn HF.out, below_drewN' B1.out _⟩
  · go_enter Try.func25, Try.ntmps25
    go_wp2_with fail
    rw [← HW.out]
    refine (l05Ok_any w.heap.size s A n cap xss w1 X0.out X1.out H1.out.rows hn HR.out).mono ?_
    rw [hokr]
    rintro e w2 ⟨rfl, k2, hk2⟩
    have b2 : Below w1.heap.size w1 w2 := by rw [hk2]; exact below_drewN' (Below.refl _ _) _
    clear hk2 x0 x1 y0 y1
    have X0 := Lib.hid ((b2.cell (cell_lt X0.out)).trans X0.out)
    have X1 := Lib.hid ((b2.cell (cell_lt X1.out)).trans X1.out)
    have Y0 := Lib.hid ((b2.cell (cell_lt Y0.out)).trans Y0.out)
    have Y1 := Lib.hid ((b2.cell (cell_lt Y1.out)).trans Y1.out)
    have H2 := Lib.hid (H1.out.below b2)
    have K2 := Lib.hid (K1.out.below b2)
    have B2 := Lib.hid (below_then B1.out b2)
    clear b2
    go_wp2_with fail
    refine (l01Ok_any (w.heap.size + 1) s' A2 m' cap2 yss w2 Y0.out Y1.out K2.out hm HR2.out).mono ?_
    rintro e w3 ⟨rfl, k3, hk3⟩
    have b3 : Below w2.heap.size w2 w3 := by rw [hk3]; exact below_drewN' (Below.refl _ _) _
    clear hk3
    have X0 := Lib.hid ((b3.cell (cell_lt X0.out)).trans X0.out)
    have X1 := Lib.hid ((b3.cell (cell_lt X1.out)).trans X1.out)
    have Y0 := Lib.hid ((b3.cell (cell_lt Y0.out)).trans Y0.out)
    have Y1 := Lib.hid ((b3.cell (cell_lt Y1.out)).trans Y1.out)
    have H3 := Lib.hid (H2.out.below b3)
    have K3 := Lib.hid (K2.out.below b3)
    have B3 := Lib.hid (below_then B2.out b3)
    clear b3
    rcases hoka : okA s' yss with _ | _
    · have HF := Lib.hid (numberOf_1 (s := s) (xss := xss) (s' := s') (yss := yss) (by simp [hoka]))
      go_wp2_with fail
      go_ret2
      exact ⟨two_mkn HF.out, B3.out⟩
    · obtain ⟨n', hs', hga⟩ := good_of hoka HL2.out
      subst hs'
      have HGA := Lib.hid hga
      have hml3 := hga.m3
      clear hga
      go_wp2_with fail
      refine (l05Coloured_any w.heap.size (w.heap.size + 1) s n' m' cap A n cap2 A2 xss yss w3 HGA.out X0.out X1.out Y0.out Y1.out H3.out.rows K3.out hn HR.out).mono ?_
      rintro e w4 ⟨rfl, b4⟩
      have X0 := Lib.hid ((b4.cell (cell_lt X0.out)).trans X0.out)
      have X1 := Lib.hid ((b4.cell (cell_lt X1.out)).trans X1.out)
      have Y0 := Lib.hid ((b4.cell (cell_lt Y0.out)).trans Y0.out)
      have Y1 := Lib.hid ((b4.cell (cell_lt Y1.out)).trans Y1.out)
      have H4 := Lib.hid (H3.out.below b4)
      have K4 := Lib.hid (K3.out.below b4)
      have B4 := Lib.hid (below_then B3.out b4)
      clear b4
      rcases hcol : colB s xss (n' : Int) yss with _ | _
      · have HF := Lib.hid (numberOf_4 hokr hoka hcol)
        go_wp2_with fail
        go_ret2
        exact ⟨two_mkn HF.out, B4.out⟩
      · obtain ⟨m, hs, hmm, hg⟩ := goodR_of hokr HL.out
        have hnn : n = n' := by have := colB_states hcol; omega
        subst hs
        have HF := Lib.hid (numberOf_0 hokr hoka hcol HL.out hmm HL2.out)
        have HG := Lib.hid hg
        have HGX := Lib.hid (goodX_of hg)
        have hn7 := hg.n7
        have hm3 := hg.m3
        obtain ⟨X, hX⟩ : ∃ X, X = choF m xss := ⟨_, rfl⟩
        have HX := Lib.hid hX
        rw [← hX] at HGX HF
        have HXL := Lib.hid HGX.out.len
        clear hg hX hmm
        go_wp2_with fail
        refine (l05Choices_any w.heap.size n m cap A xss w4 HG.out X1.out H4.out).mono ?_
        rintro e w5 ⟨u, vs, rfl, t5, b5⟩
        rw [← HX.out] at t5
        obtain ⟨A5, c5, rfl⟩ := own_form t5.out
        rw [HXL.out] at t5 ⊢
        have T5 := Lib.hid t5
        have X0 := Lib.hid ((b5.cell (cell_lt X0.out)).trans X0.out)
        have X1 := Lib.hid ((b5.cell (cell_lt X1.out)).trans X1.out)
        have Y0 := Lib.hid ((b5.cell (cell_lt Y0.out)).trans Y0.out)
        have Y1 := Lib.hid ((b5.cell (cell_lt Y1.out)).trans Y1.out)
        have H5 := Lib.hid (H4.out.below b5)
        have K5 := Lib.hid (K4.out.below b5)
        have B5 := Lib.hid (below_then B4.out b5)
        clear t5 b5
        go_wp2_with fail
        go_loopw [7, 8] (fun u i wr => ∃ k : Nat, k ≤ n ∧ i = .int .i64 k ∧ u = .int .i64 (horF X yss m' k) ∧ Below w5.heap.size w5 wr) (fun _ i _ => n - (intOf i).toNat)
        case atStart => exact ⟨0, Nat.zero_le _, rfl, rfl, Below.refl _ _⟩
        case round =>
          obtain ⟨k, hk, rfl, rfl, hbel⟩ := hrel
          have HB := Lib.hid hbel
          by_cases hlt : k < n
          · obtain ⟨Y, hx⟩ : ∃ Y, X[k]? = some Y := ⟨X[k]'(by rw [HXL.out]; exact hlt), List.getElem?_eq_getElem _⟩
            obtain ⟨u, hu⟩ : ∃ u, vs[k]? = some u := ⟨vs[k]'(by rw [T5.out.len, HXL.out]; exact hlt), List.getElem?_eq_getElem _⟩
            obtain ⟨l, hh, _, _, ht, _⟩ := T5.out.row k u Y hu hx
            obtain ⟨A6, c6, rfl⟩ := ht.form
            have ho := T5.out.out
            rw [HXL.out] at ho
            obtain ⟨g, hAg, _, _⟩ := own_blockN ho (by omega)
            subst hAg
            have hc : w5.cell? ⟨g, k, none⟩ = some (.slice A6 Y.length c6) := by rw [ho.cellAt k (by omega)]; exact hu
            have hxd : X.getD k [] = Y := by rw [List.getD_eq_getElem?_getD, hx]; rfl
            have hr6 := ht.rows rfl
            have hyl : ∀ (r : Nat) (xs : List Int), Y[r]? = some xs → xs.length ≤ 4611686018427387904 := by
              intro r xs hr
              have := HGX.out.rows k hlt xs (by rw [hxd]; exact List.mem_of_getElem? hr)
              omega
            obtain ⟨hb1, hb2⟩ := horF_small HGX.out yss m' k hk
            obtain ⟨hd1, hd2⟩ := digF_range HGX.out (yss := yss) (m := m') hlt
            have hy6 := (HGX.out.some_ k hlt).2
            rw [hxd] at hy6
            obtain ⟨V, hV⟩ : ∃ V, V = horF X yss m' k := ⟨_, rfl⟩
            obtain ⟨P, hP⟩ : ∃ P, P = digF X yss m' k := ⟨_, rfl⟩
            obtain ⟨U, hU⟩ : ∃ U : Int, U = V * (Y.length : Int) := ⟨_, rfl⟩
            have h12 := pow12 (show k ≤ 7 by omega)
            rw [← hV] at hb1 hb2 ⊢
            rw [← hP] at hd1 hd2
            obtain ⟨hu1, hu2⟩ := mul_le6 hb1 hb2 hy6
            rw [← hU] at hu1 hu2
            have hmul : IntKind.i64.wrap (V * (Y.length : Int)) = U := by rw [← hU]; exact IntWalk.i64_in _ (by omega)
            have hadd : IntKind.i64.wrap (U + P) = U + P := IntWalk.i64_in _ (by omega)
            have HST := Lib.hid (show horF X yss m' (k + 1) = U + P by rw [horF, hxd, ← hV, ← hP, hU])
            have HPL := Lib.hid (show P = findL Y (leadF yss m' k) 0 by rw [hP]; unfold digF; rw [hxd])
            have R6 := Lib.hid hr6
            have HYL := Lib.hid hyl
            have r1 : ∀ W', Below w5.heap.size w5 W' → W'.cell? ⟨g, k, none⟩ = some (.slice A6 Y.length c6) := fun W' hb => (hb.cell (cell_lt hc)).trans hc
            have h9 : Below w5.heap.size w5 wr := hbel
            have i1 : (0 : Int) ≤ (k : Int) := by omega
            have i2 : (k : Int) < (n : Int) := by omega
            clear hx hu ht ho hc hxd hr6 hyl hb1 hb2 hd1 hd2 hV hP hU hu1 hu2 h12 hbel
            go_wp2_with fail
            go_region_held3 (fun w' => Below w5.heap.size w5 w') (first | assumption | exact below_drewN' (by assumption) _)
              (first
                | (go_at_call 84; refine (l05Letters_any (w.heap.size + 1) A2 n' m' cap2 k yss _ (by have hb : Below w5.heap.size w5 _ := (by first | assumption | exact below_drewN' (by assumption) _); exact (hb.cell (cell_lt Y1.out)).trans Y1.out) HGA.out (K5.out.below (by first | assumption | exact below_drewN' (by assumption) _)) (by omega)).mono ?_; rintro e wl ⟨v, rfl, ol, bl⟩; obtain ⟨VL, CL, rfl⟩ := own_form ol; have NL := Lib.hid (NumsAt.own ol (leadF_len _ _ _) rfl); have cl : Below w5.heap.size w5 wl := below_then (by first | assumption | exact below_drewN' (by assumption) _) bl; clear ol bl)
                | (go_at_call 83; refine (l01Find_any A6 VL Y.length c6 m' CL Y (leadF yss m' k) _ (R6.out.below (by first | assumption | exact below_drewN' (by assumption) _)) (by first | exact NL.out | exact NL.out.drewN _) (by omega) (by omega) HYL.out).mono ?_; rw [← HPL.out]; rintro e wf ⟨rfl, kf, hwf⟩; have cf : Below w5.heap.size w5 wf := (by rw [hwf]; first | exact below_drewN' (by assumption) _ | exact below_drewN' (below_drewN' (by assumption) _) _); clear hwf)
                | fail)
            go_wp2_with fail
            go_roundw
            case rel => exact ⟨k + 1, by omega, by go_num, by rw [HST.out], by first | assumption | exact below_drewN' (by assumption) _⟩
            case measure => simp [intOf]; omega
          · have hkn : k = n := by omega
            have HKN := Lib.hid hkn
            clear hkn hbel
            go_wp2_with fail
            go_ret2
            exact ⟨two_mkn (by rw [HF.out, HKN.out]), below_then B5.out HB.out⟩

end Go.Proofs.Ytkhhemlfahdbnab
