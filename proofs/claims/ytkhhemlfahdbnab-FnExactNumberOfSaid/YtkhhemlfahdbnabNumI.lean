/-
  The number of a colouring: NumberOf of the program.
-/
import Derived.Test.YtkhhemlfahdbnabNumC
import Derived.Deep.RegionHeld3
namespace Go.Proofs.Ytkhhemlfahdbnab
open Go.RowKit Go.Deep Go.ChangeShapes Go.WideShapes

set_option maxRecDepth 100000 in
set_option maxHeartbeats 4000000 in
theorem implNumberOf_any (s : Int) (A : Option Addr) (n cap : Nat) (xss : List (List Int)) (s' : Int) (A2 : Option Addr) (m' cap2 : Nat) (yss : List (List Int)) (w : World) (h : RowsC w A n xss) (hn : n ≤ 4611686018427387904)
    (hrows : ∀ (r : Nat) (xs : List Int), xss[r]? = some xs → xs.length ≤ 4611686018427387904) (h2 : RowsAt w A2 m' yss) (hm : m' ≤ 4611686018427387904) (hrows2 : ∀ (r : Nat) (xs : List Int), yss[r]? = some xs → xs.length ≤ 4611686018427387904) :
    Calls Try.prog 27 #[.agg #[.int .i64 s, .slice A n cap], .agg #[.int .i64 s', .slice A2 m' cap2]] w fun e w' => e = .returned (.tuple #[.int .i64 (numberOf s xss s' yss).1, .int .i64 (numberOf s xss s' yss).2]) ∧ Below w.heap.size w w' := by
  have HR := Lib.hid hrows
  have HR2 := Lib.hid hrows2
  have HL := Lib.hid h.1
  have HL2 := Lib.hid h2.1
  obtain ⟨w1, hw1⟩ : ∃ w1, w1 = (w.alloc (.cells #[.int .i64 s, .slice A n cap] 28)).alloc (.cells #[.int .i64 s', .slice A2 m' cap2] 33) := ⟨_, rfl⟩
  have b1 : Below w.heap.size w w1 := by rw [hw1]; go_grown
  have x0 : w1.cell? ⟨w.heap.size, 0, none⟩ = some (.int .i64 s) := by rw [hw1]; go_cell
  have x1 : w1.cell? ⟨w.heap.size, 1, none⟩ = some (.slice A n cap) := by rw [hw1]; go_cell
  have y0 : w1.cell? ⟨w.heap.size + 1, 0, none⟩ = some (.int .i64 s') := by rw [hw1]; go_cell
  have y1 : w1.cell? ⟨w.heap.size + 1, 1, none⟩ = some (.slice A2 m' cap2) := by rw [hw1]; go_cell
  have X0 := Lib.hid x0
  have X1 := Lib.hid x1
  have Y0 := Lib.hid y0
  have Y1 := Lib.hid y1
  have H1 := Lib.hid (h.below b1)
  have K1 := Lib.hid (h2.below b1)
  have B1 := Lib.hid b1
  have HW := Lib.hid hw1
  clear hrows hrows2 b1 hw1 h h2
  rcases hokr : okR s xss with _ | _
  all_goals
    rcases hoka : okA s' yss with _ | _
    all_goals
      go_enter Try.func27, Try.ntmps27
      go_wp2_with fail
      rw [← HW.out]
      refine (implIsColouring_any s A n cap xss s' A2 m' cap2 yss w1 H1.out.rows hn HR.out K1.out hm HR2.out).mono ?_
      rintro e w2 ⟨rfl, b2⟩
  · have HF := Lib.hid (numberOf_1 (s := s) (xss := xss) (s' := s') (yss := yss) (by simp [hokr]))
    rw [isColouring_1 (by simp [hokr])]
    have B2 := Lib.hid (below_then B1.out b2)
    clear b2
    go_wp2_with fail
    go_ret2
    exact ⟨two_mkn HF.out, B2.out⟩
  · have HF := Lib.hid (numberOf_1 (s := s) (xss := xss) (s' := s') (yss := yss) (by simp [hokr]))
    rw [isColouring_1 (by simp [hokr])]
    have B2 := Lib.hid (below_then B1.out b2)
    clear b2
    go_wp2_with fail
    go_ret2
    exact ⟨two_mkn HF.out, B2.out⟩
  · have HF := Lib.hid (numberOf_1 (s := s) (xss := xss) (s' := s') (yss := yss) (by simp [hoka]))
    rw [isColouring_1 (by simp [hoka])]
    have B2 := Lib.hid (below_then B1.out b2)
    clear b2
    go_wp2_with fail
    go_ret2
    exact ⟨two_mkn HF.out, B2.out⟩
  · rw [isColouring_0 hokr hoka]
    have X0 := Lib.hid ((b2.cell (cell_lt X0.out)).trans X0.out)
    have X1 := Lib.hid ((b2.cell (cell_lt X1.out)).trans X1.out)
    have Y0 := Lib.hid ((b2.cell (cell_lt Y0.out)).trans Y0.out)
    have Y1 := Lib.hid ((b2.cell (cell_lt Y1.out)).trans Y1.out)
    have H2 := Lib.hid (H1.out.below b2)
    have K2 := Lib.hid (K1.out.below b2)
    have B2 := Lib.hid (below_then B1.out b2)
    clear b2 x0 x1 y0 y1
    obtain ⟨n', hs', hga⟩ := good_of hoka HL2.out
    subst hs'
    have HGA := Lib.hid hga
    have hml3 := hga.m3
    clear hga
    rcases hcol : colB s xss (n' : Int) yss with _ | _
    · have HF := Lib.hid (numberOf_4 hokr hoka hcol)
      go_wp2_with fail
      go_ret2
      exact ⟨two_mkn HF.out, B2.out⟩
    · obtain ⟨m, hs, hmm, hg⟩ := goodR_of hokr HL.out
      have HNN := Lib.hid (show n = n' by have := colB_states hcol; omega)
      subst hs
      have HF := Lib.hid (numberOf_0 hokr hoka hcol HL.out hmm HL2.out)
      have HG := Lib.hid hg
      have HGX := Lib.hid (goodX_of hg)
      have hn7 := hg.n7
      have hm3 := hg.m3
      obtain ⟨X, hX⟩ : ∃ X, X = choF m xss := ⟨_, rfl⟩
      have HX := Lib.hid hX
      rw [← hX] at HGX HF
      clear hg hX hmm
      have x0 := X0.out
      have x1 := X1.out
      go_wp2_with fail
      refine (townsOf_any n m cap A xss w2 HG.out H2.out).mono ?_
      rintro e w3 ⟨G, rfl, t3, _, b3⟩
      rw [← HX.out] at t3
      have T3 := Lib.hid t3
      have X0 := Lib.hid ((b3.cell (cell_lt X0.out)).trans X0.out)
      have X1 := Lib.hid ((b3.cell (cell_lt X1.out)).trans X1.out)
      have Y0 := Lib.hid ((b3.cell (cell_lt Y0.out)).trans Y0.out)
      have Y1 := Lib.hid ((b3.cell (cell_lt Y1.out)).trans Y1.out)
      have H3 := Lib.hid (H2.out.below b3)
      have K3 := Lib.hid (K2.out.below b3)
      have B3 := Lib.hid (below_then B2.out b3)
      clear t3 b3 x0 x1
      go_wp2_with fail
      go_loopw [8, 25] (fun u i wr => ∃ k : Nat, k ≤ n ∧ i = .int .i64 k ∧ u = .int .i64 (horF X yss m' k * ((uD X n (n - k) : Nat) : Int)) ∧ Below w3.heap.size w3 wr) (fun _ i _ => n - (intOf i).toNat)
      case atStart => exact ⟨0, Nat.zero_le _, rfl, by simp [horF], Below.refl _ _⟩
      case round =>
        obtain ⟨k, hk, rfl, rfl, hbel⟩ := hrel
        have HB := Lib.hid hbel
        by_cases hlt : k < n
        · obtain ⟨A6, c6, e0, e1, hr6⟩ := (T3.out.below hbel).cells (Nat.zero_le _) hlt
          obtain ⟨hb1, hb2⟩ := horF_small HGX.out yss m' k hk
          obtain ⟨hd1, hd2⟩ := digF_range HGX.out (yss := yss) (m := m') hlt
          have hud : uD X n (n - k) = uD X n (n - 1 - k) * (X.getD k []).length := by
            rw [show n - k = (n - 1 - k) + 1 by omega, uD, show n - 1 - (n - 1 - k) = k by omega]
          have hus := uD_small HGX.out.all (n := n) (d := n - k) (by omega)
          have hus2 := uD_small HGX.out.all (n := n) (d := n - 1 - k) (by omega)
          have h12 := pow12 (show k ≤ 7 by omega)
          have hyl : ∀ (r : Nat) (xs : List Int), (X.getD k [])[r]? = some xs → xs.length ≤ 4611686018427387904 := by
            intro r xs hr
            have := HGX.out.rows k hlt xs (List.mem_of_getElem? hr)
            omega
          have hy6 := (HGX.out.some_ k hlt).2
          obtain ⟨Y, hY⟩ : ∃ Y, Y = X.getD k [] := ⟨_, rfl⟩
          obtain ⟨UK, hUK⟩ : ∃ UK, UK = uD X n (n - 1 - k) := ⟨_, rfl⟩
          obtain ⟨P, hP⟩ : ∃ P, P = digF X yss m' k := ⟨_, rfl⟩
          obtain ⟨S, hS⟩ : ∃ S : Int, S = horF X yss m' k * ((uD X n (n - k) : Nat) : Int) := ⟨_, rfl⟩
          obtain ⟨Q, hQ⟩ : ∃ Q : Int, Q = (UK : Int) * P := ⟨_, rfl⟩
          have hQb : -1679616 ≤ Q ∧ Q ≤ 1679616 := by
            rw [hQ, hUK, hP]
            rcases (show digF X yss m' k = -1 ∨ digF X yss m' k = 0 ∨ digF X yss m' k = 1 ∨ digF X yss m' k = 2 ∨ digF X yss m' k = 3 ∨ digF X yss m' k = 4 ∨ digF X yss m' k = 5 ∨ digF X yss m' k = 6 by omega) with e | e | e | e | e | e | e | e <;> rw [e] <;> constructor <;> omega
          have hSb : -10030613004288 ≤ S ∧ S ≤ 10030613004288 := by
            have hp : (0 : Int) ≤ ((uD X n (n - k) : Nat) : Int) := by omega
            have q1 : ((uD X n (n - k) : Nat) : Int) ≤ 279936 := by omega
            have h3 : horF X yss m' k ≤ 35831808 := by omega
            have h4 : -35831808 ≤ horF X yss m' k := by omega
            rw [hS]
            constructor
            · have a1 : (-35831808 : Int) * ((uD X n (n - k) : Nat) : Int) ≤ horF X yss m' k * ((uD X n (n - k) : Nat) : Int) := Int.mul_le_mul_of_nonneg_right h4 hp
              omega
            · have a1 : horF X yss m' k * ((uD X n (n - k) : Nat) : Int) ≤ (35831808 : Int) * ((uD X n (n - k) : Nat) : Int) := Int.mul_le_mul_of_nonneg_right h3 hp
              omega
          have HST := Lib.hid (show horF X yss m' (k + 1) * ((uD X n (n - (k + 1)) : Nat) : Int) = S + Q by
            rw [horF, show n - (k + 1) = n - 1 - k by omega, hS, hud, hQ, hUK, hP, Int.add_mul, Int.natCast_mul, Int.mul_assoc, Int.mul_comm ((List.length (X.getD k []) : Nat) : Int), Int.mul_comm (digF X yss m' k)])
          rw [← hS]
          rw [← hY] at e0 hr6 hyl hy6
          rw [← hUK] at e1
          have hmul : IntKind.i64.wrap ((UK : Int) * P) = Q := by rw [← hQ]; exact IntWalk.i64_in _ (by omega)
          have hadd : IntKind.i64.wrap (S + Q) = S + Q := IntWalk.i64_in _ (by omega)
          have HPL := Lib.hid (show P = findL Y (leadF yss m' k) 0 by rw [hP]; unfold digF; rw [hY])
          obtain ⟨wp, hwp⟩ : ∃ wp, wp = wr.alloc (.cells #[.slice A6 Y.length c6, .int .i64 (UK : Int)] 107) := ⟨_, rfl⟩
          have bp : Below wr.heap.size wr wp := by rw [hwp]; exact (Below.refl _ _).alloc (Nat.le_refl _) _
          have p0 : wp.cell? ⟨wr.heap.size, 0, none⟩ = some (.slice A6 Y.length c6) := by rw [hwp]; go_cell
          have p1 : wp.cell? ⟨wr.heap.size, 1, none⟩ = some (.int .i64 (UK : Int)) := by rw [hwp]; go_cell
          have HWP := Lib.hid hwp
          have BP := Lib.hid (below_then hbel bp)
          have R6 := Lib.hid (hr6.below bp)
          have HYL := Lib.hid hyl
          have KP := Lib.hid (K3.out.below BP.out)
          have ya := (BP.out.cell (cell_lt Y0.out)).trans Y0.out
          have yb := (BP.out.cell (cell_lt Y1.out)).trans Y1.out
          have r0 : ∀ W', Below wp.heap.size wp W' → W'.cell? ⟨wr.heap.size, 0, none⟩ = some (.slice A6 Y.length c6) := fun W' hb => (hb.cell (cell_lt p0)).trans p0
          have r1 : ∀ W', Below wp.heap.size wp W' → W'.cell? ⟨wr.heap.size, 1, none⟩ = some (.int .i64 (UK : Int)) := fun W' hb => (hb.cell (cell_lt p1)).trans p1
          have r2 : ∀ W', Below wp.heap.size wp W' → W'.cell? ⟨w.heap.size + 1, 0, none⟩ = some (.int .i64 (n' : Int)) := fun W' hb => (hb.cell (cell_lt ya)).trans ya
          have r3 : ∀ W', Below wp.heap.size wp W' → W'.cell? ⟨w.heap.size + 1, 1, none⟩ = some (.slice A2 m' cap2) := fun W' hb => (hb.cell (cell_lt yb)).trans yb
          have h9 : Below wp.heap.size wp wp := Below.refl _ _
          have i1 : (0 : Int) ≤ (k : Int) := by omega
          have i2 : (k : Int) < (n : Int) := by omega
          clear hb1 hb2 hd1 hd2 hud hus hus2 h12 hyl hY hUK hP hS hQ hQb hSb hwp bp p0 p1 hr6 hbel ya yb
          go_wp2_with fail
          rw [← HWP.out]
          clear e0 e1
          go_region_held3 (fun w' => Below wp.heap.size wp w') (first | assumption | exact below_drewN' (by assumption) _)
            (first
              | (go_at_call 87; refine (leadsFrom_any (n' : Int) A2 n' m' cap2 k yss _ HGA.out (KP.out.below (by first | assumption | exact below_drewN' (by assumption) _)) (by have := HNN.out; omega)).mono ?_; rintro e wl ⟨v, rfl, ol, bl⟩; obtain ⟨VL, CL, rfl⟩ := own_form ol; have NL := Lib.hid (NumsAt.own ol (leadF_len _ _ _) rfl); have cl : Below wp.heap.size wp wl := below_then (by first | assumption | exact below_drewN' (by assumption) _) bl; clear ol bl)
              | (go_at_call 86; refine (place_any A6 VL Y.length c6 m' CL Y (leadF yss m' k) _ (R6.out.below (by first | assumption | exact below_drewN' (by assumption) _)) (by first | exact NL.out | exact NL.out.drewN _) (by omega) (by omega) HYL.out).mono ?_; rw [← HPL.out]; rintro e wf ⟨rfl, bf⟩; have cf : Below wp.heap.size wp wf := below_then (by first | assumption | exact below_drewN' (by assumption) _) bf; clear bf)
              | fail)
          go_wp2_with fail
          go_roundw
          case rel => exact ⟨k + 1, by omega, by go_num, by rw [HST.out], below_then BP.out (by first | assumption | exact below_drewN' (by assumption) _)⟩
          case measure => simp [intOf]; omega
        · have hkn : k = n := by omega
          have HKN := Lib.hid (show horF X yss m' k * ((uD X n (n - k) : Nat) : Int) = horF X yss m' n by rw [hkn, Nat.sub_self]; simp [uD])
          rw [HKN.out]
          clear hkn hbel
          go_wp2_with fail
          go_ret2
          exact ⟨two_mkn HF.out, below_then B3.out HB.out⟩

end Go.Proofs.Ytkhhemlfahdbnab
